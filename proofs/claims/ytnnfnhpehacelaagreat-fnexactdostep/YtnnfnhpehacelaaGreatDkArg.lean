/-
  A disk that came in as an argument: what is told of it.
-/
import Derived.Test.YtnnfnhpehacelaaGreatRows
import Derived.Test.YtnnfnhpehacelaaGreatImOpen
import Derived.Deep.Slices
import Derived.ChangeArms
import Derived.OpenShut
namespace Go.Proofs.YtnnfnhpehacelaaGreat
open Go.ChangeShapes Go.WideShapes Go.ChangeAt Go.RowKit Go.PlainAid
set_option linter.unusedVariables false

section
variable {H : Type} {enc : TypeId × Value → H} {P : Program} {w : World} {base : Nat} {spare : Nat → Bool} {held : Bool}

/-- A slice of structs that came in, its elements told one by one. -/
theorem open_rows {α : Type} [Inhabited α] {t e : TypeId} {fuel : Nat} {v : Value} {x : DataW H × List MemPlace} (ht : P.underlying t = some (.slice e)) (sz : Nat) (hsz : P.cellsOf e = sz) (hpos : 0 < sz) (C : α → List Value) (hC : ∀ y, (C y).length = sz) (G : α → Prop)
    (hel : ∀ n cs y, DataW.trod enc P w base spare held n e cs = some y → ∃ z, cs = C z ∧ G z)
    (h : DataW.trod enc P w base spare held fuel t [v] = some x) : ∃ l : List α, Lies w w.heap.size sz v (l.map C) ∧ l.length ≤ maxLen ∧ ∀ z ∈ l, G z := by
  rcases Go.Deep.open_slice ht h with ⟨hv, _⟩ | ⟨a, len, cap, m, n, D, Pl, hv, hb, hl, hm, hmm, _, hx⟩
  · obtain rfl : v = .slice none 0 0 := by simpa using hv
    exact ⟨[], ⟨none, 0, rfl, ⟨fun _ => rfl, Nat.le_refl _⟩, fun r hr => (by cases hr), .inl rfl⟩, Nat.zero_le _, fun z hz => (by cases hz)⟩
  · obtain rfl : v = .slice (some a) len cap := by simpa using hv
    have hlm : len ≤ m := by rw [hmm]; split <;> omega
    have hp : ∀ i, i < len → ∃ z, (∀ f, f < sz → w.cell? (a.add (i * sz + f)) = (C z)[f]?) ∧ G z := fun i hi => by
      obtain ⟨cs', h1, h2⟩ := hx i (by omega)
      obtain ⟨_, hlen, hc⟩ := World.cells?_some h1
      obtain ⟨z, rfl, hg⟩ := hel n cs' _ h2
      refine ⟨z, fun f hf => ?_, hg⟩
      have := hc f (by rw [hsz]; exact hf)
      rw [hsz, Go.Deep.add_add] at this
      exact this
    obtain ⟨X, hX⟩ := Go.Deep.choose_lt (α := α) (p := fun i z => (∀ f, f < sz → w.cell? (a.add (i * sz + f)) = (C z)[f]?) ∧ G z) hp
    have hll : ((List.range len).map X).length = len := by simp
    refine ⟨(List.range len).map X, ⟨some a, cap, by simp, ⟨fun e => (by cases e), by simpa using hl⟩, fun r hr => ?_, ?_⟩, by rw [hll]; omega, fun z hz => ?_⟩
    · obtain ⟨y, _, rfl⟩ := List.mem_map.1 hr
      exact hC y
    · by_cases h0 : len = 0
      · exact .inl (by simp [h0])
      · right
        obtain ⟨b, off, spot⟩ := a
        have hc0 := (hX 0 (by omega)).1 0 hpos
        have hlt0 : 0 < (C (X 0)).length := by rw [hC]; exact hpos
        rw [List.getElem?_eq_getElem hlt0] at hc0
        have hspot : spot = none := by simpa [Addr.add] using World.cell?_spot hc0
        subst hspot
        have hadd : ∀ j, (⟨b, off, none⟩ : Addr).add j = ⟨b, off + j, none⟩ := by intro j; cases j <;> simp [Addr.add]
        refine ⟨b, off, rfl, ?_, fun k x hk => ?_⟩
        · rw [hadd] at hc0
          rcases Nat.lt_or_ge b w.heap.size with h | h
          · exact h
          · simp [World.cell?, Array.getElem?_eq_none h] at hc0
        · have hkl : k < (((List.range len).map X).map C).flatten.length := (List.getElem?_eq_some_iff.1 hk).1
          have hrow : ∀ r ∈ ((List.range len).map X).map C, r.length = sz := fun r hr => by
            obtain ⟨y, _, rfl⟩ := List.mem_map.1 hr
            exact hC y
          rw [flat_length sz _ hrow, List.length_map, hll] at hkl
          have hdiv : k / sz < len := (Nat.div_lt_iff_lt_mul hpos).2 hkl
          have hmod : k % sz < sz := Nat.mod_lt _ hpos
          have hke : k / sz * sz + k % sz = k := by rw [Nat.mul_comm]; exact Nat.div_add_mod k sz
          have hfa := flat_at sz (((List.range len).map X).map C) hrow (k / sz) (k % sz) (by rw [List.length_map, hll]; exact hdiv) hmod
          rw [hke, hk] at hfa
          have hcx := (hX (k / sz) hdiv).1 (k % sz) hmod
          rw [hke, hadd] at hcx
          rw [hcx, hfa]
          simp
    · obtain ⟨i, hi, rfl⟩ := List.mem_map.1 hz
      exact (hX i (by simpa using hi)).2
end

theorem list2 {α : Type} {l : List α} (h : l.length = 2) : ∃ a b, l = [a, b] := by
  match l, h with
  | [a, b], _ => exact ⟨a, b, rfl⟩
theorem list3 {α : Type} {l : List α} (h : l.length = 3) : ∃ a b c, l = [a, b, c] := by
  match l, h with
  | [a, b, c], _ => exact ⟨a, b, c, rfl⟩
theorem list4 {α : Type} {l : List α} (h : l.length = 4) : ∃ a b c d, l = [a, b, c, d] := by
  match l, h with
  | [a, b, c, d], _ => exact ⟨a, b, c, d, rfl⟩
theorem list5 {α : Type} {l : List α} (h : l.length = 5) : ∃ a b c d e, l = [a, b, c, d, e] := by
  match l, h with
  | [a, b, c, d, e], _ => exact ⟨a, b, c, d, e, rfl⟩
theorem cNod : Tryz.prog.cellsOf 67 = 3 := by kernel_rfl
theorem cLnk : Tryz.prog.cellsOf 70 = 2 := by kernel_rfl
theorem cMov : Tryz.prog.cellsOf 73 = 4 := by kernel_rfl
theorem cDsk : Tryz.prog.cellsOf 26 = 5 := by kernel_rfl
theorem cInt : Tryz.prog.cellsOf 3 = 1 := by kernel_rfl
theorem cStr : Tryz.prog.cellsOf 9 = 1 := by kernel_rfl
theorem cNods : Tryz.prog.cellsOf 22 = 1 := by kernel_rfl
theorem cLnks : Tryz.prog.cellsOf 23 = 1 := by kernel_rfl
theorem cMovs : Tryz.prog.cellsOf 24 = 1 := by kernel_rfl

section
variable {H : Type} {enc : TypeId × Value → H} {w : World} {base : Nat} {spare : Nat → Bool} {held : Bool}

set_option maxRecDepth 100000 in
theorem open_nod (n : Nat) (cs : List Value) (y : DataW H × List MemPlace) (h : DataW.trod enc Tryz.prog w base spare held n 67 cs = some y) : ∃ z : Nod, cs = nodC z ∧ z.data.size ≤ maxLen := by
  obtain ⟨xs, m, _, _, hl, hlen, hf⟩ := DataW.trod_struct Tryz.underlying67 h
  rw [cNod] at hl
  obtain ⟨a, b, c, rfl⟩ := list3 hl
  obtain ⟨x0, x1, x2, rfl⟩ := list3 (show xs.length = 3 from hlen)
  have f0 := hf 0 _ rfl
  have f1 := hf 1 _ rfl
  have f2 := hf 2 _ rfl
  simp only [List.getElem?_cons_zero, List.getElem?_cons_succ] at f0 f1 f2
  obtain ⟨i0, e0, _, _⟩ := DataW.trod_int Tryz.underlying3 f0
  obtain ⟨s1, e1, _, hs⟩ := DataW.trod_string Tryz.underlying9 f1
  obtain ⟨i2, e2, _, _⟩ := DataW.trod_int Tryz.underlying3 f2
  cases e0
  cases e1
  cases e2
  exact ⟨⟨i0, s1, i2⟩, rfl, hs⟩
set_option maxRecDepth 100000 in
theorem open_lnk (n : Nat) (cs : List Value) (y : DataW H × List MemPlace) (h : DataW.trod enc Tryz.prog w base spare held n 70 cs = some y) : ∃ z : Lnk, cs = lnkC z ∧ (z.name.size ≤ maxLen ∧ IntOk z.id) := by
  obtain ⟨xs, m, _, _, hl, hlen, hf⟩ := DataW.trod_struct Tryz.underlying70 h
  rw [cLnk] at hl
  obtain ⟨a, b, rfl⟩ := list2 hl
  obtain ⟨x0, x1, rfl⟩ := list2 (show xs.length = 2 from hlen)
  have f0 := hf 0 _ rfl
  have f1 := hf 1 _ rfl
  simp only [List.getElem?_cons_zero, List.getElem?_cons_succ] at f0 f1
  obtain ⟨s0, e0, _, hs⟩ := DataW.trod_string Tryz.underlying9 f0
  obtain ⟨i1, e1, _, hw⟩ := DataW.trod_int Tryz.underlying3 f1
  cases e0
  cases e1
  exact ⟨⟨s0, i1⟩, rfl, hs, bounds_i64 hw⟩
set_option maxRecDepth 100000 in
theorem open_mov (n : Nat) (cs : List Value) (y : DataW H × List MemPlace) (h : DataW.trod enc Tryz.prog w base spare held n 73 cs = some y) : ∃ z : Mov, cs = movC z ∧ ((z.name.size ≤ maxLen ∧ z.to.size ≤ maxLen) ∧ IntOk z.id) := by
  obtain ⟨xs, m, _, _, hl, hlen, hf⟩ := DataW.trod_struct Tryz.underlying73 h
  rw [cMov] at hl
  obtain ⟨a, b, c, d, rfl⟩ := list4 hl
  obtain ⟨x0, x1, x2, x3, rfl⟩ := list4 (show xs.length = 4 from hlen)
  have f0 := hf 0 _ rfl
  have f1 := hf 1 _ rfl
  have f2 := hf 2 _ rfl
  have f3 := hf 3 _ rfl
  simp only [List.getElem?_cons_zero, List.getElem?_cons_succ] at f0 f1 f2 f3
  obtain ⟨i0, e0, _, _⟩ := DataW.trod_int Tryz.underlying3 f0
  obtain ⟨s1, e1, _, h1⟩ := DataW.trod_string Tryz.underlying9 f1
  obtain ⟨s2, e2, _, h2⟩ := DataW.trod_string Tryz.underlying9 f2
  obtain ⟨i3, e3, _, hw⟩ := DataW.trod_int Tryz.underlying3 f3
  cases e0
  cases e1
  cases e2
  cases e3
  exact ⟨⟨i0, s1, s2, i3⟩, rfl, ⟨h1, h2⟩, bounds_i64 hw⟩
set_option maxRecDepth 100000 in
/-- A disk that came in. -/
theorem open_disk {r : Reach} {b0 : Nat} {v : Value} {dd : DataW H} {ps : List MemPlace} (hval : Value.okWide Tryz.prog w r b0 26 v) (hd : DataW.Trod enc Tryz.prog w base spare held 26 v dd ps) : ∃ d : Dsk, DiskV w w.heap.size v d ∧ Fits d ∧ IntsOk d ∧ IntOk d.room ∧ IntOk d.next := by
  obtain ⟨cs, rfl, hsz⟩ := okWide_struct Tryz.underlying26 hval
  rw [cDsk] at hsz
  obtain ⟨fuel, hf0⟩ := hd
  obtain ⟨xs, m, _, _, _, hlen, hf⟩ := DataW.trod_struct Tryz.underlying26 hf0
  obtain ⟨l⟩ := cs
  obtain ⟨a, b, c, d, e, rfl⟩ := list5 (show l.length = 5 from hsz)
  obtain ⟨x0, x1, x2, x3, x4, rfl⟩ := list5 (show xs.length = 5 from hlen)
  have f0 := hf 0 _ rfl
  have f1 := hf 1 _ rfl
  have f2 := hf 2 _ rfl
  have f3 := hf 3 _ rfl
  have f4 := hf 4 _ rfl
  simp only [Value.cells, List.getElem?_cons_zero, List.getElem?_cons_succ] at f0 f1 f2 f3 f4
  obtain ⟨i0, e0, _, w0⟩ := DataW.trod_int Tryz.underlying3 f0
  obtain ⟨i1, e1, _, w1⟩ := DataW.trod_int Tryz.underlying3 f1
  cases e0
  cases e1
  obtain ⟨ns, n1, n2, n3⟩ := open_rows Tryz.underlying22 3 cNod (by omega) nodC (fun _ => rfl) _ open_nod f2
  obtain ⟨ls, l1, l2, l3⟩ := open_rows Tryz.underlying23 2 cLnk (by omega) lnkC (fun _ => rfl) _ open_lnk f3
  obtain ⟨ms, m1, m2, m3⟩ := open_rows Tryz.underlying24 4 cMov (by omega) movC (fun _ => rfl) _ open_mov f4
  exact ⟨⟨i0, i1, ns, ls, ms⟩, ⟨c, d, e, rfl, n1, l1, m1⟩, ⟨n2, l2, m2, n3, fun x hx => (l3 x hx).1, fun x hx => (m3 x hx).1⟩, ⟨fun x hx => (l3 x hx).2, fun x hx => (m3 x hx).2⟩, bounds_i64 w0, bounds_i64 w1⟩
end
end Go.Proofs.YtnnfnhpehacelaaGreat
