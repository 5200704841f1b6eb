/-
  A record or a log that came in as an argument: what is told of it.
-/
import Derived.Test.YtjejcpieajeflaaRows
import Derived.Test.YtjejcpieajeflaaWkSz
import Derived.Deep.Slices
import Derived.ChangeArms
import Derived.OpenShut
namespace Go.Proofs.Ytjejcpieajeflaa
open Go.ChangeShapes Go.WideShapes Go.ChangeAt Go.RowKit Go.PlainAid
set_option linter.unusedVariables false

section
variable {H : Type} {enc : TypeId × Value → H} {P : Program} {w : World} {base : Nat} {spare : Nat → Bool} {held : Bool}

/-- A slice of structs that came in, its elements told one by one. -/
theorem open_rows {α : Type} [Inhabited α] {t e : TypeId} {fuel : Nat} {v : Value} {x : DataW H × List MemPlace} (ht : P.underlying t = some (.slice e)) (sz : Nat) (hsz : P.cellsOf e = sz) (hpos : 0 < sz) (C : α → List Value) (hC : ∀ y, (C y).length = sz) (G : α → Prop)
    (hel : ∀ n cs y, DataW.trod enc P w base spare held n e cs = some y → ∃ z, cs = C z ∧ G z)
    (h : DataW.trod enc P w base spare held fuel t [v] = some x) : ∃ l : List α, Lies w w.heap.size sz v (l.map C) ∧ l.length ≤ maxLen ∧ ∀ z ∈ l, G z := by
  rcases Go.Deep.open_slice ht h with ⟨hv, _⟩ | ⟨a, len, cap, m, n, D, Pl, hv, hb, hl, hm, hmm, _, hx⟩
  · obtain rfl : v = .slice none 0 0 := by simpa using hv
    exact ⟨[], ⟨none, 0, rfl, ⟨fun _ => rfl, Nat.le_refl _⟩, fun r hr => (by cases hr), .inl rfl⟩, Nat.zero_le _, fun z hz => (by cases hz)⟩
  · obtain rfl : v = .slice (some a) len cap := by simpa using hv
    have hlm : len ≤ m := by rw [hmm]; split <;> omega
    have hp : ∀ i, i < len → ∃ z, (∀ f, f < sz → w.cell? (a.add (i * sz + f)) = (C z)[f]?) ∧ G z := fun i hi => by
      obtain ⟨cs', h1, h2⟩ := hx i (by omega)
      obtain ⟨_, hlen, hc⟩ := World.cells?_some h1
      obtain ⟨z, rfl, hg⟩ := hel n cs' _ h2
      refine ⟨z, fun f hf => ?_, hg⟩
      have := hc f (by rw [hsz]; exact hf)
      rw [hsz, Go.Deep.add_add] at this
      exact this
    obtain ⟨X, hX⟩ := Go.Deep.choose_lt (α := α) (p := fun i z => (∀ f, f < sz → w.cell? (a.add (i * sz + f)) = (C z)[f]?) ∧ G z) hp
    have hll : ((List.range len).map X).length = len := by simp
    refine ⟨(List.range len).map X, ⟨some a, cap, by simp, ⟨fun e => (by cases e), by simpa using hl⟩, fun r hr => ?_, ?_⟩, by rw [hll]; omega, fun z hz => ?_⟩
    · obtain ⟨y, _, rfl⟩ := List.mem_map.1 hr
      exact hC y
    · by_cases h0 : len = 0
      · exact .inl (by simp [h0])
      · right
        obtain ⟨b, off, spot⟩ := a
        have hc0 := (hX 0 (by omega)).1 0 hpos
        have hlt0 : 0 < (C (X 0)).length := by rw [hC]; exact hpos
        rw [List.getElem?_eq_getElem hlt0] at hc0
        have hspot : spot = none := by simpa [Addr.add] using World.cell?_spot hc0
        subst hspot
        have hadd : ∀ j, (⟨b, off, none⟩ : Addr).add j = ⟨b, off + j, none⟩ := by intro j; cases j <;> simp [Addr.add]
        refine ⟨b, off, rfl, ?_, fun k x hk => ?_⟩
        · rw [hadd] at hc0
          rcases Nat.lt_or_ge b w.heap.size with h | h
          · exact h
          · simp [World.cell?, Array.getElem?_eq_none h] at hc0
        · have hkl : k < (((List.range len).map X).map C).flatten.length := (List.getElem?_eq_some_iff.1 hk).1
          have hrow : ∀ r ∈ ((List.range len).map X).map C, r.length = sz := fun r hr => by
            obtain ⟨y, _, rfl⟩ := List.mem_map.1 hr
            exact hC y
          rw [flat_length sz _ hrow, List.length_map, hll] at hkl
          have hdiv : k / sz < len := (Nat.div_lt_iff_lt_mul hpos).2 hkl
          have hmod : k % sz < sz := Nat.mod_lt _ hpos
          have hke : k / sz * sz + k % sz = k := by rw [Nat.mul_comm]; exact Nat.div_add_mod k sz
          have hfa := flat_at sz (((List.range len).map X).map C) hrow (k / sz) (k % sz) (by rw [List.length_map, hll]; exact hdiv) hmod
          rw [hke, hk] at hfa
          have hcx := (hX (k / sz) hdiv).1 (k % sz) hmod
          rw [hke, hadd] at hcx
          rw [hcx, hfa]
          simp
    · obtain ⟨i, hi, rfl⟩ := List.mem_map.1 hz
      exact (hX i (by simpa using hi)).2
end

theorem list2 {α : Type} {l : List α} (h : l.length = 2) : ∃ a b, l = [a, b] := by
  match l, h with
  | [a, b], _ => exact ⟨a, b, rfl⟩
theorem list3 {α : Type} {l : List α} (h : l.length = 3) : ∃ a b c, l = [a, b, c] := by
  match l, h with
  | [a, b, c], _ => exact ⟨a, b, c, rfl⟩
theorem list4 {α : Type} {l : List α} (h : l.length = 4) : ∃ a b c d, l = [a, b, c, d] := by
  match l, h with
  | [a, b, c, d], _ => exact ⟨a, b, c, d, rfl⟩
theorem list5 {α : Type} {l : List α} (h : l.length = 5) : ∃ a b c d e, l = [a, b, c, d, e] := by
  match l, h with
  | [a, b, c, d, e], _ => exact ⟨a, b, c, d, e, rfl⟩
/-- A number of 64 bits. -/
def IntOk (x : Int) : Prop := -9223372036854775808 ≤ x ∧ x ≤ 9223372036854775807
theorem cEnt : Try.prog.cellsOf 86 = 2 := by kernel_rfl
theorem cWal : Try.prog.cellsOf 41 = 5 := by kernel_rfl
section
variable {H : Type} {enc : TypeId × Value → H} {w : World} {base : Nat} {spare : Nat → Bool} {held : Bool}

set_option maxRecDepth 100000 in
theorem open_ent (n : Nat) (cs : List Value) (y : DataW H × List MemPlace) (h : DataW.trod enc Try.prog w base spare held n 86 cs = some y) : ∃ z : Ent, cs = entC z ∧ (z.data.size ≤ maxLen ∧ IntOk z.term) := by
  obtain ⟨xs, m, _, _, hl, hlen, hf⟩ := DataW.trod_struct Try.underlying86 h
  rw [cEnt] at hl
  obtain ⟨a, b, rfl⟩ := list2 hl
  obtain ⟨x0, x1, rfl⟩ := list2 (show xs.length = 2 from hlen)
  have f0 := hf 0 _ rfl
  have f1 := hf 1 _ rfl
  simp only [List.getElem?_cons_zero, List.getElem?_cons_succ] at f0 f1
  obtain ⟨i0, e0, _, hw⟩ := DataW.trod_int Try.underlying3 f0
  obtain ⟨s1, e1, _, hs⟩ := DataW.trod_string Try.underlying9 f1
  cases e0
  cases e1
  exact ⟨⟨i0, s1⟩, rfl, hs, bounds_i64 hw⟩
/-- The numbers of a log are of 64 bits. -/
structure IntsW (x : Wl) : Prop where
  t : IntOk x.term
  v : IntOk x.vote
  b : IntOk x.base
  bt : IntOk x.bterm
  e : ∀ y ∈ x.ents, IntOk y.term
set_option maxRecDepth 100000 in
/-- A log that came in. -/
theorem open_wal {r : Reach} {b0 : Nat} {v : Value} {dd : DataW H} {ps : List MemPlace} (hval : Value.okWide Try.prog w r b0 41 v) (hd : DataW.Trod enc Try.prog w base spare held 41 v dd ps) : ∃ x : Wl, WalV w w.heap.size v x ∧ FitsW x ∧ IntsW x := by
  obtain ⟨cs, rfl, hsz⟩ := okWide_struct Try.underlying41 hval
  rw [cWal] at hsz
  obtain ⟨fuel, hf0⟩ := hd
  obtain ⟨xs, m, _, _, _, hlen, hf⟩ := DataW.trod_struct Try.underlying41 hf0
  obtain ⟨l⟩ := cs
  obtain ⟨a, b, c, d, e, rfl⟩ := list5 (show l.length = 5 from hsz)
  obtain ⟨x0, x1, x2, x3, x4, rfl⟩ := list5 (show xs.length = 5 from hlen)
  have f0 := hf 0 _ rfl
  have f1 := hf 1 _ rfl
  have f2 := hf 2 _ rfl
  have f3 := hf 3 _ rfl
  have f4 := hf 4 _ rfl
  simp only [Value.cells, List.getElem?_cons_zero, List.getElem?_cons_succ] at f0 f1 f2 f3 f4
  obtain ⟨i0, e0, _, w0⟩ := DataW.trod_int Try.underlying3 f0
  obtain ⟨i1, e1, _, w1⟩ := DataW.trod_int Try.underlying3 f1
  obtain ⟨i2, e2, _, w2⟩ := DataW.trod_int Try.underlying3 f2
  obtain ⟨i3, e3, _, w3⟩ := DataW.trod_int Try.underlying3 f3
  cases e0
  cases e1
  cases e2
  cases e3
  obtain ⟨ls, l1, l2, l3⟩ := open_rows Try.underlying22 2 cEnt (by omega) entC (fun _ => rfl) _ open_ent f4
  exact ⟨⟨i0, i1, i2, i3, ls⟩, ⟨e, rfl, l1⟩, ⟨l2, fun x hx => (l3 x hx).1⟩, ⟨bounds_i64 w0, bounds_i64 w1, bounds_i64 w2, bounds_i64 w3, fun x hx => (l3 x hx).2⟩⟩
end
end Go.Proofs.Ytjejcpieajeflaa
