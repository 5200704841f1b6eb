/-
  What serves the draw of series: keys that may be drawn, a text that is picked.
-/
import Derived.Test.YthgiekeiljflaaaDoorFlReadI
import Derived.Test.YthgiekeiljflaaaDoorPtDraw
import Derived.Test.YthgiekeiljflaaaDoorCurX
import Derived.ArgAppend
import Derived.WalkKit
import Derived.ProofKit
import Derived.OpenShut
import Derived.Below
import Derived.WalkSmall
import Derived.BigQuiet
import Derived.Deep.QuietTactic
import Derived.Deep.RegionWith
import Derived.Handy
namespace Go.Proofs.YthgiekeiljflaaaDoor
open Go.ChangeShapes Go.WideShapes Go.ChangeAt Go.RowKit Go.PlainAid
set_option linter.unusedVariables false

/-- The text that no key is. -/
def otherB : ByteArray := ⟨#[111, 116, 104, 101, 114]⟩
/-- A key that may be drawn. -/
def KeyP (x : ByteArray) : Prop := x.size ≤ 9 ∧ x ≠ otherB
def names1 : List ByteArray := [⟨#[97]⟩, ⟨#[99, 112, 117]⟩, ⟨#[100, 105, 115, 107]⟩, ⟨#[109, 101, 109]⟩, ⟨#[122, 122, 122, 122, 122, 122, 122, 122]⟩]
def names2 : List ByteArray := [⟨#[]⟩, ⟨#[65]⟩, ⟨#[98]⟩, ⟨#[122, 122, 122, 122, 122, 122, 122, 122, 122]⟩, ⟨#[122, 122]⟩]
theorem keyP_of (l : List UInt8) (h : l.length ≤ 9) (h' : l ≠ [111, 116, 104, 101, 114]) : KeyP (txt l) := ⟨by rw [txt_size]; exact h, fun e => h' (txt_inj _ _ e)⟩
theorem names1_ok : ∀ x ∈ names1, KeyP x := by
  intro x hx
  simp only [names1, List.mem_cons, List.not_mem_nil, or_false] at hx
  rcases hx with rfl | rfl | rfl | rfl | rfl
  · exact keyP_of [97] (by decide) (by decide)
  · exact keyP_of [99, 112, 117] (by decide) (by decide)
  · exact keyP_of [100, 105, 115, 107] (by decide) (by decide)
  · exact keyP_of [109, 101, 109] (by decide) (by decide)
  · exact keyP_of [122, 122, 122, 122, 122, 122, 122, 122] (by decide) (by decide)
theorem names2_ok : ∀ x ∈ names2, KeyP x := by
  intro x hx
  simp only [names2, List.mem_cons, List.not_mem_nil, or_false] at hx
  rcases hx with rfl | rfl | rfl | rfl | rfl
  · exact keyP_of [] (by decide) (by decide)
  · exact keyP_of [65] (by decide) (by decide)
  · exact keyP_of [98] (by decide) (by decide)
  · exact keyP_of [122, 122, 122, 122, 122, 122, 122, 122, 122] (by decide) (by decide)
  · exact keyP_of [122, 122] (by decide) (by decide)
theorem SerO.mod {w w' : World} {C p base : Nat} {v : Value} {L : List (Ser × Value)} (h : SerO w base v L) (hm : Mod C p w w') (hp : p < base) (hC : w.heap.size ≤ C) : SerO w' base v L := ⟨h.1.mod hm hp hC, fun q hq => (h.2.1 q hq).mod hm hp hC, h.2.2⟩
/-- Series that may be drawn. -/
def LDr (L : List (Ser × Value)) : Prop := ∀ q ∈ L, q.1.pts.length ≤ 600 ∧ KeyP q.1.key
theorem LDr.big {L : List (Ser × Value)} (h : LDr L) : ∀ q ∈ L, q.1.pts.length ≤ 700 ∧ KeyP q.1.key := fun q hq => ⟨Nat.le_trans (h q hq).1 (by omega), (h q hq).2⟩
theorem LDr.snoc {L : List (Ser × Value)} {x : Ser} {v : Value} (h : LDr L) (hp : x.pts.length ≤ 600) (hk : KeyP x.key) : LDr (L ++ [(x, v)]) := by
  intro q hq
  rcases List.mem_append.1 hq with hq | hq
  · exact h q hq
  · rw [List.mem_singleton.1 hq]
    exact ⟨hp, hk⟩
/-- What is drawn: some series. -/
def DrawnF (w : World) (p : Nat) (e : Ending) (w' : World) : Prop := ∃ u l, e = .returned u ∧ SerV w' w'.heap.size u l ∧ l.length ≤ 6 ∧ (∀ x ∈ l, x.pts.length ≤ 700 ∧ KeyP x.key) ∧ Mod w.heap.size p w w'
theorem DrawnF.of {w w' : World} {p base : Nat} {u : Value} {L : List (Ser × Value)} (hO : SerO w' base u L) (hl : L.length ≤ 6) (hd : ∀ q ∈ L, q.1.pts.length ≤ 700 ∧ KeyP q.1.key) (hm : Mod w.heap.size p w w') : DrawnF w p (.returned u) w' :=
  ⟨u, L.map Prod.fst, rfl, hO.view, by rw [List.length_map]; exact hl, fun x hx => by
    obtain ⟨q, hq, rfl⟩ := List.mem_map.1 hx
    exact hd q hq, hm⟩
def strC (l : List ByteArray) : Array Value := (l.map Value.string).toArray
theorem strC_at (l : List ByteArray) (j : Nat) (hj : j < l.length) : (strC l)[j]? = some (.string (l.getD j ⟨#[]⟩)) := by
  simp [strC, List.getD, hj]
theorem strC_mem (l : List ByteArray) (j : Nat) (hj : j < l.length) : l.getD j ⟨#[]⟩ ∈ l := by
  rw [List.getD_eq_getElem?_getD, List.getElem?_eq_getElem hj]
  exact List.getElem_mem hj
set_option maxHeartbeats 1000000 in
theorem pickT (w : World) (p g : Nat) (xs : List ByteArray) (n : Nat) (hn : xs.length = n) (h0 : 0 < n) (h1 : n ≤ 1000) (h : AtS w p) (hgp : g ≠ p) (hB : Blk w g (strC xs) 9) :
    Calls Tryd.prog 46 #[.pointer (some ⟨p, 0, none⟩), .slice (some ⟨g, 0, none⟩) n n] w fun e w' => ∃ x : ByteArray, e = .returned (.string x) ∧ x ∈ xs ∧ AtS w' p ∧ Mod w.heap.size p w w' := by
  have HA : Hid (AtS w p) := h
  have HB : Hid (Blk w g (strC xs) 9) := hB
  have HN : Hid (xs.length = n) := hn
  have q0 : (n : Int) ≤ 1000 := by omega
  clear h hB hn
  go_enter Tryd.func46, Tryd.ntmps46
  go_wp2_with fail
  refine (belowS w p (n : Int) (by omega) (by omega) HA.out).mono ?_
  rintro e w1 ⟨v, rfl, ⟨v0, v1⟩, hA, hm⟩
  obtain ⟨k, rfl⟩ := Int.eq_ofNat_of_zero_le v0
  have B1 := Blk.mod HB.out hm HB.out.lt hgp
  have m1 := B1.cell k _ (strC_at xs k (by rw [HN.out]; omega))
  have HM : Hid (xs.getD k ⟨#[]⟩ ∈ xs) := strC_mem xs k (by rw [HN.out]; omega)
  have A1 : Hid (AtS w1 p) := hA
  have M1 : Hid (Mod w.heap.size p w w1) := hm
  generalize xs.getD k ⟨#[]⟩ = x at *
  clear hA hm B1
  go_wp2_with fail
  go_ret
  exact ⟨_, rfl, HM.out, A1.out, M1.out⟩
theorem add_lit0 (g o j : Nat) : (⟨g, o, none⟩ : Addr).add j = ⟨g, o + j, none⟩ := by cases j <;> simp [Addr.add]
theorem srR_flat (L : List (Ser × Value)) : (srR L).flatten.length = L.length * 2 := by rw [flat_length 2 _ (srR_sz L), srR_length]
/-- The first of a row behind the others. -/
theorem run_rot (w : World) (base g n c : Nat) (xk : ByteArray) (xp : List Pnt) (A8 : Option Addr) (n8 c8 : Nat) (L' : List (Ser × Value)) (hO : SerO w base (.slice (some ⟨g, 0, none⟩) n c) ((⟨xk, xp⟩, .slice A8 n8 c8) :: L')) (hn : L'.length + 1 = n) (h2 : 2 ≤ n) (hn5 : n ≤ 1000) (hbase : base ≤ g) (hbw : base ≤ w.heap.size) :
    ∃ A m cc w', (Builtin.append_ #[24, 24] 24 #[.slice (some ⟨g, 2, none⟩) (n - 1) (c - 1), .slice (some ⟨w.heap.size, 0, none⟩) 1 1]).run Tryd.prog (w.alloc (.cells #[.string xk, .slice A8 n8 c8] 36)) = .ok (.slice A m cc) w' ∧
      SerV w' w'.heap.size (.slice A m cc) ((L' ++ [((⟨xk, xp⟩ : Ser), Value.slice A8 n8 c8)]).map Prod.fst) ∧ Below base w w' := by
  obtain ⟨i0, hi, hz0, hz1, hz2⟩ := info_parts Tryd.infoSr
  have hOw : SerO (w.alloc (.cells #[.string xk, .slice A8 n8 c8] 36)) base (.slice (some ⟨g, 0, none⟩) n c) ((⟨xk, xp⟩, .slice A8 n8 c8) :: L') := hO.on ((Below.refl _ w).alloc (Nat.le_refl _) _)
  have hbW : Below base w (w.alloc (.cells #[.string xk, .slice A8 n8 c8] 36)) := (Below.refl _ w).alloc hbw _
  have hnew : Blk (w.alloc (.cells #[.string xk, .slice A8 n8 c8] 36)) w.heap.size #[.string xk, .slice A8 n8 c8] 36 := Blk.new w _ _
  have hgw : g < w.heap.size := (hO.1.lt g rfl).2
  generalize hW : w.alloc (.cells #[.string xk, .slice A8 n8 c8] 36) = W at *
  have hcells := World.ownsRow.cells hOw.1.2 (g := g) rfl
  have hfl : (srR ((((⟨xk, xp⟩ : Ser), Value.slice A8 n8 c8)) :: L')).flatten = [.string xk, .slice A8 n8 c8] ++ (srR L').flatten := rfl
  have hold : ∀ j y, (srR L').flatten[j]? = some y → W.cell? ⟨g, 2 + j, none⟩ = some y := fun j y hy => by
    have := hcells (2 + j) y (by rw [hfl, List.getElem?_append_right (by simp)]; simpa using hy)
    rwa [add_lit0, Nat.zero_add] at this
  have hnews : ∀ j y, ([.string xk, .slice A8 n8 c8] : List Value)[j]? = some y → W.cell? ((⟨w.heap.size, 0, none⟩ : Addr).add j) = some y := fun j y hy => by
    rw [add_lit0, Nat.zero_add]
    exact hnew.cell j y (by simpa using hy)
  have hone : ∀ y ∈ ([.string xk, .slice A8 n8 c8] : List Value), y.oneCell' = true := by intro y hy; simp only [List.mem_cons, List.not_mem_nil, or_false] at hy; rcases hy with rfl | rfl <;> rfl
  have hlen' : (srR L').flatten.length = (n - 1) * 2 := by rw [srR_flat]; omega
  have hres : srR (L' ++ [((⟨xk, xp⟩ : Ser), Value.slice A8 n8 c8)]) = srR L' ++ [[.string xk, .slice A8 n8 c8]] := srR_append _ _
  have hnl : (L' ++ [((⟨xk, xp⟩ : Ser), Value.slice A8 n8 c8)]).length = n := by rw [List.length_append]; simp only [List.length_singleton]; omega
  rcases hOw.1.2.2 with ⟨e, _⟩ | ⟨g', cap, cur, e, _, hh, hnc, hcm, hcs, _⟩
  · cases e
  have hln : (srR (((⟨xk, xp⟩ : Ser), Value.slice A8 n8 c8) :: L')).length = n := by rw [srR_length]; simp only [List.length_cons]; omega
  rw [hln] at hnc e
  cases e
  have hB : Blk W g cur 36 := hh
  by_cases hroom : n - 1 + 1 ≤ c - 1
  · have hsome : ∀ j, j < 2 → (W.cell? ⟨g, 2 + (n - 1) * 2 + j, none⟩).isSome = true := fun j hj => by
      have hlt : 2 + (n - 1) * 2 + j < cur.size := by rw [hcs]; omega
      rw [hB.cell _ _ (Array.getElem?_eq_getElem hlt)]
      rfl
    have hr := run_append_room_cells (P := Tryd.prog) W 24 24 36 i0 Tryd.underlying24 hi g 2 (n - 1) (c - 1) ⟨w.heap.size, 0, none⟩ 1 1 [.string xk, .slice A8 n8 c8] (by rw [hz1]; rfl) hnews hone hroom (fun j hj => by rw [hz1]; exact hsome j hj) (fun j hj => hB.free _)
    rw [hz1] at hr
    refine ⟨some ⟨g, 2, none⟩, n - 1 + 1, c - 1, _, hr, ⟨L' ++ [((⟨xk, xp⟩ : Ser), Value.slice A8 n8 c8)], rfl, ?_, ?_⟩, ?_⟩
    · refine ⟨some ⟨g, 2, none⟩, c - 1, by rw [srR_length, hnl, show n - 1 + 1 = n by omega], ⟨fun e => (by cases e), by rw [srR_length, hnl]; omega⟩, srR_sz _, .inr ⟨g, 2, rfl, ?_, fun k y hy => ?_⟩⟩
      · have h1 : (W.setCells g (2 + (n - 1) * 2) [.string xk, .slice A8 n8 c8]).heap.size = W.heap.size := by simp [World.setCells]
        rw [h1]
        exact hB.lt
      · rw [hres, List.flatten_append] at hy
        by_cases hk : k < (n - 1) * 2
        · rw [List.getElem?_append_left (by rw [hlen']; exact hk)] at hy
          rw [World.cell?_setCells_out g _ _ _ ⟨g, 2 + k, none⟩ (fun _ _ => .inl (by show 2 + k < _; omega))]
          exact hold k y hy
        · rw [List.getElem?_append_right (by rw [hlen']; omega), hlen'] at hy
          have hk2 : k - (n - 1) * 2 < 2 := by
            have := (List.getElem?_eq_some_iff.1 hy).1
            simpa using this
          have := World.cell?_setCells_in g [.string xk, .slice A8 n8 c8] (2 + (n - 1) * 2) W (fun j hj => hsome j hj) (k - (n - 1) * 2) hk2
          rw [show 2 + (n - 1) * 2 + (k - (n - 1) * 2) = 2 + k by omega] at this
          rw [this]
          have hy' : ([.string xk, .slice A8 n8 c8] : List Value)[k - (n - 1) * 2]? = some y := by simpa using hy
          rw [List.getElem?_eq_getElem hk2] at hy'
          exact hy'
    · intro q hq
      have hqm : q ∈ ((⟨xk, xp⟩ : Ser), Value.slice A8 n8 c8) :: L' := by
        rcases List.mem_append.1 hq with h | h
        · exact List.mem_cons_of_mem _ h
        · rw [List.mem_singleton.1 h]; exact List.mem_cons_self ..
      have h1 := hOw.2.1 q hqm
      have hne : q.2.ownBlock ≠ some g := fun e => h1.apartT hOw.1 (by decide) g e rfl
      have h2 : Owns (W.setCells g (2 + (n - 1) * 2) [.string xk, .slice A8 n8 c8]) base 39 2 q.2 (ptR q.1.pts) := (h1.other hne _ _).other hne _ _
      exact h2.lies
    · exact (hbW.setCell (show base ≤ g from hbase) _).setCell (show base ≤ g from hbase) _
  · obtain ⟨v', w', hr, hown, hgr⟩ := run_append_arg_grows (P := Tryd.prog) W 24 24 36 i0 (.agg #[.string ⟨#[]⟩, .slice none 0 0]) 2 40 Tryd.underlying24 hi hz0 hz1 hz2 rfl (by omega) ⟨g, 2, none⟩ (n - 1) (c - 1) (srR L').flatten hlen' (fun j y hy => by rw [add_lit0]; exact hold j y hy) ⟨w.heap.size, 0, none⟩ 1 1 [.string xk, .slice A8 n8 c8] rfl hnews (by omega) (by unfold maxLen; omega) (by omega)
    have hOn : Owns w' W.heap.size 36 2 v' (srR (L' ++ [((⟨xk, xp⟩ : Ser), Value.slice A8 n8 c8)])) := by
      refine ⟨srR_sz _, ?_⟩
      rw [hres, List.flatten_append, List.length_append, srR_length]
      have e1 : L'.length + [[Value.string xk, .slice A8 n8 c8]].length = n - 1 + 1 := by simp only [List.length_singleton]; omega
      rw [e1]
      simpa using hown
    obtain ⟨A, m, cc, rfl⟩ := hOn.shape
    have hbe : Below W.heap.size W w' := ⟨hgr.os, hgr.tape, hgr.output, hgr.size, fun k hk => hgr.block k hk (fun e => by cases e)⟩
    refine ⟨A, m, cc, w', hr, ⟨_, rfl, hOn.lies, fun q hq => ?_⟩, hbW.trans (hbe.mono (Nat.le_trans hbw hbW.size))⟩
    have hqm : q ∈ ((⟨xk, xp⟩ : Ser), Value.slice A8 n8 c8) :: L' := by
      rcases List.mem_append.1 hq with h | h
      · exact List.mem_cons_of_mem _ h
      · rw [List.mem_singleton.1 h]; exact List.mem_cons_self ..
    exact ((hOw.2.1 q hqm).on hbe).lies
end Go.Proofs.YthgiekeiljflaaaDoor
