/-
  What is drawn: contracts of spec.l8Points and spec.l8Right: some points, whatever the code.
-/
import Derived.Test.YthgiekeiljflaaaDoorRows
import Derived.Test.YthgiekeiljflaaaDoorGH
import Derived.Test.YthgiekeiljflaaaDoorBkRead
import Derived.Test.YthgiekeiljflaaaDoorGA
import Derived.Test.YthgiekeiljflaaaDoorUntilS
namespace Go.Proofs.YthgiekeiljflaaaDoor
open Go.ChangeShapes Go.WideShapes Go.ChangeAt Go.RowKit Go.PlainAid
set_option linter.unusedVariables false

/-- What is drawn: some points. -/
def DrawnP (w : World) (p : Nat) (e : Ending) (w' : World) : Prop := ∃ u l, e = .returned u ∧ Owns w' w.heap.size 39 2 u (ptR l) ∧ l.length ≤ 600 ∧ AtS w' p ∧ Mod w.heap.size p w w'

set_option maxHeartbeats 2000000 in
theorem right_any (w : World) (p : Nat) (most : Int) (hm0 : 1 ≤ most) (hm1 : most ≤ 500) (h : AtS w p) : Calls Tryd.prog 44 #[.pointer (some ⟨p, 0, none⟩), .int .i64 most] w (DrawnP w p) := by
  have HP : Hid (p < w.heap.size) := h.lt
  have hal : Below w.heap.size w (w.alloc (.cells #[] 39)) := (Below.refl _ _).alloc (Nat.le_refl _) _
  have O0 : Hid (Owns (w.alloc (.cells #[] 39)) w.heap.size 39 2 (.slice (some ⟨w.heap.size, 0, none⟩) 0 0) []) := Owns.empty w _ _ _ (Nat.le_refl _)
  have A0 : Hid (AtS (w.alloc (.cells #[] 39)) p) := h.below hal h.lt
  have M0 : Hid (Mod w.heap.size p w (w.alloc (.cells #[] 39))) := Mod.of_below hal
  clear hal h
  go_enter Tryd.func44, Tryd.ntmps44
  go_wp2_with fail
  generalize w.alloc (.cells #[] 39) = w0 at *
  refine (belowS w0 p 250 (by omega) (by omega) A0.out).mono ?_
  rintro e w1 ⟨v1, rfl, ⟨v10, v11⟩, hA, hm⟩
  have A1 : Hid (AtS w1 p) := hA
  have M1 : Hid (Mod w.heap.size p w w1) := M0.out.trans (hm.mono M0.out.size)
  have O1 : Hid (Owns w1 w.heap.size 39 2 (.slice (some ⟨w.heap.size, 0, none⟩) 0 0) []) := O0.out.mod hm HP.out (Nat.le_refl _)
  clear hA hm A0 M0 O0
  go_wp2_with fail
  refine (belowS w1 p most (by omega) (by omega) A1.out).mono ?_
  rintro e w2 ⟨v2, rfl, ⟨v20, v21⟩, hA, hm⟩
  have A2 : Hid (AtS w2 p) := hA
  have M2 : Hid (Mod w.heap.size p w w2) := M1.out.trans (hm.mono M1.out.size)
  have O2 : Hid (Owns w2 w.heap.size 39 2 (.slice (some ⟨w.heap.size, 0, none⟩) 0 0) []) := O1.out.mod hm HP.out (Nat.le_refl _)
  obtain ⟨n2, rfl⟩ : ∃ n : Nat, v2 = (n : Int) := ⟨v2.toNat, by omega⟩
  clear hA hm A1 M1 O1
  go_wp2_with fail
  go_loopw [5, 6, 7] (fun v5 v6 v7 wr => ∃ (k : Nat) (t : Int) (l : List Pnt), (l.length + k ≤ 600 ∧ (0 ≤ t ∧ t ≤ 250 + 31 * (l.length : Int))) ∧ v7 = .int .i64 (k : Int) ∧ v6 = .int .i64 t ∧ Owns wr w.heap.size 39 2 v5 (ptR l) ∧ AtS wr p ∧ Mod w.heap.size p w wr) (fun _ _ i _ => (intOf i).toNat)
  case atStart => exact ⟨n2 + 1, _, [], ⟨by simp; omega, by simp; omega⟩, by go_num, rfl, O2.out, A2.out, M2.out⟩
  case round =>
    obtain ⟨k, t, l, ⟨hk, ht0, ht1⟩, rfl, rfl, hO, hA, hM⟩ := hrel
    have HO : Hid (Owns wr w.heap.size 39 2 u5 (ptR l)) := hO
    obtain ⟨A5, m5, k5, rfl⟩ := hO.shape
    have AR : Hid (AtS wr p) := hA
    have MR : Hid (Mod w.heap.size p w wr) := hM
    have HK : Hid (l.length + k ≤ 600) := hk
    have HT1 : Hid (0 ≤ t ∧ t ≤ 250 + 31 * (l.length : Int)) := ⟨ht0, ht1⟩
    have q1 : (k : Int) ≤ 600 := by omega
    have q0 : t ≤ 20000 := by omega
    clear hO hA hM hk ht1
    by_cases hlt : 0 < k
    · have q2 : (0 : Int) < (k : Int) := by omega
      go_wp2_with fail
      refine (belowS wr p 40 (by omega) (by omega) AR.out).mono ?_
      rintro e w3 ⟨v3, rfl, ⟨v30, v31⟩, hA, hm⟩
      have A3 : Hid (AtS w3 p) := hA
      have M3 : Hid (Mod w.heap.size p w w3) := MR.out.trans (hm.mono MR.out.size)
      have O3 : Hid (Owns w3 w.heap.size 39 2 (.slice A5 m5 k5) (ptR l)) := HO.out.mod hm HP.out (Nat.le_refl _)
      have L3 : Hid ((ptR l).length ≤ 2097152) := by unfold Hid; rw [ptR_length]; have := HK.out; omega
      have Z3 := M3.out.size
      clear hA hm AR MR HO
      go_wp2_with (at_builtin; refine wpList_append_row (w := w3) rfl (.tmp 19) (.tmp 25) 32 39 (.agg #[.int .i64 0, .int .i64 0]) 2 16 rfl Tryd.underlying32 Tryd.infoPt rfl (by omega) w.heap.size (.slice A5 m5 k5) (ptR l) rfl O3.out [.int .i64 t, .int .i64 (v3 - 20)] rfl (pt_cells _ _) rfl L3.out (by omega) Z3 ?_; intro u' w4 hO4 hb4 _ _)
      have O4 : Hid (Owns w4 w.heap.size 39 2 u' (ptR (l ++ [⟨t, v3 - 20⟩]))) := by unfold Hid; rw [ptR_snoc']; exact hO4
      have A4 : Hid (AtS w4 p) := A3.out.below hb4 HP.out
      have M4 : Hid (Mod w.heap.size p w w4) := M3.out.trans (Mod.of_below hb4)
      clear hO4 hb4 A3 M3 O3
      go_wp2_with fail
      refine (belowS w4 p 30 (by omega) (by omega) A4.out).mono ?_
      rintro e w6 ⟨v6, rfl, ⟨v60, v61⟩, hA, hm⟩
      have A6 : Hid (AtS w6 p) := hA
      have M6 : Hid (Mod w.heap.size p w w6) := M4.out.trans (hm.mono M4.out.size)
      have O6 : Hid (Owns w6 w.heap.size 39 2 u' (ptR (l ++ [⟨t, v3 - 20⟩]))) := O4.out.mod hm HP.out (Nat.le_refl _)
      clear hA hm A4 M4 O4
      go_wp2_with fail
      go_roundw
      case rel => exact ⟨k - 1, t + 1 + v6, l ++ [⟨t, v3 - 20⟩], ⟨by have := HK.out; simp; omega, by have := HT1.out; simp; omega⟩, by go_num, by go_num, O6.out, A6.out, M6.out⟩
      case measure => simp [intOf]; omega
    · obtain rfl : k = 0 := by omega
      go_wp2_with fail
      go_ret
      exact ⟨_, l, rfl, HO.out, by have := HK.out; omega, AR.out, MR.out⟩
end Go.Proofs.YthgiekeiljflaaaDoor
