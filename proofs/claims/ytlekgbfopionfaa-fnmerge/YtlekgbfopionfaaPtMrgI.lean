/-
  Contract of impl.Merge.
-/
import Derived.Test.YtlekgbfopionfaaRows
import Derived.Test.YtlekgbfopionfaaPtMrgS
import Derived.Test.YtlekgbfopionfaaPtWov
namespace Go.Proofs.Ytlekgbfopionfaa
open Go.ChangeShapes Go.WideShapes Go.ChangeAt Go.RowKit Go.PlainAid
set_option linter.unusedVariables false

set_option maxHeartbeats 2000000 in
theorem implMerge (a b : List Pnt) (va vb : Value) (w : World) (B : Nat) (ha : Lies w B 2 va (ptR a)) (hb : Lies w B 2 vb (ptR b)) (hna : a.length ≤ 1048576) (hnb : b.length ≤ 1048576) (hB : B ≤ w.heap.size) : Calls Try.prog 18 #[va, vb] w fun e w' => (∃ u, e = .returned (.tuple #[u, .bool (mergeB a b)]) ∧ Owns w' w.heap.size 40 2 u (ptR (mergeR a b))) ∧ Below w.heap.size w w' := by
  have HA : Hid (Lies w B 2 va (ptR a)) := ha
  have HBB : Hid (Lies w B 2 vb (ptR b)) := hb
  have HB : Hid (B ≤ w.heap.size) := hB
  obtain ⟨A', cap', rfl, _⟩ := pt_look ha
  obtain ⟨A, cap, rfl, _⟩ := pt_look hb
  have cA := fun wx hx (h : w.heap.size ≤ wx.heap.size) => implPointsOk a (.slice A' a.length cap') wx B hx hna (Nat.le_trans hB h)
  have cB := fun wx hx (h : w.heap.size ≤ wx.heap.size) => implPointsOk b (.slice A b.length cap) wx B hx hnb (Nat.le_trans hB h)
  clear ha hb hB
  by_cases hpa : ¬ POk a
  · have HE : Hid (mergeR a b = [] ∧ mergeB a b = false) := ⟨if_neg (fun h => hpa h.1), decide_eq_false (fun h => hpa h.1)⟩
    rw [decide_eq_false hpa] at cA
    clear hpa
    go_enter Try.func18, Try.ntmps18
    go_wp2_with fail
    refine (cA w HA.out (Nat.le_refl _)).mono ?_
    rintro e w1 ⟨rfl, hL⟩
    have B1 : Hid (Below w.heap.size w w1) := hL
    clear hL
    go_wp2_with fail
    go_ret2
    exact ⟨⟨_, by rw [HE.out.2]; rfl, by rw [HE.out.1]; exact Owns.nil _ _ _ _⟩, B1.out⟩
  have HPA : Hid (POk a) := (Decidable.not_not (p := POk a)).1 hpa
  rw [decide_eq_true HPA.out] at cA
  by_cases hpb : ¬ POk b
  · have HE : Hid (mergeR a b = [] ∧ mergeB a b = false) := ⟨if_neg (fun h => hpb h.2.1), decide_eq_false (fun h => hpb h.2.1)⟩
    rw [decide_eq_false hpb] at cB
    clear hpb hpa
    go_enter Try.func18, Try.ntmps18
    go_wp2_with fail
    refine (cA w HA.out (Nat.le_refl _)).mono ?_
    rintro e w1 ⟨rfl, hL⟩
    have B1 : Hid (Below w.heap.size w w1) := hL
    clear hL
    go_wp2_with fail
    refine (cB w1 (HBB.out.on (B1.out.mono HB.out)) B1.out.size).mono ?_
    rintro e w2 ⟨rfl, hL⟩
    have B2 : Hid (Below w.heap.size w w2) := B1.out.trans (hL.mono B1.out.size)
    clear hL
    go_wp2_with fail
    go_ret2
    exact ⟨⟨_, by rw [HE.out.2]; rfl, by rw [HE.out.1]; exact Owns.nil _ _ _ _⟩, B2.out⟩
  have HPB : Hid (POk b) := (Decidable.not_not (p := POk b)).1 hpb
  rw [decide_eq_true HPB.out] at cB
  clear hpa hpb
  go_enter Try.func18, Try.ntmps18
  go_wp2_with fail
  refine (cA w HA.out (Nat.le_refl _)).mono ?_
  rintro e w1 ⟨rfl, hL⟩
  have B1 : Hid (Below w.heap.size w w1) := hL
  clear hL
  go_wp2_with fail
  refine (cB w1 (HBB.out.on (B1.out.mono HB.out)) B1.out.size).mono ?_
  rintro e w2 ⟨rfl, hL⟩
  have B2 : Hid (Below w.heap.size w w2) := B1.out.trans (hL.mono B1.out.size)
  clear hL
  have cM := implWoven a b (.slice A' a.length cap') (.slice A b.length cap) w2 B (HA.out.on (B2.out.mono HB.out)) (HBB.out.on (B2.out.mono HB.out)) HPA.out HPB.out (Nat.le_trans HB.out B2.out.size)
  go_wp2_with fail
  refine cM.mono ?_
  rintro e w3 ⟨⟨u, rfl, hO⟩, hb3⟩
  have O3 : Hid (Owns w3 w.heap.size 40 2 u (ptR (mrg a b))) := hO.mono B2.out.size
  have B3 : Hid (Below w.heap.size w w3) := B2.out.trans (hb3.mono B2.out.size)
  obtain ⟨A3, k3, rfl, _⟩ := pt_look hO.lies
  clear hO hb3 cM
  by_cases hln : (mrg a b).length ≤ 60
  · have HE : Hid (mergeR a b = mrg a b ∧ mergeB a b = true) := ⟨if_pos ⟨HPA.out, HPB.out, hln⟩, decide_eq_true ⟨HPA.out, HPB.out, hln⟩⟩
    have q1 : (((mrg a b).length : Nat) : Int) ≤ 60 := by omega
    have q2 : decide ((60 : Int) < (((mrg a b).length : Nat) : Int)) = false := decide_eq_false (by omega)
    generalize hmm : (mrg a b).length = mm at *
    go_wp2_with fail
    go_ret2
    exact ⟨⟨_, by rw [HE.out.2]; rfl, by rw [HE.out.1]; exact O3.out⟩, B3.out⟩
  · have HE : Hid (mergeR a b = [] ∧ mergeB a b = false) := ⟨if_neg (fun h => hln h.2.2), decide_eq_false (fun h => hln h.2.2)⟩
    have hl2 : (mrg a b).length ≤ 120 := by have := mrg_length b a; have := HPA.out.1; have := HPB.out.1; omega
    have q1 : (60 : Int) < (((mrg a b).length : Nat) : Int) := by omega
    generalize hmm : (mrg a b).length = mm at *
    go_wp2_with fail
    go_ret2
    exact ⟨⟨_, by rw [HE.out.2]; rfl, by rw [HE.out.1]; exact Owns.nil _ _ _ _⟩, B3.out⟩
end Go.Proofs.Ytlekgbfopionfaa
