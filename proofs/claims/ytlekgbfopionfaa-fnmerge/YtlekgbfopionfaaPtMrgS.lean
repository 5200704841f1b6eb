/-
  Contracts of spec.l8Merge and spec.Merge.
-/
import Derived.Test.YtlekgbfopionfaaRows
import Derived.Test.YtlekgbfopionfaaPtPutS
namespace Go.Proofs.Ytlekgbfopionfaa
open Go.ChangeShapes Go.WideShapes Go.ChangeAt Go.RowKit Go.PlainAid
set_option linter.unusedVariables false

/-- What Merge answers. -/
def mergeR (a b : List Pnt) : List Pnt := if POk a ∧ POk b ∧ (mrg a b).length ≤ 60 then mrg a b else []
def mergeB (a b : List Pnt) : Bool := decide (POk a ∧ POk b ∧ (mrg a b).length ≤ 60)
theorem mergeR_len (a b : List Pnt) : (mergeR a b).length ≤ 60 := by
  unfold mergeR
  split
  · rename_i h
    exact h.2.2
  · simp
theorem mrg_snoc (a b : List Pnt) (k : Nat) (h : k < b.length) : mrg a (b.take (k + 1)) = putP (mrg a (b.take k)) (b.getD k default) := by
  unfold mrg
  rw [take_getD b k h, List.foldl_append]
  rfl

set_option maxHeartbeats 2000000 in
theorem specMergeL (a b : List Pnt) (va vb : Value) (w : World) (B : Nat) (ha : Lies w B 2 va (ptR a)) (hb : Lies w B 2 vb (ptR b)) (hn : a.length + b.length ≤ 1048576) (hB : B ≤ w.heap.size) : Calls Try.prog 28 #[va, vb] w fun e w' => (∃ u, e = .returned u ∧ Owns w' w.heap.size 40 2 u (ptR (mrg a b))) ∧ Below w.heap.size w w' := by
  have HA : Hid (Lies w B 2 va (ptR a)) := ha
  obtain ⟨A', cap', rfl, _⟩ := pt_look ha
  obtain ⟨A, cap, rfl, hl⟩ := pt_look hb
  have HL : Hid (∀ j, j < b.length → ∃ g off, A = some ⟨g, off, none⟩ ∧ g < B ∧ w.cell? ⟨g, off + j * 2, none⟩ = some (.int .i64 (tAt b j)) ∧ w.cell? ⟨g, off + j * 2 + 1, none⟩ = some (.int .i64 (vAt b j))) := hl
  have HB : Hid (B ≤ w.heap.size) := hB
  have HN : Hid (a.length + b.length ≤ 1048576) := hn
  have q0 : (b.length : Int) ≤ 1048576 := by omega
  have L1 : Hid (([] : List (List Value)).length + (ptR a).length ≤ 2097152) := by unfold Hid; rw [ptR_length]; simp; omega
  have hE := Owns.empty w w.heap.size 40 2 (Nat.le_refl _)
  have HE : Hid (Owns (w.alloc (.cells #[] 40)) w.heap.size 40 2 (.slice (some ⟨w.heap.size, 0, none⟩) 0 0) []) := hE
  have hb0 : Below w.heap.size w (w.alloc (.cells #[] 40)) := (Below.refl _ _).alloc (Nat.le_refl _) _
  have HA2 : Hid (Lies (w.alloc (.cells #[] 40)) B 2 (.slice A' a.length cap') (ptR a)) := HA.out.on (hb0.mono HB.out)
  have Z2 : Hid (w.heap.size ≤ (w.alloc (.cells #[] 40)).heap.size) := hb0.size
  have B0 : Hid (Below w.heap.size w (w.alloc (.cells #[] 40))) := hb0
  clear hl hn ha hb hB hE hb0
  go_enter Try.func28, Try.ntmps28
  go_wp2_with (at_builtin; refine wpList_append_all (w := w.alloc (.cells #[] 40)) rfl (.tmp 7) (.tmp 8) 25 40 (.agg #[.int .i64 0, .int .i64 0]) 2 16 rfl Try.underlying25 Try.infoPt rfl (by omega) w.heap.size (.slice (some ⟨w.heap.size, 0, none⟩) 0 0) (.slice A' a.length cap') [] (ptR a) B rfl HE.out HA2.out (pt_one a) rfl L1.out (by omega) Z2.out ?_; intro u1 w1 hO1 hb1 _ _)
  have O1 : Hid (Owns w1 w.heap.size 40 2 u1 (ptR a)) := hO1
  have B1 : Hid (Below w.heap.size w w1) := B0.out.trans hb1
  clear hO1 hb1 HE HA2 B0 Z2
  go_wp2_with fail
  generalize hM : b.length = n at *
  go_loopw [5, 6] (fun v5 v6 wr => ∃ k : Nat, k ≤ n ∧ v6 = .int .i64 (k : Int) ∧ Owns wr w.heap.size 40 2 v5 (ptR (mrg a (b.take k))) ∧ Below w.heap.size w wr) (fun _ i _ => n - (intOf i).toNat)
  case atStart => exact ⟨0, by omega, rfl, by rw [List.take_zero]; exact O1.out, B1.out⟩
  case round =>
    obtain ⟨k, hk, rfl, hO, hb⟩ := hrel
    have HO : Hid (Owns wr w.heap.size 40 2 u5 (ptR (mrg a (b.take k)))) := hO
    have HB1 : Hid (Below w.heap.size w wr) := hb
    clear hO hb
    by_cases hlt : k < n
    · have q2 : (k : Int) < (n : Int) := by omega
      obtain ⟨g, off, rfl, hg, e1, e2⟩ := HL.out k hlt
      have hgw : g < w.heap.size := Nat.lt_of_lt_of_le hg HB.out
      rw [← HB1.out.cell (p := ⟨_, _, none⟩) hgw] at e1
      rw [← HB1.out.cell (p := ⟨_, _, none⟩) hgw] at e2
      have HS : Hid (mrg a (b.take (k + 1)) = putP (mrg a (b.take k)) (b.getD k default)) := mrg_snoc a b k (by omega)
      have hln : (mrg a (b.take k)).length ≤ 1048576 := by
        have h1 := mrg_length (b.take k) a
        rw [List.length_take] at h1
        have := HN.out
        omega
      have c1 := specPut (mrg a (b.take k)) (b.getD k default) u5 wr wr.heap.size HO.out.lies hln (Nat.le_refl _)
      rw [putL_eq, ← HS.out] at c1
      unfold vPt at c1
      rw [show (b.getD k default).t = tAt b k from rfl, show (b.getD k default).v = vAt b k from rfl] at c1
      generalize tAt b k = x at *
      generalize vAt b k = y at *
      obtain ⟨A5, m5, k5, rfl⟩ := HO.out.shape
      clear hgw hg hln
      go_wp2_with fail
      refine c1.mono ?_
      rintro e w4 ⟨⟨u', rfl, hO4⟩, hb4⟩
      have HB4 : Hid (Below w.heap.size w w4) := HB1.out.trans (hb4.mono HB1.out.size)
      have HO4 : Hid (Owns w4 w.heap.size 40 2 u' (ptR (mrg a (b.take (k + 1))))) := hO4.mono HB1.out.size
      clear hO4 hb4
      go_wp2_with fail
      go_roundw
      case rel => exact ⟨k + 1, by omega, by go_num, HO4.out, HB4.out⟩
      case measure => simp [intOf]; omega
    · obtain rfl : k = n := by omega
      go_wp2_with fail
      go_ret
      refine ⟨⟨_, rfl, ?_⟩, HB1.out⟩
      have := HO.out
      rw [← hM, List.take_length] at this
      exact this

set_option maxHeartbeats 2000000 in
theorem specMerge (a b : List Pnt) (va vb : Value) (w : World) (B : Nat) (ha : Lies w B 2 va (ptR a)) (hb : Lies w B 2 vb (ptR b)) (hna : a.length ≤ 1048576) (hnb : b.length ≤ 1048576) (hB : B ≤ w.heap.size) : Calls Try.prog 17 #[va, vb] w fun e w' => (∃ u, e = .returned (.tuple #[u, .bool (mergeB a b)]) ∧ Owns w' w.heap.size 40 2 u (ptR (mergeR a b))) ∧ Below w.heap.size w w' := by
  have HA : Hid (Lies w B 2 va (ptR a)) := ha
  have HBB : Hid (Lies w B 2 vb (ptR b)) := hb
  have HB : Hid (B ≤ w.heap.size) := hB
  obtain ⟨A', cap', rfl, _⟩ := pt_look ha
  obtain ⟨A, cap, rfl, _⟩ := pt_look hb
  have cA := fun wx hx (h : w.heap.size ≤ wx.heap.size) => specPointsOk a (.slice A' a.length cap') wx B hx hna (Nat.le_trans hB h)
  have cB := fun wx hx (h : w.heap.size ≤ wx.heap.size) => specPointsOk b (.slice A b.length cap) wx B hx hnb (Nat.le_trans hB h)
  clear ha hb hB
  by_cases hpa : ¬ POk a
  · have HE : Hid (mergeR a b = [] ∧ mergeB a b = false) := ⟨if_neg (fun h => hpa h.1), decide_eq_false (fun h => hpa h.1)⟩
    rw [decide_eq_false hpa] at cA
    clear hpa
    go_enter Try.func17, Try.ntmps17
    go_wp2_with fail
    refine (cA w HA.out (Nat.le_refl _)).mono ?_
    rintro e w1 ⟨rfl, hL⟩
    have B1 : Hid (Below w.heap.size w w1) := hL.below
    clear hL
    go_wp2_with fail
    go_ret2
    exact ⟨⟨_, by rw [HE.out.2]; rfl, by rw [HE.out.1]; exact Owns.empty w1 _ _ _ B1.out.size⟩, B1.out.alloc B1.out.size _⟩
  have HPA : Hid (POk a) := (Decidable.not_not (p := POk a)).1 hpa
  rw [decide_eq_true HPA.out] at cA
  by_cases hpb : ¬ POk b
  · have HE : Hid (mergeR a b = [] ∧ mergeB a b = false) := ⟨if_neg (fun h => hpb h.2.1), decide_eq_false (fun h => hpb h.2.1)⟩
    rw [decide_eq_false hpb] at cB
    clear hpb hpa
    go_enter Try.func17, Try.ntmps17
    go_wp2_with fail
    refine (cA w HA.out (Nat.le_refl _)).mono ?_
    rintro e w1 ⟨rfl, hL⟩
    have B1 : Hid (Below w.heap.size w w1) := hL.below
    clear hL
    go_wp2_with fail
    refine (cB w1 (HBB.out.on (B1.out.mono HB.out)) B1.out.size).mono ?_
    rintro e w2 ⟨rfl, hL⟩
    have B2 : Hid (Below w.heap.size w w2) := B1.out.trans (hL.below.mono B1.out.size)
    clear hL
    go_wp2_with fail
    go_ret2
    exact ⟨⟨_, by rw [HE.out.2]; rfl, by rw [HE.out.1]; exact Owns.empty w2 _ _ _ B2.out.size⟩, B2.out.alloc B2.out.size _⟩
  have HPB : Hid (POk b) := (Decidable.not_not (p := POk b)).1 hpb
  rw [decide_eq_true HPB.out] at cB
  clear hpa hpb
  go_enter Try.func17, Try.ntmps17
  go_wp2_with fail
  refine (cA w HA.out (Nat.le_refl _)).mono ?_
  rintro e w1 ⟨rfl, hL⟩
  have B1 : Hid (Below w.heap.size w w1) := hL.below
  clear hL
  go_wp2_with fail
  refine (cB w1 (HBB.out.on (B1.out.mono HB.out)) B1.out.size).mono ?_
  rintro e w2 ⟨rfl, hL⟩
  have B2 : Hid (Below w.heap.size w w2) := B1.out.trans (hL.below.mono B1.out.size)
  clear hL
  have cM := specMergeL a b (.slice A' a.length cap') (.slice A b.length cap) w2 B (HA.out.on (B2.out.mono HB.out)) (HBB.out.on (B2.out.mono HB.out)) (by have := HPA.out.1; have := HPB.out.1; omega) (Nat.le_trans HB.out B2.out.size)
  go_wp2_with fail
  refine cM.mono ?_
  rintro e w3 ⟨⟨u, rfl, hO⟩, hb3⟩
  have O3 : Hid (Owns w3 w.heap.size 40 2 u (ptR (mrg a b))) := hO.mono B2.out.size
  have B3 : Hid (Below w.heap.size w w3) := B2.out.trans (hb3.mono B2.out.size)
  obtain ⟨A3, k3, rfl, _⟩ := pt_look hO.lies
  clear hO hb3 cM
  by_cases hln : (mrg a b).length ≤ 60
  · have HE : Hid (mergeR a b = mrg a b ∧ mergeB a b = true) := ⟨if_pos ⟨HPA.out, HPB.out, hln⟩, decide_eq_true ⟨HPA.out, HPB.out, hln⟩⟩
    have q1 : (((mrg a b).length : Nat) : Int) ≤ 60 := by omega
    have q2 : decide ((60 : Int) < (((mrg a b).length : Nat) : Int)) = false := decide_eq_false (by omega)
    generalize hmm : (mrg a b).length = mm at *
    go_wp2_with fail
    go_ret2
    exact ⟨⟨_, by rw [HE.out.2]; rfl, by rw [HE.out.1]; exact O3.out⟩, B3.out⟩
  · have HE : Hid (mergeR a b = [] ∧ mergeB a b = false) := ⟨if_neg (fun h => hln h.2.2), decide_eq_false (fun h => hln h.2.2)⟩
    have hl2 : (mrg a b).length ≤ 120 := by have := mrg_length b a; have := HPA.out.1; have := HPB.out.1; omega
    have q1 : (60 : Int) < (((mrg a b).length : Nat) : Int) := by omega
    generalize hmm : (mrg a b).length = mm at *
    go_wp2_with fail
    go_ret2
    exact ⟨⟨_, by rw [HE.out.2]; rfl, by rw [HE.out.1]; exact Owns.empty w3 _ _ _ B3.out.size⟩, B3.out.alloc B3.out.size _⟩
end Go.Proofs.Ytlekgbfopionfaa
