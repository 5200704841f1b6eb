/-
  Rows of buckets: contracts of the laws' sizes, copies, comparison, marks and holds of them (out of those of points).
-/
import Derived.Test.YtfloihegggkonaaRows
import Derived.Test.YtfloihegggkonaaPtPut
import Derived.WalkKit
import Derived.ProofKit
import Derived.OpenShut
import Derived.Below
import Derived.WalkSmall
import Derived.WalkLawsBesides
import Derived.Outline
import Derived.BigQuiet
import Derived.Deep.QuietTactic
import Derived.Deep.RegionWith
import Derived.Test.YtfloihegggkonaaPtLaw
namespace Go.Proofs.Ytfloihegggkonaa
open Go.ChangeShapes Go.WideShapes Go.ChangeAt Go.RowKit Go.PlainAid
set_option linter.unusedVariables false

theorem Try.infoBk : (Try.prog.info? 57).map (fun i => (i.zero, i.size, i.bytes)) = some (some (.agg #[.int .i64 0, .int .i64 0]), 2, 16) := by kernel_rfl
set_option maxHeartbeats 400000 in
theorem eqBucket (x : Pnt) (w : World) : Calls Try.prog 32 #[vPt x, vPt x] w fun e w' => e = .returned (.bool true) ∧ Below w.heap.size w w' := by
  unfold vPt
  go_enter Try.func32, Try.ntmps32
  go_wp2
  go_ret
  exact ⟨rfl, below_alloc2 _ _ _⟩

set_option maxHeartbeats 1000000 in
theorem eqBucketS (l : List Pnt) (va vb : Value) (w : World) (B : Nat) (ha : Lies w B 2 va (ptR l)) (hb : Lies w B 2 vb (ptR l)) (hn : l.length ≤ 1048576) (hB : B ≤ w.heap.size) :
    Calls Try.prog 17 #[va, vb] w fun e w' => e = .returned (.bool true) ∧ Below w.heap.size w w' := by
  obtain ⟨A, cap, rfl, hl⟩ := pt_look ha
  obtain ⟨A', cap', rfl, hl'⟩ := pt_look hb
  have HL : Hid (∀ j, j < l.length → ∃ g off, A = some ⟨g, off, none⟩ ∧ g < B ∧ _) := hl
  have HL' : Hid (∀ j, j < l.length → ∃ g off, A' = some ⟨g, off, none⟩ ∧ g < B ∧ _) := hl'
  have HB : Hid (B ≤ w.heap.size) := hB
  clear hl hl' hB ha hb
  have q1 : (l.length : Int) ≤ 1048576 := by omega
  generalize hN : l.length = n at *
  go_enter Try.func17, Try.ntmps17
  go_wp2_with fail
  go_loopw [5] (fun v5 wr => ∃ k : Nat, k ≤ n ∧ v5 = .int .i64 (k : Int) ∧ Below w.heap.size w wr) (fun i _ => n - (intOf i).toNat)
  case atStart => exact ⟨0, by omega, rfl, Below.refl _ _⟩
  case round =>
    obtain ⟨k, hk, rfl, hb⟩ := hrel
    have HB1 : Hid (Below w.heap.size w wr) := hb
    clear hb
    by_cases hlt : k < n
    · have q4 : (k : Int) < (n : Int) := by omega
      obtain ⟨g, off, rfl, hg, ha0, ha1⟩ := HL.out k hlt
      obtain ⟨g', off', rfl, hg', hb0, hb1⟩ := HL'.out k hlt
      have hgw : g < w.heap.size := Nat.lt_of_lt_of_le hg HB.out
      have hgw' : g' < w.heap.size := Nat.lt_of_lt_of_le hg' HB.out
      rw [← HB1.out.cell (p := ⟨_, _, none⟩) hgw] at ha0
      rw [← HB1.out.cell (p := ⟨_, _, none⟩) hgw'] at hb0
      rw [← HB1.out.cell (p := ⟨_, _, none⟩) hgw] at ha1
      rw [← HB1.out.cell (p := ⟨_, _, none⟩) hgw'] at hb1
      have c1 := fun wx => eqBucket (l.getD k default) wx
      unfold vPt at c1
      generalize l.getD k default = x at *
      have hsz := HB1.out.size
      go_wp2_with fail
      go_region_with (go_at_call 32; refine (c1 _).mono ?_; rintro e w1 ⟨rfl, hb1⟩)
      all_goals go_wp2_with fail
      all_goals exact ⟨⟨k + 1, by omega, by go_num, HB1.out.trans (((Below.refl _ wr).drew.trans hb1).mono hsz)⟩, by simp [intOf]; omega⟩
    · obtain rfl : k = n := by omega
      go_wp2_with fail
      go_ret
      exact ⟨rfl, HB1.out⟩

set_option maxHeartbeats 2000000 in
theorem markBucketS (k base : Nat) (v : Value) (R : List (List Value)) (w : World) (hv : Owns w base 57 2 v R) (hl : R.length ≤ 2097152) (h2 : k ≤ 10000000) :
    Calls Try.prog 18 #[v, .int .i64 (k : Int)] w fun e w' => e = .returned (.int .i64 ((k + 2 * R.length : Nat) : Int)) ∧ Owns w' base 57 2 v (newR (mkPt k) R.length) ∧ Below base w w' ∧ (∀ g, v.ownBlock ≠ some g → w'.heap[g]? = w.heap[g]?) := by
  obtain ⟨A, ca, rfl⟩ : ∃ A ca, v = .slice A R.length ca := by
    rcases hv.2.2 with ⟨rfl, h0⟩ | ⟨g, c, cur, rfl, _⟩
    · exact ⟨none, 0, by rw [h0]⟩
    · exact ⟨_, _, rfl⟩
  have HV : Hid (Owns w base 57 2 (.slice A R.length ca) R) := hv
  have q1 : (R.length : Int) ≤ 2097152 := by omega
  have q3 : (k : Int) ≤ 10000000 := by omega
  clear hv hl
  generalize hn : R.length = n at *
  go_enter Try.func18, Try.ntmps18
  go_wp2_with fail
  go_loopw [1, 5] (fun v1 v5 wr => ∃ j : Nat, j ≤ n ∧ v5 = .int .i64 (j : Int) ∧ v1 = .int .i64 ((k + 2 * j : Nat) : Int) ∧ Owns wr base 57 2 (.slice A n ca) (partR (mkPt k) R j) ∧ Below base w wr ∧ (∀ g, (Value.slice A n ca).ownBlock ≠ some g → wr.heap[g]? = w.heap[g]?)) (fun _ i _ => n - (intOf i).toNat)
  case atStart => exact ⟨0, by omega, rfl, by simp, by rw [partR_zero]; exact HV.out, Below.refl _ _, fun _ _ => rfl⟩
  case round =>
    obtain ⟨j, hj, rfl, rfl, hS, hB, hK⟩ := hrel
    have HS : Hid (Owns wr base 57 2 (.slice A n ca) (partR (mkPt k) R j)) := hS
    have HB : Hid (Below base w wr) := hB
    have HK : Hid (∀ g, (Value.slice A n ca).ownBlock ≠ some g → wr.heap[g]? = w.heap[g]?) := hK
    clear hS hB hK
    by_cases hlt : j < n
    · have q2 : (j : Int) < (n : Int) := by omega
      obtain ⟨g, rfl, hgb⟩ : ∃ g, A = some ⟨g, 0, none⟩ ∧ base ≤ g := by
        rcases HS.out.2.2 with ⟨e, h0⟩ | ⟨g, c, cur, e, hg, _⟩
        · rw [partR_length _ _ _ (by omega), hn] at h0; omega
        · cases e; exact ⟨g, rfl, hg⟩
      have HG : Hid (base ≤ g) := hgb
      have hpl : (partR (mkPt k) R j).length = n := by rw [partR_length _ _ _ (by omega), hn]
      have hO := HS.out
      rw [show (Value.slice (some ⟨g, 0, none⟩) n ca) = .slice (some ⟨g, 0, none⟩) (partR (mkPt k) R j).length ca by rw [hpl]] at hO
      obtain ⟨y0, d0⟩ := hO.cellX j 0 (by rw [hpl]; exact hlt) (by omega)
      have f0 := hO.free (j * 2)
      obtain ⟨y1, d1⟩ := hO.cellX j 1 (by rw [hpl]; exact hlt) (by omega)
      have f1 := hO.free (j * 2 + 1)
      rw [Nat.add_zero] at d0
      have hP := hO.put2 j (by rw [hpl]; exact hlt) (.int .i64 ((k + 2 * j : Nat) : Int)) (.int .i64 (((k + 2 * j : Nat) : Int) + 1))
      rw [hpl, show [Value.int .i64 ((k + 2 * j : Nat) : Int), .int .i64 (((k + 2 * j : Nat) : Int) + 1)] = mkPt k j from rfl, partR_set _ _ _ (by omega)] at hP
      have HM : Hid (((k + 2 * (j + 1) : Nat) : Int) = ((k + 2 * j : Nat) : Int) + 2) := by unfold Hid; omega
      have q4 : ((k + 2 * j : Nat) : Int) ≤ 20000000 := by omega
      generalize k + 2 * j = m at *
      have HP : Hid (Owns ((wr.setCell ⟨g, j * 2, none⟩ (.int .i64 (m : Int))).setCell ⟨g, j * 2 + 1, none⟩ (.int .i64 ((m : Int) + 1))) base 57 2 (.slice (some ⟨g, 0, none⟩) n ca) (partR (mkPt k) R (j + 1))) := hP
      have HD : Hid (Below base w ((wr.setCell ⟨g, j * 2, none⟩ (.int .i64 (m : Int))).setCell ⟨g, j * 2 + 1, none⟩ (.int .i64 ((m : Int) + 1)))) := (HB.out.setCell (show base ≤ g from HG.out) _).setCell (show base ≤ g from HG.out) _
      have HE : Hid (∀ b, (Value.slice (some ⟨g, 0, none⟩) n ca).ownBlock ≠ some b → ((wr.setCell ⟨g, j * 2, none⟩ (.int .i64 (m : Int))).setCell ⟨g, j * 2 + 1, none⟩ (.int .i64 ((m : Int) + 1))).heap[b]? = w.heap[b]?) := fun b hne => by
        rw [Below.heap_setCell _ _ _ _ (show b ≠ g from fun e => hne (by rw [e]; rfl)), Below.heap_setCell _ _ _ _ (show b ≠ g from fun e => hne (by rw [e]; rfl))]
        exact HK.out b hne
      clear hO hP hpl
      go_wp2_with fail
      go_roundw
      case rel => exact ⟨j + 1, by omega, by go_num, by rw [HM.out]; go_num, HP.out, HD.out, HE.out⟩
      case measure => simp [intOf]; omega
    · obtain rfl : j = n := by omega
      go_wp2_with fail
      go_ret
      refine ⟨rfl, ?_, HB.out, HK.out⟩
      have := HS.out
      rw [← hn, partR_all] at this
      rw [← hn]
      exact this

set_option maxHeartbeats 2000000 in
theorem heldBucketS (k n : Nat) (v : Value) (w : World) (B : Nat) (hv : Lies w B 2 v (newR (mkPt k) n)) (hl : n ≤ 2097152) (h2 : k ≤ 10000000) :
    Calls Try.prog 19 #[v, .int .i64 (k : Int)] w fun e w' => e = .returned (.int .i64 ((k + 2 * n : Nat) : Int)) ∧ w = w' := by
  obtain ⟨A, ca, rfl, hl'⟩ := mkPt_look hv
  have HL : Hid (∀ j, j < n → ∃ g off, A = some ⟨g, off, none⟩ ∧ g < B ∧ _) := hl'
  have q1 : (n : Int) ≤ 2097152 := by omega
  have q3 : (k : Int) ≤ 10000000 := by omega
  clear hv hl hl'
  go_enter Try.func19, Try.ntmps19
  go_wp2
  go_loop [1, 5] (fun v1 v5 => ∃ j : Nat, j ≤ n ∧ v5 = .int .i64 (j : Int) ∧ v1 = .int .i64 ((k + 2 * j : Nat) : Int)) (fun _ i => n - (intOf i).toNat)
  case atStart => exact ⟨0, by omega, rfl, by simp⟩
  case round =>
    obtain ⟨j, hj, rfl, rfl⟩ := hrel
    by_cases hlt : j < n
    · have q2 : (j : Int) < (n : Int) := by omega
      obtain ⟨g, off, rfl, hg, d0, d1⟩ := HL.out j hlt
      have HM : Hid (((k + 2 * (j + 1) : Nat) : Int) = ((k + 2 * j : Nat) : Int) + 2) := by unfold Hid; omega
      have q4 : ((k + 2 * j : Nat) : Int) ≤ 20000000 := by omega
      generalize k + 2 * j = m at *
      go_wp2
      go_round
      case rel => exact ⟨j + 1, by omega, by go_num, by rw [HM.out]; go_num⟩
      case measure => simp [intOf]; omega
    · obtain rfl : j = n := by omega
      go_wp2
      go_ret
      exact ⟨rfl, rfl⟩
end Go.Proofs.Ytfloihegggkonaa
