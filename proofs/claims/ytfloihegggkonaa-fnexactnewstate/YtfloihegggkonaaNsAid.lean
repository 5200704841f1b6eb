/-
  What the laws' comparison, marks and holds say of a state without buckets, series, files and sessions; NewState of both packages; the law FnExactNewState (no condition).
-/
import Derived.Test.YtfloihegggkonaaRows
import Derived.Test.YtfloihegggkonaaAid
import Derived.WalkKit
import Derived.ProofKit
import Derived.OpenShut
import Derived.Below
import Derived.WalkSmall
import Derived.WalkLawsBesides
import Derived.Outline
import Derived.BigQuiet
import Derived.Deep.QuietTactic
import Derived.Handy
namespace Go.Proofs.Ytfloihegggkonaa
open Go.ChangeShapes Go.WideShapes Go.ChangeAt Go.RowKit Go.PlainAid
set_option linter.unusedVariables false

theorem below_n1 (w : World) (a : Obj) : Below w.heap.size w (w.alloc a) := (Below.refl _ w).alloc (Nat.le_refl _) a
theorem below_n2 (w : World) (a b : Obj) : Below w.heap.size w ((w.alloc a).alloc b) := ((Below.refl _ w).alloc (Nat.le_refl _) a).alloc (by simp) b
/-- A state of this kind, all else zero. -/
def zeroS (k : Int) : Array Value := #[.int .i64 k, .int .i64 0, .int .i64 0, .slice none 0 0, .int .i64 0, .slice none 0 0, .slice none 0 0, .slice none 0 0]

set_option maxHeartbeats 400000 in
theorem nil_eqBucketS (w : World) : Calls Try.prog 17 #[.slice none 0 0, .slice none 0 0] w fun e w' => e = .returned (.bool true) ∧ w = w' := by
  go_enter Try.func17, Try.ntmps17
  go_wp2_with fail
  refine wp_loop_rounds 1 ?_
  rw [rounds_succ]
  go_wp2_with fail
  go_ret
  exact ⟨rfl, rfl⟩
set_option maxHeartbeats 400000 in
theorem nil_eqSeriesS (w : World) : Calls Try.prog 33 #[.slice none 0 0, .slice none 0 0] w fun e w' => e = .returned (.bool true) ∧ w = w' := by
  go_enter Try.func33, Try.ntmps33
  go_wp2_with fail
  refine wp_loop_rounds 1 ?_
  rw [rounds_succ]
  go_wp2_with fail
  go_ret
  exact ⟨rfl, rfl⟩
set_option maxHeartbeats 400000 in
theorem nil_eqStringS (w : World) : Calls Try.prog 34 #[.slice none 0 0, .slice none 0 0] w fun e w' => e = .returned (.bool true) ∧ w = w' := by
  go_enter Try.func34, Try.ntmps34
  go_wp2_with fail
  refine wp_loop_rounds 1 ?_
  rw [rounds_succ]
  go_wp2_with fail
  go_ret
  exact ⟨rfl, rfl⟩
set_option maxHeartbeats 400000 in
theorem nil_eqSessionS (w : World) : Calls Try.prog 23 #[.slice none 0 0, .slice none 0 0] w fun e w' => e = .returned (.bool true) ∧ w = w' := by
  go_enter Try.func23, Try.ntmps23
  go_wp2_with fail
  refine wp_loop_rounds 1 ?_
  rw [rounds_succ]
  go_wp2_with fail
  go_ret
  exact ⟨rfl, rfl⟩
set_option maxHeartbeats 400000 in
theorem nil_markBucketS (w : World) : Calls Try.prog 18 #[.slice none 0 0, .int .i64 1] w fun e w' => e = .returned (.int .i64 1) ∧ w = w' := by
  go_enter Try.func18, Try.ntmps18
  go_wp2_with fail
  refine wp_loop_rounds 1 ?_
  rw [rounds_succ]
  go_wp2_with fail
  go_ret
  exact ⟨rfl, rfl⟩
set_option maxHeartbeats 400000 in
theorem nil_markSeriesS (w : World) : Calls Try.prog 36 #[.slice none 0 0, .int .i64 1] w fun e w' => e = .returned (.int .i64 1) ∧ w = w' := by
  go_enter Try.func36, Try.ntmps36
  go_wp2_with fail
  refine wp_loop_rounds 1 ?_
  rw [rounds_succ]
  go_wp2_with fail
  go_ret
  exact ⟨rfl, rfl⟩
set_option maxHeartbeats 400000 in
theorem nil_markStringS (w : World) : Calls Try.prog 37 #[.slice none 0 0, .int .i64 1] w fun e w' => e = .returned (.int .i64 1) ∧ w = w' := by
  go_enter Try.func37, Try.ntmps37
  go_wp2_with fail
  refine wp_loop_rounds 1 ?_
  rw [rounds_succ]
  go_wp2_with fail
  go_ret
  exact ⟨rfl, rfl⟩
set_option maxHeartbeats 400000 in
theorem nil_markSessionS (w : World) : Calls Try.prog 25 #[.slice none 0 0, .int .i64 1] w fun e w' => e = .returned (.int .i64 1) ∧ w = w' := by
  go_enter Try.func25, Try.ntmps25
  go_wp2_with fail
  refine wp_loop_rounds 1 ?_
  rw [rounds_succ]
  go_wp2_with fail
  go_ret
  exact ⟨rfl, rfl⟩
set_option maxHeartbeats 400000 in
theorem nil_heldBucketS (w : World) : Calls Try.prog 19 #[.slice none 0 0, .int .i64 1] w fun e w' => e = .returned (.int .i64 1) ∧ w = w' := by
  go_enter Try.func19, Try.ntmps19
  go_wp2_with fail
  refine wp_loop_rounds 1 ?_
  rw [rounds_succ]
  go_wp2_with fail
  go_ret
  exact ⟨rfl, rfl⟩
set_option maxHeartbeats 400000 in
theorem nil_heldSeriesS (w : World) : Calls Try.prog 39 #[.slice none 0 0, .int .i64 1] w fun e w' => e = .returned (.int .i64 1) ∧ w = w' := by
  go_enter Try.func39, Try.ntmps39
  go_wp2_with fail
  refine wp_loop_rounds 1 ?_
  rw [rounds_succ]
  go_wp2_with fail
  go_ret
  exact ⟨rfl, rfl⟩
set_option maxHeartbeats 400000 in
theorem nil_heldStringS (w : World) : Calls Try.prog 40 #[.slice none 0 0, .int .i64 1] w fun e w' => e = .returned (.int .i64 1) ∧ w = w' := by
  go_enter Try.func40, Try.ntmps40
  go_wp2_with fail
  refine wp_loop_rounds 1 ?_
  rw [rounds_succ]
  go_wp2_with fail
  go_ret
  exact ⟨rfl, rfl⟩
set_option maxHeartbeats 400000 in
theorem nil_heldSessionS (w : World) : Calls Try.prog 27 #[.slice none 0 0, .int .i64 1] w fun e w' => e = .returned (.int .i64 1) ∧ w = w' := by
  go_enter Try.func27, Try.ntmps27
  go_wp2_with fail
  refine wp_loop_rounds 1 ?_
  rw [rounds_succ]
  go_wp2_with fail
  go_ret
  exact ⟨rfl, rfl⟩
set_option maxHeartbeats 1000000 in
theorem nil_eqEngine (w : World) : Calls Try.prog 22 #[.agg #[.int .i64 0, .slice none 0 0, .slice none 0 0], .agg #[.int .i64 0, .slice none 0 0, .slice none 0 0]] w fun e w' => e = .returned (.bool true) ∧ Below w.heap.size w w' := by
  go_enter Try.func22, Try.ntmps22
  go_wp2_with fail
  refine (nil_eqSeriesS _).mono ?_
  rintro e w' ⟨rfl, rfl⟩
  go_wp2_with fail
  refine (nil_eqStringS _).mono ?_
  rintro e w' ⟨rfl, rfl⟩
  go_wp2_with fail
  go_ret
  exact ⟨rfl, below_n2 _ _ _⟩
set_option maxHeartbeats 1000000 in
theorem nil_markEngine (w : World) : Calls Try.prog 24 #[.agg #[.int .i64 0, .slice none 0 0, .slice none 0 0], .int .i64 1] w fun e w' => e = .returned (.int .i64 1) ∧ Below w.heap.size w w' := by
  go_enter Try.func24, Try.ntmps24
  go_wp2_with fail
  refine (nil_markSeriesS _).mono ?_
  rintro e w' ⟨rfl, rfl⟩
  go_wp2_with fail
  refine (nil_markStringS _).mono ?_
  rintro e w' ⟨rfl, rfl⟩
  go_wp2_with fail
  go_ret
  exact ⟨rfl, below_n1 _ _⟩
set_option maxHeartbeats 1000000 in
theorem nil_heldEngine (w : World) : Calls Try.prog 26 #[.agg #[.int .i64 0, .slice none 0 0, .slice none 0 0], .int .i64 1] w fun e w' => e = .returned (.int .i64 1) ∧ Below w.heap.size w w' := by
  go_enter Try.func26, Try.ntmps26
  go_wp2_with fail
  refine (nil_heldSeriesS _).mono ?_
  rintro e w' ⟨rfl, rfl⟩
  go_wp2_with fail
  refine (nil_heldStringS _).mono ?_
  rintro e w' ⟨rfl, rfl⟩
  go_wp2_with fail
  go_ret
  exact ⟨rfl, below_n1 _ _⟩
set_option maxHeartbeats 1000000 in
theorem nil_eqState (k : Int) (w : World) : Calls Try.prog 12 #[.agg (zeroS k), .agg (zeroS k)] w fun e w' => e = .returned (.bool true) ∧ Below w.heap.size w w' := by
  obtain ⟨X, hX⟩ : ∃ X, X = (w.alloc (.cells (zeroS k) 36)).alloc (.cells (zeroS k) 36) := ⟨_, rfl⟩
  have HB : Hid (Below w.heap.size w X) := by rw [hX]; exact below_n2 _ _ _
  have b0 : ∀ j x, (zeroS k)[j]? = some x → X.cell? ⟨w.heap.size, j, none⟩ = some x := by
    intro j x hj
    have h0 : (w.alloc (.cells (zeroS k) 36)).heap[w.heap.size]? = some (.cells (zeroS k) 36 (0, 0)) := heap_alloc_new w _
    have h : X.heap[w.heap.size]? = some (.cells (zeroS k) 36 (0, 0)) := by
      rw [hX]
      rw [heap_alloc_old _ _ (by simp)]; exact h0
    rw [cell_of_row _ _ j _ _ (0, 0) h]
    exact hj
  have b1 : ∀ j x, (zeroS k)[j]? = some x → X.cell? ⟨w.heap.size + 1, j, none⟩ = some x := by
    intro j x hj
    have h0 : ((w.alloc (.cells (zeroS k) 36)).alloc (.cells (zeroS k) 36)).heap[(w.alloc (.cells (zeroS k) 36)).heap.size]? = some (.cells (zeroS k) 36 (0, 0)) := heap_alloc_new _ _
    have h : X.heap[w.heap.size + 1]? = some (.cells (zeroS k) 36 (0, 0)) := by
      rw [hX, ← h0]
      simp
    rw [cell_of_row _ _ j _ _ (0, 0) h]
    exact hj
  have hs : X.heap.size = w.heap.size + 2 := by rw [hX]; simp
  unfold zeroS at *
  have a7 := b0 7 _ rfl
  have c7 := b1 7 _ rfl
  clear b0 b1
  go_enter Try.func12, Try.ntmps12
  go_wp2_with fail
  refine (nil_eqBucketS _).mono ?_
  rintro e w' ⟨rfl, rfl⟩
  go_wp2_with fail
  rw [← hX]
  clear hX
  refine (nil_eqEngine _).mono ?_
  rintro e w1 ⟨rfl, hb⟩
  have e7 : w1.cell? ⟨w.heap.size, 7, none⟩ = some (.slice none 0 0) := by rw [hb.cell (p := ⟨_, _, none⟩) (by simp only; omega)]; exact a7
  have d7 : w1.cell? ⟨w.heap.size + 1, 7, none⟩ = some (.slice none 0 0) := by rw [hb.cell (p := ⟨_, _, none⟩) (by simp only; omega)]; exact c7
  have HB1 : Hid (Below w.heap.size w w1) := HB.out.trans (hb.mono HB.out.size)
  clear hb a7 c7
  go_wp2_with fail
  refine (nil_eqSessionS _).mono ?_
  rintro e w' ⟨rfl, rfl⟩
  go_wp2_with fail
  go_ret
  exact ⟨rfl, HB1.out⟩
set_option maxHeartbeats 1000000 in
theorem nil_markState (k : Int) (w : World) : Calls Try.prog 13 #[.agg (zeroS k), .int .i64 1] w fun e w' => e = .returned (.int .i64 1) ∧ Below w.heap.size w w' := by
  obtain ⟨X, hX⟩ : ∃ X, X = w.alloc (.cells (zeroS k) 36) := ⟨_, rfl⟩
  have HB : Hid (Below w.heap.size w X) := by rw [hX]; exact below_n1 _ _
  have b0 : ∀ j x, (zeroS k)[j]? = some x → X.cell? ⟨w.heap.size, j, none⟩ = some x := by
    intro j x hj
    have h0 : (w.alloc (.cells (zeroS k) 36)).heap[w.heap.size]? = some (.cells (zeroS k) 36 (0, 0)) := heap_alloc_new w _
    have h : X.heap[w.heap.size]? = some (.cells (zeroS k) 36 (0, 0)) := by
      rw [hX]
      exact h0
    rw [cell_of_row _ _ j _ _ (0, 0) h]
    exact hj
  have hs : X.heap.size = w.heap.size + 1 := by rw [hX]; simp
  unfold zeroS at *
  have a7 := b0 7 _ rfl
  clear b0
  go_enter Try.func13, Try.ntmps13
  go_wp2_with fail
  refine (nil_markBucketS _).mono ?_
  rintro e w' ⟨rfl, rfl⟩
  go_wp2_with fail
  rw [← hX]
  clear hX
  refine (nil_markEngine _).mono ?_
  rintro e w1 ⟨rfl, hb⟩
  have e7 : w1.cell? ⟨w.heap.size, 7, none⟩ = some (.slice none 0 0) := by rw [hb.cell (p := ⟨_, _, none⟩) (by simp only; omega)]; exact a7
  have HB1 : Hid (Below w.heap.size w w1) := HB.out.trans (hb.mono HB.out.size)
  clear hb a7
  go_wp2_with fail
  refine (nil_markSessionS _).mono ?_
  rintro e w' ⟨rfl, rfl⟩
  go_wp2_with fail
  go_ret
  exact ⟨rfl, HB1.out⟩
set_option maxHeartbeats 1000000 in
theorem nil_heldState (k : Int) (w : World) : Calls Try.prog 14 #[.agg (zeroS k), .int .i64 1] w fun e w' => e = .returned (.int .i64 1) ∧ Below w.heap.size w w' := by
  obtain ⟨X, hX⟩ : ∃ X, X = w.alloc (.cells (zeroS k) 36) := ⟨_, rfl⟩
  have HB : Hid (Below w.heap.size w X) := by rw [hX]; exact below_n1 _ _
  have b0 : ∀ j x, (zeroS k)[j]? = some x → X.cell? ⟨w.heap.size, j, none⟩ = some x := by
    intro j x hj
    have h0 : (w.alloc (.cells (zeroS k) 36)).heap[w.heap.size]? = some (.cells (zeroS k) 36 (0, 0)) := heap_alloc_new w _
    have h : X.heap[w.heap.size]? = some (.cells (zeroS k) 36 (0, 0)) := by
      rw [hX]
      exact h0
    rw [cell_of_row _ _ j _ _ (0, 0) h]
    exact hj
  have hs : X.heap.size = w.heap.size + 1 := by rw [hX]; simp
  unfold zeroS at *
  have a7 := b0 7 _ rfl
  clear b0
  go_enter Try.func14, Try.ntmps14
  go_wp2_with fail
  refine (nil_heldBucketS _).mono ?_
  rintro e w' ⟨rfl, rfl⟩
  go_wp2_with fail
  rw [← hX]
  clear hX
  refine (nil_heldEngine _).mono ?_
  rintro e w1 ⟨rfl, hb⟩
  have e7 : w1.cell? ⟨w.heap.size, 7, none⟩ = some (.slice none 0 0) := by rw [hb.cell (p := ⟨_, _, none⟩) (by simp only; omega)]; exact a7
  have HB1 : Hid (Below w.heap.size w w1) := HB.out.trans (hb.mono HB.out.size)
  clear hb a7
  go_wp2_with fail
  refine (nil_heldSessionS _).mono ?_
  rintro e w' ⟨rfl, rfl⟩
  go_wp2_with fail
  go_ret
  exact ⟨rfl, HB1.out⟩
set_option maxHeartbeats 1000000 in
theorem specNewState (k : Int) (w : World) : Calls Try.prog 10 #[.int .i64 k] w fun e w' => e = .returned (if k = 1 ∨ k = 2 then .tuple #[.agg (zeroS k), .bool true] else .tuple #[.agg (zeroS 0), .bool false]) ∧ Below w.heap.size w w' := by
  unfold zeroS
  by_cases h1 : k = 1
  · subst h1
    rw [if_pos (.inl rfl)]
    go_enter Try.func10, Try.ntmps10
    go_wp2
    exact bodyPost_ret (v := .tuple #[.agg (zeroS 1), .bool true]) (by simp [results, go_sem, zeroS]) rfl ⟨rfl, below_n1 _ _⟩
  · by_cases h2 : k = 2
    · subst h2
      rw [if_pos (.inr rfl)]
      go_enter Try.func10, Try.ntmps10
      go_wp2
      exact bodyPost_ret (v := .tuple #[.agg (zeroS 2), .bool true]) (by simp [results, go_sem, zeroS]) rfl ⟨rfl, below_n1 _ _⟩
    · rw [if_neg (by omega)]
      have z1 : (k != 1) = true := by simpa using h1
      have z2 : (k != 2) = true := by simpa using h2
      go_enter Try.func10, Try.ntmps10
      go_wp2
      exact bodyPost_ret (v := .tuple #[.agg (zeroS 0), .bool false]) (by simp [results, go_sem, zeroS]) rfl ⟨rfl, below_n1 _ _⟩
set_option maxHeartbeats 1000000 in
theorem implNewState (k : Int) (w : World) : Calls Try.prog 11 #[.int .i64 k] w fun e w' => e = .returned (if k = 1 ∨ k = 2 then .tuple #[.agg (zeroS k), .bool true] else .tuple #[.agg (zeroS 0), .bool false]) ∧ Below w.heap.size w w' := by
  unfold zeroS
  by_cases h1 : k = 1
  · subst h1
    rw [if_pos (.inl rfl)]
    go_enter Try.func11, Try.ntmps11
    go_wp2
    exact bodyPost_ret (v := .tuple #[.agg (zeroS 1), .bool true]) (by simp [results, go_sem, zeroS]) rfl ⟨rfl, below_n1 _ _⟩
  · by_cases h2 : k = 2
    · subst h2
      rw [if_pos (.inr rfl)]
      go_enter Try.func11, Try.ntmps11
      go_wp2
      exact bodyPost_ret (v := .tuple #[.agg (zeroS 2), .bool true]) (by simp [results, go_sem, zeroS]) rfl ⟨rfl, below_n1 _ _⟩
    · rw [if_neg (by omega)]
      have z1 : (k != 1) = true := by simpa using h1
      have z2 : (k != 2) = true := by simpa using h2
      go_enter Try.func11, Try.ntmps11
      go_wp2
      exact bodyPost_ret (v := .tuple #[.agg (zeroS 0), .bool false]) (by simp [results, go_sem, zeroS]) rfl ⟨rfl, below_n1 _ _⟩
end Go.Proofs.Ytfloihegggkonaa
