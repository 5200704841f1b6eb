/-
  The contracts of spec.NewDisk and impl.NewDisk, and the law's walk.
-/
import Derived.Test.YtljpakpokjpemaaRows
import Derived.Test.YtljpakpokjpemaaDkMkD
import Derived.Test.YtljpakpokjpemaaDkRead
namespace Go.Proofs.Ytljpakpokjpemaa
open Go.ChangeShapes Go.WideShapes Go.ChangeAt Go.RowKit Go.PlainAid
set_option linter.unusedVariables false

/-- A disk with nothing on it. -/
def bare (room next : Int) : Value := .agg #[.int .i64 room, .int .i64 next, .slice none 0 0, .slice none 0 0, .slice none 0 0]

set_option maxHeartbeats 1000000 in
theorem spec_new_yes (room : Int) (w : World) (h0 : 0 ≤ room) (h1 : room ≤ 1048576) :
    Calls Try.prog 7 #[.int .i64 room] w fun e w' => e = .returned (.tuple #[bare room 1, .bool true]) ∧ Below w.heap.size w w' := by
  have cR := fun wx => inB room 0 1048576 wx
  rw [decide_eq_true h0, decide_eq_true h1] at cR
  unfold bare
  go_enter Try.func7, Try.ntmps7
  go_wp2_with (go_at_call 23; refine (cR _).mono ?_; rintro e w1 ⟨rfl, rfl⟩)
  exact bodyPost_ret (v := .tuple #[.agg #[.int .i64 room, .int .i64 1, .slice none 0 0, .slice none 0 0, .slice none 0 0], .bool true]) (by simp [results, Try.results7, go_sem]) rfl ⟨rfl, by
    first
    | exact (Below.refl _ _).alloc (Nat.le_refl _) _
    | exact ((Below.refl _ _).alloc (Nat.le_refl _) _).alloc (by simp) _⟩

set_option maxHeartbeats 1000000 in
theorem spec_new_no (room : Int) (w : World) (h : ¬ (0 ≤ room ∧ room ≤ 1048576)) :
    Calls Try.prog 7 #[.int .i64 room] w fun e w' => e = .returned (.tuple #[bare 0 0, .bool false]) ∧ Below w.heap.size w w' := by
  have cR := fun wx => inB room 0 1048576 wx
  have e : (decide (0 ≤ room) && decide (room ≤ 1048576)) = false := by
    by_cases h1 : 0 ≤ room
    · rw [decide_eq_false (fun h2 => h ⟨h1, h2⟩), Bool.and_false]
    · rw [decide_eq_false h1]; rfl
  rw [e] at cR
  clear e h
  unfold bare
  go_enter Try.func7, Try.ntmps7
  go_wp2_with (go_at_call 23; refine (cR _).mono ?_; rintro e w1 ⟨rfl, rfl⟩)
  exact bodyPost_ret (v := .tuple #[.agg #[.int .i64 0, .int .i64 0, .slice none 0 0, .slice none 0 0, .slice none 0 0], .bool false]) (by simp [results, Try.results7, go_sem]) rfl ⟨rfl, by
    first
    | exact (Below.refl _ _).alloc (Nat.le_refl _) _
    | exact ((Below.refl _ _).alloc (Nat.le_refl _) _).alloc (by simp) _⟩

set_option maxHeartbeats 1000000 in
theorem impl_new_yes (room : Int) (w : World) (h0 : 0 ≤ room) (h1 : room ≤ 1048576) :
    Calls Try.prog 8 #[.int .i64 room] w fun e w' => e = .returned (.tuple #[bare room 1, .bool true]) ∧ Below w.heap.size w w' := by
  have k1 : decide (room < 0) = false := decide_eq_false (by omega)
  have k2 : decide (1048576 < room) = false := decide_eq_false (by omega)
  unfold bare
  go_enter Try.func8, Try.ntmps8
  go_wp2_with fail
  exact bodyPost_ret (v := .tuple #[.agg #[.int .i64 room, .int .i64 1, .slice none 0 0, .slice none 0 0, .slice none 0 0], .bool true]) (by simp [results, Try.results8, go_sem]) rfl ⟨rfl, by
    first
    | exact (Below.refl _ _).alloc (Nat.le_refl _) _
    | exact ((Below.refl _ _).alloc (Nat.le_refl _) _).alloc (by simp) _⟩

set_option maxHeartbeats 1000000 in
theorem impl_new_no (room : Int) (w : World) (h : ¬ (0 ≤ room ∧ room ≤ 1048576)) :
    Calls Try.prog 8 #[.int .i64 room] w fun e w' => e = .returned (.tuple #[bare 0 0, .bool false]) ∧ Below w.heap.size w w' := by
  unfold bare
  by_cases h1 : room < 0
  · have k1 : decide (room < 0) = true := decide_eq_true h1
    clear h
    go_enter Try.func8, Try.ntmps8
    go_wp2_with fail
    exact bodyPost_ret (v := .tuple #[.agg #[.int .i64 0, .int .i64 0, .slice none 0 0, .slice none 0 0, .slice none 0 0], .bool false]) (by simp [results, Try.results8, go_sem]) rfl ⟨rfl, by
      first
      | exact (Below.refl _ _).alloc (Nat.le_refl _) _
      | exact ((Below.refl _ _).alloc (Nat.le_refl _) _).alloc (by simp) _⟩
  · have h2 : 1048576 < room := by omega
    have k1 : decide (room < 0) = false := decide_eq_false h1
    have k2 : decide (1048576 < room) = true := decide_eq_true h2
    clear h
    go_enter Try.func8, Try.ntmps8
    go_wp2_with fail
    exact bodyPost_ret (v := .tuple #[.agg #[.int .i64 0, .int .i64 0, .slice none 0 0, .slice none 0 0, .slice none 0 0], .bool false]) (by simp [results, Try.results8, go_sem]) rfl ⟨rfl, by
      first
      | exact (Below.refl _ _).alloc (Nat.le_refl _) _
      | exact ((Below.refl _ _).alloc (Nat.le_refl _) _).alloc (by simp) _⟩
end Go.Proofs.Ytljpakpokjpemaa
