/-
  What ZigZag and UnZig answer, and that both packages' do; the two laws.
-/
import Derived.Test.YthgiekeiljflaaaDoorRows
import Derived.Test.YthgiekeiljflaaaDoorAid
import Derived.Test.YthgiekeiljflaaaDoorNumV
namespace Go.Proofs.YthgiekeiljflaaaDoor
open Go.ChangeShapes Go.WideShapes Go.ChangeAt Go.RowKit Go.PlainAid
set_option linter.unusedVariables false

/-- What ZigZag answers. -/
def zig (n : Int) : Int := if n < -140737488355328 ∨ 140737488355328 < n then -1 else if n < 0 then -2 * n - 1 else 2 * n
/-- The number that UnZig answers. -/
def unz (z : Int) : Int := if z < 0 ∨ 281474976710656 < z then 0 else if z % 2 = 1 then -((z + 1) / 2) else z / 2
/-- Whether there is one. -/
def zok (z : Int) : Bool := decide (0 ≤ z ∧ z ≤ 281474976710656)
theorem zig_range (n : Int) : -1 ≤ zig n ∧ zig n ≤ 281474976710656 := by unfold zig; (repeat' split) <;> omega
theorem zig_pos (n : Int) (h1 : -140737488355328 ≤ n) (h2 : n ≤ 140737488355328) : 0 ≤ zig n := by unfold zig; (repeat' split) <;> omega
theorem unz_range (z : Int) : -140737488355328 ≤ unz z ∧ unz z ≤ 140737488355328 := by unfold unz; (repeat' split) <;> omega
theorem unz_zig (n : Int) (h1 : -140737488355328 ≤ n) (h2 : n ≤ 140737488355328) : unz (zig n) = n := by
  unfold zig
  rw [if_neg (by omega)]
  by_cases h : n < 0
  · rw [if_pos h]; unfold unz; rw [if_neg (by omega), if_pos (by omega)]; omega
  · rw [if_neg h]; unfold unz; rw [if_neg (by omega), if_neg (by omega)]; omega
theorem zig_unz (z : Int) (h1 : 0 ≤ z) (h2 : z ≤ 281474976710656) : zig (unz z) = z := by
  unfold unz
  rw [if_neg (by omega)]
  by_cases h : z % 2 = 1
  · rw [if_pos h]; unfold zig; rw [if_neg (by omega), if_pos (by omega)]; omega
  · rw [if_neg h]; unfold zig; rw [if_neg (by omega), if_neg (by omega)]; omega

set_option maxHeartbeats 400000 in
theorem impl_zig (n : Int) (w : World) (hn1 : -9223372036854775808 ≤ n) (hn2 : n ≤ 9223372036854775807) : Calls Tryd.prog 89 #[.int .i64 n] w fun e w' => e = .returned (.int .i64 (zig n)) ∧ w = w' := by
  by_cases h1 : n < -140737488355328
  · have e : zig n = -1 := by unfold zig; rw [if_pos (by omega)]
    rw [e]
    go_enter Tryd.func89, Tryd.ntmps89
    go_wp2
    go_ret
    exact ⟨rfl, rfl⟩
  by_cases h2 : 140737488355328 < n
  · have e : zig n = -1 := by unfold zig; rw [if_pos (by omega)]
    rw [e]
    go_enter Tryd.func89, Tryd.ntmps89
    go_wp2
    go_ret
    exact ⟨rfl, rfl⟩
  by_cases h3 : n < 0
  · have e : zig n = -2 * n - 1 := by unfold zig; rw [if_neg (by omega), if_pos h3]
    rw [e]
    go_enter Tryd.func89, Tryd.ntmps89
    go_wp2
    go_ret
    exact ⟨by go_num, rfl⟩
  · have e : zig n = 2 * n := by unfold zig; rw [if_neg (by omega), if_neg h3]
    rw [e]
    go_enter Tryd.func89, Tryd.ntmps89
    go_wp2
    go_ret
    exact ⟨by go_num, rfl⟩

set_option maxHeartbeats 400000 in
theorem spec_zig (n : Int) (w : World) (hn1 : -9223372036854775808 ≤ n) (hn2 : n ≤ 9223372036854775807) : Calls Tryd.prog 79 #[.int .i64 n] w fun e w' => e = .returned (.int .i64 (zig n)) ∧ w = w' := by
  by_cases h1 : n < -140737488355328 ∨ 140737488355328 < n
  · have e : zig n = -1 := by unfold zig; rw [if_pos h1]
    rw [e]
    have c := fun wx => in_no n (-140737488355328) 140737488355328 wx h1
    go_enter Tryd.func79, Tryd.ntmps79
    go_wp2_with (go_at_call 59; refine (c _).mono ?_; rintro e w' ⟨rfl, rfl⟩)
    go_ret
    exact ⟨rfl, rfl⟩
  have c := fun wx => in_yes n (-140737488355328) 140737488355328 wx (by omega) (by omega)
  by_cases h3 : n < 0
  · have e : zig n = -2 * n - 1 := by unfold zig; rw [if_neg (by omega), if_pos h3]
    rw [e]
    have q1 : -140737488355328 ≤ n := by omega
    clear h1
    go_enter Tryd.func79, Tryd.ntmps79
    go_wp2_with (go_at_call 59; refine (c _).mono ?_; rintro e w' ⟨rfl, rfl⟩)
    go_ret
    exact ⟨by go_num, rfl⟩
  · have e : zig n = 2 * n := by unfold zig; rw [if_neg (by omega), if_neg h3]
    rw [e]
    have q1 : n ≤ 140737488355328 := by omega
    clear h1
    go_enter Tryd.func79, Tryd.ntmps79
    go_wp2_with (go_at_call 59; refine (c _).mono ?_; rintro e w' ⟨rfl, rfl⟩)
    go_ret
    exact ⟨by go_num, rfl⟩

set_option maxHeartbeats 400000 in
theorem impl_unz (z : Int) (w : World) (hn1 : -9223372036854775808 ≤ z) (hn2 : z ≤ 9223372036854775807) : Calls Tryd.prog 100 #[.int .i64 z] w fun e w' => e = .returned (.tuple #[.int .i64 (unz z), .bool (zok z)]) ∧ w = w' := by
  by_cases h1 : z < 0
  · have e : unz z = 0 := by unfold unz; rw [if_pos (by omega)]
    have e2 : zok z = false := by unfold zok; exact decide_eq_false (by omega)
    rw [e, e2]
    go_enter Tryd.func100, Tryd.ntmps100
    go_wp2
    go_ret2
    exact ⟨rfl, rfl⟩
  by_cases h2 : 281474976710656 < z
  · have e : unz z = 0 := by unfold unz; rw [if_pos (by omega)]
    have e2 : zok z = false := by unfold zok; exact decide_eq_false (by omega)
    rw [e, e2]
    go_enter Tryd.func100, Tryd.ntmps100
    go_wp2
    go_ret2
    exact ⟨rfl, rfl⟩
  have e2 : zok z = true := by unfold zok; exact decide_eq_true (by omega)
  have q0 : 0 ≤ z := by omega
  by_cases h3 : z % 2 = 1
  · have e : unz z = -((z + 1) / 2) := by unfold unz; rw [if_neg (by omega), if_pos h3]
    have d1 : Int.tdiv (-(z + 1)) 2 = -((z + 1) / 2) := by rw [Int.neg_tdiv, Int.tdiv_eq_ediv_of_nonneg (by omega)]
    rw [e, e2]
    have d2 : wrap64 (-(z + 1)) = -(z + 1) := by unfold wrap64; omega
    go_enter Tryd.func100, Tryd.ntmps100
    go_wp2
    go_ret2
    exact ⟨by go_num, rfl⟩
  · have e : unz z = z / 2 := by unfold unz; rw [if_neg (by omega), if_neg h3]
    rw [e, e2]
    go_enter Tryd.func100, Tryd.ntmps100
    go_wp2
    go_ret2
    exact ⟨by go_num, rfl⟩

end Go.Proofs.YthgiekeiljflaaaDoor
