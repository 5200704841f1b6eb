/-
  What ZigZag and UnZig answer, and that both packages' do; the two laws.
-/
import Derived.Test.YtfloihegggkonaaRows
import Derived.Test.YtfloihegggkonaaAid
import Derived.Test.YtfloihegggkonaaNumV
namespace Go.Proofs.Ytfloihegggkonaa
open Go.ChangeShapes Go.WideShapes Go.ChangeAt Go.RowKit Go.PlainAid
set_option linter.unusedVariables false

/-- What ZigZag answers. -/
def zig (n : Int) : Int := if n < -140737488355328 ∨ 140737488355328 < n then -1 else if n < 0 then -2 * n - 1 else 2 * n
/-- The number that UnZig answers. -/
def unz (z : Int) : Int := if z < 0 ∨ 281474976710656 < z then 0 else if z % 2 = 1 then -((z + 1) / 2) else z / 2
/-- Whether there is one. -/
def zok (z : Int) : Bool := decide (0 ≤ z ∧ z ≤ 281474976710656)
theorem zig_range (n : Int) : -1 ≤ zig n ∧ zig n ≤ 281474976710656 := by unfold zig; (repeat' split) <;> omega
theorem zig_pos (n : Int) (h1 : -140737488355328 ≤ n) (h2 : n ≤ 140737488355328) : 0 ≤ zig n := by unfold zig; (repeat' split) <;> omega
theorem unz_range (z : Int) : -140737488355328 ≤ unz z ∧ unz z ≤ 140737488355328 := by unfold unz; (repeat' split) <;> omega
theorem unz_zig (n : Int) (h1 : -140737488355328 ≤ n) (h2 : n ≤ 140737488355328) : unz (zig n) = n := by
  unfold zig
  rw [if_neg (by omega)]
  by_cases h : n < 0
  · rw [if_pos h]; unfold unz; rw [if_neg (by omega), if_pos (by omega)]; omega
  · rw [if_neg h]; unfold unz; rw [if_neg (by omega), if_neg (by omega)]; omega
theorem zig_unz (z : Int) (h1 : 0 ≤ z) (h2 : z ≤ 281474976710656) : zig (unz z) = z := by
  unfold unz
  rw [if_neg (by omega)]
  by_cases h : z % 2 = 1
  · rw [if_pos h]; unfold zig; rw [if_neg (by omega), if_pos (by omega)]; omega
  · rw [if_neg h]; unfold zig; rw [if_neg (by omega), if_neg (by omega)]; omega

end Go.Proofs.Ytfloihegggkonaa
