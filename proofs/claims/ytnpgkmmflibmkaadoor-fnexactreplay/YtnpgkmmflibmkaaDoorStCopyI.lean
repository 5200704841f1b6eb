/-
  Contracts of impl.firstOf and impl.copyWal.
-/
import Derived.Test.YtnpgkmmflibmkaaDoorRows
import Derived.Test.YtnpgkmmflibmkaaDoorStAid
import Derived.Test.YtnpgkmmflibmkaaDoorWkTo
import Derived.Test.YtnpgkmmflibmkaaDoorClone
import Derived.Test.YtnpgkmmflibmkaaDoorUntil
import Derived.Handy
import Derived.Deep.RegionHeld3
namespace Go.Proofs.YtnpgkmmflibmkaaDoor
open Go.ChangeShapes Go.WideShapes Go.ChangeAt Go.RowKit Go.PlainAid
set_option linter.unusedVariables false

set_option maxHeartbeats 400000 in
theorem firstV (A : Option Addr) (m c k : Nat) (w : World) (h : k ≤ m) (hc : m ≤ c) : Calls Tryd.prog 34 #[.slice A m c, .int .i64 (k : Int)] w fun e w' => e = .returned (if k = 0 then .slice none 0 0 else .slice A k c) ∧ w = w' := by
  by_cases h0 : k = 0
  · subst h0
    rw [if_pos rfl]
    go_enter Tryd.func34, Tryd.ntmps34
    go_wp2
    go_ret
    exact ⟨rfl, rfl⟩
  · rw [if_neg h0]
    have z : ((k : Int) == 0) = false := by simp only [beq_eq_false_iff_ne, ne_eq]; omega
    have i0 : (0 : Int) ≤ (k : Int) := by omega
    have i1 : (k : Int) ≤ (c : Int) := by omega
    have i2 : (k : Int) ≤ (m : Int) := by omega
    clear h h0 hc
    go_enter Tryd.func34, Tryd.ntmps34
    go_wp2
    go_ret
    exact ⟨rfl, rfl⟩

end Go.Proofs.YtnpgkmmflibmkaaDoor
