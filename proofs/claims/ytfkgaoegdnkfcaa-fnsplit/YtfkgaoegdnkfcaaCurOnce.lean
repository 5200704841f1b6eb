/-
  The contract of spec.l1Once.
-/
import Derived.Test.YtfkgaoegdnkfcaaRows
import Derived.Test.YtfkgaoegdnkfcaaCursor
namespace Go.Proofs.Ytfkgaoegdnkfcaa
open Go.ChangeShapes Go.WideShapes Go.ChangeAt Go.RowKit Go.PlainAid
set_option linter.unusedVariables false

set_option maxHeartbeats 400000 in
theorem once_any (w : World) (p : Nat) (ao : Option Addr) (len cap : Nat) (cs : Nat → Nat) (s : Pos) (n : Int) (hn : n ≤ 9223372036854775807) (h : At w p ao len cap cs s) :
    Calls Try.prog 36 #[.pointer (some ⟨p, 0, none⟩), .int .i64 n] w fun e w' => e = .returned (.bool (belowV len cs n s == 0)) ∧ At w' p ao len cap cs (belowP len n s) ∧ Mod w.heap.size p w w' := by
  have HA : Hid (At w p ao len cap cs s) := h
  clear h
  go_enter Try.func36, Try.ntmps36
  go_wp2_with fail
  refine (below_any _ p ao len cap cs s n hn HA.out).mono ?_
  rintro e w1 ⟨rfl, hA1, hm1⟩
  go_wp2_with fail
  go_ret
  exact ⟨rfl, hA1, hm1⟩
end Go.Proofs.Ytfkgaoegdnkfcaa
