/-
  The cursor: some text, a text spoilt; contract of laws.at.
-/
import Derived.Test.YthgiekeiljflaaaDoorRows
import Derived.Test.YthgiekeiljflaaaDoorGH
namespace Go.Proofs.YthgiekeiljflaaaDoor
open Go.ChangeShapes Go.WideShapes Go.ChangeAt Go.RowKit Go.PlainAid
set_option linter.unusedVariables false

/-- Byte i of the code, or one that follows from it. -/
def atV (len : Nat) (cs : Nat → Nat) (i : Nat) : Nat := if i < len then cs i else (i * 37 + len * 11) % 256
theorem atV_lt {w : World} {p : Nat} {ao : Option Addr} {len : Nat} {cs : Nat → Nat} (h : CodeIs w p ao len cs) (i : Nat) : atV len cs i < 256 := by
  unfold atV
  split
  · rename_i hi
    obtain ⟨_, _, _, _, h, _⟩ := h.at hi
    exact h
  · omega
set_option maxHeartbeats 400000 in
theorem at_any (w : World) (ao : Option Addr) (len cap : Nat) (cs : Nat → Nat) (i : Nat) (hl : len ≤ 1048576) (hi : i ≤ 100000) (h : CodeIs w w.heap.size ao len cs) :
    Calls Tryd.prog 13 #[.slice ao len cap, .int .i64 (i : Int)] w fun e w' => e = .returned (.int .i64 (atV len cs i : Int)) ∧ w = w' := by
  have q : (len : Int) ≤ 1048576 := by omega
  have q2 : (i : Int) ≤ 100000 := by omega
  by_cases hlt : i < len
  · obtain ⟨cb, co, rfl, _, hb, hc⟩ := h.at hlt
    have q3 : (i : Int) < (len : Int) := by omega
    have EV : Hid (atV len cs i = cs i) := by unfold Hid; rw [atV, if_pos hlt]
    have w1 : IntKind.i64.wrap (cs i : Int) = (cs i : Int) := by rw [IntKind.wrap_i64]; omega
    generalize cs i = x at *
    clear h
    go_enter Tryd.func13, Tryd.ntmps13
    go_wp2
    go_ret
    exact ⟨by rw [EV.out]; rfl, rfl⟩
  · have q3 : (len : Int) ≤ (i : Int) := by omega
    have EV : Hid ((atV len cs i : Int) = ((i : Int) * 37 + (len : Int) * 11) % 256) := by unfold Hid; rw [atV, if_neg hlt]; omega
    clear h
    go_enter Tryd.func13, Tryd.ntmps13
    go_wp2
    go_ret
    exact ⟨by rw [EV.out]; rfl, rfl⟩
end Go.Proofs.YthgiekeiljflaaaDoor
