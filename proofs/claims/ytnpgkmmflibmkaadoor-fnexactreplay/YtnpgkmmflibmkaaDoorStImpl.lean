/-
  Contracts of impl.stepped at every record, and of impl.WalStep.
-/
import Derived.Test.YtnpgkmmflibmkaaDoorRows
import Derived.Test.YtnpgkmmflibmkaaDoorStStep
import Derived.Test.YtnpgkmmflibmkaaDoorStSpec
import Derived.Test.YtnpgkmmflibmkaaDoorReadTold
import Derived.Handy
import Derived.Deep.RegionHeld3
namespace Go.Proofs.YtnpgkmmflibmkaaDoor
open Go.ChangeShapes Go.WideShapes Go.ChangeAt Go.RowKit Go.PlainAid
set_option linter.unusedVariables false

/-- What a record makes of a right log. -/
def stepR (x : Wl) (r : Rcd) : Wl × Bool := if (recOk r && recFits x r) = true then (stepTo x r, true) else (x, false)
theorem steppedV (x : Wl) (r : Rcd) (v : Value) (w : World) (base : Nat) (hv : WalO w base v x) (hn : x.ents.length ≤ 60) (hb1 : 0 ≤ x.base) (hb2 : x.base ≤ 100000) (hB : base ≤ w.heap.size) (hd : r.data.size ≤ 1048576) :
    Calls Tryd.prog 15 #[v, recV r] w fun e w' => ∃ u b, e = .returned (.tuple #[u, .bool b]) ∧ (WalO w' base u (stepR x r).1 ∧ b = (stepR x r).2) ∧ Below base w w' := by
  cases ho : recOk r
  · have h1 : recV r = .nilIface := by unfold recV; rw [ho]; rfl
    have h2 : stepR x r = (x, false) := by unfold stepR; rw [ho]; rfl
    rw [h1, h2]
    exact stepped_nil x v w base hv hn hb1 hb2 hB
  · have h1 : recV r = kindV r := by unfold recV; rw [if_pos ho]
    have h2 : stepR x r = if recFits x r = true then (stepTo x r, true) else (x, false) := by unfold stepR; rw [ho, Bool.true_and]
    rw [h1, h2]
    obtain ⟨k, t, i, vo, d⟩ := r
    rcases rest0_of k t i vo d ho with ⟨rfl, _, _⟩ | ⟨rfl, _⟩ | ⟨rfl, _, _, _⟩ | ⟨rfl, _, _⟩
    · exact stepped_hard t i vo d x v w base hv hn hb1 hb2 hB
    · exact stepped_entry t i vo d x v w base hv hn hb1 hb2 hB hd
    · exact stepped_cut t i vo d x v w base hv hn hb1 hb2 hB
    · have h3 : recFits x ⟨4, t, i, vo, d⟩ = false := by unfold recFits; simp
      rw [h3, if_neg Bool.false_ne_true]
      exact stepped_base _ x v w base hv hn hb1 hb2 hB

end Go.Proofs.YtnpgkmmflibmkaaDoor
