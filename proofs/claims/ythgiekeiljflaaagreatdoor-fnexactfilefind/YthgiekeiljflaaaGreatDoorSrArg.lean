/-
  An argument that is a slice of series, as it came in (no condition).
-/
import Derived.Test.YthgiekeiljflaaaGreatDoorGA
namespace Go.Proofs.YthgiekeiljflaaaGreatDoor
open Go.ChangeShapes Go.WideShapes Go.ChangeAt Go.RowKit Go.PlainAid
set_option linter.unusedVariables false

/-- The parts of series are no longer than anything can be. -/
def SFits (l : List Ser) : Prop := l.length ≤ maxLen ∧ ∀ x ∈ l, x.key.size ≤ maxLen ∧ x.pts.length ≤ maxLen
section
variable {H : Type} {enc : TypeId × Value → H} {w : World} {base : Nat} {spare : Nat → Bool} {held : Bool}

end
end Go.Proofs.YthgiekeiljflaaaGreatDoor
