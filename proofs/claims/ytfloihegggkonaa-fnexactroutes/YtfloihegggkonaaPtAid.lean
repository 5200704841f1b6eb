/-
  Right points, as plain data (no program in sight, no condition).
-/
import Derived.Test.YtfloihegggkonaaPtRow
namespace Go.Proofs.Ytfloihegggkonaa
open Go.RowKit Go.PlainAid

/-- Time and value of the j-th point. -/
def tAt (l : List Pnt) (j : Nat) : Int := (l.getD j default).t
def vAt (l : List Pnt) (j : Nat) : Int := (l.getD j default).v
/-- Right points. -/
def POk (l : List Pnt) : Prop := l.length ≤ 60 ∧ ∀ j, j < l.length → ((0 ≤ tAt l j ∧ tAt l j ≤ 1099511627776) ∧ (-1099511627776 ≤ vAt l j ∧ vAt l j ≤ 1099511627776)) ∧ (0 < j → tAt l (j - 1) < tAt l j)
instance (l : List Pnt) : Decidable (POk l) := by unfold POk; infer_instance
theorem POk.nil : POk [] := ⟨by simp, fun j hj => by simp at hj⟩
end Go.Proofs.Ytfloihegggkonaa
