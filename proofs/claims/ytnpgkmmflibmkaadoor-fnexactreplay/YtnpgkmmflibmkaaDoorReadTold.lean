/-
  Contracts of impl.toldRec and impl.ReadRec.
-/
import Derived.Test.YtnpgkmmflibmkaaDoorRows
import Derived.Test.YtnpgkmmflibmkaaDoorRcOf
import Derived.Test.YtnpgkmmflibmkaaDoorReadImpl
import Derived.Test.YtnpgkmmflibmkaaDoorClone
import Derived.LoopN
import Derived.Handy
namespace Go.Proofs.YtnpgkmmflibmkaaDoor
open Go.ChangeShapes Go.WideShapes Go.ChangeAt Go.RowKit Go.PlainAid
set_option linter.unusedVariables false


theorem rest0_of (k t i v : Int) (d : ByteArray) (h : recOk ⟨k, t, i, v, d⟩ = true) : (k = 1 ∧ i = 0 ∧ d = ⟨#[]⟩) ∨ (k = 2 ∧ v = 0) ∨ (k = 3 ∧ t = 0 ∧ v = 0 ∧ d = ⟨#[]⟩) ∨ (k = 4 ∧ v = 0 ∧ d = ⟨#[]⟩) := by
  rw [recOk_iff, Bool.and_eq_true] at h
  obtain ⟨h1, h2⟩ := h
  have h1 := of_decide_eq_true h1
  unfold rest0 at h2
  rcases (show k = 1 ∨ k = 2 ∨ k = 3 ∨ k = 4 by omega) with rfl | rfl | rfl | rfl
  · simp at h2
    exact .inl ⟨rfl, h2⟩
  · simp at h2
    exact .inr (.inl ⟨rfl, h2⟩)
  · simp at h2
    exact .inr (.inr (.inl ⟨rfl, h2.1.1, h2.1.2, h2.2⟩))
  · simp at h2
    exact .inr (.inr (.inr ⟨rfl, h2⟩))
theorem kindV_iface (r : Rcd) : ∃ a b, kindV r = .iface a b := by
  unfold kindV
  split
  · exact ⟨_, _, rfl⟩
  split
  · exact ⟨_, _, rfl⟩
  split
  · exact ⟨_, _, rfl⟩
  · exact ⟨_, _, rfl⟩
/-- What ReadRec tells of a record. -/
def toldO (r : Rcd) : Value := if recOk r = true then .tuple #[vRcd r, .bool true] else .tuple #[.agg #[.int .i64 0, .int .i64 0, .int .i64 0, .int .i64 0, .string ⟨#[]⟩], .bool false]

end Go.Proofs.YtnpgkmmflibmkaaDoor
