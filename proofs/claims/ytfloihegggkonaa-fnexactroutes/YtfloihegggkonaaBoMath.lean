/-
  Buckets that rise, as plain data (no program in sight).
-/
import Derived.Test.YtfloihegggkonaaPtAid
import Derived.Test.YtfloihegggkonaaAwAid
namespace Go.Proofs.Ytfloihegggkonaa
open Go.ChangeShapes Go.WideShapes Go.ChangeAt Go.RowKit Go.PlainAid
set_option linter.unusedVariables false

/-- Numbers that rise from a on, in their bounds, and shards in theirs. -/
def bokFrom : Int → List Pnt → Bool
  | _, [] => true
  | a, x :: l => inRg x.t a 10995116277 && inRg x.v 0 1 && bokFrom (x.t + 1) l
/-- From where on a further one may be. -/
def nextB : Int → List Pnt → Int
  | a, [] => a
  | _, x :: l => nextB (x.t + 1) l
theorem bok_append : ∀ (l m : List Pnt) (a : Int), bokFrom a (l ++ m) = (bokFrom a l && bokFrom (nextB a l) m)
  | [], m, a => by simp [bokFrom, nextB]
  | x :: l, m, a => by
    show (inRg x.t a 10995116277 && inRg x.v 0 1 && bokFrom (x.t + 1) (l ++ m)) = _
    rw [bok_append l m (x.t + 1)]
    simp only [bokFrom, nextB, Bool.and_assoc]
theorem nextB_last : ∀ (l : List Pnt) (a : Int) (k : Nat), l.length = k + 1 → nextB a l = tAt l k + 1
  | [], _, _, h => by simp at h
  | [x], a, 0, _ => rfl
  | [x], a, k + 1, h => by simp at h
  | x :: y :: l, a, 0, h => by simp at h
  | x :: y :: l, a, k + 1, h => nextB_last (y :: l) (x.t + 1) k (by simpa using h)
theorem bok_drop (l : List Pnt) (k : Nat) (h : k < l.length) (a : Int) : bokFrom a (l.drop k) = (inRg (l.getD k default).t a 10995116277 && inRg (l.getD k default).v 0 1 && bokFrom ((l.getD k default).t + 1) (l.drop (k + 1))) := by
  rw [List.drop_eq_getElem_cons h, getD_at l k h]
  rfl
end Go.Proofs.Ytfloihegggkonaa
