/-
  Two lemmas on rows of points (no program in sight, no condition).
-/
import Derived.Test.YtfkgaoegdnkfcaaPtRun
namespace Go.Proofs.Ytfkgaoegdnkfcaa
open Go.RowKit Go.PlainAid
theorem ptR_snoc' (l : List Pnt) (p : Pnt) : ptR (l ++ [p]) = ptR l ++ [[.int .i64 p.t, .int .i64 p.v]] := ptR_append l [p]
theorem pt_cells (x y : Int) : ∀ u ∈ ([.int .i64 x, .int .i64 y] : List Value), u.oneCell' = true := by
  intro u hu
  simp at hu
  rcases hu with rfl | rfl <;> rfl

end Go.Proofs.Ytfkgaoegdnkfcaa
