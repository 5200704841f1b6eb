/-
  The contract of spec.l4Find.
-/
import Derived.Test.YtgpplogieohdpaaGreatRows
import Derived.Test.YtgpplogieohdpaaGreatDkNames
namespace Go.Proofs.YtgpplogieohdpaaGreat
open Go.ChangeShapes Go.WideShapes Go.ChangeAt Go.RowKit Go.PlainAid
set_option linter.unusedVariables false

/-- The links of a disk as they are now. -/
def now (d : Dsk) : List Lnk := names d.dir d.movs
/-- The place of the inode that has a name now. -/
def find (d : Dsk) (name : ByteArray) : Option Nat :=
  match linkAt (now d) name with
  | none => none
  | some i => nodAt d.nods ((now d).getD i default).id
theorem find_no {d : Dsk} {name : ByteArray} (h : linkAt (now d) name = none) : find d name = none := by unfold find; rw [h]
theorem find_yes {d : Dsk} {name : ByteArray} {i : Nat} (h : linkAt (now d) name = some i) : find d name = nodAt d.nods ((now d).getD i default).id := by unfold find; rw [h]
theorem now_len (d : Dsk) : (now d).length ≤ d.dir.length + d.movs.length := names_len _ _

end Go.Proofs.YtgpplogieohdpaaGreat
