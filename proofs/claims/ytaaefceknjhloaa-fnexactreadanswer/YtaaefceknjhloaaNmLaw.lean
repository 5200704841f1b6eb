/-
  Contracts of the laws' own helpers over slices of numbers: toIntS, eqIntS, markIntS, heldIntS (no condition but that the slices are short).
-/
import Derived.Test.YtaaefceknjhloaaRows
import Derived.Test.YtaaefceknjhloaaAid
import Derived.Test.YtaaefceknjhloaaNmAid
import Derived.Test.YtaaefceknjhloaaLikeAid
import Derived.WalkKit
import Derived.ProofKit
import Derived.OpenShut
import Derived.Below
import Derived.WalkSmall
import Derived.WalkLawsBesides
import Derived.Outline
import Derived.BigQuiet
import Derived.Deep.QuietTactic
import Derived.Deep.RegionWith
namespace Go.Proofs.Ytaaefceknjhloaa
open Go.ChangeShapes Go.WideShapes Go.ChangeAt Go.RowKit Go.PlainAid
set_option linter.unusedVariables false

theorem Try.infoInt : (Try.prog.info? 3).map (fun i => (i.zero, i.size, i.bytes)) = some (some (.int .i64 0), 1, 8) := by kernel_rfl
theorem num_made (n : Nat) : madeCells #[.int .i64 0] (n * 1) = (numCells (List.replicate n 0)).toArray := by
  apply Array.ext'
  rw [List.toList_toArray]
  apply List.ext_getElem?
  intro k
  by_cases hk : k < n
  · simp [madeCells, numCells, hk, Nat.mod_one]
  · simp [madeCells, numCells, hk]
end Go.Proofs.Ytaaefceknjhloaa
