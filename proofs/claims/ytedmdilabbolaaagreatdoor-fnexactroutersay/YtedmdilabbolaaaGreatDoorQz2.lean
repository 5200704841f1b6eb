/- Fix Frame FrLaid AwAid OpAid RtRow NumV NumR BtZig BtAid BtRd BtRow -/
import Derived.Test.YtedmdilabbolaaaGreatDoorRows
import Derived.Test.YtedmdilabbolaaaGreatDoorQz0
import Derived.WalkKit
import Derived.ProofKit
import Derived.OpenShut
import Derived.Below
import Derived.Handy
import Derived.WalkLawsBesides
import Derived.Outline
import Derived.Deep.OwnRows
import Derived.WalkSmall
import Derived.ChangeVars
import Derived.LaidMore
import Derived.Lay
import Derived.RowKitTokens
import Derived.Stop.LaidErr
import Derived.Stop.LaidTwo
import Derived.BigQuiet
import Derived.Deep.QuietTactic
import Derived.Deep.Slices
import Derived.ChangeArms
import Derived.WalkSpells
import Derived.WalkMore
import Derived.Deep.RegionHeld3
import Derived.Deep.RegionLaw
import Derived.Deep.DrawnRows
import Derived.Test.YtedmdilabbolaaaGreatDoorQz1
import Derived.Test.YtedmdilabbolaaaGreatDoorQr0
import Derived.Test.YtedmdilabbolaaaGreatDoorQr1
import Derived.Test.YtedmdilabbolaaaGreatDoorQr2
import Derived.Test.YtedmdilabbolaaaGreatDoorQr3
import Derived.Test.YtedmdilabbolaaaGreatDoorQr4
import Derived.Test.YtedmdilabbolaaaGreatDoorQr5
import Derived.Test.YtedmdilabbolaaaGreatDoorQr6
import Derived.Test.YtedmdilabbolaaaGreatDoorQr7
open List (setIfInBounds_toArray set_cons_zero set_cons_succ)
namespace Go.Proofs.YtedmdilabbolaaaGreatDoor
open Go.ChangeShapes Go.WideShapes Go.ChangeAt Go.RowKit Go.PlainAid
set_option linter.unusedVariables false
end Go.Proofs.YtedmdilabbolaaaGreatDoor
namespace Go.Proofs.YtedmdilabbolaaaGreatDoor
open Go.ChangeShapes Go.WideShapes Go.ChangeAt Go.RowKit Go.PlainAid
set_option linter.unusedVariables false
end Go.Proofs.YtedmdilabbolaaaGreatDoor
namespace Go.Proofs.YtedmdilabbolaaaGreatDoor
open Go.ChangeShapes Go.WideShapes Go.ChangeAt Go.RowKit
set_option linter.unusedVariables false
end Go.Proofs.YtedmdilabbolaaaGreatDoor
namespace Go.Proofs.YtedmdilabbolaaaGreatDoor
open Go.ChangeShapes Go.WideShapes Go.ChangeAt Go.RowKit Go.PlainAid
set_option linter.unusedVariables false
instance:Inhabited Ans:=⟨⟨0,0,0,ByteArray.empty⟩⟩
end Go.Proofs.YtedmdilabbolaaaGreatDoor
namespace Go.Proofs.YtedmdilabbolaaaGreatDoor
open Go.ChangeShapes Go.WideShapes Go.ChangeAt Go.RowKit Go.PlainAid
set_option linter.unusedVariables false
section
variable {H:Type} {enc:TypeId×Value→H} {w:World} {base:Nat} {spare:Nat→Bool} {held:Bool}
end
end Go.Proofs.YtedmdilabbolaaaGreatDoor
namespace Go.Proofs.YtedmdilabbolaaaGreatDoor
open Go.ChangeShapes Go.WideShapes Go.ChangeAt Go.RowKit Go.PlainAid
set_option linter.unusedVariables false
instance:Inhabited Tdo:=⟨⟨0,0,ByteArray.empty,0,0,ByteArray.empty⟩⟩
instance:Inhabited Lgx:=⟨⟨0,0,0,ByteArray.empty,0,0,ByteArray.empty,0,0,0,ByteArray.empty⟩⟩
theorem tdoR_length (l:List Tdo):(tdoR l).length=l.length:=by simp[tdoR]
section
variable {w:World} {base g cap:Nat} {e:TypeId} {rows:List (List Value)}
end
theorem lgxR_length (l:List Lgx):(lgxR l).length=l.length:=by simp[lgxR]
section
variable {w:World} {base g cap:Nat} {e:TypeId} {rows:List (List Value)}
end
end Go.Proofs.YtedmdilabbolaaaGreatDoor
namespace Go.Proofs.YtedmdilabbolaaaGreatDoor
open Go.ChangeShapes Go.WideShapes Go.ChangeAt Go.RowKit Go.PlainAid
set_option linter.unusedVariables false
end Go.Proofs.YtedmdilabbolaaaGreatDoor
namespace Go.Proofs.YtedmdilabbolaaaGreatDoor
open Go.ChangeShapes Go.WideShapes Go.ChangeAt Go.RowKit Go.PlainAid
set_option linter.unusedVariables false
end Go.Proofs.YtedmdilabbolaaaGreatDoor
namespace Go.Proofs.YtedmdilabbolaaaGreatDoor
open Go.ChangeShapes Go.WideShapes Go.ChangeAt Go.RowKit Go.PlainAid
set_option linter.unusedVariables false
end Go.Proofs.YtedmdilabbolaaaGreatDoor
namespace Go.Proofs.YtedmdilabbolaaaGreatDoor
open Go.RowKit Go.PlainAid
instance (l:List Int):Decidable (VOk l):=by unfold VOk;infer_instance
instance (l:List Int):Decidable (TOk l):=by unfold TOk;infer_instance
end Go.Proofs.YtedmdilabbolaaaGreatDoor
namespace Go.Proofs.YtedmdilabbolaaaGreatDoor
open Go.ChangeShapes Go.WideShapes Go.ChangeAt Go.RowKit Go.PlainAid
set_option linter.unusedVariables false
end Go.Proofs.YtedmdilabbolaaaGreatDoor
namespace Go.Proofs.YtedmdilabbolaaaGreatDoor
open Go.ChangeShapes Go.WideShapes Go.ChangeAt Go.RowKit Go.PlainAid
set_option linter.unusedVariables false
end Go.Proofs.YtedmdilabbolaaaGreatDoor
