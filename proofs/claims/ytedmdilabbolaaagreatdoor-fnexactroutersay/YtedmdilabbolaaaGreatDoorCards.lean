/-
  DERIVED. GIVEN WITH THE SEED: THE CARDS: each row of YtedmdilabbolaaaGreatDoorRows.lean that lists a variable, with what it lists TIED to the program's text (the seventh form; the later family's looks); each row that meets fmt, with fmt's text TOLD by the authors' own Lean function (tested against real Go, not proved from fmt's source: count such statements apart). THE CARD IS WHAT COUNTS. Prove the row's statement (the work); the ties are given (YtedmdilabbolaaaGreatDoorTie.lean); close each card by the builder's one call (the guide's Derived/Test/ToyasCard.lean, 'card_holds'). Laid BY PROGRAM, IN A SANDBOX (cutbox-door.mjs). By AI agents, Wed Nov 11 2026. No macro, syntax, notation, axiom, sorry.
-/
import Derived.Test.YtedmdilabbolaaaGreatDoorRows
import GoSem.ClaimSeven
namespace Go.Proofs.YtedmdilabbolaaaGreatDoor
namespace Rows

/-- THE TIED CARD OF 'laws.FnExactRouterOk'. -/
def fnExactRouterOkCard : Claim7 := { stood := { row := fnExactRouterOkRow, standIns := [], harness := (true, "8681887094fdab3f677635f38344d5c27c3d781860b94c21de0ba08fe9933e83"), looks := true }, kinds := [], alts := [], laidByText := true, laidKinds := [.data, .sentinel, .sentinel, .sentinel], laidTests := true, laidLooks := .later }
def FnExactRouterOkCardSaid : Prop := Claim7.holds Tryz.pinned (.plain (OpenSpec.ofChange fnExactRouterOkSpec)) fnExactRouterOkCard

/-- THE TIED CARD OF 'laws.FnExactRouterSay'. -/
def fnExactRouterSayCard : Claim7 := { stood := { row := fnExactRouterSayRow, standIns := [], harness := (true, "8681887094fdab3f677635f38344d5c27c3d781860b94c21de0ba08fe9933e83"), looks := true }, kinds := [], alts := [], laidByText := true, laidKinds := [.data, .sentinel, .sentinel, .sentinel], laidTests := true, laidLooks := .later }
def FnExactRouterSayCardSaid : Prop := Claim7.holds Tryz.pinned (.plain (OpenSpec.ofChange fnExactRouterSaySpec)) fnExactRouterSayCard

/-- THE TIED CARD OF 'laws.FnCalled'. -/
def fnCalledCard : Claim7 := { stood := { row := fnCalledRow, standIns := [], harness := (true, "8681887094fdab3f677635f38344d5c27c3d781860b94c21de0ba08fe9933e83"), looks := true }, kinds := [], alts := [], laidByText := true, laidKinds := [.data, .sentinel, .sentinel, .sentinel], laidTests := true, laidLooks := .later }
def FnCalledCardSaid : Prop := Claim7.holds Tryz.pinned (.plain (OpenSpec.ofChange fnCalledSpec)) fnCalledCard

/-- THE SECOND FORM's CARD OF 'laws.FnExactRouterOk'. -/
def fnExactRouterOkUptoCard : Claim7 := { stood := { row := fnExactRouterOkUptoRow, standIns := [], harness := (true, "8681887094fdab3f677635f38344d5c27c3d781860b94c21de0ba08fe9933e83"), looks := true }, kinds := [], alts := [], laidByText := true, laidKinds := [.data, .sentinel, .sentinel, .sentinel], laidTests := true, laidLooks := .later }
def FnExactRouterOkUptoCardSaid : Prop := Claim7.holds Tryz.pinned (.plain (OpenSpec.upto fnExactRouterOkSpec)) fnExactRouterOkUptoCard

/-- THE SECOND FORM's CARD OF 'laws.FnExactRouterSay'. -/
def fnExactRouterSayUptoCard : Claim7 := { stood := { row := fnExactRouterSayUptoRow, standIns := [], harness := (true, "8681887094fdab3f677635f38344d5c27c3d781860b94c21de0ba08fe9933e83"), looks := true }, kinds := [], alts := [], laidByText := true, laidKinds := [.data, .sentinel, .sentinel, .sentinel], laidTests := true, laidLooks := .later }
def FnExactRouterSayUptoCardSaid : Prop := Claim7.holds Tryz.pinned (.plain (OpenSpec.upto fnExactRouterSaySpec)) fnExactRouterSayUptoCard

/-- THE SECOND FORM's CARD OF 'laws.FnCalled'. -/
def fnCalledUptoCard : Claim7 := { stood := { row := fnCalledUptoRow, standIns := [], harness := (true, "8681887094fdab3f677635f38344d5c27c3d781860b94c21de0ba08fe9933e83"), looks := true }, kinds := [], alts := [], laidByText := true, laidKinds := [.data, .sentinel, .sentinel, .sentinel], laidTests := true, laidLooks := .later }
def FnCalledUptoCardSaid : Prop := Claim7.holds Tryz.pinned (.plain (OpenSpec.upto fnCalledSpec)) fnCalledUptoCard
end Rows
end Go.Proofs.YtedmdilabbolaaaGreatDoor
