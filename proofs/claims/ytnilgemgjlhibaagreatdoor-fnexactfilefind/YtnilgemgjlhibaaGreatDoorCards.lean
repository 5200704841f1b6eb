/-
  DERIVED. GIVEN WITH THE SEED: THE CARDS: each row of YtnilgemgjlhibaaGreatDoorRows.lean that lists a variable, with what it lists TIED to the program's text (the seventh form; the later family's looks); each row that meets fmt, with fmt's text TOLD by the authors' own Lean function (tested against real Go, not proved from fmt's source: count such statements apart). THE CARD IS WHAT COUNTS. Prove the row's statement (the work); the ties are given (YtnilgemgjlhibaaGreatDoorTie.lean); close each card by the builder's one call (the guide's Derived/Test/ToyasCard.lean, 'card_holds'). Laid BY PROGRAM, IN A SANDBOX (cutbox-door.mjs). By AI agents, Wed Nov 11 2026. No macro, syntax, notation, axiom, sorry.
-/
import Derived.Test.YtnilgemgjlhibaaGreatDoorRows
import GoSem.ClaimSeven
namespace Go.Proofs.YtnilgemgjlhibaaGreatDoor
namespace Rows

/-- THE TIED CARD OF 'laws.FnExactFileFind'. -/
def fnExactFileFindCard : Claim7 := { stood := { row := fnExactFileFindRow, standIns := [], harness := (true, "aaeba0463cbfa081dea2a8ade31d40abeb9e63118eb3b2684646703450ec8461"), looks := true }, kinds := [], alts := [], laidByText := true, laidKinds := [.data, .sentinel, .sentinel, .sentinel], laidTests := true, laidLooks := .later }
def FnExactFileFindCardSaid : Prop := Claim7.holds Tryz.pinned (.plain (OpenSpec.ofChange fnExactFileFindSpec)) fnExactFileFindCard

/-- THE SECOND FORM's CARD OF 'laws.FnExactFileFind'. -/
def fnExactFileFindUptoCard : Claim7 := { stood := { row := fnExactFileFindUptoRow, standIns := [], harness := (true, "aaeba0463cbfa081dea2a8ade31d40abeb9e63118eb3b2684646703450ec8461"), looks := true }, kinds := [], alts := [], laidByText := true, laidKinds := [.data, .sentinel, .sentinel, .sentinel], laidTests := true, laidLooks := .later }
def FnExactFileFindUptoCardSaid : Prop := Claim7.holds Tryz.pinned (.plain (OpenSpec.upto fnExactFileFindSpec)) fnExactFileFindUptoCard
end Rows
end Go.Proofs.YtnilgemgjlhibaaGreatDoor
