/-
  DERIVED. GIVEN WITH THE SEED: THE CARDS: each row of YthgiekeiljflaaaGreatDoorRows.lean that lists a variable, with what it lists TIED to the program's text (the seventh form; the later family's looks); each row that meets fmt, with fmt's text TOLD by the authors' own Lean function (tested against real Go, not proved from fmt's source: count such statements apart). THE CARD IS WHAT COUNTS. Prove the row's statement (the work); the ties are given (YthgiekeiljflaaaGreatDoorTie.lean); close each card by the builder's one call (the guide's Derived/Test/ToyasCard.lean, 'card_holds'). Laid BY PROGRAM, IN A SANDBOX (cutbox-door.mjs). By AI agents, Wed Nov 11 2026. No macro, syntax, notation, axiom, sorry.
-/
import Derived.Test.YthgiekeiljflaaaGreatDoorRows
import GoSem.ClaimSeven
namespace Go.Proofs.YthgiekeiljflaaaGreatDoor
namespace Rows

/-- THE TIED CARD OF 'laws.FnExactReadFile'. -/
def fnExactReadFileCard : Claim7 := { stood := { row := fnExactReadFileRow, standIns := [], harness := (true, "d711b7669b6a967f504385d2096e5a72db4985cef547c4d99015c382bae3e385"), looks := true }, kinds := [], alts := [], laidByText := true, laidKinds := [.data, .sentinel, .sentinel, .sentinel], laidTests := true, laidLooks := .later }
def FnExactReadFileCardSaid : Prop := Claim7.holds Tryz.pinned (.plain (OpenSpec.ofChange fnExactReadFileSpec)) fnExactReadFileCard

/-- THE TIED CARD OF 'laws.FnExactFileFind'. -/
def fnExactFileFindCard : Claim7 := { stood := { row := fnExactFileFindRow, standIns := [], harness := (true, "d711b7669b6a967f504385d2096e5a72db4985cef547c4d99015c382bae3e385"), looks := true }, kinds := [], alts := [], laidByText := true, laidKinds := [.data, .sentinel, .sentinel, .sentinel], laidTests := true, laidLooks := .later }
def FnExactFileFindCardSaid : Prop := Claim7.holds Tryz.pinned (.plain (OpenSpec.ofChange fnExactFileFindSpec)) fnExactFileFindCard

/-- THE TIED CARD OF 'laws.FnExactFileSpan'. -/
def fnExactFileSpanCard : Claim7 := { stood := { row := fnExactFileSpanRow, standIns := [], harness := (true, "d711b7669b6a967f504385d2096e5a72db4985cef547c4d99015c382bae3e385"), looks := true }, kinds := [], alts := [], laidByText := true, laidKinds := [.data, .sentinel, .sentinel, .sentinel], laidTests := true, laidLooks := .later }
def FnExactFileSpanCardSaid : Prop := Claim7.holds Tryz.pinned (.plain (OpenSpec.ofChange fnExactFileSpanSpec)) fnExactFileSpanCard

/-- THE SECOND FORM's CARD OF 'laws.FnExactReadFile'. -/
def fnExactReadFileUptoCard : Claim7 := { stood := { row := fnExactReadFileUptoRow, standIns := [], harness := (true, "d711b7669b6a967f504385d2096e5a72db4985cef547c4d99015c382bae3e385"), looks := true }, kinds := [], alts := [], laidByText := true, laidKinds := [.data, .sentinel, .sentinel, .sentinel], laidTests := true, laidLooks := .later }
def FnExactReadFileUptoCardSaid : Prop := Claim7.holds Tryz.pinned (.plain (OpenSpec.upto fnExactReadFileSpec)) fnExactReadFileUptoCard

/-- THE SECOND FORM's CARD OF 'laws.FnExactFileFind'. -/
def fnExactFileFindUptoCard : Claim7 := { stood := { row := fnExactFileFindUptoRow, standIns := [], harness := (true, "d711b7669b6a967f504385d2096e5a72db4985cef547c4d99015c382bae3e385"), looks := true }, kinds := [], alts := [], laidByText := true, laidKinds := [.data, .sentinel, .sentinel, .sentinel], laidTests := true, laidLooks := .later }
def FnExactFileFindUptoCardSaid : Prop := Claim7.holds Tryz.pinned (.plain (OpenSpec.upto fnExactFileFindSpec)) fnExactFileFindUptoCard

/-- THE SECOND FORM's CARD OF 'laws.FnExactFileSpan'. -/
def fnExactFileSpanUptoCard : Claim7 := { stood := { row := fnExactFileSpanUptoRow, standIns := [], harness := (true, "d711b7669b6a967f504385d2096e5a72db4985cef547c4d99015c382bae3e385"), looks := true }, kinds := [], alts := [], laidByText := true, laidKinds := [.data, .sentinel, .sentinel, .sentinel], laidTests := true, laidLooks := .later }
def FnExactFileSpanUptoCardSaid : Prop := Claim7.holds Tryz.pinned (.plain (OpenSpec.upto fnExactFileSpanSpec)) fnExactFileSpanUptoCard
end Rows
end Go.Proofs.YthgiekeiljflaaaGreatDoor
