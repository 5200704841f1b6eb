/-
  DERIVED. GIVEN WITH THE SEED: THE CARDS: each row of YthgiekeiljflaaaDoorRows.lean that lists a variable, with what it lists TIED to the program's text (the seventh form; the later family's looks); each row that meets fmt, with fmt's text TOLD by the authors' own Lean function (tested against real Go, not proved from fmt's source: count such statements apart). THE CARD IS WHAT COUNTS. Prove the row's statement (the work); the ties are given (YthgiekeiljflaaaDoorTie.lean); close each card by the builder's one call (the guide's Derived/Test/ToyasCard.lean, 'card_holds'). Laid BY PROGRAM, IN A SANDBOX (cutbox-door.mjs). By AI agents, Wed Nov 11 2026. No macro, syntax, notation, axiom, sorry.
-/
import Derived.Test.YthgiekeiljflaaaDoorRows
import GoSem.ClaimSeven
namespace Go.Proofs.YthgiekeiljflaaaDoor
namespace Rows

/-- THE TIED CARD OF 'laws.FnFile'. -/
def fnFileCard : Claim7 := { stood := { row := fnFileRow, standIns := [], harness := (true, "3ed4bd7ed7a0fa0ae63fca34aed5589b83deedf0ee9ef1fae48b30cbdd75e680"), looks := true }, kinds := [], alts := [], laidByText := true, laidKinds := [.data, .sentinel, .sentinel, .sentinel], laidTests := true, laidLooks := .later }
def FnFileCardSaid : Prop := Claim7.holds Tryd.pinned (.plain (OpenSpec.ofChange fnFileSpec)) fnFileCard

/-- THE TIED CARD OF 'laws.FnExactFileText'. -/
def fnExactFileTextCard : Claim7 := { stood := { row := fnExactFileTextRow, standIns := [], harness := (true, "3ed4bd7ed7a0fa0ae63fca34aed5589b83deedf0ee9ef1fae48b30cbdd75e680"), looks := true }, kinds := [], alts := [], laidByText := true, laidKinds := [.data], laidTests := true, laidLooks := .later }
def FnExactFileTextCardSaid : Prop := Claim7.holds Tryd.pinned (.plain (OpenSpec.ofChange fnExactFileTextSpec)) fnExactFileTextCard

/-- THE SECOND FORM's CARD OF 'laws.FnFile'. -/
def fnFileUptoCard : Claim7 := { stood := { row := fnFileUptoRow, standIns := [], harness := (true, "3ed4bd7ed7a0fa0ae63fca34aed5589b83deedf0ee9ef1fae48b30cbdd75e680"), looks := true }, kinds := [], alts := [], laidByText := true, laidKinds := [.data, .sentinel, .sentinel, .sentinel], laidTests := true, laidLooks := .later }
def FnFileUptoCardSaid : Prop := Claim7.holds Tryd.pinned (.plain (OpenSpec.upto fnFileSpec)) fnFileUptoCard

/-- THE SECOND FORM's CARD OF 'laws.FnExactFileText'. -/
def fnExactFileTextUptoCard : Claim7 := { stood := { row := fnExactFileTextUptoRow, standIns := [], harness := (true, "3ed4bd7ed7a0fa0ae63fca34aed5589b83deedf0ee9ef1fae48b30cbdd75e680"), looks := true }, kinds := [], alts := [], laidByText := true, laidKinds := [.data], laidTests := true, laidLooks := .later }
def FnExactFileTextUptoCardSaid : Prop := Claim7.holds Tryd.pinned (.plain (OpenSpec.upto fnExactFileTextSpec)) fnExactFileTextUptoCard
end Rows
end Go.Proofs.YthgiekeiljflaaaDoor
