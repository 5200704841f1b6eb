/-
  DERIVED. GIVEN WITH THE SEED: THE CARDS: each row of YtlknemfnacnleaaDoorRows.lean that lists a variable, with what it lists TIED to the program's text (the seventh form; the later family's looks); each row that meets fmt, with fmt's text TOLD by the authors' own Lean function (tested against real Go, not proved from fmt's source: count such statements apart). THE CARD IS WHAT COUNTS. Prove the row's statement (the work); the ties are given (YtlknemfnacnleaaDoorTie.lean); close each card by the builder's one call (the guide's Derived/Test/ToyasCard.lean, 'card_holds'). Laid BY PROGRAM, IN A SANDBOX (cutbox-door.mjs). By AI agents, Wed Nov 11 2026. No macro, syntax, notation, axiom, sorry.
-/
import Derived.Test.YtlknemfnacnleaaDoorRows
import GoSem.ClaimSeven
namespace Go.Proofs.YtlknemfnacnleaaDoor
namespace Rows

/-- THE TIED CARD OF 'laws.FnExactShowBlock'. -/
def fnExactShowBlockCard : Claim7 := { stood := { row := fnExactShowBlockRow, standIns := [], harness := (true, "e418ba7aa9f0111bd55fbd1415d6564c8570a77a37c15b0040607790dde6a42f"), looks := true }, kinds := [], alts := [], laidByText := true, laidKinds := [.data], laidTests := true, laidLooks := .later }
def FnExactShowBlockCardSaid : Prop := Claim7.holds Tryd.pinned (.plain (OpenSpec.ofChange fnExactShowBlockSpec)) fnExactShowBlockCard

/-- THE TIED CARD OF 'laws.FnExactReadBlock'. -/
def fnExactReadBlockCard : Claim7 := { stood := { row := fnExactReadBlockRow, standIns := [], harness := (true, "e418ba7aa9f0111bd55fbd1415d6564c8570a77a37c15b0040607790dde6a42f"), looks := true }, kinds := [], alts := [], laidByText := true, laidKinds := [.data, .sentinel, .sentinel, .sentinel], laidTests := true, laidLooks := .later }
def FnExactReadBlockCardSaid : Prop := Claim7.holds Tryd.pinned (.plain (OpenSpec.ofChange fnExactReadBlockSpec)) fnExactReadBlockCard

/-- THE TIED CARD OF 'laws.FnBlock'. -/
def fnBlockCard : Claim7 := { stood := { row := fnBlockRow, standIns := [], harness := (true, "e418ba7aa9f0111bd55fbd1415d6564c8570a77a37c15b0040607790dde6a42f"), looks := true }, kinds := [], alts := [], laidByText := true, laidKinds := [.data, .sentinel, .sentinel, .sentinel], laidTests := true, laidLooks := .later }
def FnBlockCardSaid : Prop := Claim7.holds Tryd.pinned (.plain (OpenSpec.ofChange fnBlockSpec)) fnBlockCard

/-- THE SECOND FORM's CARD OF 'laws.FnExactShowBlock'. -/
def fnExactShowBlockUptoCard : Claim7 := { stood := { row := fnExactShowBlockUptoRow, standIns := [], harness := (true, "e418ba7aa9f0111bd55fbd1415d6564c8570a77a37c15b0040607790dde6a42f"), looks := true }, kinds := [], alts := [], laidByText := true, laidKinds := [.data], laidTests := true, laidLooks := .later }
def FnExactShowBlockUptoCardSaid : Prop := Claim7.holds Tryd.pinned (.plain (OpenSpec.upto fnExactShowBlockSpec)) fnExactShowBlockUptoCard

/-- THE SECOND FORM's CARD OF 'laws.FnExactReadBlock'. -/
def fnExactReadBlockUptoCard : Claim7 := { stood := { row := fnExactReadBlockUptoRow, standIns := [], harness := (true, "e418ba7aa9f0111bd55fbd1415d6564c8570a77a37c15b0040607790dde6a42f"), looks := true }, kinds := [], alts := [], laidByText := true, laidKinds := [.data, .sentinel, .sentinel, .sentinel], laidTests := true, laidLooks := .later }
def FnExactReadBlockUptoCardSaid : Prop := Claim7.holds Tryd.pinned (.plain (OpenSpec.upto fnExactReadBlockSpec)) fnExactReadBlockUptoCard

/-- THE SECOND FORM's CARD OF 'laws.FnBlock'. -/
def fnBlockUptoCard : Claim7 := { stood := { row := fnBlockUptoRow, standIns := [], harness := (true, "e418ba7aa9f0111bd55fbd1415d6564c8570a77a37c15b0040607790dde6a42f"), looks := true }, kinds := [], alts := [], laidByText := true, laidKinds := [.data, .sentinel, .sentinel, .sentinel], laidTests := true, laidLooks := .later }
def FnBlockUptoCardSaid : Prop := Claim7.holds Tryd.pinned (.plain (OpenSpec.upto fnBlockSpec)) fnBlockUptoCard
end Rows
end Go.Proofs.YtlknemfnacnleaaDoor
