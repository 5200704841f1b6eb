/-
  DERIVED. GIVEN WITH THE SEED: THE CARDS: each row of YtgillglkmnocaaaDoorRows.lean that lists a variable, with what it lists TIED to the program's text (the seventh form; the later family's looks); each row that meets fmt, with fmt's text TOLD by the authors' own Lean function (tested against real Go, not proved from fmt's source: count such statements apart). THE CARD IS WHAT COUNTS. Prove the row's statement (the work); the ties are given (YtgillglkmnocaaaDoorTie.lean); close each card by the builder's one call (the guide's Derived/Test/ToyasCard.lean, 'card_holds'). Laid BY PROGRAM, IN A SANDBOX (cutbox-door.mjs). By AI agents, Wed Nov 11 2026. No macro, syntax, notation, axiom, sorry.
-/
import Derived.Test.YtgillglkmnocaaaDoorRows
import GoSem.ClaimSeven
namespace Go.Proofs.YtgillglkmnocaaaDoor
namespace Rows

/-- THE TIED CARD OF 'laws.FnWalBack'. -/
def fnWalBackCard : Claim7 := { stood := { row := fnWalBackRow, standIns := [], harness := (true, "35b61e048d67159c42d55b5a6af6b292da0c105e8ba7d54c1e8721039fc166a2"), looks := true }, kinds := [], alts := [], laidByText := true, laidKinds := [.data, .sentinel, .sentinel, .sentinel], laidTests := true, laidLooks := .later }
def FnWalBackCardSaid : Prop := Claim7.holds Tryd.pinned (.plain (OpenSpec.ofChange fnWalBackSpec)) fnWalBackCard

/-- THE SECOND FORM's CARD OF 'laws.FnWalBack'. -/
def fnWalBackUptoCard : Claim7 := { stood := { row := fnWalBackUptoRow, standIns := [], harness := (true, "35b61e048d67159c42d55b5a6af6b292da0c105e8ba7d54c1e8721039fc166a2"), looks := true }, kinds := [], alts := [], laidByText := true, laidKinds := [.data, .sentinel, .sentinel, .sentinel], laidTests := true, laidLooks := .later }
def FnWalBackUptoCardSaid : Prop := Claim7.holds Tryd.pinned (.plain (OpenSpec.upto fnWalBackSpec)) fnWalBackUptoCard
end Rows
end Go.Proofs.YtgillglkmnocaaaDoor
