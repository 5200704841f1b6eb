/-
  DERIVED. GIVEN WITH THE SEED: THE CARDS: each row of YtcghclaobodgjaaDoorRows.lean that lists a variable, with what it lists TIED to the program's text (the seventh form; the later family's looks); each row that meets fmt, with fmt's text TOLD by the authors' own Lean function (tested against real Go, not proved from fmt's source: count such statements apart). THE CARD IS WHAT COUNTS. Prove the row's statement (the work); the ties are given (YtcghclaobodgjaaDoorTie.lean); close each card by the builder's one call (the guide's Derived/Test/ToyasCard.lean, 'card_holds'). Laid BY PROGRAM, IN A SANDBOX (cutbox-door.mjs). By AI agents, Wed Nov 11 2026. No macro, syntax, notation, axiom, sorry.
-/
import Derived.Test.YtcghclaobodgjaaDoorRows
import GoSem.ClaimSeven
namespace Go.Proofs.YtcghclaobodgjaaDoor
namespace Rows

/-- THE TIED CARD OF 'laws.FnExactPlanAdd'. -/
def fnExactPlanAddCard : Claim7 := { stood := { row := fnExactPlanAddRow, standIns := [], harness := (true, "43244aabe2222b0461059d6628d85da7cda2d1687d98d77f08329d6df0b0660e"), looks := false }, kinds := [], alts := [], laidByText := true, laidKinds := [.data], laidTests := true, laidLooks := .later }
def FnExactPlanAddCardSaid : Prop := Claim7.holds Tryd.pinned (.plain (OpenSpec.ofChange fnExactPlanAddSpec)) fnExactPlanAddCard

/-- THE SECOND FORM's CARD OF 'laws.FnExactPlanAdd'. -/
def fnExactPlanAddUptoCard : Claim7 := { stood := { row := fnExactPlanAddUptoRow, standIns := [], harness := (true, "43244aabe2222b0461059d6628d85da7cda2d1687d98d77f08329d6df0b0660e"), looks := false }, kinds := [], alts := [], laidByText := true, laidKinds := [.data], laidTests := true, laidLooks := .later }
def FnExactPlanAddUptoCardSaid : Prop := Claim7.holds Tryd.pinned (.plain (OpenSpec.upto fnExactPlanAddSpec)) fnExactPlanAddUptoCard
end Rows
end Go.Proofs.YtcghclaobodgjaaDoor
