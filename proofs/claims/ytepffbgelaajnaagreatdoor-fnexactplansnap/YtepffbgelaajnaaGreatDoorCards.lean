/-
  DERIVED. GIVEN WITH THE SEED: THE CARDS: each row of YtepffbgelaajnaaGreatDoorRows.lean that lists a variable, with what it lists TIED to the program's text (the seventh form; the later family's looks); each row that meets fmt, with fmt's text TOLD by the authors' own Lean function (tested against real Go, not proved from fmt's source: count such statements apart). THE CARD IS WHAT COUNTS. Prove the row's statement (the work); the ties are given (YtepffbgelaajnaaGreatDoorTie.lean); close each card by the builder's one call (the guide's Derived/Test/ToyasCard.lean, 'card_holds'). Laid BY PROGRAM, IN A SANDBOX (cutbox-door.mjs). By AI agents, Wed Nov 11 2026. No macro, syntax, notation, axiom, sorry.
-/
import Derived.Test.YtepffbgelaajnaaGreatDoorRows
import GoSem.ClaimSeven
namespace Go.Proofs.YtepffbgelaajnaaGreatDoor
namespace Rows

/-- THE TIED CARD OF 'laws.FnExactPlanLog'. -/
def fnExactPlanLogCard : Claim7 := { stood := { row := fnExactPlanLogRow, standIns := [], harness := (true, "4f71a5cafe096534b4229204274f9f187d3787b22b8129e8bd504b3d677777f5"), looks := true }, kinds := [], alts := [], laidByText := true, laidKinds := [.data], laidTests := true, laidLooks := .later }
def FnExactPlanLogCardSaid : Prop := Claim7.holds Tryz.pinned (.plain (OpenSpec.ofChange fnExactPlanLogSpec)) fnExactPlanLogCard

/-- THE TIED CARD OF 'laws.FnExactPlanSnap'. -/
def fnExactPlanSnapCard : Claim7 := { stood := { row := fnExactPlanSnapRow, standIns := [], harness := (true, "4f71a5cafe096534b4229204274f9f187d3787b22b8129e8bd504b3d677777f5"), looks := true }, kinds := [], alts := [], laidByText := true, laidKinds := [.data], laidTests := true, laidLooks := .later }
def FnExactPlanSnapCardSaid : Prop := Claim7.holds Tryz.pinned (.plain (OpenSpec.ofChange fnExactPlanSnapSpec)) fnExactPlanSnapCard

/-- THE SECOND FORM's CARD OF 'laws.FnExactPlanLog'. -/
def fnExactPlanLogUptoCard : Claim7 := { stood := { row := fnExactPlanLogUptoRow, standIns := [], harness := (true, "4f71a5cafe096534b4229204274f9f187d3787b22b8129e8bd504b3d677777f5"), looks := true }, kinds := [], alts := [], laidByText := true, laidKinds := [.data], laidTests := true, laidLooks := .later }
def FnExactPlanLogUptoCardSaid : Prop := Claim7.holds Tryz.pinned (.plain (OpenSpec.upto fnExactPlanLogSpec)) fnExactPlanLogUptoCard

/-- THE SECOND FORM's CARD OF 'laws.FnExactPlanSnap'. -/
def fnExactPlanSnapUptoCard : Claim7 := { stood := { row := fnExactPlanSnapUptoRow, standIns := [], harness := (true, "4f71a5cafe096534b4229204274f9f187d3787b22b8129e8bd504b3d677777f5"), looks := true }, kinds := [], alts := [], laidByText := true, laidKinds := [.data], laidTests := true, laidLooks := .later }
def FnExactPlanSnapUptoCardSaid : Prop := Claim7.holds Tryz.pinned (.plain (OpenSpec.upto fnExactPlanSnapSpec)) fnExactPlanSnapUptoCard
end Rows
end Go.Proofs.YtepffbgelaajnaaGreatDoor
