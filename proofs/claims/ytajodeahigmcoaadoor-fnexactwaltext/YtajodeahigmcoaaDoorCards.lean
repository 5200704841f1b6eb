/-
  DERIVED. GIVEN WITH THE SEED: THE CARDS: each row of YtajodeahigmcoaaDoorRows.lean that lists a variable, with what it lists TIED to the program's text (the seventh form; the later family's looks); each row that meets fmt, with fmt's text TOLD by the authors' own Lean function (tested against real Go, not proved from fmt's source: count such statements apart). THE CARD IS WHAT COUNTS. Prove the row's statement (the work); the ties are given (YtajodeahigmcoaaDoorTie.lean); close each card by the builder's one call (the guide's Derived/Test/ToyasCard.lean, 'card_holds'). Laid BY PROGRAM, IN A SANDBOX (cutbox-door.mjs). By AI agents, Wed Nov 11 2026. No macro, syntax, notation, axiom, sorry.
-/
import Derived.Test.YtajodeahigmcoaaDoorRows
import GoSem.ClaimSeven
namespace Go.Proofs.YtajodeahigmcoaaDoor
namespace Rows

/-- THE TIED CARD OF 'laws.FnWalBack'. -/
def fnWalBackCard : Claim7 := { stood := { row := fnWalBackRow, standIns := [], harness := (true, "c15046a81b5b36f518553ed300750e95be055d244eb859edb15139fc93e85933"), looks := true }, kinds := [], alts := [], laidByText := true, laidKinds := [.data, .sentinel, .sentinel, .sentinel], laidTests := true, laidLooks := .later }
def FnWalBackCardSaid : Prop := Claim7.holds Tryd.pinned (.plain (OpenSpec.ofChange fnWalBackSpec)) fnWalBackCard

/-- THE TIED CARD OF 'laws.FnExactReplay'. -/
def fnExactReplayCard : Claim7 := { stood := { row := fnExactReplayRow, standIns := [], harness := (true, "c15046a81b5b36f518553ed300750e95be055d244eb859edb15139fc93e85933"), looks := true }, kinds := [], alts := [], laidByText := true, laidKinds := [.data, .sentinel, .sentinel, .sentinel], laidTests := true, laidLooks := .later }
def FnExactReplayCardSaid : Prop := Claim7.holds Tryd.pinned (.plain (OpenSpec.ofChange fnExactReplaySpec)) fnExactReplayCard

/-- THE TIED CARD OF 'laws.FnExactWalText'. -/
def fnExactWalTextCard : Claim7 := { stood := { row := fnExactWalTextRow, standIns := [], harness := (true, "c15046a81b5b36f518553ed300750e95be055d244eb859edb15139fc93e85933"), looks := true }, kinds := [], alts := [], laidByText := true, laidKinds := [.data], laidTests := true, laidLooks := .later }
def FnExactWalTextCardSaid : Prop := Claim7.holds Tryd.pinned (.plain (OpenSpec.ofChange fnExactWalTextSpec)) fnExactWalTextCard

/-- THE SECOND FORM's CARD OF 'laws.FnWalBack'. -/
def fnWalBackUptoCard : Claim7 := { stood := { row := fnWalBackUptoRow, standIns := [], harness := (true, "c15046a81b5b36f518553ed300750e95be055d244eb859edb15139fc93e85933"), looks := true }, kinds := [], alts := [], laidByText := true, laidKinds := [.data, .sentinel, .sentinel, .sentinel], laidTests := true, laidLooks := .later }
def FnWalBackUptoCardSaid : Prop := Claim7.holds Tryd.pinned (.plain (OpenSpec.upto fnWalBackSpec)) fnWalBackUptoCard

/-- THE SECOND FORM's CARD OF 'laws.FnExactReplay'. -/
def fnExactReplayUptoCard : Claim7 := { stood := { row := fnExactReplayUptoRow, standIns := [], harness := (true, "c15046a81b5b36f518553ed300750e95be055d244eb859edb15139fc93e85933"), looks := true }, kinds := [], alts := [], laidByText := true, laidKinds := [.data, .sentinel, .sentinel, .sentinel], laidTests := true, laidLooks := .later }
def FnExactReplayUptoCardSaid : Prop := Claim7.holds Tryd.pinned (.plain (OpenSpec.upto fnExactReplaySpec)) fnExactReplayUptoCard

/-- THE SECOND FORM's CARD OF 'laws.FnExactWalText'. -/
def fnExactWalTextUptoCard : Claim7 := { stood := { row := fnExactWalTextUptoRow, standIns := [], harness := (true, "c15046a81b5b36f518553ed300750e95be055d244eb859edb15139fc93e85933"), looks := true }, kinds := [], alts := [], laidByText := true, laidKinds := [.data], laidTests := true, laidLooks := .later }
def FnExactWalTextUptoCardSaid : Prop := Claim7.holds Tryd.pinned (.plain (OpenSpec.upto fnExactWalTextSpec)) fnExactWalTextUptoCard
end Rows
end Go.Proofs.YtajodeahigmcoaaDoor
