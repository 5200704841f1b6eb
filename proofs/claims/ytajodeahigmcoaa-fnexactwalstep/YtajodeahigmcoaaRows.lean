/-
  No cell of these rows narrows 'for every input' (looked for: loops, veiled, ifaces, maps, wideKeys, modest, calm, conditions, laid).
  DERIVED. THE GIVEN ROWS OF THIS SEAT. 7 by the template 'for every input the law returns true; each argument reads behind the call as it read before'; 0 by the template 'total and deterministic' (their statements: YtajodeahigmcoaaTotals.lean).
  GIVEN WITH THE SEED: the statements are not yours to turn. If you find one false, say at which input.
  Laid BY PROGRAM, IN A SANDBOX (cutbox-rows.mjs): the forced cells as the released guide's own fill.sh prints them over the translation 0d39d06ce524723f… (all of the seat's roots in one cut). By AI agents, Wed Nov 11 2026. No macro, syntax, notation, axiom, sorry.
-/
import Derived.Test.YtajodeahigmcoaaChecked
import GoSem.Claim
import GoSem.ClaimJoined
import GoSem.ClaimMapViews
import Derived.JoinedTies
import Derived.KernelRfl
namespace Go.Proofs.Ytajodeahigmcoaa
/- THE CELL 'sum', in the pinned program and in every row, IS THE sha256 OF THE DUMP (.gsa) THAT YtajodeahigmcoaaProg.lean LOADS. Nothing in Lean hashes anything: it is a label: what it is worth is what the hold of that sum in a sandbox is worth. -/
noncomputable def Try.pinned : Pinned := { name := "ytajodeahigmcoaa", sum := "0d39d06ce524723f45d9295c4abe3eff06dc0302b0017114f1a597479bf4ef28", checked := Try.checked }
namespace Rows
def none {H : Type} : Left H := { results := [], args := [] }

/-- 'laws.FnChanges': WHATEVER THE INPUT: true; the input reads as it did. -/
def fnChangesSpec : ChangeSpec := { name := "fnChanges", fn := fun _ => fun
  | [d] => { results := [.lit (.bool true)], args := [d] }
  | _ => none }
def fnChangesRow : OpenClaim := { program := "ytajodeahigmcoaa", sum := "0d39d06ce524723f45d9295c4abe3eff06dc0302b0017114f1a597479bf4ef28", func := "loop.example/g00360/laws.FnChanges", spec := "fnChanges", unfollowed := true, recurses := true, apart := false }
def FnChangesSaid : Prop := fnChangesRow.holds Try.pinned (OpenSpec.ofChange fnChangesSpec)

/-- ITS FALSE NEIGHBOUR: 'it returns false'. Refute it at one input. -/
def fnChangesWrong : ChangeSpec := { name := "fnChanges", fn := fun _ => fun
  | [d] => { results := [.lit (.bool false)], args := [d] }
  | _ => none }
def FnChangesWrongFalsely : Prop := fnChangesRow.holds Try.pinned (OpenSpec.ofChange fnChangesWrong)

/-- 'laws.FnExactRecOk': WHATEVER THE INPUT: true; the input reads as it did. -/
def fnExactRecOkSpec : ChangeSpec := { name := "fnExactRecOk", fn := fun _ => fun
  | [d] => { results := [.lit (.bool true)], args := [d] }
  | _ => none }
def fnExactRecOkRow : OpenClaim := { program := "ytajodeahigmcoaa", sum := "0d39d06ce524723f45d9295c4abe3eff06dc0302b0017114f1a597479bf4ef28", func := "loop.example/g00360/laws.FnExactRecOk", spec := "fnExactRecOk", unfollowed := true, recurses := true, apart := false }
def FnExactRecOkSaid : Prop := fnExactRecOkRow.holds Try.pinned (OpenSpec.ofChange fnExactRecOkSpec)

/-- ITS FALSE NEIGHBOUR: 'it returns false'. Refute it at one input. -/
def fnExactRecOkWrong : ChangeSpec := { name := "fnExactRecOk", fn := fun _ => fun
  | [d] => { results := [.lit (.bool false)], args := [d] }
  | _ => none }
def FnExactRecOkWrongFalsely : Prop := fnExactRecOkRow.holds Try.pinned (OpenSpec.ofChange fnExactRecOkWrong)

/-- 'laws.FnExactShowRec': WHATEVER THE INPUT: true; the input reads as it did. -/
def fnExactShowRecSpec : ChangeSpec := { name := "fnExactShowRec", fn := fun _ => fun
  | [d] => { results := [.lit (.bool true)], args := [d] }
  | _ => none }
def fnExactShowRecRow : OpenClaim := { program := "ytajodeahigmcoaa", sum := "0d39d06ce524723f45d9295c4abe3eff06dc0302b0017114f1a597479bf4ef28", func := "loop.example/g00360/laws.FnExactShowRec", spec := "fnExactShowRec", unfollowed := true, recurses := true, apart := false }
def FnExactShowRecSaid : Prop := fnExactShowRecRow.holds Try.pinned (OpenSpec.ofChange fnExactShowRecSpec)

/-- ITS FALSE NEIGHBOUR: 'it returns false'. Refute it at one input. -/
def fnExactShowRecWrong : ChangeSpec := { name := "fnExactShowRec", fn := fun _ => fun
  | [d] => { results := [.lit (.bool false)], args := [d] }
  | _ => none }
def FnExactShowRecWrongFalsely : Prop := fnExactShowRecRow.holds Try.pinned (OpenSpec.ofChange fnExactShowRecWrong)

/-- 'laws.FnExactReadRec': WHATEVER THE INPUT: true; the input reads as it did. -/
def fnExactReadRecSpec : ChangeSpec := { name := "fnExactReadRec", fn := fun _ => fun
  | [d] => { results := [.lit (.bool true)], args := [d] }
  | _ => none }
def fnExactReadRecRow : OpenClaim := { program := "ytajodeahigmcoaa", sum := "0d39d06ce524723f45d9295c4abe3eff06dc0302b0017114f1a597479bf4ef28", func := "loop.example/g00360/laws.FnExactReadRec", spec := "fnExactReadRec", unfollowed := true, recurses := true, apart := false }
def FnExactReadRecSaid : Prop := fnExactReadRecRow.holds Try.pinned (OpenSpec.ofChange fnExactReadRecSpec)

/-- ITS FALSE NEIGHBOUR: 'it returns false'. Refute it at one input. -/
def fnExactReadRecWrong : ChangeSpec := { name := "fnExactReadRec", fn := fun _ => fun
  | [d] => { results := [.lit (.bool false)], args := [d] }
  | _ => none }
def FnExactReadRecWrongFalsely : Prop := fnExactReadRecRow.holds Try.pinned (OpenSpec.ofChange fnExactReadRecWrong)

/-- 'laws.FnExactWalOk': WHATEVER THE INPUT: true; the input reads as it did. -/
def fnExactWalOkSpec : ChangeSpec := { name := "fnExactWalOk", fn := fun _ => fun
  | [d] => { results := [.lit (.bool true)], args := [d] }
  | _ => none }
def fnExactWalOkRow : OpenClaim := { program := "ytajodeahigmcoaa", sum := "0d39d06ce524723f45d9295c4abe3eff06dc0302b0017114f1a597479bf4ef28", func := "loop.example/g00360/laws.FnExactWalOk", spec := "fnExactWalOk", unfollowed := true, recurses := true, apart := false }
def FnExactWalOkSaid : Prop := fnExactWalOkRow.holds Try.pinned (OpenSpec.ofChange fnExactWalOkSpec)

/-- ITS FALSE NEIGHBOUR: 'it returns false'. Refute it at one input. -/
def fnExactWalOkWrong : ChangeSpec := { name := "fnExactWalOk", fn := fun _ => fun
  | [d] => { results := [.lit (.bool false)], args := [d] }
  | _ => none }
def FnExactWalOkWrongFalsely : Prop := fnExactWalOkRow.holds Try.pinned (OpenSpec.ofChange fnExactWalOkWrong)

/-- 'laws.FnExactWalStep': WHATEVER THE INPUT: true; the input reads as it did. -/
def fnExactWalStepSpec : ChangeSpec := { name := "fnExactWalStep", fn := fun _ => fun
  | [d1, d2] => { results := [.lit (.bool true)], args := [d1, d2] }
  | _ => none }
def fnExactWalStepRow : OpenClaim := { program := "ytajodeahigmcoaa", sum := "0d39d06ce524723f45d9295c4abe3eff06dc0302b0017114f1a597479bf4ef28", func := "loop.example/g00360/laws.FnExactWalStep", spec := "fnExactWalStep", unfollowed := true, recurses := true, apart := false }
def FnExactWalStepSaid : Prop := fnExactWalStepRow.holds Try.pinned (OpenSpec.ofChange fnExactWalStepSpec)

/-- ITS FALSE NEIGHBOUR: 'it returns false'. Refute it at one input. -/
def fnExactWalStepWrong : ChangeSpec := { name := "fnExactWalStep", fn := fun _ => fun
  | [d1, d2] => { results := [.lit (.bool false)], args := [d1, d2] }
  | _ => none }
def FnExactWalStepWrongFalsely : Prop := fnExactWalStepRow.holds Try.pinned (OpenSpec.ofChange fnExactWalStepWrong)

/-- 'laws.FnExactChanges': WHATEVER THE INPUT: true; the input reads as it did. -/
def fnExactChangesSpec : ChangeSpec := { name := "fnExactChanges", fn := fun _ => fun
  | [d1, d2] => { results := [.lit (.bool true)], args := [d1, d2] }
  | _ => none }
def fnExactChangesRow : OpenClaim := { program := "ytajodeahigmcoaa", sum := "0d39d06ce524723f45d9295c4abe3eff06dc0302b0017114f1a597479bf4ef28", func := "loop.example/g00360/laws.FnExactChanges", spec := "fnExactChanges", unfollowed := true, recurses := true, apart := false }
def FnExactChangesSaid : Prop := fnExactChangesRow.holds Try.pinned (OpenSpec.ofChange fnExactChangesSpec)

/-- ITS FALSE NEIGHBOUR: 'it returns false'. Refute it at one input. -/
def fnExactChangesWrong : ChangeSpec := { name := "fnExactChanges", fn := fun _ => fun
  | [d1, d2] => { results := [.lit (.bool false)], args := [d1, d2] }
  | _ => none }
def FnExactChangesWrongFalsely : Prop := fnExactChangesRow.holds Try.pinned (OpenSpec.ofChange fnExactChangesWrong)

/- THE SECOND FORM. 'bulk': how many values and letters a reading holds, each counted each time it is reached (what is shared counts as often as it is met; a slice's spare places count too). A statement '..UptoSaid' is the law's where the arguments, and the package variables that the reading takes, are together of bulk at most 1048576: NARROWER than '..Said'. Prove '..Said' where nothing that the law and all that it calls make is longer than what came in: it says more and counts as full. Else prove '..UptoSaid'. A law counts once. -/
mutual
def uptoBulk {H : Type} : DataW H → Nat
  | .lit (.string bytes) => bytes.length + 1
  | .lit _ => 1
  | .nil => 1
  | .ptr d => uptoBulk d + 1
  | .slice elems spare => uptoBulkAll elems + uptoBulkAll spare + 1
  | .agg parts => uptoBulkAll parts + 1
  | .iface _ d => uptoBulk d + 1
  | .map entries => uptoBulkEntries entries + 1
  | .held _ => 1
def uptoBulkAll {H : Type} : List (DataW H) → Nat
  | [] => 0
  | d :: r => uptoBulk d + uptoBulkAll r
def uptoBulkEntries {H : Type} : List (Lit × DataW H) → Nat
  | [] => 0
  | x :: r => uptoBulkEntry x + uptoBulkEntries r
def uptoBulkEntry {H : Type} : Lit × DataW H → Nat
  | (.string bytes, d) => bytes.length + uptoBulk d + 1
  | (_, d) => uptoBulk d + 1
 end
def uptoSmall : (H : Type) → List (DataW H) → Bool := fun _ ds => decide (uptoBulkAll ds ≤ 1048576)
def OpenSpec.upto (s : _root_.Go.ChangeSpec) : _root_.Go.OpenSpec := { _root_.Go.OpenSpec.ofChange s with cond := some uptoSmall }

/-- 'laws.FnChanges', WHERE WHAT IT READS IS OF BULK AT MOST 1048576: true; the input reads as it did. -/
def fnChangesUptoRow : OpenClaim := { program := "ytajodeahigmcoaa", sum := "0d39d06ce524723f45d9295c4abe3eff06dc0302b0017114f1a597479bf4ef28", func := "loop.example/g00360/laws.FnChanges", spec := "fnChanges", unfollowed := true, recurses := true, apart := false, narrowed := true }
def FnChangesUptoSaid : Prop := fnChangesUptoRow.holds Try.pinned (OpenSpec.upto fnChangesSpec)

/-- 'laws.FnExactRecOk', WHERE WHAT IT READS IS OF BULK AT MOST 1048576: true; the input reads as it did. -/
def fnExactRecOkUptoRow : OpenClaim := { program := "ytajodeahigmcoaa", sum := "0d39d06ce524723f45d9295c4abe3eff06dc0302b0017114f1a597479bf4ef28", func := "loop.example/g00360/laws.FnExactRecOk", spec := "fnExactRecOk", unfollowed := true, recurses := true, apart := false, narrowed := true }
def FnExactRecOkUptoSaid : Prop := fnExactRecOkUptoRow.holds Try.pinned (OpenSpec.upto fnExactRecOkSpec)

/-- 'laws.FnExactShowRec', WHERE WHAT IT READS IS OF BULK AT MOST 1048576: true; the input reads as it did. -/
def fnExactShowRecUptoRow : OpenClaim := { program := "ytajodeahigmcoaa", sum := "0d39d06ce524723f45d9295c4abe3eff06dc0302b0017114f1a597479bf4ef28", func := "loop.example/g00360/laws.FnExactShowRec", spec := "fnExactShowRec", unfollowed := true, recurses := true, apart := false, narrowed := true }
def FnExactShowRecUptoSaid : Prop := fnExactShowRecUptoRow.holds Try.pinned (OpenSpec.upto fnExactShowRecSpec)

/-- 'laws.FnExactReadRec', WHERE WHAT IT READS IS OF BULK AT MOST 1048576: true; the input reads as it did. -/
def fnExactReadRecUptoRow : OpenClaim := { program := "ytajodeahigmcoaa", sum := "0d39d06ce524723f45d9295c4abe3eff06dc0302b0017114f1a597479bf4ef28", func := "loop.example/g00360/laws.FnExactReadRec", spec := "fnExactReadRec", unfollowed := true, recurses := true, apart := false, narrowed := true }
def FnExactReadRecUptoSaid : Prop := fnExactReadRecUptoRow.holds Try.pinned (OpenSpec.upto fnExactReadRecSpec)

/-- 'laws.FnExactWalOk', WHERE WHAT IT READS IS OF BULK AT MOST 1048576: true; the input reads as it did. -/
def fnExactWalOkUptoRow : OpenClaim := { program := "ytajodeahigmcoaa", sum := "0d39d06ce524723f45d9295c4abe3eff06dc0302b0017114f1a597479bf4ef28", func := "loop.example/g00360/laws.FnExactWalOk", spec := "fnExactWalOk", unfollowed := true, recurses := true, apart := false, narrowed := true }
def FnExactWalOkUptoSaid : Prop := fnExactWalOkUptoRow.holds Try.pinned (OpenSpec.upto fnExactWalOkSpec)

/-- 'laws.FnExactWalStep', WHERE WHAT IT READS IS OF BULK AT MOST 1048576: true; the input reads as it did. -/
def fnExactWalStepUptoRow : OpenClaim := { program := "ytajodeahigmcoaa", sum := "0d39d06ce524723f45d9295c4abe3eff06dc0302b0017114f1a597479bf4ef28", func := "loop.example/g00360/laws.FnExactWalStep", spec := "fnExactWalStep", unfollowed := true, recurses := true, apart := false, narrowed := true }
def FnExactWalStepUptoSaid : Prop := fnExactWalStepUptoRow.holds Try.pinned (OpenSpec.upto fnExactWalStepSpec)

/-- 'laws.FnExactChanges', WHERE WHAT IT READS IS OF BULK AT MOST 1048576: true; the input reads as it did. -/
def fnExactChangesUptoRow : OpenClaim := { program := "ytajodeahigmcoaa", sum := "0d39d06ce524723f45d9295c4abe3eff06dc0302b0017114f1a597479bf4ef28", func := "loop.example/g00360/laws.FnExactChanges", spec := "fnExactChanges", unfollowed := true, recurses := true, apart := false, narrowed := true }
def FnExactChangesUptoSaid : Prop := fnExactChangesUptoRow.holds Try.pinned (OpenSpec.upto fnExactChangesSpec)

end Rows
end Go.Proofs.Ytajodeahigmcoaa
