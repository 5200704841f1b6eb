/-
  No cell of these rows narrows 'for every input' (looked for: loops, veiled, ifaces, maps, wideKeys, modest, calm, conditions, laid).
  DERIVED. THE GIVEN ROWS OF THIS SEAT. 7 by the template 'for every input the law returns true; each argument reads behind the call as it read before'; 0 by the template 'total and deterministic' (their statements: YtmkljninndffcaaTotals.lean).
  GIVEN WITH THE SEED: the statements are not yours to turn. If you find one false, say at which input.
  Laid BY PROGRAM, IN A SANDBOX (cutbox-rows.mjs): the forced cells as the released guide's own fill.sh prints them over the translation c7201f63a2dbd17e… (all of the seat's roots in one cut). By AI agents, Wed Nov 11 2026. No macro, syntax, notation, axiom, sorry.
-/
import Derived.Test.YtmkljninndffcaaChecked
import GoSem.Claim
import GoSem.ClaimJoined
import GoSem.ClaimMapViews
import Derived.JoinedTies
import Derived.KernelRfl
namespace Go.Proofs.Ytmkljninndffcaa
/- THE CELL 'sum', in the pinned program and in every row, IS THE sha256 OF THE DUMP (.gsa) THAT YtmkljninndffcaaProg.lean LOADS. Nothing in Lean hashes anything: it is a label: what it is worth is what the hold of that sum in a sandbox is worth. -/
noncomputable def Try.pinned : Pinned := { name := "ytmkljninndffcaa", sum := "c7201f63a2dbd17e72712defb1656b34ff03003980468e4ae7d1ce3607061a67", checked := Try.checked }
namespace Rows
def none {H : Type} : Left H := { results := [], args := [] }

/-- 'laws.FnBits': WHATEVER THE INPUT: true; the input reads as it did. -/
def fnBitsSpec : ChangeSpec := { name := "fnBits", fn := fun _ => fun
  | [d] => { results := [.lit (.bool true)], args := [d] }
  | _ => none }
def fnBitsRow : OpenClaim := { program := "ytmkljninndffcaa", sum := "c7201f63a2dbd17e72712defb1656b34ff03003980468e4ae7d1ce3607061a67", func := "loop.example/g00360/laws.FnBits", spec := "fnBits", inPlace := ["internal/abi.NoEscape"], unfollowed := true, recurses := true, apart := false }
def FnBitsSaid : Prop := fnBitsRow.holds Try.pinned (OpenSpec.ofChange fnBitsSpec)

/-- ITS FALSE NEIGHBOUR: 'it returns false'. Refute it at one input. -/
def fnBitsWrong : ChangeSpec := { name := "fnBits", fn := fun _ => fun
  | [d] => { results := [.lit (.bool false)], args := [d] }
  | _ => none }
def FnBitsWrongFalsely : Prop := fnBitsRow.holds Try.pinned (OpenSpec.ofChange fnBitsWrong)

/-- 'laws.FnExactZigZag': WHATEVER THE INPUT: true; the input reads as it did. -/
def fnExactZigZagSpec : ChangeSpec := { name := "fnExactZigZag", fn := fun _ => fun
  | [d] => { results := [.lit (.bool true)], args := [d] }
  | _ => none }
def fnExactZigZagRow : OpenClaim := { program := "ytmkljninndffcaa", sum := "c7201f63a2dbd17e72712defb1656b34ff03003980468e4ae7d1ce3607061a67", func := "loop.example/g00360/laws.FnExactZigZag", spec := "fnExactZigZag", apart := false }
def FnExactZigZagSaid : Prop := fnExactZigZagRow.holds Try.pinned (OpenSpec.ofChange fnExactZigZagSpec)

/-- ITS FALSE NEIGHBOUR: 'it returns false'. Refute it at one input. -/
def fnExactZigZagWrong : ChangeSpec := { name := "fnExactZigZag", fn := fun _ => fun
  | [d] => { results := [.lit (.bool false)], args := [d] }
  | _ => none }
def FnExactZigZagWrongFalsely : Prop := fnExactZigZagRow.holds Try.pinned (OpenSpec.ofChange fnExactZigZagWrong)

/-- 'laws.FnExactUnZig': WHATEVER THE INPUT: true; the input reads as it did. -/
def fnExactUnZigSpec : ChangeSpec := { name := "fnExactUnZig", fn := fun _ => fun
  | [d] => { results := [.lit (.bool true)], args := [d] }
  | _ => none }
def fnExactUnZigRow : OpenClaim := { program := "ytmkljninndffcaa", sum := "c7201f63a2dbd17e72712defb1656b34ff03003980468e4ae7d1ce3607061a67", func := "loop.example/g00360/laws.FnExactUnZig", spec := "fnExactUnZig", apart := false }
def FnExactUnZigSaid : Prop := fnExactUnZigRow.holds Try.pinned (OpenSpec.ofChange fnExactUnZigSpec)

/-- ITS FALSE NEIGHBOUR: 'it returns false'. Refute it at one input. -/
def fnExactUnZigWrong : ChangeSpec := { name := "fnExactUnZig", fn := fun _ => fun
  | [d] => { results := [.lit (.bool false)], args := [d] }
  | _ => none }
def FnExactUnZigWrongFalsely : Prop := fnExactUnZigRow.holds Try.pinned (OpenSpec.ofChange fnExactUnZigWrong)

/-- 'laws.FnExactShowTimes': WHATEVER THE INPUT: true; the input reads as it did. -/
def fnExactShowTimesSpec : ChangeSpec := { name := "fnExactShowTimes", fn := fun _ => fun
  | [d] => { results := [.lit (.bool true)], args := [d] }
  | _ => none }
def fnExactShowTimesRow : OpenClaim := { program := "ytmkljninndffcaa", sum := "c7201f63a2dbd17e72712defb1656b34ff03003980468e4ae7d1ce3607061a67", func := "loop.example/g00360/laws.FnExactShowTimes", spec := "fnExactShowTimes", inPlace := ["internal/abi.NoEscape"], unfollowed := true, recurses := true, apart := false }
def FnExactShowTimesSaid : Prop := fnExactShowTimesRow.holds Try.pinned (OpenSpec.ofChange fnExactShowTimesSpec)

/-- ITS FALSE NEIGHBOUR: 'it returns false'. Refute it at one input. -/
def fnExactShowTimesWrong : ChangeSpec := { name := "fnExactShowTimes", fn := fun _ => fun
  | [d] => { results := [.lit (.bool false)], args := [d] }
  | _ => none }
def FnExactShowTimesWrongFalsely : Prop := fnExactShowTimesRow.holds Try.pinned (OpenSpec.ofChange fnExactShowTimesWrong)

/-- 'laws.FnExactReadTimes': WHATEVER THE INPUT: true; the input reads as it did. -/
def fnExactReadTimesSpec : ChangeSpec := { name := "fnExactReadTimes", fn := fun _ => fun
  | [d1, d2] => { results := [.lit (.bool true)], args := [d1, d2] }
  | _ => none }
def fnExactReadTimesRow : OpenClaim := { program := "ytmkljninndffcaa", sum := "c7201f63a2dbd17e72712defb1656b34ff03003980468e4ae7d1ce3607061a67", func := "loop.example/g00360/laws.FnExactReadTimes", spec := "fnExactReadTimes", inPlace := ["internal/abi.NoEscape"], unfollowed := true, recurses := true, apart := false }
def FnExactReadTimesSaid : Prop := fnExactReadTimesRow.holds Try.pinned (OpenSpec.ofChange fnExactReadTimesSpec)

/-- ITS FALSE NEIGHBOUR: 'it returns false'. Refute it at one input. -/
def fnExactReadTimesWrong : ChangeSpec := { name := "fnExactReadTimes", fn := fun _ => fun
  | [d1, d2] => { results := [.lit (.bool false)], args := [d1, d2] }
  | _ => none }
def FnExactReadTimesWrongFalsely : Prop := fnExactReadTimesRow.holds Try.pinned (OpenSpec.ofChange fnExactReadTimesWrong)

/-- 'laws.FnExactShowValues': WHATEVER THE INPUT: true; the input reads as it did. -/
def fnExactShowValuesSpec : ChangeSpec := { name := "fnExactShowValues", fn := fun _ => fun
  | [d] => { results := [.lit (.bool true)], args := [d] }
  | _ => none }
def fnExactShowValuesRow : OpenClaim := { program := "ytmkljninndffcaa", sum := "c7201f63a2dbd17e72712defb1656b34ff03003980468e4ae7d1ce3607061a67", func := "loop.example/g00360/laws.FnExactShowValues", spec := "fnExactShowValues", inPlace := ["internal/abi.NoEscape"], unfollowed := true, recurses := true, apart := false }
def FnExactShowValuesSaid : Prop := fnExactShowValuesRow.holds Try.pinned (OpenSpec.ofChange fnExactShowValuesSpec)

/-- ITS FALSE NEIGHBOUR: 'it returns false'. Refute it at one input. -/
def fnExactShowValuesWrong : ChangeSpec := { name := "fnExactShowValues", fn := fun _ => fun
  | [d] => { results := [.lit (.bool false)], args := [d] }
  | _ => none }
def FnExactShowValuesWrongFalsely : Prop := fnExactShowValuesRow.holds Try.pinned (OpenSpec.ofChange fnExactShowValuesWrong)

/-- 'laws.FnExactReadValues': WHATEVER THE INPUT: true; the input reads as it did. -/
def fnExactReadValuesSpec : ChangeSpec := { name := "fnExactReadValues", fn := fun _ => fun
  | [d1, d2] => { results := [.lit (.bool true)], args := [d1, d2] }
  | _ => none }
def fnExactReadValuesRow : OpenClaim := { program := "ytmkljninndffcaa", sum := "c7201f63a2dbd17e72712defb1656b34ff03003980468e4ae7d1ce3607061a67", func := "loop.example/g00360/laws.FnExactReadValues", spec := "fnExactReadValues", inPlace := ["internal/abi.NoEscape"], unfollowed := true, recurses := true, apart := false }
def FnExactReadValuesSaid : Prop := fnExactReadValuesRow.holds Try.pinned (OpenSpec.ofChange fnExactReadValuesSpec)

/-- ITS FALSE NEIGHBOUR: 'it returns false'. Refute it at one input. -/
def fnExactReadValuesWrong : ChangeSpec := { name := "fnExactReadValues", fn := fun _ => fun
  | [d1, d2] => { results := [.lit (.bool false)], args := [d1, d2] }
  | _ => none }
def FnExactReadValuesWrongFalsely : Prop := fnExactReadValuesRow.holds Try.pinned (OpenSpec.ofChange fnExactReadValuesWrong)

/- THE SECOND FORM. 'bulk': how many values and letters a reading holds, each counted each time it is reached (what is shared counts as often as it is met; a slice's spare places count too). A statement '..UptoSaid' is the law's where the arguments, and the package variables that the reading takes, are together of bulk at most 1048576: NARROWER than '..Said'. Prove '..Said' where nothing that the law and all that it calls make is longer than what came in: it says more and counts as full. Else prove '..UptoSaid'. A law counts once. -/
mutual
def uptoBulk {H : Type} : DataW H → Nat
  | .lit (.string bytes) => bytes.length + 1
  | .lit _ => 1
  | .nil => 1
  | .ptr d => uptoBulk d + 1
  | .slice elems spare => uptoBulkAll elems + uptoBulkAll spare + 1
  | .agg parts => uptoBulkAll parts + 1
  | .iface _ d => uptoBulk d + 1
  | .map entries => uptoBulkEntries entries + 1
  | .held _ => 1
def uptoBulkAll {H : Type} : List (DataW H) → Nat
  | [] => 0
  | d :: r => uptoBulk d + uptoBulkAll r
def uptoBulkEntries {H : Type} : List (Lit × DataW H) → Nat
  | [] => 0
  | x :: r => uptoBulkEntry x + uptoBulkEntries r
def uptoBulkEntry {H : Type} : Lit × DataW H → Nat
  | (.string bytes, d) => bytes.length + uptoBulk d + 1
  | (_, d) => uptoBulk d + 1
 end
def uptoSmall : (H : Type) → List (DataW H) → Bool := fun _ ds => decide (uptoBulkAll ds ≤ 1048576)
def OpenSpec.upto (s : _root_.Go.ChangeSpec) : _root_.Go.OpenSpec := { _root_.Go.OpenSpec.ofChange s with cond := some uptoSmall }

/-- 'laws.FnBits', WHERE WHAT IT READS IS OF BULK AT MOST 1048576: true; the input reads as it did. -/
def fnBitsUptoRow : OpenClaim := { program := "ytmkljninndffcaa", sum := "c7201f63a2dbd17e72712defb1656b34ff03003980468e4ae7d1ce3607061a67", func := "loop.example/g00360/laws.FnBits", spec := "fnBits", inPlace := ["internal/abi.NoEscape"], unfollowed := true, recurses := true, apart := false, narrowed := true }
def FnBitsUptoSaid : Prop := fnBitsUptoRow.holds Try.pinned (OpenSpec.upto fnBitsSpec)

/-- 'laws.FnExactZigZag', WHERE WHAT IT READS IS OF BULK AT MOST 1048576: true; the input reads as it did. -/
def fnExactZigZagUptoRow : OpenClaim := { program := "ytmkljninndffcaa", sum := "c7201f63a2dbd17e72712defb1656b34ff03003980468e4ae7d1ce3607061a67", func := "loop.example/g00360/laws.FnExactZigZag", spec := "fnExactZigZag", apart := false, narrowed := true }
def FnExactZigZagUptoSaid : Prop := fnExactZigZagUptoRow.holds Try.pinned (OpenSpec.upto fnExactZigZagSpec)

/-- 'laws.FnExactUnZig', WHERE WHAT IT READS IS OF BULK AT MOST 1048576: true; the input reads as it did. -/
def fnExactUnZigUptoRow : OpenClaim := { program := "ytmkljninndffcaa", sum := "c7201f63a2dbd17e72712defb1656b34ff03003980468e4ae7d1ce3607061a67", func := "loop.example/g00360/laws.FnExactUnZig", spec := "fnExactUnZig", apart := false, narrowed := true }
def FnExactUnZigUptoSaid : Prop := fnExactUnZigUptoRow.holds Try.pinned (OpenSpec.upto fnExactUnZigSpec)

/-- 'laws.FnExactShowTimes', WHERE WHAT IT READS IS OF BULK AT MOST 1048576: true; the input reads as it did. -/
def fnExactShowTimesUptoRow : OpenClaim := { program := "ytmkljninndffcaa", sum := "c7201f63a2dbd17e72712defb1656b34ff03003980468e4ae7d1ce3607061a67", func := "loop.example/g00360/laws.FnExactShowTimes", spec := "fnExactShowTimes", inPlace := ["internal/abi.NoEscape"], unfollowed := true, recurses := true, apart := false, narrowed := true }
def FnExactShowTimesUptoSaid : Prop := fnExactShowTimesUptoRow.holds Try.pinned (OpenSpec.upto fnExactShowTimesSpec)

/-- 'laws.FnExactReadTimes', WHERE WHAT IT READS IS OF BULK AT MOST 1048576: true; the input reads as it did. -/
def fnExactReadTimesUptoRow : OpenClaim := { program := "ytmkljninndffcaa", sum := "c7201f63a2dbd17e72712defb1656b34ff03003980468e4ae7d1ce3607061a67", func := "loop.example/g00360/laws.FnExactReadTimes", spec := "fnExactReadTimes", inPlace := ["internal/abi.NoEscape"], unfollowed := true, recurses := true, apart := false, narrowed := true }
def FnExactReadTimesUptoSaid : Prop := fnExactReadTimesUptoRow.holds Try.pinned (OpenSpec.upto fnExactReadTimesSpec)

/-- 'laws.FnExactShowValues', WHERE WHAT IT READS IS OF BULK AT MOST 1048576: true; the input reads as it did. -/
def fnExactShowValuesUptoRow : OpenClaim := { program := "ytmkljninndffcaa", sum := "c7201f63a2dbd17e72712defb1656b34ff03003980468e4ae7d1ce3607061a67", func := "loop.example/g00360/laws.FnExactShowValues", spec := "fnExactShowValues", inPlace := ["internal/abi.NoEscape"], unfollowed := true, recurses := true, apart := false, narrowed := true }
def FnExactShowValuesUptoSaid : Prop := fnExactShowValuesUptoRow.holds Try.pinned (OpenSpec.upto fnExactShowValuesSpec)

/-- 'laws.FnExactReadValues', WHERE WHAT IT READS IS OF BULK AT MOST 1048576: true; the input reads as it did. -/
def fnExactReadValuesUptoRow : OpenClaim := { program := "ytmkljninndffcaa", sum := "c7201f63a2dbd17e72712defb1656b34ff03003980468e4ae7d1ce3607061a67", func := "loop.example/g00360/laws.FnExactReadValues", spec := "fnExactReadValues", inPlace := ["internal/abi.NoEscape"], unfollowed := true, recurses := true, apart := false, narrowed := true }
def FnExactReadValuesUptoSaid : Prop := fnExactReadValuesUptoRow.holds Try.pinned (OpenSpec.upto fnExactReadValuesSpec)

end Rows
end Go.Proofs.Ytmkljninndffcaa
