/-
  NARROWER THAN 'FOR EVERY INPUT', by the rows' own cells (each row's printed sentence says how): FnExactRouterOk: ifaces, laid · FnExactRouterSay: ifaces, laid · FnCalled: ifaces, laid.
  DERIVED. THE GIVEN ROWS OF THIS SEAT. 3 by the template 'for every input the law returns true; each argument reads behind the call as it read before'; 0 by the template 'total and deterministic' (their statements: YtedmdilabbolaaaGreatDoorTotals.lean).
  GIVEN WITH THE SEED: the statements are not yours to turn. If you find one false, say at which input.
  Laid BY PROGRAM, IN A SANDBOX (cutbox-rows.mjs): the forced cells as the released guide's own fill.sh prints them over the translation bec2c0c9fa04b729… (all of the seat's roots in one cut). By AI agents, Wed Nov 11 2026. No macro, syntax, notation, axiom, sorry.
-/
import Derived.Test.YtedmdilabbolaaaGreatDoorChecked
import GoSem.Claim
import GoSem.ClaimJoined
import GoSem.ClaimMapViews
import Derived.JoinedTies
import Derived.KernelRfl
namespace Go.Proofs.YtedmdilabbolaaaGreatDoor
/- THE CELL 'sum', in the pinned program and in every row, IS THE sha256 OF THE DUMP (.gsa) THAT YtedmdilabbolaaaGreatDoorProg.lean LOADS. Nothing in Lean hashes anything: it is a label: what it is worth is what the hold of that sum in a sandbox is worth. -/
noncomputable def Tryz.pinned : Pinned := { name := "ytedmdilabbolaaagreatdoor", sum := "bec2c0c9fa04b7296e90a063ef19129cf6c89295551818d7d8cf23c5ce83cf47", checked := Tryz.checked }
namespace Rows
def none {H : Type} : Left H := { results := [], args := [] }

/- WHAT THE LISTED PACKAGE-LEVEL VARIABLES READ AS WHEN THE CALL BEGINS. Each datum BY PROGRAM (the guide's laid-datum.mjs) off the statement by which the dump's own 'gosem.cut.vars' lays the variable. In a bare row this is a premise. The card (YtedmdilabbolaaaGreatDoorCards.lean) ties it to the program's text. -/
def laid_loop_example_g00360_impl_halfSums {H : Type} : DataW H := .agg [.lit (.int .u32 0), .lit (.int .u32 274646895), .lit (.int .u32 549293790), .lit (.int .u32 820201905), .lit (.int .u32 1098587580), .lit (.int .u32 1361435347), .lit (.int .u32 1640403810), .lit (.int .u32 1905808397), .lit (.int .u32 2197175160), .lit (.int .u32 2460548119), .lit (.int .u32 2722870694), .lit (.int .u32 2987750089), .lit (.int .u32 3280807620), .lit (.int .u32 3553878443), .lit (.int .u32 3811616794), .lit (.int .u32 4084100981)]
def laid_loop_example_g00360_impl_errFrameShort {H : Type} : DataW H := .iface "*errors.errorString" (.ptr (.agg [.lit (.string [116, 104, 101, 32, 116, 101, 120, 116, 32, 101, 110, 100, 115, 32, 97, 104, 101, 97, 100, 32, 111, 102, 32, 116, 104, 101, 32, 102, 114, 97, 109, 101])]))
def laid_loop_example_g00360_impl_errFrameLength {H : Type} : DataW H := .iface "*errors.errorString" (.ptr (.agg [.lit (.string [116, 104, 101, 32, 108, 101, 110, 103, 116, 104, 32, 105, 115, 32, 110, 111, 110, 101, 32, 111, 102, 32, 97, 32, 98, 111, 100, 121])]))
def laid_loop_example_g00360_impl_errFrameSum {H : Type} : DataW H := .iface "*errors.errorString" (.ptr (.agg [.lit (.string [116, 104, 101, 32, 115, 117, 109, 32, 105, 115, 32, 97, 110, 111, 116, 104, 101, 114, 32, 111, 110, 101])]))

/-- 'laws.FnExactRouterOk': WHATEVER THE INPUT: true; the input reads as it did. -/
def fnExactRouterOkSpec : ChangeSpec := { name := "fnExactRouterOk", vars := ["loop.example/g00360/impl.errFrameShort", "loop.example/g00360/impl.errFrameLength", "loop.example/g00360/impl.errFrameSum", "loop.example/g00360/impl.halfSums"], fn := fun _ => fun
  | [d, g1, g2, g3, g4] => { results := [.lit (.bool true)], args := [d], vars := [g1, g2, g3, g4] }
  | _ => none }
def fnExactRouterOkRow : OpenClaim := { program := "ytedmdilabbolaaagreatdoor", sum := "bec2c0c9fa04b7296e90a063ef19129cf6c89295551818d7d8cf23c5ce83cf47", func := "loop.example/g00360/laws.FnExactRouterOk", spec := "fnExactRouterOk", inPlace := ["internal/reflectlite.TypeOf", "internal/abi.NoEscape"], unfollowed := true, recurses := true, named := ["loop.example/g00360/impl.errFrameShort", "loop.example/g00360/impl.errFrameLength", "loop.example/g00360/impl.errFrameSum", "loop.example/g00360/impl.halfSums"], ifaces := true, apart := false, laid := [("loop.example/g00360/impl.halfSums", laid_loop_example_g00360_impl_halfSums), ("loop.example/g00360/impl.errFrameShort", laid_loop_example_g00360_impl_errFrameShort), ("loop.example/g00360/impl.errFrameLength", laid_loop_example_g00360_impl_errFrameLength), ("loop.example/g00360/impl.errFrameSum", laid_loop_example_g00360_impl_errFrameSum)] }
def FnExactRouterOkSaid : Prop := fnExactRouterOkRow.holds Tryz.pinned (OpenSpec.ofChange fnExactRouterOkSpec)

/-- ITS FALSE NEIGHBOUR: 'it returns false'. Refute it at one input. -/
def fnExactRouterOkWrong : ChangeSpec := { name := "fnExactRouterOk", vars := ["loop.example/g00360/impl.errFrameShort", "loop.example/g00360/impl.errFrameLength", "loop.example/g00360/impl.errFrameSum", "loop.example/g00360/impl.halfSums"], fn := fun _ => fun
  | [d, g1, g2, g3, g4] => { results := [.lit (.bool false)], args := [d], vars := [g1, g2, g3, g4] }
  | _ => none }
def FnExactRouterOkWrongFalsely : Prop := fnExactRouterOkRow.holds Tryz.pinned (OpenSpec.ofChange fnExactRouterOkWrong)

/-- 'laws.FnExactRouterSay': WHATEVER THE INPUT: true; the input reads as it did. -/
def fnExactRouterSaySpec : ChangeSpec := { name := "fnExactRouterSay", vars := ["loop.example/g00360/impl.errFrameShort", "loop.example/g00360/impl.errFrameLength", "loop.example/g00360/impl.errFrameSum", "loop.example/g00360/impl.halfSums"], fn := fun _ => fun
  | [d1, d2, g1, g2, g3, g4] => { results := [.lit (.bool true)], args := [d1, d2], vars := [g1, g2, g3, g4] }
  | _ => none }
def fnExactRouterSayRow : OpenClaim := { program := "ytedmdilabbolaaagreatdoor", sum := "bec2c0c9fa04b7296e90a063ef19129cf6c89295551818d7d8cf23c5ce83cf47", func := "loop.example/g00360/laws.FnExactRouterSay", spec := "fnExactRouterSay", inPlace := ["internal/reflectlite.TypeOf", "internal/abi.NoEscape"], unfollowed := true, recurses := true, named := ["loop.example/g00360/impl.errFrameShort", "loop.example/g00360/impl.errFrameLength", "loop.example/g00360/impl.errFrameSum", "loop.example/g00360/impl.halfSums"], ifaces := true, apart := false, laid := [("loop.example/g00360/impl.halfSums", laid_loop_example_g00360_impl_halfSums), ("loop.example/g00360/impl.errFrameShort", laid_loop_example_g00360_impl_errFrameShort), ("loop.example/g00360/impl.errFrameLength", laid_loop_example_g00360_impl_errFrameLength), ("loop.example/g00360/impl.errFrameSum", laid_loop_example_g00360_impl_errFrameSum)] }
def FnExactRouterSaySaid : Prop := fnExactRouterSayRow.holds Tryz.pinned (OpenSpec.ofChange fnExactRouterSaySpec)

/-- ITS FALSE NEIGHBOUR: 'it returns false'. Refute it at one input. -/
def fnExactRouterSayWrong : ChangeSpec := { name := "fnExactRouterSay", vars := ["loop.example/g00360/impl.errFrameShort", "loop.example/g00360/impl.errFrameLength", "loop.example/g00360/impl.errFrameSum", "loop.example/g00360/impl.halfSums"], fn := fun _ => fun
  | [d1, d2, g1, g2, g3, g4] => { results := [.lit (.bool false)], args := [d1, d2], vars := [g1, g2, g3, g4] }
  | _ => none }
def FnExactRouterSayWrongFalsely : Prop := fnExactRouterSayRow.holds Tryz.pinned (OpenSpec.ofChange fnExactRouterSayWrong)

/-- 'laws.FnCalled': WHATEVER THE INPUT: true; the input reads as it did. -/
def fnCalledSpec : ChangeSpec := { name := "fnCalled", vars := ["loop.example/g00360/impl.errFrameShort", "loop.example/g00360/impl.errFrameLength", "loop.example/g00360/impl.errFrameSum", "loop.example/g00360/impl.halfSums"], fn := fun _ => fun
  | [d, g1, g2, g3, g4] => { results := [.lit (.bool true)], args := [d], vars := [g1, g2, g3, g4] }
  | _ => none }
def fnCalledRow : OpenClaim := { program := "ytedmdilabbolaaagreatdoor", sum := "bec2c0c9fa04b7296e90a063ef19129cf6c89295551818d7d8cf23c5ce83cf47", func := "loop.example/g00360/laws.FnCalled", spec := "fnCalled", inPlace := ["internal/reflectlite.TypeOf", "internal/abi.NoEscape"], unfollowed := true, recurses := true, named := ["loop.example/g00360/impl.errFrameShort", "loop.example/g00360/impl.errFrameLength", "loop.example/g00360/impl.errFrameSum", "loop.example/g00360/impl.halfSums"], ifaces := true, apart := false, laid := [("loop.example/g00360/impl.halfSums", laid_loop_example_g00360_impl_halfSums), ("loop.example/g00360/impl.errFrameShort", laid_loop_example_g00360_impl_errFrameShort), ("loop.example/g00360/impl.errFrameLength", laid_loop_example_g00360_impl_errFrameLength), ("loop.example/g00360/impl.errFrameSum", laid_loop_example_g00360_impl_errFrameSum)] }
def FnCalledSaid : Prop := fnCalledRow.holds Tryz.pinned (OpenSpec.ofChange fnCalledSpec)

/-- ITS FALSE NEIGHBOUR: 'it returns false'. Refute it at one input. -/
def fnCalledWrong : ChangeSpec := { name := "fnCalled", vars := ["loop.example/g00360/impl.errFrameShort", "loop.example/g00360/impl.errFrameLength", "loop.example/g00360/impl.errFrameSum", "loop.example/g00360/impl.halfSums"], fn := fun _ => fun
  | [d, g1, g2, g3, g4] => { results := [.lit (.bool false)], args := [d], vars := [g1, g2, g3, g4] }
  | _ => none }
def FnCalledWrongFalsely : Prop := fnCalledRow.holds Tryz.pinned (OpenSpec.ofChange fnCalledWrong)

/- THE SECOND FORM. 'bulk': how many values and letters a reading holds, each counted each time it is reached (what is shared counts as often as it is met; a slice's spare places count too). A statement '..UptoSaid' is the law's where the arguments, and the package variables that the reading takes, are together of bulk at most 1048576: NARROWER than '..Said'. Prove '..Said' where nothing that the law and all that it calls make is longer than what came in: it says more and counts as full. Else prove '..UptoSaid'. A law counts once. -/
mutual
def uptoBulk {H : Type} : DataW H → Nat
  | .lit (.string bytes) => bytes.length + 1
  | .lit _ => 1
  | .nil => 1
  | .ptr d => uptoBulk d + 1
  | .slice elems spare => uptoBulkAll elems + uptoBulkAll spare + 1
  | .agg parts => uptoBulkAll parts + 1
  | .iface _ d => uptoBulk d + 1
  | .map entries => uptoBulkEntries entries + 1
  | .held _ => 1
def uptoBulkAll {H : Type} : List (DataW H) → Nat
  | [] => 0
  | d :: r => uptoBulk d + uptoBulkAll r
def uptoBulkEntries {H : Type} : List (Lit × DataW H) → Nat
  | [] => 0
  | x :: r => uptoBulkEntry x + uptoBulkEntries r
def uptoBulkEntry {H : Type} : Lit × DataW H → Nat
  | (.string bytes, d) => bytes.length + uptoBulk d + 1
  | (_, d) => uptoBulk d + 1
 end
def uptoSmall : (H : Type) → List (DataW H) → Bool := fun _ ds => decide (uptoBulkAll ds ≤ 1048576)
def OpenSpec.upto (s : _root_.Go.ChangeSpec) : _root_.Go.OpenSpec := { _root_.Go.OpenSpec.ofChange s with cond := some uptoSmall }

/-- 'laws.FnExactRouterOk', WHERE WHAT IT READS IS OF BULK AT MOST 1048576: true; the input reads as it did. -/
def fnExactRouterOkUptoRow : OpenClaim := { program := "ytedmdilabbolaaagreatdoor", sum := "bec2c0c9fa04b7296e90a063ef19129cf6c89295551818d7d8cf23c5ce83cf47", func := "loop.example/g00360/laws.FnExactRouterOk", spec := "fnExactRouterOk", inPlace := ["internal/reflectlite.TypeOf", "internal/abi.NoEscape"], unfollowed := true, recurses := true, named := ["loop.example/g00360/impl.errFrameShort", "loop.example/g00360/impl.errFrameLength", "loop.example/g00360/impl.errFrameSum", "loop.example/g00360/impl.halfSums"], ifaces := true, apart := false, laid := [("loop.example/g00360/impl.halfSums", laid_loop_example_g00360_impl_halfSums), ("loop.example/g00360/impl.errFrameShort", laid_loop_example_g00360_impl_errFrameShort), ("loop.example/g00360/impl.errFrameLength", laid_loop_example_g00360_impl_errFrameLength), ("loop.example/g00360/impl.errFrameSum", laid_loop_example_g00360_impl_errFrameSum)], narrowed := true }
def FnExactRouterOkUptoSaid : Prop := fnExactRouterOkUptoRow.holds Tryz.pinned (OpenSpec.upto fnExactRouterOkSpec)

/-- 'laws.FnExactRouterSay', WHERE WHAT IT READS IS OF BULK AT MOST 1048576: true; the input reads as it did. -/
def fnExactRouterSayUptoRow : OpenClaim := { program := "ytedmdilabbolaaagreatdoor", sum := "bec2c0c9fa04b7296e90a063ef19129cf6c89295551818d7d8cf23c5ce83cf47", func := "loop.example/g00360/laws.FnExactRouterSay", spec := "fnExactRouterSay", inPlace := ["internal/reflectlite.TypeOf", "internal/abi.NoEscape"], unfollowed := true, recurses := true, named := ["loop.example/g00360/impl.errFrameShort", "loop.example/g00360/impl.errFrameLength", "loop.example/g00360/impl.errFrameSum", "loop.example/g00360/impl.halfSums"], ifaces := true, apart := false, laid := [("loop.example/g00360/impl.halfSums", laid_loop_example_g00360_impl_halfSums), ("loop.example/g00360/impl.errFrameShort", laid_loop_example_g00360_impl_errFrameShort), ("loop.example/g00360/impl.errFrameLength", laid_loop_example_g00360_impl_errFrameLength), ("loop.example/g00360/impl.errFrameSum", laid_loop_example_g00360_impl_errFrameSum)], narrowed := true }
def FnExactRouterSayUptoSaid : Prop := fnExactRouterSayUptoRow.holds Tryz.pinned (OpenSpec.upto fnExactRouterSaySpec)

/-- 'laws.FnCalled', WHERE WHAT IT READS IS OF BULK AT MOST 1048576: true; the input reads as it did. -/
def fnCalledUptoRow : OpenClaim := { program := "ytedmdilabbolaaagreatdoor", sum := "bec2c0c9fa04b7296e90a063ef19129cf6c89295551818d7d8cf23c5ce83cf47", func := "loop.example/g00360/laws.FnCalled", spec := "fnCalled", inPlace := ["internal/reflectlite.TypeOf", "internal/abi.NoEscape"], unfollowed := true, recurses := true, named := ["loop.example/g00360/impl.errFrameShort", "loop.example/g00360/impl.errFrameLength", "loop.example/g00360/impl.errFrameSum", "loop.example/g00360/impl.halfSums"], ifaces := true, apart := false, laid := [("loop.example/g00360/impl.halfSums", laid_loop_example_g00360_impl_halfSums), ("loop.example/g00360/impl.errFrameShort", laid_loop_example_g00360_impl_errFrameShort), ("loop.example/g00360/impl.errFrameLength", laid_loop_example_g00360_impl_errFrameLength), ("loop.example/g00360/impl.errFrameSum", laid_loop_example_g00360_impl_errFrameSum)], narrowed := true }
def FnCalledUptoSaid : Prop := fnCalledUptoRow.holds Tryz.pinned (OpenSpec.upto fnCalledSpec)

end Rows
end Go.Proofs.YtedmdilabbolaaaGreatDoor
