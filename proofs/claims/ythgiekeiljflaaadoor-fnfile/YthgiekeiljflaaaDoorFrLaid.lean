/-
  What the rows' list of four variables gives: the table of sixteen sums, and the three sentinels, apart; how they read behind a call.
-/
import Derived.Test.YthgiekeiljflaaaDoorRows
import Derived.Test.YthgiekeiljflaaaDoorFrame
import Derived.Test.YthgiekeiljflaaaDoorErrs
import Derived.ProofKit
import Derived.OpenShut
import Derived.ChangeVars
import Derived.Below
import Derived.LaidMore
import Derived.Lay
import Derived.RowKitTokens
import Derived.Stop.LaidErr
import Derived.Stop.LaidTwo
namespace Go.Proofs.YthgiekeiljflaaaDoor
open Go.ChangeShapes Go.WideShapes Go.ChangeAt Go.RowKit
set_option linter.unusedVariables false

theorem own : ownKnob Tryd.prog.godebug = none := by kernel_rfl
theorem typeSum : (Tryd.prog.globals[0]?).map (·.type) = some 130 := by kernel_rfl
theorem typeShort : (Tryd.prog.globals[1]?).map (·.type) = some 126 := by kernel_rfl
theorem typeLen : (Tryd.prog.globals[2]?).map (·.type) = some 126 := by kernel_rfl
theorem typeBad : (Tryd.prog.globals[3]?).map (·.type) = some 126 := by kernel_rfl
theorem cellsSum : Tryd.prog.cellsOf 130 = 16 := by kernel_rfl
theorem cellsU32 : Tryd.prog.cellsOf 88 = 1 := by kernel_rfl
theorem cellsES : Tryd.prog.cellsOf 179 = 1 := by kernel_rfl
theorem cellsStr : Tryd.prog.cellsOf 9 = 1 := by kernel_rfl
theorem sum_data : (Rows.laid_loop_example_g00360_impl_halfSums : DataW Unit) = Lib.tabData .u32 sumTab := by kernel_rfl
theorem star : "*" ++ "errors.errorString" = "*errors.errorString" := by decide
theorem rowES (u : TypeId) (h : Tryd.prog.typeName? 3 u = some "*errors.errorString") : u = 157 :=
  typeName_ptr_named (nm := "errors.errorString") (by rw [star]; kernel_rfl) (by kernel_rfl) (by decide) u (by rw [star]; exact h)
/-- The list without its second. -/
theorem laidMet_skip {P : Program} {x y : String × DataW Unit} {r : List (String × DataW Unit)} {w : World} (h : laidMet P (x :: y :: r) w) : laidMet P (x :: r) w := by
  obtain ⟨ps, hv, hnd, hrows⟩ := h
  obtain ⟨n, d⟩ := x
  obtain ⟨n', d'⟩ := y
  obtain ⟨g, t, cs, fuel, p, q, h1, h2, h3, h4, ⟨g', t', cs', fuel', p', q', _, _, _, _, hq, rfl⟩, rfl⟩ := hv
  refine ⟨_, ⟨g, t, cs, fuel, p, q', h1, h2, h3, h4, hq, rfl⟩, ?_, fun b off hm => hrows b off ?_⟩
  · exact List.Nodup.sublist (List.Sublist.append_left (List.sublist_append_right _ _) _) hnd
  · rcases List.mem_append.1 hm with hm | hm
    · exact List.mem_append_left _ hm
    · exact List.mem_append_right _ (List.mem_append_right _ hm)
/-- The list. -/
def laid4 : List (String × DataW Unit) := [("loop.example/g00360/impl.halfSums", Rows.laid_loop_example_g00360_impl_halfSums), ("loop.example/g00360/impl.errFrameShort", Rows.laid_loop_example_g00360_impl_errFrameShort), ("loop.example/g00360/impl.errFrameLength", Rows.laid_loop_example_g00360_impl_errFrameLength), ("loop.example/g00360/impl.errFrameSum", Rows.laid_loop_example_g00360_impl_errFrameSum)]
theorem laid4_plain (W : World) (h : laidMetH Tryd.prog laid4 W) : laidMet Tryd.prog laid4 W := by
  rw [MakeChecks.laidMetH_plain _ _ _ (by kernel_rfl)] at h
  exact h
theorem met_sum {W : World} (h : laidMetH Tryd.prog laid4 W) : SumTab W := by
  have h1 := laid4_plain W h
  unfold laid4 at h1
  rw [sum_data] at h1
  exact Lib.tabIs_of_head gSum typeSum Tryd.underlying130 Tryd.underlying88 cellsU32 cellsSum h1
theorem met_errs {W : World} (h : laidMetH Tryd.prog laid4 W) : ∃ a0 a1 a2, Errs W a0 a1 a2 := by
  have h1 := (laid4_plain W h).tail
  obtain ⟨a0, a1, s0, s1, c0, c1, t0, t1, hv0, hv1, _, _, _, _, _, _, hne, hb0, hb1⟩ := laid_sentinels2 h1 gShort typeShort gLen typeLen Tryd.underlying126 rowES Tryd.underlying157 Tryd.underlying179 rfl rfl Tryd.underlying9 cellsES cellsStr
  obtain ⟨a0', a2, s0', s2, c0', c2, t0', t2, hv0', hv2, _, _, _, _, _, _, hne2, hb0', hb2⟩ := laid_sentinels2 (laidMet_skip h1) gShort typeShort gBad typeBad Tryd.underlying126 rowES Tryd.underlying157 Tryd.underlying179 rfl rfl Tryd.underlying9 cellsES cellsStr
  have e : a0' = a0 := by
    have := hv0.symm.trans hv0'
    simp at this
    exact this.symm
  subst e
  exact ⟨a0', a1, a2, hv0, hv1, hv2, hne.symm, hne2.symm, ⟨_, _, hb0⟩, ⟨_, _, hb1⟩, ⟨_, _, hb2⟩⟩
/-- The table's cells. -/
def sumCells : List Value := sumTab.map fun z => Value.int .u32 z
/-- The table as it is read, in any world. -/
theorem sum_shut {H : Type} (enc : TypeId × Value → H) (W : World) (sp : Nat → Bool) (n : Nat) : DataW.trod enc Tryd.prog W 0 sp true (n + 2) 130 sumCells = some (Lib.tabData .u32 sumTab, []) := by kernel_rfl
/-- The sentinel's value. -/
def sent (a : Addr) : Value := .iface 157 (.pointer (some a))
theorem sent_iface (a : Addr) : IsIface (sent a) := trivial
/-- The four variables as they read, the sentinels first. -/
theorem vars_errs {H : Type} (enc : TypeId × Value → H) {W : World} {a0 a1 a2 : Addr} (h : Errs W a0 a1 a2) (ht : SumTab W) (sp : Nat → Bool) :
    DataW.TrodVars enc Tryd.prog W sp ["loop.example/g00360/impl.errFrameShort", "loop.example/g00360/impl.errFrameLength", "loop.example/g00360/impl.errFrameSum", "loop.example/g00360/impl.halfSums"]
      [tok enc (sent a0), tok enc (sent a1), tok enc (sent a2), Lib.tabData .u32 sumTab] (.cell 1 0 :: .cell 2 0 :: .cell 3 0 :: (MemPlace.row ⟨0, 0, none⟩ 16 ++ [] ++ [])) :=
  ⟨_, _, #[sent a0], 1, [], _, gShort, typeShort, h.v0, trod_held Tryd.underlying126 (sent_iface a0) 0, ⟨_, _, #[sent a1], 1, [], _, gLen, typeLen, h.v1, trod_held Tryd.underlying126 (sent_iface a1) 0, ⟨_, _, #[sent a2], 1, [], _, gBad, typeBad, h.v2, trod_held Tryd.underlying126 (sent_iface a2) 0,
    ⟨_, _, _, 2, [], [], gSum, typeSum, ht, sum_shut enc W sp 0, rfl, rfl⟩, rfl⟩, rfl⟩, rfl⟩
/-- The same, the table first. -/
theorem vars_sums {H : Type} (enc : TypeId × Value → H) {W : World} {a0 a1 a2 : Addr} (h : Errs W a0 a1 a2) (ht : SumTab W) (sp : Nat → Bool) :
    DataW.TrodVars enc Tryd.prog W sp ["loop.example/g00360/impl.halfSums", "loop.example/g00360/impl.errFrameShort", "loop.example/g00360/impl.errFrameLength", "loop.example/g00360/impl.errFrameSum"]
      [Lib.tabData .u32 sumTab, tok enc (sent a0), tok enc (sent a1), tok enc (sent a2)] (MemPlace.row ⟨0, 0, none⟩ 16 ++ [] ++ [.cell 1 0, .cell 2 0, .cell 3 0]) :=
  ⟨_, _, _, 2, [], _, gSum, typeSum, ht, sum_shut enc W sp 0, ⟨_, _, #[sent a0], 1, [], _, gShort, typeShort, h.v0, trod_held Tryd.underlying126 (sent_iface a0) 0, ⟨_, _, #[sent a1], 1, [], _, gLen, typeLen, h.v1, trod_held Tryd.underlying126 (sent_iface a1) 0,
    ⟨_, _, #[sent a2], 1, [], [], gBad, typeBad, h.v2, trod_held Tryd.underlying126 (sent_iface a2) 0, rfl, rfl⟩, rfl⟩, rfl⟩, rfl⟩
end Go.Proofs.YthgiekeiljflaaaDoor
