/- ErrIs Errs FrLaid AwAid OpAid PtRow PtAid BtVar Num1In NumV NumR -/
import Derived.Test.YtgbepickfhbknaaGreatDoorRows
import Derived.WalkKit
import Derived.LaidEql
import Derived.Stop.Asserts
import Derived.RowKitTokens
import Derived.Below
import Derived.PlainAid
import Derived.WalkSmall
import Derived.Lib.LaidTab
import Derived.Test.YtgbepickfhbknaaGreatDoorQr0
import Derived.ProofKit
import Derived.OpenShut
import Derived.ChangeVars
import Derived.LaidMore
import Derived.Lay
import Derived.Stop.LaidErr
import Derived.Stop.LaidTwo
import Derived.WalkLawsBesides
import Derived.Outline
import Derived.BigQuiet
import Derived.Deep.QuietTactic
import Derived.Handy
import Derived.Deep.Slices
import Derived.ChangeArms
import Derived.Laws.OwnMore
import Derived.OwnWalk
import Derived.WalkMore
import Derived.WalkSpells
import Derived.Deep.OwnRows
import Derived.Deep.RegionHeld3
import Derived.Deep.RegionLaw
import Derived.Deep.DrawnRows
namespace Go.Proofs.YtgbepickfhbknaaGreatDoor
open Go.RowKit Go.PlainAid
set_option linter.unusedVariables false
theorem isTypeOf (v : Value) (w : World) : (callFunc 83 #[.iface 121 v]).run Tryz.prog w = .ok (.value (.iface 107 (.agg #[.pointer (some ⟨4, 121, none⟩)]))) w := by kernel_rfl
theorem isComparable (w : World) : (callFunc 111 #[.agg #[.pointer (some ⟨4, 121, none⟩)]]).run Tryz.prog w = .ok (.value (.bool true)) w := by kernel_rfl
theorem isMethodComparable (v : Value) (w : World) : (Go.method 254 107 v "Comparable").run Tryz.prog w = .ok (111, v) w := by kernel_rfl
theorem isComp : (Tryz.prog.info? 121).map (·.comparable) = some true := by kernel_rfl
theorem isSize : (Tryz.prog.info? 143).map (·.size) = some 1 := by kernel_rfl
theorem noIsE (v : Value) (xT : TypeId) (w : World) : (Instr.typeAssert (.iface 121 v) xT 109 true).run Tryz.prog w = .ok (.tuple #[.nilIface, .bool false]) w := run_typeAssert_lacksB Tryz.underlying109 (by kernel_rfl) (by kernel_rfl) v xT w
theorem noUnwrapE (v : Value) (xT : TypeId) (w : World) : (Instr.typeAssert (.iface 121 v) xT 112 true).run Tryz.prog w = .ok (.tuple #[.nilIface, .bool false]) w := run_typeAssert_lacksB Tryz.underlying112 (by kernel_rfl) (by kernel_rfl) v xT w
theorem noUnwrapsE (v : Value) (xT : TypeId) (w : World) : (Instr.typeAssert (.iface 121 v) xT 114 true).run Tryz.prog w = .ok (.tuple #[.nilIface, .bool false]) w := run_typeAssert_lacksB Tryz.underlying114 (by kernel_rfl) (by kernel_rfl) v xT w
theorem noIsW (v : Value) (xT : TypeId) (w : World) : (Instr.typeAssert (.iface 87 v) xT 109 true).run Tryz.prog w = .ok (.tuple #[.nilIface, .bool false]) w := run_typeAssert_lacksB Tryz.underlying109 (by kernel_rfl) (by kernel_rfl) v xT w
theorem hasUnwrapW (v : Value) (xT : TypeId) (w : World) : (Instr.typeAssert (.iface 87 v) xT 112 true).run Tryz.prog w = .ok (.tuple #[.iface 87 v, .bool true]) w := run_typeAssert_hasB Tryz.underlying112 (by kernel_rfl) v xT w
theorem methodUnwrap (v : Value) (w : World) : (Go.method 254 87 v "Unwrap").run Tryz.prog w = .ok (106, v) w := by kernel_rfl
theorem heap_alloc_old {w : World} {k : Nat} {o x : Obj} (h : w.heap[k]? = some x) : (w.alloc o).heap[k]? = some x := by
 show (w.heap.push o)[k]? = _
 rcases Nat.lt_or_ge k w.heap.size with h' | h'
 ·simp only [Array.getElem?_push, Nat.ne_of_lt h', if_false]
  exact h
 ·rw [Array.getElem?_eq_none h'] at h
  cases h
def wrapped (p : Int) (a : Addr) : Value := .iface 87 (.agg #[.int .i64 p, .iface 121 (.pointer (some a))])
set_option maxRecDepth 20000 in
set_option maxHeartbeats 1000000 in
theorem is_wrap_same (p : Int) (b : Addr) (w : World) :
  Calls Tryz.prog 70 #[wrapped p b, .iface 121 (.pointer (some b))] w fun e w' => e = .returned (.bool true) ∧ Below w.heap.size w w' := by
 unfold wrapped
 obtain ⟨i, hi, hcmp⟩ := Option.map_eq_some_iff.1 isComp
 obtain ⟨j, hj, hjs⟩ := Option.map_eq_some_iff.1 isSize
 have tT := isTypeOf
 have cT := isComparable
 have mR := isMethodComparable
 have nE := noIsE
 have uE := noUnwrapE
 have vE := noUnwrapsE
 have nW := noIsW
 have uW := hasUnwrapW
 have mU := methodUnwrap
 have heq := fun wx : World => run_eql_iface_ptr_same (P := Tryz.prog) wx b Tryz.underlying77 Tryz.underlying121 hi hcmp hj
 have hty := run_eql_iface_types (P := Tryz.prog) 87 121 (.agg #[.int .i64 p, .iface 121 (.pointer (some b))]) (.pointer (some b)) Tryz.underlying77 (by decide) w
 go_enter Tryz.func70, Tryz.ntmps70
 go_wp2
 refine wp_loop_rounds 2 ?_
 rw [rounds_succ]
 go_wp2
 rw [rounds_succ]
 go_wp2
 go_ret
 exact ⟨rfl, (Below.refl _ _).alloc (Nat.le_refl _) _⟩
set_option maxRecDepth 20000 in
set_option maxHeartbeats 1000000 in
theorem is_wrap_other (p : Int) (a b : Addr) (ca cb : Array Value) (ta tb : TypeId) (w : World) (hne : a ≠ b) (ha : w.heap[a.block]? = some (.cells ca ta (0, 0))) (hb : w.heap[b.block]? = some (.cells cb tb (0, 0))) :
  Calls Tryz.prog 70 #[wrapped p a, .iface 121 (.pointer (some b))] w fun e w' => e = .returned (.bool false) ∧ Below w.heap.size w w' := by
 unfold wrapped
 obtain ⟨i, hi, hcmp⟩ := Option.map_eq_some_iff.1 isComp
 obtain ⟨j, hj, hjs⟩ := Option.map_eq_some_iff.1 isSize
 have tT := isTypeOf
 have cT := isComparable
 have mR := isMethodComparable
 have nE := noIsE
 have uE := noUnwrapE
 have vE := noUnwrapsE
 have nW := noIsW
 have uW := hasUnwrapW
 have mU := methodUnwrap
 have heq : ∀ o : Obj, _ := fun o => run_eql_iface_ptr_other (P := Tryz.prog) (w.alloc o) Tryz.underlying77 Tryz.underlying121 hi hcmp hj (by rw [hjs]; decide) hne (heap_alloc_old ha) (heap_alloc_old hb)
 have hty := run_eql_iface_types (P := Tryz.prog) 87 121 (.agg #[.int .i64 p, .iface 121 (.pointer (some a))]) (.pointer (some b)) Tryz.underlying77 (by decide) w
 clear ha hb hne
 go_enter Tryz.func70, Tryz.ntmps70
 go_wp2
 refine wp_loop_rounds 2 ?_
 rw [rounds_succ]
 go_wp2
 rw [rounds_succ]
 go_wp2
 go_ret
 exact ⟨rfl, (Below.refl _ _).alloc (Nat.le_refl _) _⟩
end Go.Proofs.YtgbepickfhbknaaGreatDoor
namespace Go.Proofs.YtgbepickfhbknaaGreatDoor
open Go.RowKit Go.PlainAid
set_option linter.unusedVariables false
structure Errs (w : World) (a0 a1 a2 : Addr) : Prop where
 v0 : w.var? Tryz.prog "loop.example/g00360/impl.errFrameShort" = some #[.iface 121 (.pointer (some a0))]
 v1 : w.var? Tryz.prog "loop.example/g00360/impl.errFrameLength" = some #[.iface 121 (.pointer (some a1))]
 v2 : w.var? Tryz.prog "loop.example/g00360/impl.errFrameSum" = some #[.iface 121 (.pointer (some a2))]
 n1 : a1 ≠ a0
 n2 : a2 ≠ a0
 h0 : ∃ c t, w.heap[a0.block]? = some (.cells c t (0, 0))
 h1 : ∃ c t, w.heap[a1.block]? = some (.cells c t (0, 0))
 h2 : ∃ c t, w.heap[a2.block]? = some (.cells c t (0, 0))
theorem gShort : Tryz.prog.globalNamed "loop.example/g00360/impl.errFrameShort" = some 0 := by kernel_rfl
theorem gLen : Tryz.prog.globalNamed "loop.example/g00360/impl.errFrameLength" = some 1 := by kernel_rfl
theorem gBad : Tryz.prog.globalNamed "loop.example/g00360/impl.errFrameSum" = some 2 := by kernel_rfl
theorem Errs.c0 {w : World} {a0 a1 a2 : Addr} (h : Errs w a0 a1 a2) : w.cell? ⟨0, 0, none⟩ = some (.iface 121 (.pointer (some a0))) := by simpa using World.var?_cell gShort h.v0 0
theorem Errs.c1 {w : World} {a0 a1 a2 : Addr} (h : Errs w a0 a1 a2) : w.cell? ⟨1, 0, none⟩ = some (.iface 121 (.pointer (some a1))) := by simpa using World.var?_cell gLen h.v1 0
theorem Errs.c2 {w : World} {a0 a1 a2 : Addr} (h : Errs w a0 a1 a2) : w.cell? ⟨2, 0, none⟩ = some (.iface 121 (.pointer (some a2))) := by simpa using World.var?_cell gBad h.v2 0
theorem lt_of_some {w : World} {k : Nat} {x : Obj} (h : w.heap[k]? = some x) : k < w.heap.size := by
 rcases Nat.lt_or_ge k w.heap.size with h' | h'
 ·exact h'
 ·rw [Array.getElem?_eq_none h'] at h
  cases h
theorem Errs.on {w w' : World} {a0 a1 a2 : Addr} (h : Errs w a0 a1 a2) (hb : Below w.heap.size w w') : Errs w' a0 a1 a2 where
 v0 := var?_below hb gShort (World.block_lt_of_cell? _ _ h.c0) h.v0
 v1 := var?_below hb gLen (World.block_lt_of_cell? _ _ h.c1) h.v1
 v2 := var?_below hb gBad (World.block_lt_of_cell? _ _ h.c2) h.v2
 n1 := h.n1
 n2 := h.n2
 h0 := by obtain ⟨c, t, e⟩ := h.h0; exact ⟨c, t, by rw [hb.block _ (lt_of_some e)]; exact e⟩
 h1 := by obtain ⟨c, t, e⟩ := h.h1; exact ⟨c, t, by rw [hb.block _ (lt_of_some e)]; exact e⟩
 h2 := by obtain ⟨c, t, e⟩ := h.h2; exact ⟨c, t, by rw [hb.block _ (lt_of_some e)]; exact e⟩
set_option maxHeartbeats 400000 in
theorem code_short (p : Int) (a0 a1 a2 : Addr) (w : World) (h : Errs w a0 a1 a2) :
  Calls Tryz.prog 58 #[wrapped p a0] w fun e w' => e = .returned (.int .i64 1) ∧ Below w.heap.size w w' := by
 have hc := h.c0
 have c1 := is_wrap_same p a0 w
 clear h
 go_enter Tryz.func58, Tryz.ntmps58
 go_wp2_with fail
 refine c1.mono ?_
 rintro e w1 ⟨rfl, hb1⟩
 go_wp2_with fail
 go_ret
 exact ⟨rfl, hb1⟩
set_option maxHeartbeats 400000 in
theorem code_bad (p : Int) (a a0 a1 a2 : Addr) (w : World) (h : Errs w a0 a1 a2) (ha : a = a1 ∨ a = a2) :
  Calls Tryz.prog 58 #[wrapped p a] w fun e w' => e = .returned (.int .i64 2) ∧ Below w.heap.size w w' := by
 have hc := h.c0
 have c1 : Calls Tryz.prog 70 #[wrapped p a, .iface 121 (.pointer (some a0))] w fun e w' => e = .returned (.bool false) ∧ Below w.heap.size w w' := by
  obtain ⟨c, t, e⟩ := h.h0
  rcases ha with rfl | rfl
  ·obtain ⟨c', t', e'⟩ := h.h1
   exact is_wrap_other p a a0 c' c t' t w h.n1 e' e
  ·obtain ⟨c', t', e'⟩ := h.h2
   exact is_wrap_other p a a0 c' c t' t w h.n2 e' e
 clear h ha
 go_enter Tryz.func58, Tryz.ntmps58
 go_wp2_with fail
 refine c1.mono ?_
 rintro e w1 ⟨rfl, hb1⟩
 go_wp2_with fail
 go_ret
 exact ⟨rfl, hb1⟩
end Go.Proofs.YtgbepickfhbknaaGreatDoor
namespace Go.Proofs.YtgbepickfhbknaaGreatDoor
open Go.ChangeShapes Go.WideShapes Go.ChangeAt Go.RowKit
set_option linter.unusedVariables false
theorem own : ownKnob Tryz.prog.godebug = none := by kernel_rfl
theorem typeSum : (Tryz.prog.globals[3]?).map (·.type) = some 120 := by kernel_rfl
theorem typeShort : (Tryz.prog.globals[0]?).map (·.type) = some 77 := by kernel_rfl
theorem typeLen : (Tryz.prog.globals[1]?).map (·.type) = some 77 := by kernel_rfl
theorem typeBad : (Tryz.prog.globals[2]?).map (·.type) = some 77 := by kernel_rfl
theorem cellsSum : Tryz.prog.cellsOf 120 = 16 := by kernel_rfl
theorem cellsU32 : Tryz.prog.cellsOf 103 = 1 := by kernel_rfl
theorem cellsES : Tryz.prog.cellsOf 143 = 1 := by kernel_rfl
theorem cellsStr : Tryz.prog.cellsOf 9 = 1 := by kernel_rfl
theorem sum_data : (Rows.laid_loop_example_g00360_impl_halfSums : DataW Unit) = Lib.tabData .u32 sumTab := by kernel_rfl
theorem star : "*" ++ "errors.errorString" = "*errors.errorString" := by decide
theorem rowES (u : TypeId) (h : Tryz.prog.typeName? 3 u = some "*errors.errorString") : u = 121 :=
 typeName_ptr_named (nm := "errors.errorString") (by rw [star]; kernel_rfl) (by kernel_rfl) (by decide) u (by rw [star]; exact h)
theorem laidMet_skip {P : Program} {x y : String × DataW Unit} {r : List (String × DataW Unit)} {w : World} (h : laidMet P (x :: y :: r) w) : laidMet P (x :: r) w := by
 obtain ⟨ps, hv, hnd, hrows⟩ := h
 obtain ⟨n, d⟩ := x
 obtain ⟨n', d'⟩ := y
 obtain ⟨g, t, cs, fuel, p, q, h1, h2, h3, h4, ⟨g', t', cs', fuel', p', q', _, _, _, _, hq, rfl⟩, rfl⟩ := hv
 refine ⟨_, ⟨g, t, cs, fuel, p, q', h1, h2, h3, h4, hq, rfl⟩, ?_, fun b off hm => hrows b off ?_⟩
 ·exact List.Nodup.sublist (List.Sublist.append_left (List.sublist_append_right _ _) _) hnd
 ·rcases List.mem_append.1 hm with hm | hm
  ·exact List.mem_append_left _ hm
  ·exact List.mem_append_right _ (List.mem_append_right _ hm)
def laid4 : List (String × DataW Unit) := [("loop.example/g00360/impl.halfSums", Rows.laid_loop_example_g00360_impl_halfSums), ("loop.example/g00360/impl.errFrameShort", Rows.laid_loop_example_g00360_impl_errFrameShort), ("loop.example/g00360/impl.errFrameLength", Rows.laid_loop_example_g00360_impl_errFrameLength), ("loop.example/g00360/impl.errFrameSum", Rows.laid_loop_example_g00360_impl_errFrameSum)]
theorem laid4_plain (W : World) (h : laidMetH Tryz.prog laid4 W) : laidMet Tryz.prog laid4 W := by
 rw [MakeChecks.laidMetH_plain _ _ _ (by kernel_rfl)] at h
 exact h
theorem met_sum {W : World} (h : laidMetH Tryz.prog laid4 W) : SumTab W := by
 have h1 := laid4_plain W h
 unfold laid4 at h1
 rw [sum_data] at h1
 exact Lib.tabIs_of_head gSum typeSum Tryz.underlying120 Tryz.underlying103 cellsU32 cellsSum h1
theorem met_errs {W : World} (h : laidMetH Tryz.prog laid4 W) : ∃ a0 a1 a2, Errs W a0 a1 a2 := by
 have h1 := (laid4_plain W h).tail
 obtain ⟨a0, a1, s0, s1, c0, c1, t0, t1, hv0, hv1, _, _, _, _, _, _, hne, hb0, hb1⟩ := laid_sentinels2 h1 gShort typeShort gLen typeLen Tryz.underlying77 rowES Tryz.underlying121 Tryz.underlying143 rfl rfl Tryz.underlying9 cellsES cellsStr
 obtain ⟨a0', a2, s0', s2, c0', c2, t0', t2, hv0', hv2, _, _, _, _, _, _, hne2, hb0', hb2⟩ := laid_sentinels2 (laidMet_skip h1) gShort typeShort gBad typeBad Tryz.underlying77 rowES Tryz.underlying121 Tryz.underlying143 rfl rfl Tryz.underlying9 cellsES cellsStr
 have e : a0' = a0 := by
  have := hv0.symm.trans hv0'
  simp at this
  exact this.symm
 subst e
 exact ⟨a0', a1, a2, hv0, hv1, hv2, hne.symm, hne2.symm, ⟨_, _, hb0⟩, ⟨_, _, hb1⟩, ⟨_, _, hb2⟩⟩
def sumCells : List Value := sumTab.map fun z => Value.int .u32 z
theorem sum_shut {H : Type} (enc : TypeId × Value → H) (W : World) (sp : Nat → Bool) (n : Nat) : DataW.trod enc Tryz.prog W 0 sp true (n + 2) 120 sumCells = some (Lib.tabData .u32 sumTab, []) := by kernel_rfl
def sent (a : Addr) : Value := .iface 121 (.pointer (some a))
theorem sent_iface (a : Addr) : IsIface (sent a) := trivial
theorem vars_errs {H : Type} (enc : TypeId × Value → H) {W : World} {a0 a1 a2 : Addr} (h : Errs W a0 a1 a2) (ht : SumTab W) (sp : Nat → Bool) :
  DataW.TrodVars enc Tryz.prog W sp ["loop.example/g00360/impl.errFrameShort", "loop.example/g00360/impl.errFrameLength", "loop.example/g00360/impl.errFrameSum", "loop.example/g00360/impl.halfSums"]
   [tok enc (sent a0), tok enc (sent a1), tok enc (sent a2), Lib.tabData .u32 sumTab] (.cell 0 0 :: .cell 1 0 :: .cell 2 0 :: (MemPlace.row ⟨3, 0, none⟩ 16 ++ [] ++ [])) :=
 ⟨_, _, #[sent a0], 1, [], _, gShort, typeShort, h.v0, trod_held Tryz.underlying77 (sent_iface a0) 0, ⟨_, _, #[sent a1], 1, [], _, gLen, typeLen, h.v1, trod_held Tryz.underlying77 (sent_iface a1) 0, ⟨_, _, #[sent a2], 1, [], _, gBad, typeBad, h.v2, trod_held Tryz.underlying77 (sent_iface a2) 0,
  ⟨_, _, _, 2, [], [], gSum, typeSum, ht, sum_shut enc W sp 0, rfl, rfl⟩, rfl⟩, rfl⟩, rfl⟩
end Go.Proofs.YtgbepickfhbknaaGreatDoor
namespace Go.Proofs.YtgbepickfhbknaaGreatDoor
open Go.ChangeShapes Go.WideShapes Go.ChangeAt Go.RowKit Go.PlainAid
set_option linter.unusedVariables false
structure Ans where
 code : Int
 index : Int
 mark : Int
 data : ByteArray
instance : Inhabited Ans := ⟨⟨0, 0, 0, ByteArray.empty⟩⟩
def inRg (x lo hi : Int) : Bool := decide (lo ≤ x) && decide (x ≤ hi)
def Cell4 (w : World) (g : Nat) (x : Ans) : Prop := w.cell? ⟨g, 0, none⟩ = some (.int .i64 x.code) ∧ w.cell? ⟨g, 1, none⟩ = some (.int .i64 x.index) ∧ w.cell? ⟨g, 2, none⟩ = some (.int .i64 x.mark) ∧ w.cell? ⟨g, 3, none⟩ = some (.string x.data) ∧ g < w.heap.size
theorem Cell4.on {w w' : World} {B g : Nat} {x : Ans} (h : Cell4 w g x) (hb : Below B w w') (hg : g < B) (hs : B ≤ w.heap.size) : Cell4 w' g x := by
 obtain ⟨a, b, c, c', d⟩ := h
 refine ⟨?_, ?_, ?_, ?_, Nat.lt_of_lt_of_le d ?_⟩
 ·rw [hb.cell (p := ⟨_, _, none⟩) hg]; exact a
 ·rw [hb.cell (p := ⟨_, _, none⟩) hg]; exact b
 ·rw [hb.cell (p := ⟨_, _, none⟩) hg]; exact c
 ·rw [hb.cell (p := ⟨_, _, none⟩) hg]; exact c'
 ·exact hb.size
theorem Cell4.new (w : World) (x : Ans) (t : TypeId) : Cell4 (w.alloc (.cells #[.int .i64 x.code, .int .i64 x.index, .int .i64 x.mark, .string x.data] t)) w.heap.size x := by
 have h : (w.alloc (.cells #[.int .i64 x.code, .int .i64 x.index, .int .i64 x.mark, .string x.data] t)).heap[w.heap.size]? = some (.cells #[.int .i64 x.code, .int .i64 x.index, .int .i64 x.mark, .string x.data] t (0, 0)) := heap_alloc_new w _
 refine ⟨?_, ?_, ?_, ?_, by simp⟩
 ·rw [cell_of_row _ _ 0 _ t (0, 0) h]; rfl
 ·rw [cell_of_row _ _ 1 _ t (0, 0) h]; rfl
 ·rw [cell_of_row _ _ 2 _ t (0, 0) h]; rfl
 ·rw [cell_of_row _ _ 3 _ t (0, 0) h]; rfl
theorem below_a1 (w : World) (a : Obj) : Below w.heap.size w (w.alloc a) := (Below.refl _ w).alloc (Nat.le_refl _) a
set_option maxHeartbeats 400000 in
theorem inS (x lo hi : Int) (w : World) : Calls Tryz.prog 15 #[.int .i64 x, .int .i64 lo, .int .i64 hi] w fun e w' => e = .returned (.bool (inRg x lo hi)) ∧ w = w' := by
 by_cases h1 : lo ≤ x
 ·go_enter Tryz.func15, Tryz.ntmps15
  go_wp2
  go_ret
  exact ⟨by simp [inRg, h1], rfl⟩
 ·have z : decide (lo ≤ x) = false := decide_eq_false h1
  have z2 : x < lo := by omega
  go_enter Tryz.func15, Tryz.ntmps15
  go_wp2
  go_ret
  exact ⟨by unfold inRg; rw [z]; rfl, rfl⟩
set_option maxHeartbeats 400000 in
theorem inI (x lo hi : Int) (w : World) : Calls Tryz.prog 31 #[.int .i64 x, .int .i64 lo, .int .i64 hi] w fun e w' => e = .returned (.bool (inRg x lo hi)) ∧ w = w' := by
 by_cases h1 : lo ≤ x
 ·go_enter Tryz.func31, Tryz.ntmps31
  go_wp2
  go_ret
  exact ⟨by simp [inRg, h1], rfl⟩
 ·have z : decide (lo ≤ x) = false := decide_eq_false h1
  have z2 : x < lo := by omega
  go_enter Tryz.func31, Tryz.ntmps31
  go_wp2
  go_ret
  exact ⟨by unfold inRg; rw [z]; rfl, rfl⟩
end Go.Proofs.YtgbepickfhbknaaGreatDoor
namespace Go.Proofs.YtgbepickfhbknaaGreatDoor
open Go.ChangeShapes Go.WideShapes Go.ChangeAt Go.RowKit Go.PlainAid
set_option linter.unusedVariables false
structure Opx where
 kind : Int
 key : ByteArray
 frm : Int
 til : Int
 data : ByteArray
def vOp (x : Opx) : Value := .agg #[.int .i64 x.kind, .string x.key, .int .i64 x.frm, .int .i64 x.til, .string x.data]
def CellO (w : World) (g : Nat) (x : Opx) : Prop := (w.cell? ⟨g, 0, none⟩ = some (.int .i64 x.kind) ∧ w.cell? ⟨g, 1, none⟩ = some (.string x.key) ∧ w.cell? ⟨g, 2, none⟩ = some (.int .i64 x.frm) ∧ w.cell? ⟨g, 3, none⟩ = some (.int .i64 x.til) ∧ w.cell? ⟨g, 4, none⟩ = some (.string x.data)) ∧ g < w.heap.size
theorem CellO.on {w w' : World} {B g : Nat} {x : Opx} (h : CellO w g x) (hb : Below B w w') (hg : g < B) : CellO w' g x := by
 obtain ⟨⟨a, b, c, d, e⟩, f⟩ := h
 refine ⟨⟨?_, ?_, ?_, ?_, ?_⟩, Nat.lt_of_lt_of_le f hb.size⟩
 ·rw [hb.cell (p := ⟨_, _, none⟩) hg]; exact a
 ·rw [hb.cell (p := ⟨_, _, none⟩) hg]; exact b
 ·rw [hb.cell (p := ⟨_, _, none⟩) hg]; exact c
 ·rw [hb.cell (p := ⟨_, _, none⟩) hg]; exact d
 ·rw [hb.cell (p := ⟨_, _, none⟩) hg]; exact e
theorem CellO.new (w : World) (x : Opx) (t : TypeId) : CellO (w.alloc (.cells #[.int .i64 x.kind, .string x.key, .int .i64 x.frm, .int .i64 x.til, .string x.data] t)) w.heap.size x := by
 have h : (w.alloc (.cells #[.int .i64 x.kind, .string x.key, .int .i64 x.frm, .int .i64 x.til, .string x.data] t)).heap[w.heap.size]? = some (.cells #[.int .i64 x.kind, .string x.key, .int .i64 x.frm, .int .i64 x.til, .string x.data] t (0, 0)) := heap_alloc_new w _
 refine ⟨⟨?_, ?_, ?_, ?_, ?_⟩, by simp⟩
 ·rw [cell_of_row _ _ 0 _ t (0, 0) h]; rfl
 ·rw [cell_of_row _ _ 1 _ t (0, 0) h]; rfl
 ·rw [cell_of_row _ _ 2 _ t (0, 0) h]; rfl
 ·rw [cell_of_row _ _ 3 _ t (0, 0) h]; rfl
 ·rw [cell_of_row _ _ 4 _ t (0, 0) h]; rfl
section
variable {H : Type} {enc : TypeId × Value → H} {w : World} {base : Nat} {spare : Nat → Bool} {held : Bool}
end
end Go.Proofs.YtgbepickfhbknaaGreatDoor
namespace Go.Proofs.YtgbepickfhbknaaGreatDoor
open Go.RowKit Go.PlainAid
structure Pnt where
 t : Int
 v : Int
instance : Inhabited Pnt := ⟨⟨0, 0⟩⟩
theorem Pnt.same {x y : Pnt} (h1 : x.t = y.t) (h2 : x.v = y.v) : x = y := by
 cases x
 cases y
 simp only at h1 h2
 subst h1
 subst h2
 rfl
def Lies (w : World) (B sz : Nat) (v : Value) (rows : List (List Value)) : Prop :=
 ∃ A cap, v = .slice A rows.length cap ∧ ((A = none → cap = 0) ∧ rows.length ≤ cap) ∧ (∀ r ∈ rows, r.length = sz) ∧ (rows.length = 0 ∨ ∃ g off, A = some ⟨g, off, none⟩ ∧ g < B ∧ ∀ k x, rows.flatten[k]? = some x → w.cell? ⟨g, off + k, none⟩ = some x)
theorem Lies.on {w w' : World} {B sz : Nat} {v : Value} {rows : List (List Value)} (h : Lies w B sz v rows) (hb : Below B w w') : Lies w' B sz v rows := by
 obtain ⟨A, cap, e, hz, hs, h⟩ := h
 refine ⟨A, cap, e, hz, hs, h.imp id ?_⟩
 rintro ⟨g, off, rfl, hg, hc⟩
 refine ⟨g, off, rfl, hg, fun k x hx => ?_⟩
 rw [← hc k x hx]
 exact World.cell?_of_block (w := w) (hb.block g hg)
theorem Lies.heap {w w' : World} {B sz : Nat} {v : Value} {rows : List (List Value)} (h : Lies w B sz v rows) (hh : w'.heap = w.heap) : Lies w' B sz v rows := by
 obtain ⟨A, cap, e, hz, hs, h⟩ := h
 refine ⟨A, cap, e, hz, hs, h.imp id ?_⟩
 rintro ⟨g, off, rfl, hg, hc⟩
 refine ⟨g, off, rfl, hg, fun k x hx => ?_⟩
 rw [← hc k x hx]
 exact World.cell?_of_block (w := w) (by rw [hh])
theorem Lies.mono {w : World} {B C sz : Nat} {v : Value} {rows : List (List Value)} (h : Lies w B sz v rows) (hB : B ≤ C) : Lies w C sz v rows := by
 obtain ⟨A, cap, e, hz, hs, h⟩ := h
 refine ⟨A, cap, e, hz, hs, h.imp id ?_⟩
 rintro ⟨g, off, rfl, hg, hc⟩
 exact ⟨g, off, rfl, by omega, hc⟩
theorem flat_at (sz : Nat) : ∀ (rows : List (List Value)), (∀ r ∈ rows, r.length = sz) → ∀ (j f : Nat) (hj : j < rows.length), f < sz → rows.flatten[j * sz + f]? = (rows[j])[f]?
 | [], _, j, f, hj, _ => by simp at hj
 | r :: rs, hs, 0, f, _, hf => by
  have := hs r (by simp)
  simp only [List.flatten_cons, Nat.zero_mul, Nat.zero_add, List.getElem_cons_zero]
  rw [List.getElem?_append_left (by omega)]
 | r :: rs, hs, j + 1, f, hj, hf => by
  have hr := hs r (by simp)
  have ih := flat_at sz rs (fun r hr => hs r (by simp [hr])) j f (by simp at hj; omega) hf
  simp only [List.flatten_cons, List.getElem_cons_succ]
  rw [List.getElem?_append_right (by rw [hr, Nat.succ_mul]; omega), ← ih, hr]
  congr 1
  rw [Nat.succ_mul]
  omega
theorem flat_length (sz : Nat) (rows : List (List Value)) (hs : ∀ r ∈ rows, r.length = sz) : rows.flatten.length = rows.length * sz := by
 induction rows with
 | nil => simp
 | cons r rs ih =>
  rw [List.flatten_cons, List.length_append, ih (fun r hr => hs r (by simp [hr])), hs r (by simp), List.length_cons, Nat.succ_mul]
  omega
theorem Lies.look {w : World} {B sz : Nat} {v : Value} {rows : List (List Value)} (h : Lies w B sz v rows) : ∃ A cap, v = .slice A rows.length cap ∧ ∀ j (hj : j < rows.length), ∃ g off, A = some ⟨g, off, none⟩ ∧ g < B ∧ ∀ f x, f < sz → (rows[j])[f]? = some x → w.cell? ⟨g, off + (j * sz + f), none⟩ = some x := by
 obtain ⟨A, cap, rfl, _, hs, h⟩ := h
 refine ⟨A, cap, rfl, fun j hj => ?_⟩
 rcases h with h | ⟨g, off, rfl, hg, hc⟩
 ·omega
 ·exact ⟨g, off, rfl, hg, fun f x hf hx => hc _ x (by rw [flat_at sz rows hs j f hj hf]; exact hx)⟩
theorem Lies.first {w : World} {B sz : Nat} {A : Option Addr} {n c : Nat} {rows : List (List Value)} (h : Lies w B sz (.slice A n c) rows) (k : Nat) (hk : k ≤ rows.length) : Lies w B sz (.slice A k c) (rows.take k) := by
 obtain ⟨A', c', e, hz, hs, h⟩ := h
 cases e
 have hl : (rows.take k).length = k := by rw [List.length_take]; omega
 refine ⟨A, c, by rw [hl], ⟨hz.1, by rw [hl]; exact Nat.le_trans hk hz.2⟩, fun r hr => hs r (List.mem_of_mem_take hr), ?_⟩
 rw [hl]
 rcases h with h | ⟨g, off, rfl, hg, hc⟩
 ·exact .inl (by omega)
 ·refine .inr ⟨g, off, rfl, hg, fun j x hx => hc j x ?_⟩
  rw [← List.take_append_drop k rows, List.flatten_append, List.getElem?_append_left ((List.getElem?_eq_some_iff.1 hx).1)]
  exact hx
def Owns (w : World) (base : Nat) (e : TypeId) (sz : Nat) (v : Value) (rows : List (List Value)) : Prop := (∀ r ∈ rows, r.length = sz) ∧ w.ownsRow base e sz v rows.length rows.flatten
theorem Owns.lt {w : World} {base : Nat} {e : TypeId} {sz : Nat} {v : Value} {rows : List (List Value)} (h : Owns w base e sz v rows) : ∀ k, v.ownBlock = some k → base ≤ k ∧ k < w.heap.size := World.ownsRow.lt h.2
theorem Owns.lies {w : World} {base : Nat} {e : TypeId} {sz : Nat} {v : Value} {rows : List (List Value)} (h : Owns w base e sz v rows) : Lies w w.heap.size sz v rows := by
 have hlt := h.lt
 have hc := fun g hg => World.ownsRow.cells h.2 (g := g) hg
 rcases h.2.2 with ⟨rfl, h0⟩ | ⟨g, cap, cur, rfl, _, _, hcap, _⟩
 ·exact ⟨none, 0, by rw [h0], ⟨fun _ => rfl, by omega⟩, h.1, .inl h0⟩
 ·refine ⟨_, cap, rfl, ⟨fun e => (by cases e), hcap⟩, h.1, .inr ⟨g, 0, rfl, (hlt g rfl).2, fun k x hx => ?_⟩⟩
  have e : (⟨g, 0, none⟩ : Addr).add k = ⟨g, 0 + k, none⟩ := by cases k <;> simp [Addr.add]
  rw [← e]
  exact hc g rfl k x hx
theorem Owns.kept {w w' : World} {base : Nat} {e : TypeId} {sz : Nat} {v : Value} {rows : List (List Value)} (h : Owns w base e sz v rows) (hk : ∀ g, g < w.heap.size → v.ownBlock = some g → w'.heap[g]? = w.heap[g]?) : Owns w' base e sz v rows := by
 have hl := h.lt
 refine ⟨h.1, h.2.1, h.2.2.imp id ?_⟩
 rintro ⟨g, cap, cur, rfl, hg, hh, r⟩
 refine ⟨g, cap, cur, rfl, hg, ?_, r⟩
 rw [hk g (hl g rfl).2 rfl]
 exact hh
theorem Owns.on {w w' : World} {base : Nat} {e : TypeId} {sz : Nat} {v : Value} {rows : List (List Value)} (h : Owns w base e sz v rows) (hb : Below w.heap.size w w') : Owns w' base e sz v rows := h.kept fun g hg _ => hb.block g hg
theorem Owns.heap {w w' : World} {base : Nat} {e : TypeId} {sz : Nat} {v : Value} {rows : List (List Value)} (h : Owns w base e sz v rows) (hh : w'.heap = w.heap) : Owns w' base e sz v rows := h.kept fun g _ _ => by rw [hh]
theorem Owns.mono {w : World} {base base' : Nat} {e : TypeId} {sz : Nat} {v : Value} {rows : List (List Value)} (h : Owns w base e sz v rows) (hb : base' ≤ base) : Owns w base' e sz v rows :=
 ⟨h.1, h.2.1, h.2.2.imp id fun ⟨g, cap, cur, e, hg, r⟩ => ⟨g, cap, cur, e, Nat.le_trans hb hg, r⟩⟩
theorem getD_mem {α : Type} [Inhabited α] (l : List α) (j : Nat) (h : j < l.length) : l.getD j default ∈ l := by
 rw [List.getD_eq_getElem?_getD, List.getElem?_eq_getElem h]
 exact List.getElem_mem h
theorem getD_at {α : Type} [Inhabited α] (l : List α) (j : Nat) (h : j < l.length) : l[j] = l.getD j default := by
 rw [List.getD_eq_getElem?_getD, List.getElem?_eq_getElem h]
 rfl
def ptC (x : Pnt) : List Value := [.int .i64 x.t, .int .i64 x.v]
def ptR (l : List Pnt) : List (List Value) := l.map ptC
theorem ptR_length (l : List Pnt) : (ptR l).length = l.length := by simp [ptR]
theorem ptR_append (l m : List Pnt) : ptR (l ++ m) = ptR l ++ ptR m := by simp [ptR]
theorem pt_look {w : World} {B : Nat} {v : Value} {l : List Pnt} (h : Lies w B 2 v (ptR l)) : ∃ A cap, v = .slice A l.length cap ∧ ∀ j, j < l.length → ∃ g off, A = some ⟨g, off, none⟩ ∧ g < B ∧
  w.cell? ⟨g, off + j * 2, none⟩ = some (.int .i64 (l.getD j default).t) ∧ w.cell? ⟨g, off + j * 2 + 1, none⟩ = some (.int .i64 (l.getD j default).v) := by
 obtain ⟨A, cap, e, h⟩ := h.look
 refine ⟨A, cap, by rw [e]; simp [ptR], fun j hj => ?_⟩
 rw [← getD_at l j hj]
 obtain ⟨g, off, e, hg, hc⟩ := h j (by simpa [ptR] using hj)
 refine ⟨g, off, e, hg, ?_, ?_⟩
 ·have := hc 0 _ (by omega) (by simp [ptR, ptC]; rfl); simpa [Nat.add_assoc] using this
 ·have := hc 1 _ (by omega) (by simp [ptR, ptC]; rfl); simpa [Nat.add_assoc] using this
theorem Lies.behind {w : World} {B sz g off n c : Nat} {rows : List (List Value)} (h : Lies w B sz (.slice (some ⟨g, off, none⟩) n c) rows) (k : Nat) (hk : k ≤ rows.length) : Lies w B sz (.slice (some ⟨g, off + k * sz, none⟩) (n - k) (c - k)) (rows.drop k) := by
 obtain ⟨A', c', e, hz, hs, h⟩ := h
 cases e
 have hl : (rows.drop k).length = rows.length - k := List.length_drop
 refine ⟨_, c - k, by rw [hl], ⟨fun e => (by cases e), by rw [hl]; have := hz.2; omega⟩, fun r hr => hs r (List.mem_of_mem_drop hr), ?_⟩
 rw [hl]
 rcases h with h | ⟨g', off', e, hg, hc⟩
 ·exact .inl (by omega)
 ·cases e
  refine .inr ⟨g, off + k * sz, rfl, hg, fun j x hx => ?_⟩
  have hl2 : (rows.take k).flatten.length = k * sz := by rw [flat_length sz _ (fun r hr => hs r (List.mem_of_mem_take hr)), List.length_take, Nat.min_eq_left hk]
  have := hc (k * sz + j) x (by
   rw [← List.take_append_drop k rows, List.flatten_append, List.getElem?_append_right (by omega), hl2, Nat.add_sub_cancel_left]
   exact hx)
  rw [← Nat.add_assoc] at this
  exact this
end Go.Proofs.YtgbepickfhbknaaGreatDoor
namespace Go.Proofs.YtgbepickfhbknaaGreatDoor
open Go.RowKit Go.PlainAid
def tAt (l : List Pnt) (j : Nat) : Int := (l.getD j default).t
def vAt (l : List Pnt) (j : Nat) : Int := (l.getD j default).v
def POk (l : List Pnt) : Prop := l.length ≤ 60 ∧ ∀ j, j < l.length → ((0 ≤ tAt l j ∧ tAt l j ≤ 1099511627776) ∧ (-1099511627776 ≤ vAt l j ∧ vAt l j ≤ 1099511627776)) ∧ (0 < j → tAt l (j - 1) < tAt l j)
instance (l : List Pnt) : Decidable (POk l) := by unfold POk; infer_instance
theorem POk.nil : POk [] := ⟨by simp, fun j hj => by simp at hj⟩
end Go.Proofs.YtgbepickfhbknaaGreatDoor
namespace Go.Proofs.YtgbepickfhbknaaGreatDoor
open Go.RowKit Go.PlainAid
theorem vvS_var (f n : Nat) (pre tl : List UInt8) (hn : n < 128 ^ (f + 1)) : vvS (txt (pre ++ vF f n ++ tl)) pre.length (vF f n).length = n := by
 induction f generalizing n pre with
 | zero =>
  simp at hn
  have e : (vF 0 n).length = 1 := rfl
  rw [e]
  have hb : bn (txt (pre ++ vF 0 n ++ tl)) pre.length = n := by
   rw [bn_txt _ _ (by simp [vF])]
   simp [vF, byt_toNat]
   omega
  simp only [vvS, hb]
  omega
 | succ f ih =>
  by_cases h : n < 128
  ·rw [vF_small _ n h]
   have hb : bn (txt (pre ++ [byt n] ++ tl)) pre.length = n := by
    rw [bn_txt _ _ (by simp)]
    simp [byt_toNat]
    omega
   simp only [List.length_cons, List.length_nil, vvS, hb]
   omega
  ·have e : vF (f + 1) n = byt (128 + n % 128) :: vF f (n / 128) := by rw [vF, if_neg h]
   have hd : n / 128 < 128 ^ (f + 1) := by
    rw [Nat.pow_succ] at hn
    exact Nat.div_lt_of_lt_mul (by rw [Nat.mul_comm]; exact hn)
   rw [e]
   have hb : bn (txt (pre ++ (byt (128 + n % 128) :: vF f (n / 128)) ++ tl)) pre.length = 128 + n % 128 := by
    rw [bn_txt _ _ (by simp)]
    simp [byt_toNat]
    omega
   have hi := ih (n / 128) (pre ++ [byt (128 + n % 128)]) hd
   have e2 : pre ++ [byt (128 + n % 128)] ++ vF f (n / 128) ++ tl = pre ++ (byt (128 + n % 128) :: vF f (n / 128)) ++ tl := by simp
   rw [e2] at hi
   simp only [List.length_cons, vvS, hb]
   simp only [List.length_append, List.length_cons, List.length_nil] at hi
   rw [Nat.zero_add] at hi
   rw [hi]
   omega
theorem sg_txt (l tl : List UInt8) : sg (txt (l ++ tl)) 0 l.length = l := by
 have h := sg_extract (txt (l ++ tl)) l.length (by rw [txt_size]; simp)
 have e : (txt (l ++ tl)).extract 0 l.length = txt l := by
  apply ByteArray.ext
  apply Array.toList_inj.1
  rw [Lib.extract_data]
  simp [txt]
 rw [e] at h
 exact (txt_inj _ _ h).symm
theorem vF_pos (f n : Nat) : 1 ≤ (vF f n).length := by
 cases f with
 | zero => simp [vF]
 | succ f => rw [vF]; split <;> simp
theorem find_var (n : Nat) (tl : List UInt8) (hn : n ≤ 562949953421311) : FindV (txt (vF 6 n ++ tl)) (vF 6 n).length ∧ vvS (txt (vF 6 n ++ tl)) 0 (vF 6 n).length = n := by
 have hp := vF_pos 6 n
 have hl := vF_length 6 n
 have hv := vvS_var 6 n [] tl (by omega)
 simp only [List.nil_append, List.length_nil] at hv
 refine ⟨⟨hp, hl, by rw [txt_size]; simp, ?_⟩, hv⟩
 obtain ⟨d, hd⟩ : ∃ d, (vF 6 n).length = d + 1 := ⟨(vF 6 n).length - 1, by omega⟩
 have hs := sg_txt (vF 6 n) tl
 rw [hd] at hs hv ⊢
 rw [← canonS_iff _ d 0 6 (by omega), hv, hs]
end Go.Proofs.YtgbepickfhbknaaGreatDoor
namespace Go.Proofs.YtgbepickfhbknaaGreatDoor
open Go.ChangeShapes Go.WideShapes Go.ChangeAt Go.RowKit Go.PlainAid
set_option linter.unusedVariables false
set_option maxHeartbeats 400000 in
theorem in_yes (x lo hi : Int) (w : World) (h1 : lo ≤ x) (h2 : x ≤ hi) :
  Calls Tryz.prog 15 #[.int .i64 x, .int .i64 lo, .int .i64 hi] w fun e w' => e = .returned (.bool true) ∧ w = w' := by
 go_enter Tryz.func15, Tryz.ntmps15
 go_wp2
 go_ret
 exact ⟨rfl, rfl⟩
set_option maxHeartbeats 400000 in
theorem in_no (x lo hi : Int) (w : World) (h : x < lo ∨ hi < x) :
  Calls Tryz.prog 15 #[.int .i64 x, .int .i64 lo, .int .i64 hi] w fun e w' => e = .returned (.bool false) ∧ w = w' := by
 by_cases h1 : x < lo
 ·go_enter Tryz.func15, Tryz.ntmps15
  go_wp2
  go_ret
  exact ⟨rfl, rfl⟩
 ·have h2 : hi < x := by omega
  have h3 : decide (x ≤ hi) = false := by simp; omega
  clear h
  go_enter Tryz.func15, Tryz.ntmps15
  go_wp2
  go_ret
  exact ⟨rfl, rfl⟩
end Go.Proofs.YtgbepickfhbknaaGreatDoor
namespace Go.Proofs.YtgbepickfhbknaaGreatDoor
open Go.ChangeShapes Go.WideShapes Go.ChangeAt Go.RowKit Go.PlainAid
set_option linter.unusedVariables false
set_option maxHeartbeats 400000 in
theorem spec_var (n : Nat) (w : World) (h1 : n ≤ 562949953421311) :
  Calls Tryz.prog 17 #[.int .i64 (n : Int)] w fun e w' => e = .returned (.string (txt (vF 6 n))) ∧ Below w.heap.size w w' := by
 have q1 : (n : Int) ≤ 562949953421311 := by omega
 go_enter Tryz.func17, Tryz.ntmps17
 go_wp2_with (go_at_call 15; refine (in_yes _ _ _ _ (by omega) (by omega)).mono ?_; rintro e w' ⟨rfl, rfl⟩)
 go_loopw [0, 3] (fun v0 v3 wr => ∃ m f : Nat, ∃ pre : List UInt8, v0 = .int .i64 m ∧ m ≤ 562949953421311 ∧ m < 128 ^ (f + 1) ∧ pre ++ vF f m = vF 6 n ∧ Buf wr w.heap.size v3 pre ∧ Below w.heap.size w wr) (fun i _ _ => (intOf i).toNat)
 case atStart => exact ⟨n, 6, [], rfl, h1, by omega, rfl, Buf.made w w.heap.size 0 #[] (Nat.le_refl _) (by simp [maxLen]) rfl, (Below.refl _ _).alloc (Nat.le_refl _) _⟩
 case round =>
  obtain ⟨m, f, pre, rfl, hm1, hm2, hpre, hbuf, hb⟩ := hrel
  have HP : Hid (pre ++ vF f m = vF 6 n) := hpre
  clear hpre
  have HM : Hid (m < 128 ^ (f + 1)) := hm2
  clear hm2
  have hlp : pre.length ≤ 7 := by
   have := congrArg List.length HP.out
   have := vF_length 6 n
   simp at *
   omega
  have hsz := hb.size
  by_cases hlt : (128 : Int) ≤ (m : Int)
  ·have hcs := one_cell (128 + (m : Int) % 128) (128 + m % 128) (by omega) (by omega)
   have HC : Hid (#[Value.int .u8 (128 + (m : Int) % 128)] = byteCells [byt (128 + m % 128)]) := hcs
   clear hcs
   go_wp2_with (at_builtin; refine wpList_append_bytes rfl (.tmp 10) (.tmp 15) 53 rfl Tryz.underlying53 Tryz.info5 w.heap.size _ pre rfl hbuf _ [byt (128 + m % 128)] HC.out 1 1 rfl rfl (by simp; omega) hsz ?_; intro v' w1 hbuf1 hb1)
   obtain ⟨g, hg1, hg2, _⟩ := vF_round f m pre HM.out (by omega)
   go_roundw
   case rel => exact ⟨m / 128, g, pre ++ [byt (128 + m % 128)], by go_num, by omega, hg1, hg2.trans HP.out, hbuf1, hb.trans hb1⟩
   case measure => simp [intOf]; omega
  ·have hcs := one_cell (m : Int) m rfl (by omega)
   have HC : Hid (#[Value.int .u8 (m : Int)] = byteCells [byt m]) := hcs
   clear hcs
   go_wp2_with (at_builtin; refine wpList_append_bytes rfl (.tmp 19) (.tmp 22) 53 rfl Tryz.underlying53 Tryz.info5 w.heap.size _ pre rfl hbuf _ [byt m] HC.out 1 1 rfl rfl (by simp; omega) hsz ?_; intro v' w1 hbuf1 hb1; have hcv := hbuf1.string (P := Tryz.prog) 53 9 Tryz.underlying53 Tryz.underlying5 Tryz.underlying9)
   go_ret
   exact ⟨by rw [← HP.out, vF_small f m (by omega)]; rfl, hb.trans hb1⟩
set_option maxHeartbeats 400000 in
theorem impl_var (n : Nat) (w : World) (h1 : n ≤ 562949953421311) :
  Calls Tryz.prog 67 #[.int .i64 (n : Int)] w fun e w' => e = .returned (.string (txt (vF 6 n))) ∧ Below w.heap.size w w' := by
 have q1 : (n : Int) ≤ 562949953421311 := by omega
 have q0 : (0 : Int) ≤ (n : Int) := by omega
 have hmk : ∀ w : World, (Instr.makeSlice 53 (.int .i64 0) (.int .i64 7)).run Tryz.prog w = .ok (.slice (some ⟨w.heap.size, 0, none⟩) 0 7) (w.alloc (.cells #[.int .u8 0, .int .u8 0, .int .u8 0, .int .u8 0, .int .u8 0, .int .u8 0, .int .u8 0] 5)) := fun _ => by kernel_rfl
 go_enter Tryz.func67, Tryz.ntmps67
 go_wp2
 go_loopw [0, 3] (fun v0 v3 wr => ∃ m f : Nat, ∃ pre : List UInt8, v0 = .int .i64 m ∧ m ≤ 562949953421311 ∧ m < 128 ^ (f + 1) ∧ pre ++ vF f m = vF 6 n ∧ Buf wr w.heap.size v3 pre ∧ Below w.heap.size w wr) (fun i _ _ => (intOf i).toNat)
 case atStart => exact ⟨n, 6, [], rfl, h1, by omega, rfl, Buf.made w w.heap.size 7 _ (Nat.le_refl _) (by simp [maxLen]) rfl, (Below.refl _ _).alloc (Nat.le_refl _) _⟩
 case round =>
  obtain ⟨m, f, pre, rfl, hm1, hm2, hpre, hbuf, hb⟩ := hrel
  have HP : Hid (pre ++ vF f m = vF 6 n) := hpre
  clear hpre
  have HM : Hid (m < 128 ^ (f + 1)) := hm2
  clear hm2
  have hlp : pre.length ≤ 7 := by
   have := congrArg List.length HP.out
   have := vF_length 6 n
   simp at *
   omega
  have hsz := hb.size
  by_cases hlt : (128 : Int) ≤ (m : Int)
  ·have hcs := one_cell ((m : Int) % 128 + 128) (128 + m % 128) (by omega) (by omega)
   have HC : Hid (#[Value.int .u8 ((m : Int) % 128 + 128)] = byteCells [byt (128 + m % 128)]) := hcs
   clear hcs
   go_wp2_with (at_builtin; refine wpList_append_bytes rfl (.tmp 13) (.tmp 18) 53 rfl Tryz.underlying53 Tryz.info5 w.heap.size _ pre rfl hbuf _ [byt (128 + m % 128)] HC.out 1 1 rfl rfl (by simp; omega) hsz ?_; intro v' w1 hbuf1 hb1)
   obtain ⟨g, hg1, hg2, _⟩ := vF_round f m pre HM.out (by omega)
   go_roundw
   case rel => exact ⟨m / 128, g, pre ++ [byt (128 + m % 128)], by go_num, by omega, hg1, hg2.trans HP.out, hbuf1, hb.trans hb1⟩
   case measure => simp [intOf]; omega
  ·have hcs := one_cell (m : Int) m rfl (by omega)
   have HC : Hid (#[Value.int .u8 (m : Int)] = byteCells [byt m]) := hcs
   clear hcs
   go_wp2_with (at_builtin; refine wpList_append_bytes rfl (.tmp 22) (.tmp 25) 53 rfl Tryz.underlying53 Tryz.info5 w.heap.size _ pre rfl hbuf _ [byt m] HC.out 1 1 rfl rfl (by simp; omega) hsz ?_; intro v' w1 hbuf1 hb1; have hcv := hbuf1.string (P := Tryz.prog) 53 9 Tryz.underlying53 Tryz.underlying5 Tryz.underlying9)
   go_ret
   exact ⟨by rw [← HP.out, vF_small f m (by omega)]; rfl, hb.trans hb1⟩
end Go.Proofs.YtgbepickfhbknaaGreatDoor
namespace Go.Proofs.YtgbepickfhbknaaGreatDoor
open Go.ChangeShapes Go.WideShapes Go.ChangeAt Go.RowKit Go.PlainAid
set_option linter.unusedVariables false
def ReadV (s : ByteArray) (e : Ending) : Prop :=
 (∃ k : Nat, FindV s k ∧ e = .returned (.tuple #[.int .i64 (vvS s 0 k : Int), .int .i64 (k : Int)])) ∨ ((∀ k, ¬ FindV s k) ∧ e = .returned (.tuple #[.int .i64 0, .int .i64 0]))
theorem vvS_or (s : ByteArray) (k : Nat) (h : k < 7) : bits .or .i64 (vvS s 0 k : Int) (wrap64 ((bn s k : Int) % 128 * 2 ^ (7 * k))) = (vvS s 0 (k + 1) : Int) := by
 have h1 := vvS_lt s k 0
 have h2 := vvS_le s (k + 1) (by omega) 0
 have e := vvS_snoc s k 0
 rw [Nat.zero_add] at e
 have e2 : (128 : Nat) ^ k = 2 ^ (7 * k) := by rw [Nat.pow_mul]
 have c : (bn s k : Int) % 128 * 2 ^ (7 * k) = ((bn s k % 128 * 2 ^ (7 * k) : Nat) : Int) := by norm_cast
 rw [e2] at e h1
 rw [c, IntWalk.wrap64_in _ ⟨by omega, by omega⟩]
 have j := or_join (7 * k) (bn s k % 128 * 2 ^ (7 * k)) (vvS s 0 k) (Nat.mul_mod_left _ _) h1 (by omega)
 have comm : bits .or .i64 (vvS s 0 k : Int) ((bn s k % 128 * 2 ^ (7 * k) : Nat) : Int) = bits .or .i64 ((bn s k % 128 * 2 ^ (7 * k) : Nat) : Int) (vvS s 0 k : Int) := by
  show IntKind.i64.wrap ((BitVec.ofInt 64 _ ||| BitVec.ofInt 64 _).toNat : Int) = IntKind.i64.wrap ((BitVec.ofInt 64 _ ||| BitVec.ofInt 64 _).toNat : Int)
  rw [BitVec.or_comm]
 rw [comm, j, e, Nat.add_comm]
theorem find_stop (s : ByteArray) (k : Nat) (hk : k < 7) (hs : k < s.size) (hj : ∀ j, j < k → 128 ≤ bn s j) (hc : bn s k < 128) (hz : k = 0 ∨ bn s k ≠ 0) : FindV s (k + 1) :=
 ⟨by omega, by omega, by omega, (canonS_char s k 0).2 ⟨by intro j h; rw [Nat.zero_add]; exact hj j h, by rw [Nat.zero_add]; exact hc, by rw [Nat.zero_add]; exact hz⟩⟩
theorem find_zero (s : ByteArray) (k : Nat) (hj : ∀ j, j < k → 128 ≤ bn s j) (hc : bn s k = 0) (hk : 0 < k) : ∀ m, ¬ FindV s m := by
 rintro m ⟨h1, h2, h3, h4⟩
 obtain ⟨d, rfl⟩ : ∃ d, m = d + 1 := ⟨m - 1, by omega⟩
 obtain ⟨c1, c2, c3⟩ := (canonS_char s d 0).1 h4
 rw [Nat.zero_add] at c2 c3
 rcases Nat.lt_trichotomy d k with h | h | h
 ·have := hj d h; omega
 ·subst h; omega
 ·have := c1 k h; rw [Nat.zero_add] at this; omega
theorem find_end (s : ByteArray) (L : Nat) (hj : ∀ j, j < L → 128 ≤ bn s j) (hL : 7 ≤ L ∨ s.size ≤ L) : ∀ m, ¬ FindV s m := by
 rintro m ⟨h1, h2, h3, h4⟩
 obtain ⟨d, rfl⟩ : ∃ d, m = d + 1 := ⟨m - 1, by omega⟩
 obtain ⟨c1, c2, c3⟩ := (canonS_char s d 0).1 h4
 rw [Nat.zero_add] at c2
 have := hj d (by omega)
 omega
theorem ret_ints {a b c d : Int} (h : a = b) (h' : c = d) : Ending.returned (.tuple #[.int .i64 a, .int .i64 c]) = .returned (.tuple #[.int .i64 b, .int .i64 d]) := by rw [h, h']
set_option maxHeartbeats 1000000 in
theorem impl_readVar_long (s : ByteArray) (w : World) (hs : s.size ≤ 1048576) (h7 : (7 : Int) < (s.size : Int)) :
  Calls Tryz.prog 25 #[.string s] w fun e w' => ReadV s e ∧ w = w' := by
 have q1 : (s.size : Int) ≤ 1048576 := by omega
 have hbt := get_bn s
 go_enter Tryz.func25, Tryz.ntmps25
 go_wp2
 go_loop [4, 10] (fun v4 v10 => ∃ k : Nat, k ≤ 7 ∧ v10 = .int .i64 k ∧ v4 = .int .i64 (vvS s 0 k) ∧ Hid (∀ j, j < k → 128 ≤ bn s j)) (fun _ i => 7 - (intOf i).toNat)
 case atStart => exact ⟨0, by omega, rfl, rfl, fun j hj => absurd hj (by omega)⟩
 case round =>
  obtain ⟨k, hk, rfl, rfl, HJ⟩ := hrel
  by_cases hlt : k < 7
  ·have r1 := bn_lt s k
   have HO : Hid (bits .or .i64 (vvS s 0 k : Int) (wrap64 ((bn s k : Int) % 128 * 2 ^ (7 * k))) = (vvS s 0 (k + 1) : Int)) := vvS_or s k (by omega)
   by_cases hc : (128 : Int) ≤ (bn s k : Int)
   ·go_wp2
    go_round
    case rel =>
     refine ⟨k + 1, by omega, by go_num, by rw [HO.out], ?_⟩
     intro j hj
     by_cases e : j = k
     ·subst e; omega
     ·exact HJ.out j (by omega)
    case measure => simp [intOf]; omega
   ·by_cases hz : bn s k = 0
    ·by_cases hk0 : k = 0
     ·have HF : Hid (FindV s (k + 1)) := find_stop s k (by omega) (by omega) HJ.out (by omega) (.inl hk0)
      have z1 : ((bn s k : Int) == 0) = true := by simp; omega
      have z2 : (k : Int) ≤ 0 := by omega
      clear hk0 hz
      go_wp2
      go_ret2
      exact ⟨.inl ⟨k + 1, HF.out, ret_ints HO.out (by omega)⟩, rfl⟩
     ·have HF : Hid (∀ m, ¬ FindV s m) := find_zero s k HJ.out hz (by omega)
      have z1 : ((bn s k : Int) == 0) = true := by simp; omega
      have z2 : (0 : Int) < (k : Int) := by omega
      clear hz
      go_wp2
      go_ret2
      exact ⟨.inr ⟨HF.out, rfl⟩, rfl⟩
    ·have HF : Hid (FindV s (k + 1)) := find_stop s k (by omega) (by omega) HJ.out (by omega) (.inr hz)
     have z1 : ((bn s k : Int) == 0) = false := by simp; omega
     go_wp2
     go_ret2
     exact ⟨.inl ⟨k + 1, HF.out, ret_ints HO.out (by omega)⟩, rfl⟩
  ·have HF : Hid (∀ m, ¬ FindV s m) := find_end s k HJ.out (by omega)
   go_wp2
   go_ret2
   exact ⟨.inr ⟨HF.out, rfl⟩, rfl⟩
set_option maxHeartbeats 1000000 in
theorem impl_readVar_short (s : ByteArray) (w : World) (hs : s.size ≤ 1048576) (h7 : (s.size : Int) ≤ 7) :
  Calls Tryz.prog 25 #[.string s] w fun e w' => ReadV s e ∧ w = w' := by
 have q1 : (s.size : Int) ≤ 1048576 := by omega
 have hbt := get_bn s
 go_enter Tryz.func25, Tryz.ntmps25
 go_wp2
 go_loop [4, 10] (fun v4 v10 => ∃ k : Nat, k ≤ s.size ∧ v10 = .int .i64 k ∧ v4 = .int .i64 (vvS s 0 k) ∧ Hid (∀ j, j < k → 128 ≤ bn s j)) (fun _ i => s.size - (intOf i).toNat)
 case atStart => exact ⟨0, by omega, rfl, rfl, fun j hj => absurd hj (by omega)⟩
 case round =>
  obtain ⟨k, hk, rfl, rfl, HJ⟩ := hrel
  by_cases hlt : k < s.size
  ·have r1 := bn_lt s k
   have HO : Hid (bits .or .i64 (vvS s 0 k : Int) (wrap64 ((bn s k : Int) % 128 * 2 ^ (7 * k))) = (vvS s 0 (k + 1) : Int)) := vvS_or s k (by omega)
   by_cases hc : (128 : Int) ≤ (bn s k : Int)
   ·go_wp2
    go_round
    case rel =>
     refine ⟨k + 1, by omega, by go_num, by rw [HO.out], ?_⟩
     intro j hj
     by_cases e : j = k
     ·subst e; omega
     ·exact HJ.out j (by omega)
    case measure => simp [intOf]; omega
   ·by_cases hz : bn s k = 0
    ·by_cases hk0 : k = 0
     ·have HF : Hid (FindV s (k + 1)) := find_stop s k (by omega) (by omega) HJ.out (by omega) (.inl hk0)
      have z1 : ((bn s k : Int) == 0) = true := by simp; omega
      have z2 : (k : Int) ≤ 0 := by omega
      clear hk0 hz
      go_wp2
      go_ret2
      exact ⟨.inl ⟨k + 1, HF.out, ret_ints HO.out (by omega)⟩, rfl⟩
     ·have HF : Hid (∀ m, ¬ FindV s m) := find_zero s k HJ.out hz (by omega)
      have z1 : ((bn s k : Int) == 0) = true := by simp; omega
      have z2 : (0 : Int) < (k : Int) := by omega
      clear hz
      go_wp2
      go_ret2
      exact ⟨.inr ⟨HF.out, rfl⟩, rfl⟩
    ·have HF : Hid (FindV s (k + 1)) := find_stop s k (by omega) (by omega) HJ.out (by omega) (.inr hz)
     have z1 : ((bn s k : Int) == 0) = false := by simp; omega
     go_wp2
     go_ret2
     exact ⟨.inl ⟨k + 1, HF.out, ret_ints HO.out (by omega)⟩, rfl⟩
  ·have HF : Hid (∀ m, ¬ FindV s m) := find_end s k HJ.out (by omega)
   go_wp2
   go_ret2
   exact ⟨.inr ⟨HF.out, rfl⟩, rfl⟩
theorem impl_readVar (s : ByteArray) (w : World) (hs : s.size ≤ 1048576) :
  Calls Tryz.prog 25 #[.string s] w fun e w' => ReadV s e ∧ w = w' := by
 by_cases h : (7 : Int) < (s.size : Int)
 ·exact impl_readVar_long s w hs h
 ·exact impl_readVar_short s w hs (by omega)
theorem txt_list (l : List UInt8) : (txt l).toList = l := by rw [Lib.toList_data]; simp [txt]
theorem var_eq (s : ByteArray) (k : Nat) (h1 : 1 ≤ k) (h7 : k ≤ 7) (hk : k ≤ s.size) : ((txt (vF 6 (vvS s 0 k))).toList == (s.extract 0 k).toList) = true ↔ canonS s 0 k := by
 obtain ⟨d, rfl⟩ : ∃ d, k = d + 1 := ⟨k - 1, by omega⟩
 rw [sg_extract s (d + 1) hk, txt_list, txt_list, ← canonS_iff s d 0 6 (by omega)]
 simp
set_option maxHeartbeats 1000000 in
theorem spec_readVar (s : ByteArray) (w : World) (hs : s.size ≤ 1048576) :
  Calls Tryz.prog 13 #[.string s] w fun e w' => ReadV s e ∧ Below w.heap.size w w' := by
 have q1 : (s.size : Int) ≤ 1048576 := by omega
 have hbt := get_bn s
 go_enter Tryz.func13, Tryz.ntmps13
 go_wp2
 go_loopw [4] (fun v4 wr => ∃ k : Nat, 1 ≤ k ∧ k ≤ 8 ∧ v4 = .int .i64 k ∧ Hid (∀ j, j < k → ¬ FindV s j) ∧ Below w.heap.size w wr) (fun i _ => 8 - (intOf i).toNat)
 case atStart => exact ⟨1, by omega, by omega, rfl, (by intro j hj h; have := h.1; omega), Below.refl _ _⟩
 case round =>
  obtain ⟨k, hk1, hk, rfl, HJ, hb⟩ := hrel
  by_cases hlt : k ≤ 7
  ·by_cases hle : k ≤ s.size
   ·have c1 : (k : Int) ≤ 7 := by omega
    have c2 : (k : Int) ≤ (s.size : Int) := by omega
    have hkv := vvS_le s k hlt 0
    go_wp2
    go_loop [5, 6] (fun v5 v6 => ∃ j : Nat, j ≤ k ∧ v6 = .int .i64 ((j : Int) - 1) ∧ v5 = .int .i64 (vvS s j (k - j))) (fun _ i => (intOf i + 1).toNat)
    case atStart => exact ⟨k, by omega, rfl, by rw [Nat.sub_self]; rfl⟩
    case round =>
     obtain ⟨j, hj, rfl, rfl⟩ := hrel
     by_cases hj0 : 0 < j
     ·have r1 := bn_lt s (j - 1)
      have r2 := vvS_le s (k - j) (by omega) j
      have hs0 : vvS s (j - 1) (k - (j - 1)) = bn s (j - 1) % 128 + 128 * vvS s j (k - j) := by
       have e1 : k - (j - 1) = (k - j) + 1 := by omega
       have e2 : j - 1 + 1 = j := by omega
       rw [e1, vvS, e2]
      have HS : Hid (vvS s (j - 1) (k - (j - 1)) = bn s (j - 1) % 128 + 128 * vvS s j (k - j)) := hs0
      clear hs0
      have e3 : ((j : Int) - 1).toNat = j - 1 := by omega
      go_wp2
      go_round
      case rel => exact ⟨j - 1, by omega, by go_num, by rw [HS.out]; go_num⟩
      case measure => simp [intOf]; omega
     ·have hj00 : j = 0 := by omega
      subst hj00
      rw [Nat.sub_zero]
      by_cases hcan : canonS s 0 k
      ·have hq := (var_eq s k hk1 hlt hle).2 hcan
       have HF : Hid (FindV s k) := ⟨hk1, hlt, hle, hcan⟩
       clear hcan
       go_wp2
       go_region_held3 (fun _ => True) (exact True.intro) ((go_at_call 17; refine (spec_var _ _ (by omega)).mono ?_; rintro e w1 ⟨rfl, hbv⟩))
       all_goals
        go_wp2
        go_ret2
        exact ⟨.inl ⟨k, HF.out, rfl⟩, hb.drew.trans (hbv.mono (by have := hb.size; exact this))⟩
      ·have hq : ((txt (vF 6 (vvS s 0 k))).toList == (s.extract 0 k).toList) = false := by
        have := mt (var_eq s k hk1 hlt hle).1 hcan
        simpa using this
       have HF : Hid (¬ FindV s k) := fun h => hcan h.2.2.2
       clear hcan
       go_wp2
       go_region_held3 (fun _ => True) (exact True.intro) ((go_at_call 17; refine (spec_var _ _ (by omega)).mono ?_; rintro e w1 ⟨rfl, hbv⟩))
       all_goals
        go_wp2
        go_roundw
        case rel =>
         refine ⟨k + 1, by omega, by omega, by go_num, ?_, hb.drew.trans (hbv.mono (by have := hb.size; exact this))⟩
         intro j hj
         by_cases e : j = k
         ·subst e; exact HF.out
         ·exact HJ.out j (by omega)
        case measure => simp [intOf]; omega
   ·have c1 : (k : Int) ≤ 7 := by omega
    have c2 : decide ((k : Int) ≤ (s.size : Int)) = false := by simp; omega
    have HF : Hid (∀ m, ¬ FindV s m) := by
     intro m hm
     by_cases e : m < k
     ·exact HJ.out m e hm
     ·have := hm.2.2.1; omega
    go_wp2
    go_ret2
    exact ⟨.inr ⟨HF.out, rfl⟩, hb⟩
  ·have c1 : (7 : Int) < (k : Int) := by omega
   have HF : Hid (∀ m, ¬ FindV s m) := by
    intro m hm
    by_cases e : m < k
    ·exact HJ.out m e hm
    ·have := hm.2.1; omega
   go_wp2
   go_ret2
   exact ⟨.inr ⟨HF.out, rfl⟩, hb⟩
end Go.Proofs.YtgbepickfhbknaaGreatDoor
