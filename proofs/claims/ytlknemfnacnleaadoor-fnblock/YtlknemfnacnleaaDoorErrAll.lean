/-
  Contracts of errors.Is for an error of the program's own make (a struct that wraps a sentinel) and a sentinel.
-/
import Derived.Test.YtlknemfnacnleaaDoorRows
import Derived.WalkKit
import Derived.LaidEql
import Derived.Stop.Asserts
import Derived.RowKitTokens
import Derived.Below
import Derived.PlainAid
import Derived.WalkSmall
import Derived.Lib.LaidTab
import Derived.Test.YtlknemfnacnleaaDoorFrAll
import Derived.ProofKit
import Derived.OpenShut
import Derived.ChangeVars
import Derived.LaidMore
import Derived.Lay
import Derived.Stop.LaidErr
import Derived.Stop.LaidTwo
import Derived.Shelf.Pu.Clone
import Derived.WalkLawsBesides
import Derived.Outline
import Derived.BigQuiet
import Derived.Deep.QuietTactic
import Derived.Deep.RegionWith
import Derived.Laws.DeepStrings4
import Derived.OwnWalk
namespace Go.Proofs.YtlknemfnacnleaaDoor
open Go.RowKit Go.PlainAid
set_option linter.unusedVariables false

theorem isTypeOf (v : Value) (w : World) : (callFunc 89 #[.iface 121 v]).run Tryd.prog w = .ok (.value (.iface 110 (.agg #[.pointer (some ⟨4, 121, none⟩)]))) w := by kernel_rfl
theorem isComparable (w : World) : (callFunc 113 #[.agg #[.pointer (some ⟨4, 121, none⟩)]]).run Tryd.prog w = .ok (.value (.bool true)) w := by kernel_rfl
theorem isMethodComparable (v : Value) (w : World) : (Go.method 254 110 v "Comparable").run Tryd.prog w = .ok (113, v) w := by kernel_rfl
theorem isComp : (Tryd.prog.info? 121).map (·.comparable) = some true := by kernel_rfl
theorem isSize : (Tryd.prog.info? 143).map (·.size) = some 1 := by kernel_rfl
theorem noIsE (v : Value) (xT : TypeId) (w : World) : (Instr.typeAssert (.iface 121 v) xT 112 true).run Tryd.prog w = .ok (.tuple #[.nilIface, .bool false]) w := run_typeAssert_lacksB Tryd.underlying112 (by kernel_rfl) (by kernel_rfl) v xT w
theorem noUnwrapE (v : Value) (xT : TypeId) (w : World) : (Instr.typeAssert (.iface 121 v) xT 115 true).run Tryd.prog w = .ok (.tuple #[.nilIface, .bool false]) w := run_typeAssert_lacksB Tryd.underlying115 (by kernel_rfl) (by kernel_rfl) v xT w
theorem noUnwrapsE (v : Value) (xT : TypeId) (w : World) : (Instr.typeAssert (.iface 121 v) xT 117 true).run Tryd.prog w = .ok (.tuple #[.nilIface, .bool false]) w := run_typeAssert_lacksB Tryd.underlying117 (by kernel_rfl) (by kernel_rfl) v xT w
theorem noIsW (v : Value) (xT : TypeId) (w : World) : (Instr.typeAssert (.iface 93 v) xT 112 true).run Tryd.prog w = .ok (.tuple #[.nilIface, .bool false]) w := run_typeAssert_lacksB Tryd.underlying112 (by kernel_rfl) (by kernel_rfl) v xT w
theorem hasUnwrapW (v : Value) (xT : TypeId) (w : World) : (Instr.typeAssert (.iface 93 v) xT 115 true).run Tryd.prog w = .ok (.tuple #[.iface 93 v, .bool true]) w := run_typeAssert_hasB Tryd.underlying115 (by kernel_rfl) v xT w
theorem methodUnwrap (v : Value) (w : World) : (Go.method 254 93 v "Unwrap").run Tryd.prog w = .ok (109, v) w := by kernel_rfl

theorem heap_alloc_old {w : World} {k : Nat} {o x : Obj} (h : w.heap[k]? = some x) : (w.alloc o).heap[k]? = some x := by
  show (w.heap.push o)[k]? = _
  rcases Nat.lt_or_ge k w.heap.size with h' | h'
  · simp only [Array.getElem?_push, Nat.ne_of_lt h', if_false]
    exact h
  · rw [Array.getElem?_eq_none h'] at h
    cases h

/-- An error of the program's own: a place, and the sentinel at a. -/
def wrapped (p : Int) (a : Addr) : Value := .iface 93 (.agg #[.int .i64 p, .iface 121 (.pointer (some a))])

set_option maxRecDepth 20000 in
set_option maxHeartbeats 1000000 in
/-- errors.Is of a wrapped sentinel and this sentinel. -/
theorem is_wrap_same (p : Int) (b : Addr) (w : World) :
    Calls Tryd.prog 82 #[wrapped p b, .iface 121 (.pointer (some b))] w fun e w' => e = .returned (.bool true) ∧ Below w.heap.size w w' := by
  unfold wrapped
  obtain ⟨i, hi, hcmp⟩ := Option.map_eq_some_iff.1 isComp
  obtain ⟨j, hj, hjs⟩ := Option.map_eq_some_iff.1 isSize
  have tT := isTypeOf
  have cT := isComparable
  have mR := isMethodComparable
  have nE := noIsE
  have uE := noUnwrapE
  have vE := noUnwrapsE
  have nW := noIsW
  have uW := hasUnwrapW
  have mU := methodUnwrap
  have heq := fun wx : World => run_eql_iface_ptr_same (P := Tryd.prog) wx b Tryd.underlying74 Tryd.underlying121 hi hcmp hj
  have hty := run_eql_iface_types (P := Tryd.prog) 93 121 (.agg #[.int .i64 p, .iface 121 (.pointer (some b))]) (.pointer (some b)) Tryd.underlying74 (by decide) w
  go_enter Tryd.func82, Tryd.ntmps82
  go_wp2
  refine wp_loop_rounds 2 ?_
  rw [rounds_succ]
  go_wp2
  rw [rounds_succ]
  go_wp2
  go_ret
  exact ⟨rfl, (Below.refl _ _).alloc (Nat.le_refl _) _⟩

set_option maxRecDepth 20000 in
set_option maxHeartbeats 1000000 in
/-- errors.Is of a wrapped sentinel and another sentinel. -/
theorem is_wrap_other (p : Int) (a b : Addr) (ca cb : Array Value) (ta tb : TypeId) (w : World) (hne : a ≠ b) (ha : w.heap[a.block]? = some (.cells ca ta (0, 0))) (hb : w.heap[b.block]? = some (.cells cb tb (0, 0))) :
    Calls Tryd.prog 82 #[wrapped p a, .iface 121 (.pointer (some b))] w fun e w' => e = .returned (.bool false) ∧ Below w.heap.size w w' := by
  unfold wrapped
  obtain ⟨i, hi, hcmp⟩ := Option.map_eq_some_iff.1 isComp
  obtain ⟨j, hj, hjs⟩ := Option.map_eq_some_iff.1 isSize
  have tT := isTypeOf
  have cT := isComparable
  have mR := isMethodComparable
  have nE := noIsE
  have uE := noUnwrapE
  have vE := noUnwrapsE
  have nW := noIsW
  have uW := hasUnwrapW
  have mU := methodUnwrap
  have heq : ∀ o : Obj, _ := fun o => run_eql_iface_ptr_other (P := Tryd.prog) (w.alloc o) Tryd.underlying74 Tryd.underlying121 hi hcmp hj (by rw [hjs]; decide) hne (heap_alloc_old ha) (heap_alloc_old hb)
  have hty := run_eql_iface_types (P := Tryd.prog) 93 121 (.agg #[.int .i64 p, .iface 121 (.pointer (some a))]) (.pointer (some b)) Tryd.underlying74 (by decide) w
  clear ha hb hne
  go_enter Tryd.func82, Tryd.ntmps82
  go_wp2
  refine wp_loop_rounds 2 ?_
  rw [rounds_succ]
  go_wp2
  rw [rounds_succ]
  go_wp2
  go_ret
  exact ⟨rfl, (Below.refl _ _).alloc (Nat.le_refl _) _⟩

end Go.Proofs.YtlknemfnacnleaaDoor

/-
  The three sentinels of the package, where they lie apart; the contracts of impl.frameCode: the code of a wrapped sentinel.
-/
namespace Go.Proofs.YtlknemfnacnleaaDoor
open Go.RowKit Go.PlainAid
set_option linter.unusedVariables false

/-! ### The three sentinels -/
/-- The three package errors lie at a0, a1, a2, the first apart from the others. -/
structure Errs (w : World) (a0 a1 a2 : Addr) : Prop where
  v0 : w.var? Tryd.prog "loop.example/g00360/impl.errFrameShort" = some #[.iface 121 (.pointer (some a0))]
  v1 : w.var? Tryd.prog "loop.example/g00360/impl.errFrameLength" = some #[.iface 121 (.pointer (some a1))]
  v2 : w.var? Tryd.prog "loop.example/g00360/impl.errFrameSum" = some #[.iface 121 (.pointer (some a2))]
  n1 : a1 ≠ a0
  n2 : a2 ≠ a0
  h0 : ∃ c t, w.heap[a0.block]? = some (.cells c t (0, 0))
  h1 : ∃ c t, w.heap[a1.block]? = some (.cells c t (0, 0))
  h2 : ∃ c t, w.heap[a2.block]? = some (.cells c t (0, 0))
theorem gShort : Tryd.prog.globalNamed "loop.example/g00360/impl.errFrameShort" = some 0 := by kernel_rfl
theorem gLen : Tryd.prog.globalNamed "loop.example/g00360/impl.errFrameLength" = some 1 := by kernel_rfl
theorem gBad : Tryd.prog.globalNamed "loop.example/g00360/impl.errFrameSum" = some 2 := by kernel_rfl
theorem Errs.c0 {w : World} {a0 a1 a2 : Addr} (h : Errs w a0 a1 a2) : w.cell? ⟨0, 0, none⟩ = some (.iface 121 (.pointer (some a0))) := by simpa using World.var?_cell gShort h.v0 0
theorem Errs.c1 {w : World} {a0 a1 a2 : Addr} (h : Errs w a0 a1 a2) : w.cell? ⟨1, 0, none⟩ = some (.iface 121 (.pointer (some a1))) := by simpa using World.var?_cell gLen h.v1 0
theorem Errs.c2 {w : World} {a0 a1 a2 : Addr} (h : Errs w a0 a1 a2) : w.cell? ⟨2, 0, none⟩ = some (.iface 121 (.pointer (some a2))) := by simpa using World.var?_cell gBad h.v2 0

theorem lt_of_some {w : World} {k : Nat} {x : Obj} (h : w.heap[k]? = some x) : k < w.heap.size := by
  rcases Nat.lt_or_ge k w.heap.size with h' | h'
  · exact h'
  · rw [Array.getElem?_eq_none h'] at h
    cases h
theorem Errs.on {w w' : World} {a0 a1 a2 : Addr} (h : Errs w a0 a1 a2) (hb : Below w.heap.size w w') : Errs w' a0 a1 a2 where
  v0 := var?_below hb gShort (World.block_lt_of_cell? _ _ h.c0) h.v0
  v1 := var?_below hb gLen (World.block_lt_of_cell? _ _ h.c1) h.v1
  v2 := var?_below hb gBad (World.block_lt_of_cell? _ _ h.c2) h.v2
  n1 := h.n1
  n2 := h.n2
  h0 := by obtain ⟨c, t, e⟩ := h.h0; exact ⟨c, t, by rw [hb.block _ (lt_of_some e)]; exact e⟩
  h1 := by obtain ⟨c, t, e⟩ := h.h1; exact ⟨c, t, by rw [hb.block _ (lt_of_some e)]; exact e⟩
  h2 := by obtain ⟨c, t, e⟩ := h.h2; exact ⟨c, t, by rw [hb.block _ (lt_of_some e)]; exact e⟩

set_option maxHeartbeats 400000 in
theorem code_short (p : Int) (a0 a1 a2 : Addr) (w : World) (h : Errs w a0 a1 a2) :
    Calls Tryd.prog 68 #[wrapped p a0] w fun e w' => e = .returned (.int .i64 1) ∧ Below w.heap.size w w' := by
  have hc := h.c0
  have c1 := is_wrap_same p a0 w
  clear h
  go_enter Tryd.func68, Tryd.ntmps68
  go_wp2_with fail
  refine c1.mono ?_
  rintro e w1 ⟨rfl, hb1⟩
  go_wp2_with fail
  go_ret
  exact ⟨rfl, hb1⟩

set_option maxHeartbeats 400000 in
theorem code_bad (p : Int) (a a0 a1 a2 : Addr) (w : World) (h : Errs w a0 a1 a2) (ha : a = a1 ∨ a = a2) :
    Calls Tryd.prog 68 #[wrapped p a] w fun e w' => e = .returned (.int .i64 2) ∧ Below w.heap.size w w' := by
  have hc := h.c0
  have c1 : Calls Tryd.prog 82 #[wrapped p a, .iface 121 (.pointer (some a0))] w fun e w' => e = .returned (.bool false) ∧ Below w.heap.size w w' := by
    obtain ⟨c, t, e⟩ := h.h0
    rcases ha with rfl | rfl
    · obtain ⟨c', t', e'⟩ := h.h1
      exact is_wrap_other p a a0 c' c t' t w h.n1 e' e
    · obtain ⟨c', t', e'⟩ := h.h2
      exact is_wrap_other p a a0 c' c t' t w h.n2 e' e
  clear h ha
  go_enter Tryd.func68, Tryd.ntmps68
  go_wp2_with fail
  refine c1.mono ?_
  rintro e w1 ⟨rfl, hb1⟩
  go_wp2_with fail
  go_ret
  exact ⟨rfl, hb1⟩
end Go.Proofs.YtlknemfnacnleaaDoor

/-
  What the rows' list of four variables gives: the table of sixteen sums, and the three sentinels, apart; how they read behind a call.
-/
namespace Go.Proofs.YtlknemfnacnleaaDoor
open Go.ChangeShapes Go.WideShapes Go.ChangeAt Go.RowKit
set_option linter.unusedVariables false

theorem own : ownKnob Tryd.prog.godebug = none := by kernel_rfl
theorem typeSum : (Tryd.prog.globals[3]?).map (·.type) = some 120 := by kernel_rfl
theorem typeShort : (Tryd.prog.globals[0]?).map (·.type) = some 74 := by kernel_rfl
theorem typeLen : (Tryd.prog.globals[1]?).map (·.type) = some 74 := by kernel_rfl
theorem typeBad : (Tryd.prog.globals[2]?).map (·.type) = some 74 := by kernel_rfl
theorem cellsSum : Tryd.prog.cellsOf 120 = 16 := by kernel_rfl
theorem cellsU32 : Tryd.prog.cellsOf 97 = 1 := by kernel_rfl
theorem cellsES : Tryd.prog.cellsOf 143 = 1 := by kernel_rfl
theorem cellsStr : Tryd.prog.cellsOf 9 = 1 := by kernel_rfl
theorem sum_data : (Rows.laid_loop_example_g00360_impl_halfSums : DataW Unit) = Lib.tabData .u32 sumTab := by kernel_rfl
theorem star : "*" ++ "errors.errorString" = "*errors.errorString" := by decide
theorem rowES (u : TypeId) (h : Tryd.prog.typeName? 3 u = some "*errors.errorString") : u = 121 :=
  typeName_ptr_named (nm := "errors.errorString") (by rw [star]; kernel_rfl) (by kernel_rfl) (by decide) u (by rw [star]; exact h)
/-- The list without its second. -/
theorem laidMet_skip {P : Program} {x y : String × DataW Unit} {r : List (String × DataW Unit)} {w : World} (h : laidMet P (x :: y :: r) w) : laidMet P (x :: r) w := by
  obtain ⟨ps, hv, hnd, hrows⟩ := h
  obtain ⟨n, d⟩ := x
  obtain ⟨n', d'⟩ := y
  obtain ⟨g, t, cs, fuel, p, q, h1, h2, h3, h4, ⟨g', t', cs', fuel', p', q', _, _, _, _, hq, rfl⟩, rfl⟩ := hv
  refine ⟨_, ⟨g, t, cs, fuel, p, q', h1, h2, h3, h4, hq, rfl⟩, ?_, fun b off hm => hrows b off ?_⟩
  · exact List.Nodup.sublist (List.Sublist.append_left (List.sublist_append_right _ _) _) hnd
  · rcases List.mem_append.1 hm with hm | hm
    · exact List.mem_append_left _ hm
    · exact List.mem_append_right _ (List.mem_append_right _ hm)
/-- The list. -/
def laid4 : List (String × DataW Unit) := [("loop.example/g00360/impl.halfSums", Rows.laid_loop_example_g00360_impl_halfSums), ("loop.example/g00360/impl.errFrameShort", Rows.laid_loop_example_g00360_impl_errFrameShort), ("loop.example/g00360/impl.errFrameLength", Rows.laid_loop_example_g00360_impl_errFrameLength), ("loop.example/g00360/impl.errFrameSum", Rows.laid_loop_example_g00360_impl_errFrameSum)]
theorem laid4_plain (W : World) (h : laidMetH Tryd.prog laid4 W) : laidMet Tryd.prog laid4 W := by
  rw [MakeChecks.laidMetH_plain _ _ _ (by kernel_rfl)] at h
  exact h
theorem met_sum {W : World} (h : laidMetH Tryd.prog laid4 W) : SumTab W := by
  have h1 := laid4_plain W h
  unfold laid4 at h1
  rw [sum_data] at h1
  exact Lib.tabIs_of_head gSum typeSum Tryd.underlying120 Tryd.underlying97 cellsU32 cellsSum h1
theorem met_errs {W : World} (h : laidMetH Tryd.prog laid4 W) : ∃ a0 a1 a2, Errs W a0 a1 a2 := by
  have h1 := (laid4_plain W h).tail
  obtain ⟨a0, a1, s0, s1, c0, c1, t0, t1, hv0, hv1, _, _, _, _, _, _, hne, hb0, hb1⟩ := laid_sentinels2 h1 gShort typeShort gLen typeLen Tryd.underlying74 rowES Tryd.underlying121 Tryd.underlying143 rfl rfl Tryd.underlying9 cellsES cellsStr
  obtain ⟨a0', a2, s0', s2, c0', c2, t0', t2, hv0', hv2, _, _, _, _, _, _, hne2, hb0', hb2⟩ := laid_sentinels2 (laidMet_skip h1) gShort typeShort gBad typeBad Tryd.underlying74 rowES Tryd.underlying121 Tryd.underlying143 rfl rfl Tryd.underlying9 cellsES cellsStr
  have e : a0' = a0 := by
    have := hv0.symm.trans hv0'
    simp at this
    exact this.symm
  subst e
  exact ⟨a0', a1, a2, hv0, hv1, hv2, hne.symm, hne2.symm, ⟨_, _, hb0⟩, ⟨_, _, hb1⟩, ⟨_, _, hb2⟩⟩
/-- The table's cells. -/
def sumCells : List Value := sumTab.map fun z => Value.int .u32 z
/-- The table as it is read, in any world. -/
theorem sum_shut {H : Type} (enc : TypeId × Value → H) (W : World) (sp : Nat → Bool) (n : Nat) : DataW.trod enc Tryd.prog W 0 sp true (n + 2) 120 sumCells = some (Lib.tabData .u32 sumTab, []) := by kernel_rfl
/-- The sentinel's value. -/
def sent (a : Addr) : Value := .iface 121 (.pointer (some a))
theorem sent_iface (a : Addr) : IsIface (sent a) := trivial
/-- The four variables as they read, the sentinels first. -/
theorem vars_errs {H : Type} (enc : TypeId × Value → H) {W : World} {a0 a1 a2 : Addr} (h : Errs W a0 a1 a2) (ht : SumTab W) (sp : Nat → Bool) :
    DataW.TrodVars enc Tryd.prog W sp ["loop.example/g00360/impl.errFrameShort", "loop.example/g00360/impl.errFrameLength", "loop.example/g00360/impl.errFrameSum", "loop.example/g00360/impl.halfSums"]
      [tok enc (sent a0), tok enc (sent a1), tok enc (sent a2), Lib.tabData .u32 sumTab] (.cell 0 0 :: .cell 1 0 :: .cell 2 0 :: (MemPlace.row ⟨3, 0, none⟩ 16 ++ [] ++ [])) :=
  ⟨_, _, #[sent a0], 1, [], _, gShort, typeShort, h.v0, trod_held Tryd.underlying74 (sent_iface a0) 0, ⟨_, _, #[sent a1], 1, [], _, gLen, typeLen, h.v1, trod_held Tryd.underlying74 (sent_iface a1) 0, ⟨_, _, #[sent a2], 1, [], _, gBad, typeBad, h.v2, trod_held Tryd.underlying74 (sent_iface a2) 0,
    ⟨_, _, _, 2, [], [], gSum, typeSum, ht, sum_shut enc W sp 0, rfl, rfl⟩, rfl⟩, rfl⟩, rfl⟩
/-- The same, the table first. -/
theorem vars_sums {H : Type} (enc : TypeId × Value → H) {W : World} {a0 a1 a2 : Addr} (h : Errs W a0 a1 a2) (ht : SumTab W) (sp : Nat → Bool) :
    DataW.TrodVars enc Tryd.prog W sp ["loop.example/g00360/impl.halfSums", "loop.example/g00360/impl.errFrameShort", "loop.example/g00360/impl.errFrameLength", "loop.example/g00360/impl.errFrameSum"]
      [Lib.tabData .u32 sumTab, tok enc (sent a0), tok enc (sent a1), tok enc (sent a2)] (MemPlace.row ⟨3, 0, none⟩ 16 ++ [] ++ [.cell 0 0, .cell 1 0, .cell 2 0]) :=
  ⟨_, _, _, 2, [], _, gSum, typeSum, ht, sum_shut enc W sp 0, ⟨_, _, #[sent a0], 1, [], _, gShort, typeShort, h.v0, trod_held Tryd.underlying74 (sent_iface a0) 0, ⟨_, _, #[sent a1], 1, [], _, gLen, typeLen, h.v1, trod_held Tryd.underlying74 (sent_iface a1) 0,
    ⟨_, _, #[sent a2], 1, [], [], gBad, typeBad, h.v2, trod_held Tryd.underlying74 (sent_iface a2) 0, rfl, rfl⟩, rfl⟩, rfl⟩, rfl⟩
end Go.Proofs.YtlknemfnacnleaaDoor

/-
  The library's contract of internal/stringslite.Clone at this program (its fields are closed facts), and strings.Clone's: the same bytes.
-/
namespace Go.Proofs.YtlknemfnacnleaaDoor
open Go.RowKit
/-- Where the shelf's numbers lie in this program. -/
def cloneRen : Go.Shelf.Ren := ⟨fun _ => 88, fun | 37 => 33 | 47 => 90 | t => t, fun g => g⟩
theorem clone_lays : Go.Proofs.LaysPu.n25 Tryd.prog cloneRen where
  mixed := by kernel_rfl
  f25 := Tryd.func88.trans (congrArg some (by kernel_rfl))
  t0 := Tryd.underlying0
  a0 := Tryd.isAgg0
  z0 := Tryd.sizeOf0
  v0 := Tryd.zeroValue0
  i0 := by kernel_rfl
  t3 := Tryd.underlying3
  a3 := Tryd.isAgg3
  z3 := Tryd.sizeOf3
  v3 := Tryd.zeroValue3
  i3 := by kernel_rfl
  t4 := Tryd.underlying4
  a4 := Tryd.isAgg4
  z4 := Tryd.sizeOf4
  v4 := Tryd.zeroValue4
  i4 := by kernel_rfl
  t5 := Tryd.underlying5
  a5 := Tryd.isAgg5
  z5 := Tryd.sizeOf5
  v5 := Tryd.zeroValue5
  i5 := by kernel_rfl
  t9 := Tryd.underlying9
  a9 := Tryd.isAgg9
  z9 := Tryd.sizeOf9
  v9 := Tryd.zeroValue9
  i9 := by kernel_rfl
  t37 := Tryd.underlying33
  a37 := Tryd.isAgg33
  z37 := Tryd.sizeOf33
  v37 := Tryd.zeroValue33
  i37 := by kernel_rfl
  t47 := Tryd.underlying90
  a47 := Tryd.isAgg90
  z47 := Tryd.sizeOf90
  v47 := Tryd.zeroValue90
  i47 := by kernel_rfl

/-- strings.Clone: the same bytes. -/
theorem clone (s : ByteArray) (w : World) (hs : s.size ≤ 281474976710656) :
    Calls Tryd.prog 81 #[.string s] w fun e w' => e = .returned (.string s) ∧ Below w.heap.size w w' := by
  have c1 : Calls Tryd.prog 88 #[.string s] w fun e w' => e = .returned (.string s) ∧ Below w.heap.size w w' := AnyPu.stringslite_Clone clone_lays s w hs
  clear hs
  go_enter Tryd.func81, Tryd.ntmps81
  go_wp2_with fail
  refine c1.mono ?_
  rintro e w1 ⟨rfl, hb1⟩
  go_wp2_with fail
  go_ret
  exact ⟨rfl, hb1⟩
end Go.Proofs.YtlknemfnacnleaaDoor

/-
  Contracts of impl.bodyAt: the body of a right frame, or the wrapped sentinel of what is wrong, where the table of sixteen sums and the three sentinels hold what their texts lay.
-/
namespace Go.Proofs.YtlknemfnacnleaaDoor
open Go.ChangeShapes Go.WideShapes Go.ChangeAt Go.RowKit Go.PlainAid
set_option linter.unusedVariables false

theorem below_drewN (w : World) (n : Nat) : Below w.heap.size w (w.drewN n) := ⟨rfl, rfl, rfl, Nat.le_refl _, fun _ _ => rfl⟩
theorem below_drew (w : World) : Below w.heap.size w w.drew := ⟨rfl, rfl, rfl, Nat.le_refl _, fun _ _ => rfl⟩
/-- What bodyAt returns where the frame is wrong. -/
def badBody (p : Int) (a : Addr) : Ending := .returned (.tuple #[.string ⟨#[]⟩, wrapped p a])

set_option maxHeartbeats 400000 in
theorem body_short4 (s : ByteArray) (i : Nat) (w : World) (hi : i ≤ s.size) (hs : s.size ≤ 1048576) (a0 a1 a2 : Addr) (he : Errs w a0 a1 a2) (h4 : (rest s i).size < 4) :
    Calls Tryd.prog 67 #[.string s, .int .i64 (i : Int)] w fun e w' => (∃ p, e = badBody p a0) ∧ Below w.heap.size w w' := by
  have c1 := impl_readFixed_no (rest s i) 4 w (by unfold maxLen; omega) (by omega)
  have hc := he.c0
  have hr : s.extract i s.size = rest s i := rfl
  have q1 : (i : Int) ≤ (s.size : Int) := by omega
  have q2 : (s.size : Int) ≤ 1048576 := by omega
  clear he h4 hs
  generalize rest s i = r at *
  go_enter Tryd.func67, Tryd.ntmps67
  go_wp2_with fail
  refine c1.mono ?_
  rintro e w1 ⟨rfl, rfl⟩
  go_wp2_with fail
  go_quiet (fail)
  go_wp2_with fail
  go_ret2
  exact ⟨⟨_, rfl⟩, below_drewN w nq⟩

set_option maxHeartbeats 400000 in
theorem body_len (s : ByteArray) (i : Nat) (w : World) (hi : i ≤ s.size) (hs : s.size ≤ 1048576) (a0 a1 a2 : Addr) (he : Errs w a0 a1 a2) (h4 : 4 ≤ (rest s i).size) (hl : rdv (rest s i) 4 = 0 ∨ 2000 < rdv (rest s i) 4) :
    Calls Tryd.prog 67 #[.string s, .int .i64 (i : Int)] w fun e w' => (∃ p, e = badBody p a1) ∧ Below w.heap.size w w' := by
  have hz := rest_size s i
  have c1 := impl_readFixed (rest s i) 4 w (by unfold maxLen; omega) (by omega) (by omega) h4
  have hc := he.c1
  have hr : s.extract i s.size = rest s i := rfl
  have q1 : (i : Int) ≤ (s.size : Int) := by omega
  have q2 : (s.size : Int) ≤ 1048576 := by omega
  clear he h4 hs hz
  generalize rdv (rest s i) 4 = n at *
  generalize rest s i = r at *
  rcases hl with rfl | hl
  · go_enter Tryd.func67, Tryd.ntmps67
    go_wp2_with fail
    refine c1.mono ?_
    rintro e w1 ⟨rfl, rfl⟩
    go_wp2_with fail
    go_quiet (fail)
    go_wp2_with fail
    go_ret2
    exact ⟨⟨_, rfl⟩, below_drewN w nq⟩
  · have q3 : (2000 : Int) < (n : Int) := by omega
    have q4 : ((n : Int) == 0) = false := by simp only [beq_eq_false_iff_ne, ne_eq]; omega
    have q5 : decide ((2000 : Int) < (n : Int)) = true := decide_eq_true q3
    have q6 : ¬ (n : Int) = 0 := by omega
    go_enter Tryd.func67, Tryd.ntmps67
    go_wp2_with fail
    refine c1.mono ?_
    rintro e w1 ⟨rfl, rfl⟩
    go_wp2_with fail
    go_quiet (fail)
    go_wp2_with fail
    go_ret2
    exact ⟨⟨_, rfl⟩, below_drewN w nq⟩

set_option maxHeartbeats 400000 in
theorem body_short8 (s : ByteArray) (i : Nat) (w : World) (hi : i ≤ s.size) (hs : s.size ≤ 1048576) (a0 a1 a2 : Addr) (he : Errs w a0 a1 a2) (h4 : 4 ≤ (rest s i).size) (h1 : 1 ≤ rdv (rest s i) 4) (h2 : rdv (rest s i) 4 ≤ 2000) (h8 : (rest s i).size < 8 + rdv (rest s i) 4) :
    Calls Tryd.prog 67 #[.string s, .int .i64 (i : Int)] w fun e w' => (∃ p, e = badBody p a0) ∧ Below w.heap.size w w' := by
  have hz := rest_size s i
  have c1 := impl_readFixed (rest s i) 4 w (by unfold maxLen; omega) (by omega) (by omega) h4
  have hc := he.c0
  have hr : s.extract i s.size = rest s i := rfl
  have q1 : (i : Int) ≤ (s.size : Int) := by omega
  have q2 : (s.size : Int) ≤ 1048576 := by omega
  clear he h4 hs hz
  generalize rdv (rest s i) 4 = n at *
  generalize rest s i = r at *
  have q3 : (n : Int) ≤ 2000 := by omega
  have q4 : ((n : Int) == 0) = false := by simp only [beq_eq_false_iff_ne, ne_eq]; omega
  have q5 : decide ((2000 : Int) < (n : Int)) = false := decide_eq_false (by omega)
  have q6 : ¬ (n : Int) = 0 := by omega
  have q7 : (r.size : Int) < 8 + (n : Int) := by omega
  go_enter Tryd.func67, Tryd.ntmps67
  go_wp2_with fail
  refine c1.mono ?_
  rintro e w1 ⟨rfl, rfl⟩
  go_wp2_with fail
  go_quiet (fail)
  go_wp2_with fail
  go_ret2
  exact ⟨⟨_, rfl⟩, below_drewN w nq⟩
end Go.Proofs.YtlknemfnacnleaaDoor

/-
  Contracts of impl.bodyAt where the length is right and all bytes are there: the body where the sum is right, else the third sentinel, wrapped.
-/
namespace Go.Proofs.YtlknemfnacnleaaDoor
open Go.ChangeShapes Go.WideShapes Go.ChangeAt Go.RowKit Go.PlainAid
set_option linter.unusedVariables false

set_option maxRecDepth 20000 in
set_option maxHeartbeats 1000000 in
theorem body_ok (s : ByteArray) (i : Nat) (w : World) (hi : i ≤ s.size) (hs : s.size ≤ 1048576) (ht : SumTab w) (hcode : code (rest s i) = 0) :
    Calls Tryd.prog 67 #[.string s, .int .i64 (i : Int)] w fun e w' => e = .returned (.tuple #[.string (bodyOf (rest s i)), .nilIface]) ∧ Below w.heap.size w w' := by
  obtain ⟨h4, h1, h2, h8, hsum⟩ := (code_zero _).1 hcode
  have hz := rest_size s i
  have c1 := impl_readFixed (rest s i) 4 w (by unfold maxLen; omega) (by omega) (by omega) h4
  have hr : s.extract i s.size = rest s i := rfl
  have q1 : (i : Int) ≤ (s.size : Int) := by omega
  have q2 : (s.size : Int) ≤ 1048576 := by omega
  have q8 : (rest s i).size ≤ 1048576 := by omega
  unfold bodyOf at hsum ⊢
  clear hcode hs hz
  generalize rdv (rest s i) 4 = n at *
  generalize rest s i = r at *
  have q3 : (n : Int) ≤ 2000 := by omega
  have q4 : ((n : Int) == 0) = false := by simp only [beq_eq_false_iff_ne, ne_eq]; omega
  have q5 : decide ((2000 : Int) < (n : Int)) = false := decide_eq_false (by omega)
  have q6 : ¬ (n : Int) = 0 := by omega
  have q7 : 8 + (n : Int) ≤ (r.size : Int) := by omega
  have q9 : (8 : Int) ≤ (r.size : Int) := by omega
  have HT : Hid (SumTab w) := ht
  have hm : (8 + (n : Int)).toNat = 8 + n := by omega
  have HB : Hid ((r.extract 0 4).size + (r.extract 8 (8 + n)).size ≤ 2097152) := by unfold Hid; rw [ByteArray.size_extract, ByteArray.size_extract]; omega
  have HC : Hid ((r.extract 8 (8 + n)).size ≤ 281474976710656) := by unfold Hid; rw [ByteArray.size_extract]; omega
  have HS : Hid (sumOf (r.extract 0 4) (r.extract 8 (8 + n)) = r.extract 4 8) := hsum
  clear ht hsum q8 h1 h2 h4
  go_enter Tryd.func67, Tryd.ntmps67
  go_wp2_with fail
  refine c1.mono ?_
  rintro e w1 ⟨rfl, rfl⟩
  go_wp2_with fail
  go_region_with (go_at_call 54; refine (impl_frameSum (r.extract 0 4) (r.extract 8 (8 + n)) _ HB.out ?_).mono ?_; exact HT.out; rintro e w1 ⟨rfl, hb1⟩; rw [HS.out])
  all_goals go_wp2_with fail
  all_goals (refine (clone _ _ HC.out).mono ?_; rintro e w2 ⟨rfl, hb2⟩; go_wp2_with fail; go_ret2; exact ⟨rfl, ((below_drew w).trans hb1).trans (hb2.mono hb1.size)⟩)

set_option maxRecDepth 20000 in
set_option maxHeartbeats 1000000 in
theorem body_sum (s : ByteArray) (i : Nat) (w : World) (hi : i ≤ s.size) (hs : s.size ≤ 1048576) (ht : SumTab w) (a0 a1 a2 : Addr) (he : Errs w a0 a1 a2) (h4 : 4 ≤ (rest s i).size) (h1 : 1 ≤ rdv (rest s i) 4) (h2 : rdv (rest s i) 4 ≤ 2000) (h8 : 8 + rdv (rest s i) 4 ≤ (rest s i).size) (hsum : sumOf ((rest s i).extract 0 4) (bodyOf (rest s i)) ≠ (rest s i).extract 4 8) :
    Calls Tryd.prog 67 #[.string s, .int .i64 (i : Int)] w fun e w' => (∃ p, e = badBody p a2) ∧ Below w.heap.size w w' := by
  have hz := rest_size s i
  have c1 := impl_readFixed (rest s i) 4 w (by unfold maxLen; omega) (by omega) (by omega) h4
  have hr : s.extract i s.size = rest s i := rfl
  have q1 : (i : Int) ≤ (s.size : Int) := by omega
  have q2 : (s.size : Int) ≤ 1048576 := by omega
  have q8 : (rest s i).size ≤ 1048576 := by omega
  unfold bodyOf at hsum
  have HE : Hid (Errs w a0 a1 a2) := he
  clear he hs hz
  generalize rdv (rest s i) 4 = n at *
  generalize rest s i = r at *
  have q3 : (n : Int) ≤ 2000 := by omega
  have q4 : ((n : Int) == 0) = false := by simp only [beq_eq_false_iff_ne, ne_eq]; omega
  have q5 : decide ((2000 : Int) < (n : Int)) = false := decide_eq_false (by omega)
  have q6 : ¬ (n : Int) = 0 := by omega
  have q7 : 8 + (n : Int) ≤ (r.size : Int) := by omega
  have q9 : (8 : Int) ≤ (r.size : Int) := by omega
  have HT : Hid (SumTab w) := ht
  have hm : (8 + (n : Int)).toNat = 8 + n := by omega
  have HB : Hid ((r.extract 0 4).size + (r.extract 8 (8 + n)).size ≤ 2097152) := by unfold Hid; rw [ByteArray.size_extract, ByteArray.size_extract]; omega
  have HC : Hid ((r.extract 8 (8 + n)).size ≤ 281474976710656) := by unfold Hid; rw [ByteArray.size_extract]; omega
  have e1 : ((sumOf (r.extract 0 4) (r.extract 8 (8 + n))).toList == (r.extract 4 8).toList) = false := by
    rw [beq_eq_false_iff_ne, Lib.toList_data, Lib.toList_data]
    intro h
    exact hsum (ByteArray.ext (Array.toList_inj.1 h))
  have q10 : wrap64 ((i : Int) + 4) = (i : Int) + 4 := by unfold wrap64; omega
  clear ht hsum q8 h1 h2 h4
  go_enter Tryd.func67, Tryd.ntmps67
  go_wp2_with fail
  refine c1.mono ?_
  rintro e w1 ⟨rfl, rfl⟩
  go_wp2_with fail
  go_region_with (go_at_call 54; refine (impl_frameSum (r.extract 0 4) (r.extract 8 (8 + n)) _ HB.out ?_).mono ?_; exact HT.out; rintro e w1 ⟨rfl, hb1⟩)
  all_goals go_wp2_with fail
  have hb : Below w.heap.size w w1 := (below_drew w).trans hb1
  have hc := (HE.out.on hb).c2
  go_quiet (fail)
  go_wp2_with fail
  go_ret2
  exact ⟨⟨_, rfl⟩, hb.trans ((below_drewN w1 nq).mono hb.size)⟩

end Go.Proofs.YtlknemfnacnleaaDoor

/-
  Contracts of impl.Unframe and spec.Unframe: what each returns, at every text of at most 1048576 bytes, where the table of sixteen sums and the three sentinels hold what their texts lay.
-/
namespace Go.Proofs.YtlknemfnacnleaaDoor
open Go.ChangeShapes Go.WideShapes Go.ChangeAt Go.RowKit Go.PlainAid
set_option linter.unusedVariables false

/-- What bodyAt returns where the frame is wrong. -/
theorem body_bad (s : ByteArray) (i : Nat) (w : World) (hi : i ≤ s.size) (hs : s.size ≤ 1048576) (ht : SumTab w) (a0 a1 a2 : Addr) (he : Errs w a0 a1 a2) (hcode : code (rest s i) ≠ 0) :
    Calls Tryd.prog 67 #[.string s, .int .i64 (i : Int)] w fun e w' => (∃ p a, e = badBody p a ∧ (code (rest s i) = 1 ∧ a = a0 ∨ code (rest s i) = 2 ∧ (a = a1 ∨ a = a2))) ∧ Below w.heap.size w w' := by
  by_cases h4 : (rest s i).size < 4
  · refine (body_short4 s i w hi hs a0 a1 a2 he h4).mono ?_
    rintro e w' ⟨⟨p, rfl⟩, hb⟩
    exact ⟨⟨p, a0, rfl, .inl ⟨by rw [code, if_pos h4], rfl⟩⟩, hb⟩
  by_cases hl : rdv (rest s i) 4 = 0 ∨ 2000 < rdv (rest s i) 4
  · refine (body_len s i w hi hs a0 a1 a2 he (by omega) hl).mono ?_
    rintro e w' ⟨⟨p, rfl⟩, hb⟩
    exact ⟨⟨p, a1, rfl, .inr ⟨by rw [code, if_neg h4, if_pos hl], .inl rfl⟩⟩, hb⟩
  by_cases h8 : (rest s i).size < 8 + rdv (rest s i) 4
  · refine (body_short8 s i w hi hs a0 a1 a2 he (by omega) (by omega) (by omega) h8).mono ?_
    rintro e w' ⟨⟨p, rfl⟩, hb⟩
    exact ⟨⟨p, a0, rfl, .inl ⟨by rw [code, if_neg h4, if_neg hl, if_pos h8], rfl⟩⟩, hb⟩
  have hsum : sumOf ((rest s i).extract 0 4) (bodyOf (rest s i)) ≠ (rest s i).extract 4 8 := fun h => hcode (by rw [code, if_neg h4, if_neg hl, if_neg h8, if_pos h])
  refine (body_sum s i w hi hs ht a0 a1 a2 he (by omega) (by omega) (by omega) (by omega) hsum).mono ?_
  rintro e w' ⟨⟨p, rfl⟩, hb⟩
  exact ⟨⟨p, a2, rfl, .inr ⟨by rw [code, if_neg h4, if_neg hl, if_neg h8, if_neg hsum], .inr rfl⟩⟩, hb⟩

/-- What Unframe answers. -/
def unf (s : ByteArray) : Array Value := if code s = 0 then #[.string (bodyOf s), .int .i64 ((8 + rdv s 4 : Nat) : Int), .int .i64 0] else #[.string ⟨#[]⟩, .int .i64 0, .int .i64 (code s : Int)]

set_option maxHeartbeats 1000000 in
theorem impl_unframe (s : ByteArray) (w : World) (hs : s.size ≤ 1048576) (ht : SumTab w) (a0 a1 a2 : Addr) (he : Errs w a0 a1 a2) :
    Calls Tryd.prog 37 #[.string s] w fun e w' => e = .returned (.tuple (unf s)) ∧ Below w.heap.size w w' := by
  have HE : Hid (Errs w a0 a1 a2) := he
  by_cases hcode : code s = 0
  · have c1 := body_ok s 0 w (by omega) hs ht (by rw [rest_zero]; exact hcode)
    rw [rest_zero, show ((0 : Nat) : Int) = 0 from rfl] at c1
    obtain ⟨h4, h1, h2, h8, hsum⟩ := (code_zero _).1 hcode
    have hz := bodyOf_size s h8
    have EU : Hid (unf s = #[.string (bodyOf s), .int .i64 ((8 + rdv s 4 : Nat) : Int), .int .i64 0]) := by unfold Hid; rw [unf, if_pos hcode]
    have q1 : ((bodyOf s).size : Int) = (rdv s 4 : Int) := by rw [hz]
    have q2 : (rdv s 4 : Int) ≤ 2000 := by omega
    clear hcode hsum ht he h4 h1 h2 h8 hs hz
    generalize rdv s 4 = n at *
    generalize bodyOf s = b at *
    go_enter Tryd.func37, Tryd.ntmps37
    go_wp2_with fail
    refine c1.mono ?_
    rintro e w1 ⟨rfl, hb1⟩
    go_wp2_with fail
    go_ret3
    exact ⟨by rw [EU.out]; go_num, hb1⟩
  · have c1 := body_bad s 0 w (by omega) hs ht a0 a1 a2 he (by rw [rest_zero]; exact hcode)
    rw [rest_zero, show ((0 : Nat) : Int) = 0 from rfl] at c1
    have EU : Hid (unf s = #[.string ⟨#[]⟩, .int .i64 0, .int .i64 (code s : Int)]) := by unfold Hid; rw [unf, if_neg hcode]
    clear ht he hs hcode
    simp only [badBody, wrapped] at c1
    generalize code s = k at *
    go_enter Tryd.func37, Tryd.ntmps37
    go_wp2_with fail
    refine c1.mono ?_
    rintro e w1 ⟨⟨p, a, rfl, ha⟩, hb1⟩
    have he1 := HE.out.on hb1
    rcases ha with ⟨rfl, rfl⟩ | ⟨rfl, ha⟩
    · have c2 := code_short p a a1 a2 w1 he1
      simp only [wrapped] at c2
      clear he1
      go_wp2_with fail
      refine c2.mono ?_
      rintro e w2 ⟨rfl, hb2⟩
      go_wp2_with fail
      go_ret3
      exact ⟨by rw [EU.out]; rfl, hb1.trans (hb2.mono hb1.size)⟩
    · have c2 := code_bad p a a0 a1 a2 w1 he1 ha
      simp only [wrapped] at c2
      clear he1 ha
      go_wp2_with fail
      refine c2.mono ?_
      rintro e w2 ⟨rfl, hb2⟩
      go_wp2_with fail
      go_ret3
      exact ⟨by rw [EU.out]; rfl, hb1.trans (hb2.mono hb1.size)⟩

set_option maxRecDepth 20000 in
set_option maxHeartbeats 1000000 in
theorem spec_unframe (s : ByteArray) (w : World) (hs : s.size ≤ 1048576) :
    Calls Tryd.prog 33 #[.string s] w fun e w' => e = .returned (.tuple (unf s)) ∧ Below w.heap.size w w' := by
  by_cases h4 : s.size < 4
  · have c1 := spec_readFixed_no s 4 w (by unfold maxLen; omega) (by omega)
    have EU : Hid (unf s = #[.string ⟨#[]⟩, .int .i64 0, .int .i64 1]) := by
      have : code s = 1 := by rw [code, if_pos h4]
      unfold Hid; rw [unf, this]; rfl
    clear hs h4
    go_enter Tryd.func33, Tryd.ntmps33
    go_wp2_with fail
    refine c1.mono ?_
    rintro e w1 ⟨rfl, rfl⟩
    go_wp2_with fail
    go_ret3
    exact ⟨by rw [EU.out]; rfl, Below.refl _ _⟩
  have c1 := spec_readFixed s 4 w (by unfold maxLen; omega) (by omega) (by omega) (by omega)
  by_cases hl : rdv s 4 = 0 ∨ 2000 < rdv s 4
  · have EU : Hid (unf s = #[.string ⟨#[]⟩, .int .i64 0, .int .i64 2]) := by
      have : code s = 2 := by rw [code, if_neg h4, if_pos hl]
      unfold Hid; rw [unf, this]; rfl
    clear hs h4
    generalize rdv s 4 = n at *
    rcases hl with rfl | hl
    · go_enter Tryd.func33, Tryd.ntmps33
      go_wp2_with fail
      refine c1.mono ?_
      rintro e w1 ⟨rfl, rfl⟩
      go_wp2_with fail
      go_ret3
      exact ⟨by rw [EU.out]; rfl, Below.refl _ _⟩
    · have q3 : (2000 : Int) < (n : Int) := by omega
      have q4 : ((n : Int) == 0) = false := by simp only [beq_eq_false_iff_ne, ne_eq]; omega
      have q5 : decide ((2000 : Int) < (n : Int)) = true := decide_eq_true q3
      have q6 : ¬ (n : Int) = 0 := by omega
      go_enter Tryd.func33, Tryd.ntmps33
      go_wp2_with fail
      refine c1.mono ?_
      rintro e w1 ⟨rfl, rfl⟩
      go_wp2_with fail
      go_ret3
      exact ⟨by rw [EU.out]; rfl, Below.refl _ _⟩
  by_cases h8 : s.size < 8 + rdv s 4
  · have EU : Hid (unf s = #[.string ⟨#[]⟩, .int .i64 0, .int .i64 1]) := by
      have : code s = 1 := by rw [code, if_neg h4, if_neg hl, if_pos h8]
      unfold Hid; rw [unf, this]; rfl
    have q2 : (s.size : Int) ≤ 1048576 := by omega
    clear hs h4
    generalize rdv s 4 = n at *
    have q3 : (n : Int) ≤ 2000 := by omega
    have q4 : ((n : Int) == 0) = false := by simp only [beq_eq_false_iff_ne, ne_eq]; omega
    have q5 : decide ((2000 : Int) < (n : Int)) = false := decide_eq_false (by omega)
    have q6 : ¬ (n : Int) = 0 := by omega
    have q7 : (s.size : Int) < 8 + (n : Int) := by omega
    clear hl
    go_enter Tryd.func33, Tryd.ntmps33
    go_wp2_with fail
    refine c1.mono ?_
    rintro e w1 ⟨rfl, rfl⟩
    go_wp2_with fail
    go_ret3
    exact ⟨by rw [EU.out]; rfl, Below.refl _ _⟩
  have hz := bodyOf_size s (by omega)
  have c2 := fun wx => spec_frame (bodyOf s) wx (by omega)
  have hfit := frame_fits s (by omega) (by omega) (by omega) (by omega)
  have hb0 : s.extract 8 (8 + rdv s 4) = bodyOf s := rfl
  have q2 : (s.size : Int) ≤ 1048576 := by omega
  by_cases hsum : sumOf (s.extract 0 4) (bodyOf s) = s.extract 4 8
  · have EU : Hid (unf s = #[.string (bodyOf s), .int .i64 ((8 + rdv s 4 : Nat) : Int), .int .i64 0]) := by
      have : code s = 0 := by rw [code, if_neg h4, if_neg hl, if_neg h8, if_pos hsum]
      unfold Hid; rw [unf, if_pos this]
    have HF : Hid (frame (bodyOf s) = s.extract 0 (8 + rdv s 4)) := hfit.2 hsum
    clear hfit hsum hs h4 hz
    generalize bodyOf s = b at *
    generalize rdv s 4 = n at *
    have q3 : (n : Int) ≤ 2000 := by omega
    have q4 : ((n : Int) == 0) = false := by simp only [beq_eq_false_iff_ne, ne_eq]; omega
    have q5 : decide ((2000 : Int) < (n : Int)) = false := decide_eq_false (by omega)
    have q6 : ¬ (n : Int) = 0 := by omega
    have q7 : 8 + (n : Int) ≤ (s.size : Int) := by omega
    have hm : (8 + (n : Int)).toNat = 8 + n := by omega
    have q8 : (0 : Int) ≤ 8 + (n : Int) := by omega
    have w1 : IntKind.i64.wrap (8 + (n : Int)) = 8 + (n : Int) := by rw [IntKind.wrap_i64]; omega
    have w2 : wrap64 (8 + (n : Int)) = 8 + (n : Int) := by unfold wrap64; omega
    clear hl h8
    go_enter Tryd.func33, Tryd.ntmps33
    go_wp2_with fail
    refine c1.mono ?_
    rintro e w1 ⟨rfl, rfl⟩
    go_wp2_with fail
    go_region_with (go_at_call 22; refine (c2 _).mono ?_; rintro e w1 ⟨rfl, hb1⟩; rw [HF.out])
    all_goals go_wp2_with fail
    all_goals (go_ret3; exact ⟨by rw [EU.out]; go_num, (below_drew w).trans hb1⟩)
  · have EU : Hid (unf s = #[.string ⟨#[]⟩, .int .i64 0, .int .i64 2]) := by
      have : code s = 2 := by rw [code, if_neg h4, if_neg hl, if_neg h8, if_neg hsum]
      unfold Hid; rw [unf, this]; rfl
    have e1 : ((frame (bodyOf s)).toList == (s.extract 0 (8 + rdv s 4)).toList) = false := by
      rw [beq_eq_false_iff_ne, Lib.toList_data, Lib.toList_data]
      intro h
      exact hsum (hfit.1 (ByteArray.ext (Array.toList_inj.1 h)))
    clear hfit hsum hs h4 hz
    generalize bodyOf s = b at *
    generalize rdv s 4 = n at *
    have q3 : (n : Int) ≤ 2000 := by omega
    have q4 : ((n : Int) == 0) = false := by simp only [beq_eq_false_iff_ne, ne_eq]; omega
    have q5 : decide ((2000 : Int) < (n : Int)) = false := decide_eq_false (by omega)
    have q6 : ¬ (n : Int) = 0 := by omega
    have q7 : 8 + (n : Int) ≤ (s.size : Int) := by omega
    have hm : (8 + (n : Int)).toNat = 8 + n := by omega
    have q8 : (0 : Int) ≤ 8 + (n : Int) := by omega
    have w1 : IntKind.i64.wrap (8 + (n : Int)) = 8 + (n : Int) := by rw [IntKind.wrap_i64]; omega
    have w2 : wrap64 (8 + (n : Int)) = 8 + (n : Int) := by unfold wrap64; omega
    clear hl h8
    go_enter Tryd.func33, Tryd.ntmps33
    go_wp2_with fail
    refine c1.mono ?_
    rintro e w1 ⟨rfl, rfl⟩
    go_wp2_with fail
    go_region_with (go_at_call 22; refine (c2 _).mono ?_; rintro e w1 ⟨rfl, hb1⟩)
    all_goals go_wp2_with fail
    all_goals (go_ret3; exact ⟨by rw [EU.out]; rfl, (below_drew w).trans hb1⟩)
end Go.Proofs.YtlknemfnacnleaaDoor
