/- ErrIs Errs FrLaid PtRow WkAid WkRow PtPut WkSz AwAid MgVal OpAid PtAid BtVar Num1In -/
import Derived.Test.YtimfnbnffibgpaaGreatDoorRows
import Derived.WalkKit
import Derived.LaidEql
import Derived.Stop.Asserts
import Derived.RowKitTokens
import Derived.Below
import Derived.PlainAid
import Derived.WalkSmall
import Derived.Lib.LaidTab
import Derived.Test.YtimfnbnffibgpaaGreatDoorQx0
import Derived.ProofKit
import Derived.OpenShut
import Derived.ChangeVars
import Derived.LaidMore
import Derived.Lay
import Derived.Stop.LaidErr
import Derived.Stop.LaidTwo
import Derived.Laws.OwnMore
import Derived.OwnWalk
import Derived.WalkLawsBesides
import Derived.Outline
import Derived.BigQuiet
import Derived.Deep.QuietTactic
import Derived.Handy
import Derived.Deep.Slices
import Derived.ChangeArms
import Derived.WalkMore
namespace Go.Proofs.YtimfnbnffibgpaaGreatDoor
open Go.RowKit Go.PlainAid
set_option linter.unusedVariables false
theorem isTypeOf (v : Value) (w : World) : (callFunc 143 #[.iface 178 v]).run Tryz.prog w = .ok (.value (.iface 168 (.agg #[.pointer (some ⟨4, 178, none⟩)]))) w := by kernel_rfl
theorem isComparable (w : World) : (callFunc 170 #[.agg #[.pointer (some ⟨4, 178, none⟩)]]).run Tryz.prog w = .ok (.value (.bool true)) w := by kernel_rfl
theorem isMethodComparable (v : Value) (w : World) : (Go.method 311 168 v "Comparable").run Tryz.prog w = .ok (170, v) w := by kernel_rfl
theorem isComp : (Tryz.prog.info? 178).map (·.comparable) = some true := by kernel_rfl
theorem isSize : (Tryz.prog.info? 200).map (·.size) = some 1 := by kernel_rfl
theorem noIsE (v : Value) (xT : TypeId) (w : World) : (Instr.typeAssert (.iface 178 v) xT 170 true).run Tryz.prog w = .ok (.tuple #[.nilIface, .bool false]) w := run_typeAssert_lacksB Tryz.underlying170 (by kernel_rfl) (by kernel_rfl) v xT w
theorem noUnwrapE (v : Value) (xT : TypeId) (w : World) : (Instr.typeAssert (.iface 178 v) xT 173 true).run Tryz.prog w = .ok (.tuple #[.nilIface, .bool false]) w := run_typeAssert_lacksB Tryz.underlying173 (by kernel_rfl) (by kernel_rfl) v xT w
theorem noUnwrapsE (v : Value) (xT : TypeId) (w : World) : (Instr.typeAssert (.iface 178 v) xT 175 true).run Tryz.prog w = .ok (.tuple #[.nilIface, .bool false]) w := run_typeAssert_lacksB Tryz.underlying175 (by kernel_rfl) (by kernel_rfl) v xT w
theorem noIsW (v : Value) (xT : TypeId) (w : World) : (Instr.typeAssert (.iface 158 v) xT 170 true).run Tryz.prog w = .ok (.tuple #[.nilIface, .bool false]) w := run_typeAssert_lacksB Tryz.underlying170 (by kernel_rfl) (by kernel_rfl) v xT w
theorem hasUnwrapW (v : Value) (xT : TypeId) (w : World) : (Instr.typeAssert (.iface 158 v) xT 173 true).run Tryz.prog w = .ok (.tuple #[.iface 158 v, .bool true]) w := run_typeAssert_hasB Tryz.underlying173 (by kernel_rfl) v xT w
theorem methodUnwrap (v : Value) (w : World) : (Go.method 311 158 v "Unwrap").run Tryz.prog w = .ok (166, v) w := by kernel_rfl
theorem heap_alloc_old {w : World} {k : Nat} {o x : Obj} (h : w.heap[k]? = some x) : (w.alloc o).heap[k]? = some x := by
 show (w.heap.push o)[k]? = _
 rcases Nat.lt_or_ge k w.heap.size with h' | h'
 ·simp only [Array.getElem?_push, Nat.ne_of_lt h', if_false]
  exact h
 ·rw [Array.getElem?_eq_none h'] at h
  cases h
def wrapped (p : Int) (a : Addr) : Value := .iface 158 (.agg #[.int .i64 p, .iface 178 (.pointer (some a))])
set_option maxRecDepth 20000 in
set_option maxHeartbeats 1000000 in
theorem is_wrap_same (p : Int) (b : Addr) (w : World) :
  Calls Tryz.prog 134 #[wrapped p b, .iface 178 (.pointer (some b))] w fun e w' => e = .returned (.bool true) ∧ Below w.heap.size w w' := by
 unfold wrapped
 obtain ⟨i, hi, hcmp⟩ := Option.map_eq_some_iff.1 isComp
 obtain ⟨j, hj, hjs⟩ := Option.map_eq_some_iff.1 isSize
 have tT := isTypeOf
 have cT := isComparable
 have mR := isMethodComparable
 have nE := noIsE
 have uE := noUnwrapE
 have vE := noUnwrapsE
 have nW := noIsW
 have uW := hasUnwrapW
 have mU := methodUnwrap
 have heq := fun wx : World => run_eql_iface_ptr_same (P := Tryz.prog) wx b Tryz.underlying65 Tryz.underlying178 hi hcmp hj
 have hty := run_eql_iface_types (P := Tryz.prog) 158 178 (.agg #[.int .i64 p, .iface 178 (.pointer (some b))]) (.pointer (some b)) Tryz.underlying65 (by decide) w
 go_enter Tryz.func134, Tryz.ntmps134
 go_wp2
 refine wp_loop_rounds 2 ?_
 rw [rounds_succ]
 go_wp2
 rw [rounds_succ]
 go_wp2
 go_ret
 exact ⟨rfl, (Below.refl _ _).alloc (Nat.le_refl _) _⟩
set_option maxRecDepth 20000 in
set_option maxHeartbeats 1000000 in
theorem is_wrap_other (p : Int) (a b : Addr) (ca cb : Array Value) (ta tb : TypeId) (w : World) (hne : a ≠ b) (ha : w.heap[a.block]? = some (.cells ca ta (0, 0))) (hb : w.heap[b.block]? = some (.cells cb tb (0, 0))) :
  Calls Tryz.prog 134 #[wrapped p a, .iface 178 (.pointer (some b))] w fun e w' => e = .returned (.bool false) ∧ Below w.heap.size w w' := by
 unfold wrapped
 obtain ⟨i, hi, hcmp⟩ := Option.map_eq_some_iff.1 isComp
 obtain ⟨j, hj, hjs⟩ := Option.map_eq_some_iff.1 isSize
 have tT := isTypeOf
 have cT := isComparable
 have mR := isMethodComparable
 have nE := noIsE
 have uE := noUnwrapE
 have vE := noUnwrapsE
 have nW := noIsW
 have uW := hasUnwrapW
 have mU := methodUnwrap
 have heq : ∀ o : Obj, _ := fun o => run_eql_iface_ptr_other (P := Tryz.prog) (w.alloc o) Tryz.underlying65 Tryz.underlying178 hi hcmp hj (by rw [hjs]; decide) hne (heap_alloc_old ha) (heap_alloc_old hb)
 have hty := run_eql_iface_types (P := Tryz.prog) 158 178 (.agg #[.int .i64 p, .iface 178 (.pointer (some a))]) (.pointer (some b)) Tryz.underlying65 (by decide) w
 clear ha hb hne
 go_enter Tryz.func134, Tryz.ntmps134
 go_wp2
 refine wp_loop_rounds 2 ?_
 rw [rounds_succ]
 go_wp2
 rw [rounds_succ]
 go_wp2
 go_ret
 exact ⟨rfl, (Below.refl _ _).alloc (Nat.le_refl _) _⟩
end Go.Proofs.YtimfnbnffibgpaaGreatDoor
namespace Go.Proofs.YtimfnbnffibgpaaGreatDoor
open Go.RowKit Go.PlainAid
set_option linter.unusedVariables false
structure Errs (w : World) (a0 a1 a2 : Addr) : Prop where
 v0 : w.var? Tryz.prog "loop.example/g00360/impl.errFrameShort" = some #[.iface 178 (.pointer (some a0))]
 v1 : w.var? Tryz.prog "loop.example/g00360/impl.errFrameLength" = some #[.iface 178 (.pointer (some a1))]
 v2 : w.var? Tryz.prog "loop.example/g00360/impl.errFrameSum" = some #[.iface 178 (.pointer (some a2))]
 n1 : a1 ≠ a0
 n2 : a2 ≠ a0
 h0 : ∃ c t, w.heap[a0.block]? = some (.cells c t (0, 0))
 h1 : ∃ c t, w.heap[a1.block]? = some (.cells c t (0, 0))
 h2 : ∃ c t, w.heap[a2.block]? = some (.cells c t (0, 0))
theorem gShort : Tryz.prog.globalNamed "loop.example/g00360/impl.errFrameShort" = some 1 := by kernel_rfl
theorem gLen : Tryz.prog.globalNamed "loop.example/g00360/impl.errFrameLength" = some 2 := by kernel_rfl
theorem gBad : Tryz.prog.globalNamed "loop.example/g00360/impl.errFrameSum" = some 3 := by kernel_rfl
theorem Errs.c0 {w : World} {a0 a1 a2 : Addr} (h : Errs w a0 a1 a2) : w.cell? ⟨1, 0, none⟩ = some (.iface 178 (.pointer (some a0))) := by simpa using World.var?_cell gShort h.v0 0
theorem Errs.c1 {w : World} {a0 a1 a2 : Addr} (h : Errs w a0 a1 a2) : w.cell? ⟨2, 0, none⟩ = some (.iface 178 (.pointer (some a1))) := by simpa using World.var?_cell gLen h.v1 0
theorem Errs.c2 {w : World} {a0 a1 a2 : Addr} (h : Errs w a0 a1 a2) : w.cell? ⟨3, 0, none⟩ = some (.iface 178 (.pointer (some a2))) := by simpa using World.var?_cell gBad h.v2 0
theorem lt_of_some {w : World} {k : Nat} {x : Obj} (h : w.heap[k]? = some x) : k < w.heap.size := by
 rcases Nat.lt_or_ge k w.heap.size with h' | h'
 ·exact h'
 ·rw [Array.getElem?_eq_none h'] at h
  cases h
theorem Errs.on {w w' : World} {a0 a1 a2 : Addr} (h : Errs w a0 a1 a2) (hb : Below w.heap.size w w') : Errs w' a0 a1 a2 where
 v0 := var?_below hb gShort (World.block_lt_of_cell? _ _ h.c0) h.v0
 v1 := var?_below hb gLen (World.block_lt_of_cell? _ _ h.c1) h.v1
 v2 := var?_below hb gBad (World.block_lt_of_cell? _ _ h.c2) h.v2
 n1 := h.n1
 n2 := h.n2
 h0 := by obtain ⟨c, t, e⟩ := h.h0; exact ⟨c, t, by rw [hb.block _ (lt_of_some e)]; exact e⟩
 h1 := by obtain ⟨c, t, e⟩ := h.h1; exact ⟨c, t, by rw [hb.block _ (lt_of_some e)]; exact e⟩
 h2 := by obtain ⟨c, t, e⟩ := h.h2; exact ⟨c, t, by rw [hb.block _ (lt_of_some e)]; exact e⟩
set_option maxHeartbeats 400000 in
theorem code_short (p : Int) (a0 a1 a2 : Addr) (w : World) (h : Errs w a0 a1 a2) :
  Calls Tryz.prog 123 #[wrapped p a0] w fun e w' => e = .returned (.int .i64 1) ∧ Below w.heap.size w w' := by
 have hc := h.c0
 have c1 := is_wrap_same p a0 w
 clear h
 go_enter Tryz.func123, Tryz.ntmps123
 go_wp2_with fail
 refine c1.mono ?_
 rintro e w1 ⟨rfl, hb1⟩
 go_wp2_with fail
 go_ret
 exact ⟨rfl, hb1⟩
set_option maxHeartbeats 400000 in
theorem code_bad (p : Int) (a a0 a1 a2 : Addr) (w : World) (h : Errs w a0 a1 a2) (ha : a = a1 ∨ a = a2) :
  Calls Tryz.prog 123 #[wrapped p a] w fun e w' => e = .returned (.int .i64 2) ∧ Below w.heap.size w w' := by
 have hc := h.c0
 have c1 : Calls Tryz.prog 134 #[wrapped p a, .iface 178 (.pointer (some a0))] w fun e w' => e = .returned (.bool false) ∧ Below w.heap.size w w' := by
  obtain ⟨c, t, e⟩ := h.h0
  rcases ha with rfl | rfl
  ·obtain ⟨c', t', e'⟩ := h.h1
   exact is_wrap_other p a a0 c' c t' t w h.n1 e' e
  ·obtain ⟨c', t', e'⟩ := h.h2
   exact is_wrap_other p a a0 c' c t' t w h.n2 e' e
 clear h ha
 go_enter Tryz.func123, Tryz.ntmps123
 go_wp2_with fail
 refine c1.mono ?_
 rintro e w1 ⟨rfl, hb1⟩
 go_wp2_with fail
 go_ret
 exact ⟨rfl, hb1⟩
end Go.Proofs.YtimfnbnffibgpaaGreatDoor
namespace Go.Proofs.YtimfnbnffibgpaaGreatDoor
open Go.ChangeShapes Go.WideShapes Go.ChangeAt Go.RowKit
set_option linter.unusedVariables false
theorem own : ownKnob Tryz.prog.godebug = none := by kernel_rfl
theorem typeSum : (Tryz.prog.globals[0]?).map (·.type) = some 132 := by kernel_rfl
theorem typeShort : (Tryz.prog.globals[1]?).map (·.type) = some 65 := by kernel_rfl
theorem typeLen : (Tryz.prog.globals[2]?).map (·.type) = some 65 := by kernel_rfl
theorem typeBad : (Tryz.prog.globals[3]?).map (·.type) = some 65 := by kernel_rfl
theorem cellsSum : Tryz.prog.cellsOf 132 = 16 := by kernel_rfl
theorem cellsU32 : Tryz.prog.cellsOf 111 = 1 := by kernel_rfl
theorem cellsES : Tryz.prog.cellsOf 200 = 1 := by kernel_rfl
theorem cellsStr : Tryz.prog.cellsOf 9 = 1 := by kernel_rfl
theorem sum_data : (Rows.laid_loop_example_g00360_impl_halfSums : DataW Unit) = Lib.tabData .u32 sumTab := by kernel_rfl
theorem star : "*" ++ "errors.errorString" = "*errors.errorString" := by decide
theorem rowES (u : TypeId) (h : Tryz.prog.typeName? 3 u = some "*errors.errorString") : u = 178 :=
 typeName_ptr_named (nm := "errors.errorString") (by rw [star]; kernel_rfl) (by kernel_rfl) (by decide) u (by rw [star]; exact h)
theorem laidMet_skip {P : Program} {x y : String × DataW Unit} {r : List (String × DataW Unit)} {w : World} (h : laidMet P (x :: y :: r) w) : laidMet P (x :: r) w := by
 obtain ⟨ps, hv, hnd, hrows⟩ := h
 obtain ⟨n, d⟩ := x
 obtain ⟨n', d'⟩ := y
 obtain ⟨g, t, cs, fuel, p, q, h1, h2, h3, h4, ⟨g', t', cs', fuel', p', q', _, _, _, _, hq, rfl⟩, rfl⟩ := hv
 refine ⟨_, ⟨g, t, cs, fuel, p, q', h1, h2, h3, h4, hq, rfl⟩, ?_, fun b off hm => hrows b off ?_⟩
 ·exact List.Nodup.sublist (List.Sublist.append_left (List.sublist_append_right _ _) _) hnd
 ·rcases List.mem_append.1 hm with hm | hm
  ·exact List.mem_append_left _ hm
  ·exact List.mem_append_right _ (List.mem_append_right _ hm)
def laid4 : List (String × DataW Unit) := [("loop.example/g00360/impl.halfSums", Rows.laid_loop_example_g00360_impl_halfSums), ("loop.example/g00360/impl.errFrameShort", Rows.laid_loop_example_g00360_impl_errFrameShort), ("loop.example/g00360/impl.errFrameLength", Rows.laid_loop_example_g00360_impl_errFrameLength), ("loop.example/g00360/impl.errFrameSum", Rows.laid_loop_example_g00360_impl_errFrameSum)]
theorem laid4_plain (W : World) (h : laidMetH Tryz.prog laid4 W) : laidMet Tryz.prog laid4 W := by
 rw [MakeChecks.laidMetH_plain _ _ _ (by kernel_rfl)] at h
 exact h
theorem met_sum {W : World} (h : laidMetH Tryz.prog laid4 W) : SumTab W := by
 have h1 := laid4_plain W h
 unfold laid4 at h1
 rw [sum_data] at h1
 exact Lib.tabIs_of_head gSum typeSum Tryz.underlying132 Tryz.underlying111 cellsU32 cellsSum h1
theorem met_errs {W : World} (h : laidMetH Tryz.prog laid4 W) : ∃ a0 a1 a2, Errs W a0 a1 a2 := by
 have h1 := (laid4_plain W h).tail
 obtain ⟨a0, a1, s0, s1, c0, c1, t0, t1, hv0, hv1, _, _, _, _, _, _, hne, hb0, hb1⟩ := laid_sentinels2 h1 gShort typeShort gLen typeLen Tryz.underlying65 rowES Tryz.underlying178 Tryz.underlying200 rfl rfl Tryz.underlying9 cellsES cellsStr
 obtain ⟨a0', a2, s0', s2, c0', c2, t0', t2, hv0', hv2, _, _, _, _, _, _, hne2, hb0', hb2⟩ := laid_sentinels2 (laidMet_skip h1) gShort typeShort gBad typeBad Tryz.underlying65 rowES Tryz.underlying178 Tryz.underlying200 rfl rfl Tryz.underlying9 cellsES cellsStr
 have e : a0' = a0 := by
  have := hv0.symm.trans hv0'
  simp at this
  exact this.symm
 subst e
 exact ⟨a0', a1, a2, hv0, hv1, hv2, hne.symm, hne2.symm, ⟨_, _, hb0⟩, ⟨_, _, hb1⟩, ⟨_, _, hb2⟩⟩
def sumCells : List Value := sumTab.map fun z => Value.int .u32 z
theorem sum_shut {H : Type} (enc : TypeId × Value → H) (W : World) (sp : Nat → Bool) (n : Nat) : DataW.trod enc Tryz.prog W 0 sp true (n + 2) 132 sumCells = some (Lib.tabData .u32 sumTab, []) := by kernel_rfl
def sent (a : Addr) : Value := .iface 178 (.pointer (some a))
theorem sent_iface (a : Addr) : IsIface (sent a) := trivial
theorem vars_sums {H : Type} (enc : TypeId × Value → H) {W : World} {a0 a1 a2 : Addr} (h : Errs W a0 a1 a2) (ht : SumTab W) (sp : Nat → Bool) :
  DataW.TrodVars enc Tryz.prog W sp ["loop.example/g00360/impl.halfSums", "loop.example/g00360/impl.errFrameShort", "loop.example/g00360/impl.errFrameLength", "loop.example/g00360/impl.errFrameSum"]
   [Lib.tabData .u32 sumTab, tok enc (sent a0), tok enc (sent a1), tok enc (sent a2)] (MemPlace.row ⟨0, 0, none⟩ 16 ++ [] ++ [.cell 1 0, .cell 2 0, .cell 3 0]) :=
 ⟨_, _, _, 2, [], _, gSum, typeSum, ht, sum_shut enc W sp 0, ⟨_, _, #[sent a0], 1, [], _, gShort, typeShort, h.v0, trod_held Tryz.underlying65 (sent_iface a0) 0, ⟨_, _, #[sent a1], 1, [], _, gLen, typeLen, h.v1, trod_held Tryz.underlying65 (sent_iface a1) 0,
  ⟨_, _, #[sent a2], 1, [], [], gBad, typeBad, h.v2, trod_held Tryz.underlying65 (sent_iface a2) 0, rfl, rfl⟩, rfl⟩, rfl⟩, rfl⟩
end Go.Proofs.YtimfnbnffibgpaaGreatDoor
namespace Go.Proofs.YtimfnbnffibgpaaGreatDoor
open Go.RowKit Go.PlainAid
structure Pnt where
 t : Int
 v : Int
instance : Inhabited Pnt := ⟨⟨0, 0⟩⟩
theorem Pnt.same {x y : Pnt} (h1 : x.t = y.t) (h2 : x.v = y.v) : x = y := by
 cases x
 cases y
 simp only at h1 h2
 subst h1
 subst h2
 rfl
def Lies (w : World) (B sz : Nat) (v : Value) (rows : List (List Value)) : Prop :=
 ∃ A cap, v = .slice A rows.length cap ∧ ((A = none → cap = 0) ∧ rows.length ≤ cap) ∧ (∀ r ∈ rows, r.length = sz) ∧ (rows.length = 0 ∨ ∃ g off, A = some ⟨g, off, none⟩ ∧ g < B ∧ ∀ k x, rows.flatten[k]? = some x → w.cell? ⟨g, off + k, none⟩ = some x)
theorem Lies.on {w w' : World} {B sz : Nat} {v : Value} {rows : List (List Value)} (h : Lies w B sz v rows) (hb : Below B w w') : Lies w' B sz v rows := by
 obtain ⟨A, cap, e, hz, hs, h⟩ := h
 refine ⟨A, cap, e, hz, hs, h.imp id ?_⟩
 rintro ⟨g, off, rfl, hg, hc⟩
 refine ⟨g, off, rfl, hg, fun k x hx => ?_⟩
 rw [← hc k x hx]
 exact World.cell?_of_block (w := w) (hb.block g hg)
theorem Lies.heap {w w' : World} {B sz : Nat} {v : Value} {rows : List (List Value)} (h : Lies w B sz v rows) (hh : w'.heap = w.heap) : Lies w' B sz v rows := by
 obtain ⟨A, cap, e, hz, hs, h⟩ := h
 refine ⟨A, cap, e, hz, hs, h.imp id ?_⟩
 rintro ⟨g, off, rfl, hg, hc⟩
 refine ⟨g, off, rfl, hg, fun k x hx => ?_⟩
 rw [← hc k x hx]
 exact World.cell?_of_block (w := w) (by rw [hh])
theorem Lies.mono {w : World} {B C sz : Nat} {v : Value} {rows : List (List Value)} (h : Lies w B sz v rows) (hB : B ≤ C) : Lies w C sz v rows := by
 obtain ⟨A, cap, e, hz, hs, h⟩ := h
 refine ⟨A, cap, e, hz, hs, h.imp id ?_⟩
 rintro ⟨g, off, rfl, hg, hc⟩
 exact ⟨g, off, rfl, by omega, hc⟩
theorem flat_at (sz : Nat) : ∀ (rows : List (List Value)), (∀ r ∈ rows, r.length = sz) → ∀ (j f : Nat) (hj : j < rows.length), f < sz → rows.flatten[j * sz + f]? = (rows[j])[f]?
 | [], _, j, f, hj, _ => by simp at hj
 | r :: rs, hs, 0, f, _, hf => by
  have := hs r (by simp)
  simp only [List.flatten_cons, Nat.zero_mul, Nat.zero_add, List.getElem_cons_zero]
  rw [List.getElem?_append_left (by omega)]
 | r :: rs, hs, j + 1, f, hj, hf => by
  have hr := hs r (by simp)
  have ih := flat_at sz rs (fun r hr => hs r (by simp [hr])) j f (by simp at hj; omega) hf
  simp only [List.flatten_cons, List.getElem_cons_succ]
  rw [List.getElem?_append_right (by rw [hr, Nat.succ_mul]; omega), ← ih, hr]
  congr 1
  rw [Nat.succ_mul]
  omega
theorem flat_length (sz : Nat) (rows : List (List Value)) (hs : ∀ r ∈ rows, r.length = sz) : rows.flatten.length = rows.length * sz := by
 induction rows with
 | nil => simp
 | cons r rs ih =>
  rw [List.flatten_cons, List.length_append, ih (fun r hr => hs r (by simp [hr])), hs r (by simp), List.length_cons, Nat.succ_mul]
  omega
theorem Lies.look {w : World} {B sz : Nat} {v : Value} {rows : List (List Value)} (h : Lies w B sz v rows) : ∃ A cap, v = .slice A rows.length cap ∧ ∀ j (hj : j < rows.length), ∃ g off, A = some ⟨g, off, none⟩ ∧ g < B ∧ ∀ f x, f < sz → (rows[j])[f]? = some x → w.cell? ⟨g, off + (j * sz + f), none⟩ = some x := by
 obtain ⟨A, cap, rfl, _, hs, h⟩ := h
 refine ⟨A, cap, rfl, fun j hj => ?_⟩
 rcases h with h | ⟨g, off, rfl, hg, hc⟩
 ·omega
 ·exact ⟨g, off, rfl, hg, fun f x hf hx => hc _ x (by rw [flat_at sz rows hs j f hj hf]; exact hx)⟩
theorem Lies.first {w : World} {B sz : Nat} {A : Option Addr} {n c : Nat} {rows : List (List Value)} (h : Lies w B sz (.slice A n c) rows) (k : Nat) (hk : k ≤ rows.length) : Lies w B sz (.slice A k c) (rows.take k) := by
 obtain ⟨A', c', e, hz, hs, h⟩ := h
 cases e
 have hl : (rows.take k).length = k := by rw [List.length_take]; omega
 refine ⟨A, c, by rw [hl], ⟨hz.1, by rw [hl]; exact Nat.le_trans hk hz.2⟩, fun r hr => hs r (List.mem_of_mem_take hr), ?_⟩
 rw [hl]
 rcases h with h | ⟨g, off, rfl, hg, hc⟩
 ·exact .inl (by omega)
 ·refine .inr ⟨g, off, rfl, hg, fun j x hx => hc j x ?_⟩
  rw [← List.take_append_drop k rows, List.flatten_append, List.getElem?_append_left ((List.getElem?_eq_some_iff.1 hx).1)]
  exact hx
def Owns (w : World) (base : Nat) (e : TypeId) (sz : Nat) (v : Value) (rows : List (List Value)) : Prop := (∀ r ∈ rows, r.length = sz) ∧ w.ownsRow base e sz v rows.length rows.flatten
theorem Owns.lt {w : World} {base : Nat} {e : TypeId} {sz : Nat} {v : Value} {rows : List (List Value)} (h : Owns w base e sz v rows) : ∀ k, v.ownBlock = some k → base ≤ k ∧ k < w.heap.size := World.ownsRow.lt h.2
theorem Owns.lies {w : World} {base : Nat} {e : TypeId} {sz : Nat} {v : Value} {rows : List (List Value)} (h : Owns w base e sz v rows) : Lies w w.heap.size sz v rows := by
 have hlt := h.lt
 have hc := fun g hg => World.ownsRow.cells h.2 (g := g) hg
 rcases h.2.2 with ⟨rfl, h0⟩ | ⟨g, cap, cur, rfl, _, _, hcap, _⟩
 ·exact ⟨none, 0, by rw [h0], ⟨fun _ => rfl, by omega⟩, h.1, .inl h0⟩
 ·refine ⟨_, cap, rfl, ⟨fun e => (by cases e), hcap⟩, h.1, .inr ⟨g, 0, rfl, (hlt g rfl).2, fun k x hx => ?_⟩⟩
  have e : (⟨g, 0, none⟩ : Addr).add k = ⟨g, 0 + k, none⟩ := by cases k <;> simp [Addr.add]
  rw [← e]
  exact hc g rfl k x hx
theorem Owns.kept {w w' : World} {base : Nat} {e : TypeId} {sz : Nat} {v : Value} {rows : List (List Value)} (h : Owns w base e sz v rows) (hk : ∀ g, g < w.heap.size → v.ownBlock = some g → w'.heap[g]? = w.heap[g]?) : Owns w' base e sz v rows := by
 have hl := h.lt
 refine ⟨h.1, h.2.1, h.2.2.imp id ?_⟩
 rintro ⟨g, cap, cur, rfl, hg, hh, r⟩
 refine ⟨g, cap, cur, rfl, hg, ?_, r⟩
 rw [hk g (hl g rfl).2 rfl]
 exact hh
theorem Owns.on {w w' : World} {base : Nat} {e : TypeId} {sz : Nat} {v : Value} {rows : List (List Value)} (h : Owns w base e sz v rows) (hb : Below w.heap.size w w') : Owns w' base e sz v rows := h.kept fun g hg _ => hb.block g hg
theorem Owns.heap {w w' : World} {base : Nat} {e : TypeId} {sz : Nat} {v : Value} {rows : List (List Value)} (h : Owns w base e sz v rows) (hh : w'.heap = w.heap) : Owns w' base e sz v rows := h.kept fun g _ _ => by rw [hh]
theorem Owns.mono {w : World} {base base' : Nat} {e : TypeId} {sz : Nat} {v : Value} {rows : List (List Value)} (h : Owns w base e sz v rows) (hb : base' ≤ base) : Owns w base' e sz v rows :=
 ⟨h.1, h.2.1, h.2.2.imp id fun ⟨g, cap, cur, e, hg, r⟩ => ⟨g, cap, cur, e, Nat.le_trans hb hg, r⟩⟩
theorem getD_mem {α : Type} [Inhabited α] (l : List α) (j : Nat) (h : j < l.length) : l.getD j default ∈ l := by
 rw [List.getD_eq_getElem?_getD, List.getElem?_eq_getElem h]
 exact List.getElem_mem h
theorem getD_at {α : Type} [Inhabited α] (l : List α) (j : Nat) (h : j < l.length) : l[j] = l.getD j default := by
 rw [List.getD_eq_getElem?_getD, List.getElem?_eq_getElem h]
 rfl
theorem take_getD {α : Type} [Inhabited α] (l : List α) (j : Nat) (h : j < l.length) : l.take (j + 1) = l.take j ++ [l.getD j default] := by
 rw [List.take_add_one, List.getElem?_eq_getElem h, ← getD_at l j h]
 rfl
def ptC (x : Pnt) : List Value := [.int .i64 x.t, .int .i64 x.v]
def ptR (l : List Pnt) : List (List Value) := l.map ptC
theorem ptR_length (l : List Pnt) : (ptR l).length = l.length := by simp [ptR]
theorem ptR_append (l m : List Pnt) : ptR (l ++ m) = ptR l ++ ptR m := by simp [ptR]
theorem pt_look {w : World} {B : Nat} {v : Value} {l : List Pnt} (h : Lies w B 2 v (ptR l)) : ∃ A cap, v = .slice A l.length cap ∧ ∀ j, j < l.length → ∃ g off, A = some ⟨g, off, none⟩ ∧ g < B ∧
  w.cell? ⟨g, off + j * 2, none⟩ = some (.int .i64 (l.getD j default).t) ∧ w.cell? ⟨g, off + j * 2 + 1, none⟩ = some (.int .i64 (l.getD j default).v) := by
 obtain ⟨A, cap, e, h⟩ := h.look
 refine ⟨A, cap, by rw [e]; simp [ptR], fun j hj => ?_⟩
 rw [← getD_at l j hj]
 obtain ⟨g, off, e, hg, hc⟩ := h j (by simpa [ptR] using hj)
 refine ⟨g, off, e, hg, ?_, ?_⟩
 ·have := hc 0 _ (by omega) (by simp [ptR, ptC]; rfl); simpa [Nat.add_assoc] using this
 ·have := hc 1 _ (by omega) (by simp [ptR, ptC]; rfl); simpa [Nat.add_assoc] using this
theorem Lies.behind {w : World} {B sz g off n c : Nat} {rows : List (List Value)} (h : Lies w B sz (.slice (some ⟨g, off, none⟩) n c) rows) (k : Nat) (hk : k ≤ rows.length) : Lies w B sz (.slice (some ⟨g, off + k * sz, none⟩) (n - k) (c - k)) (rows.drop k) := by
 obtain ⟨A', c', e, hz, hs, h⟩ := h
 cases e
 have hl : (rows.drop k).length = rows.length - k := List.length_drop
 refine ⟨_, c - k, by rw [hl], ⟨fun e => (by cases e), by rw [hl]; have := hz.2; omega⟩, fun r hr => hs r (List.mem_of_mem_drop hr), ?_⟩
 rw [hl]
 rcases h with h | ⟨g', off', e, hg, hc⟩
 ·exact .inl (by omega)
 ·cases e
  refine .inr ⟨g, off + k * sz, rfl, hg, fun j x hx => ?_⟩
  have hl2 : (rows.take k).flatten.length = k * sz := by rw [flat_length sz _ (fun r hr => hs r (List.mem_of_mem_take hr)), List.length_take, Nat.min_eq_left hk]
  have := hc (k * sz + j) x (by
   rw [← List.take_append_drop k rows, List.flatten_append, List.getElem?_append_right (by omega), hl2, Nat.add_sub_cancel_left]
   exact hx)
  rw [← Nat.add_assoc] at this
  exact this
end Go.Proofs.YtimfnbnffibgpaaGreatDoor
namespace Go.Proofs.YtimfnbnffibgpaaGreatDoor
open Go.RowKit Go.PlainAid
structure Ent where
 term : Int
 data : ByteArray
structure Rcd where
 kind : Int
 term : Int
 index : Int
 vote : Int
 data : ByteArray
structure Wl where
 term : Int
 vote : Int
 base : Int
 bterm : Int
 ents : List Ent
instance : Inhabited Ent := ⟨⟨0, ByteArray.empty⟩⟩
instance : Inhabited Rcd := ⟨⟨0, 0, 0, 0, ByteArray.empty⟩⟩
def inIt (x lo hi : Int) : Bool := decide (lo ≤ x) && decide (x ≤ hi)
def based (index term : Int) : Bool := if index = 0 then decide (term = 0) else inIt index 1 100000 && inIt term 1 100000
def recOk (r : Rcd) : Bool :=
 if r.kind = 1 then inIt r.term 0 100000 && inIt r.vote (-1) 4 && decide (r.index = 0) && decide (r.data = ByteArray.empty)
 else if r.kind = 2 then inIt r.term 1 100000 && inIt r.index 1 100000 && decide (r.vote = 0) && decide (r.data.size ≤ 900)
 else if r.kind = 3 then decide (r.term = 0) && inIt r.index 1 100000 && decide (r.vote = 0) && decide (r.data = ByteArray.empty)
 else if r.kind = 4 then based r.index r.term && decide (r.vote = 0) && decide (r.data = ByteArray.empty)
 else false
def entsOk (top : Int) : Int → List Ent → Bool
 | _, [] => true
 | last, e :: r => decide (1 ≤ e.term) && decide (last ≤ e.term) && decide (e.term ≤ top) && decide (e.data.size ≤ 900) && entsOk top e.term r
def walOk (w : Wl) : Bool :=
 inIt w.term 0 100000 && inIt w.vote (-1) 4 && based w.base w.bterm && decide (w.bterm ≤ w.term) && decide (w.ents.length ≤ 60) && decide (w.base + w.ents.length ≤ 100000) && entsOk w.term w.bterm w.ents
end Go.Proofs.YtimfnbnffibgpaaGreatDoor
namespace Go.Proofs.YtimfnbnffibgpaaGreatDoor
open Go.RowKit Go.PlainAid
def entC (x : Ent) : List Value := [.int .i64 x.term, .string x.data]
def entR (l : List Ent) : List (List Value) := l.map entC
theorem entR_snoc (l : List Ent) (k : Nat) (h : k < l.length) : entR (l.take (k + 1)) = entR (l.take k) ++ [entC (l.getD k default)] := by
 unfold entR
 rw [take_getD l k h, List.map_append]
 rfl
theorem entR_length (l : List Ent) : (entR l).length = l.length := by simp [entR]
theorem entR_append (l m : List Ent) : entR (l ++ m) = entR l ++ entR m := by simp [entR]
theorem ent_look {w : World} {B : Nat} {v : Value} {l : List Ent} (h : Lies w B 2 v (entR l)) : ∃ A cap, v = .slice A l.length cap ∧ ∀ j, j < l.length → ∃ g off, A = some ⟨g, off, none⟩ ∧ g < B ∧
  w.cell? ⟨g, off + j * 2, none⟩ = some (.int .i64 (l.getD j default).term) ∧ w.cell? ⟨g, off + j * 2 + 1, none⟩ = some (.string (l.getD j default).data) := by
 obtain ⟨A, cap, e, h⟩ := h.look
 refine ⟨A, cap, by rw [e]; simp [entR], fun j hj => ?_⟩
 rw [← getD_at l j hj]
 obtain ⟨g, off, e, hg, hc⟩ := h j (by simpa [entR] using hj)
 refine ⟨g, off, e, hg, ?_, ?_⟩
 ·have := hc 0 _ (by omega) (by simp [entR, entC]; rfl); simpa [Nat.add_assoc] using this
 ·have := hc 1 _ (by omega) (by simp [entR, entC]; rfl); simpa [Nat.add_assoc] using this
def WalV (w : World) (B : Nat) (v : Value) (x : Wl) : Prop := ∃ u, v = .agg #[.int .i64 x.term, .int .i64 x.vote, .int .i64 x.base, .int .i64 x.bterm, u] ∧ Lies w B 2 u (entR x.ents)
theorem WalV.on {w w' : World} {B : Nat} {v : Value} {x : Wl} (h : WalV w B v x) (hb : Below B w w') : WalV w' B v x := by
 obtain ⟨u, e, h⟩ := h
 exact ⟨u, e, h.on hb⟩
theorem WalV.mono {w : World} {B C : Nat} {v : Value} {x : Wl} (h : WalV w B v x) (hB : B ≤ C) : WalV w C v x := by
 obtain ⟨u, e, h⟩ := h
 exact ⟨u, e, h.mono hB⟩
def WalO (w : World) (base : Nat) (v : Value) (x : Wl) : Prop := ∃ u, v = .agg #[.int .i64 x.term, .int .i64 x.vote, .int .i64 x.base, .int .i64 x.bterm, u] ∧ Owns w base 57 2 u (entR x.ents)
theorem WalO.lies {w : World} {base : Nat} {v : Value} {x : Wl} (h : WalO w base v x) : WalV w w.heap.size v x := by
 obtain ⟨u, e, h⟩ := h
 exact ⟨u, e, h.lies⟩
theorem WalO.on {w w' : World} {base : Nat} {v : Value} {x : Wl} (h : WalO w base v x) (hb : Below w.heap.size w w') : WalO w' base v x := by
 obtain ⟨u, e, h⟩ := h
 exact ⟨u, e, h.on hb⟩
theorem WalO.mono {w : World} {base base' : Nat} {v : Value} {x : Wl} (h : WalO w base v x) (hb : base' ≤ base) : WalO w base' v x := by
 obtain ⟨u, e, h⟩ := h
 exact ⟨u, e, h.mono hb⟩
structure FitsW (x : Wl) : Prop where
 n : x.ents.length ≤ maxLen
 d : ∀ e ∈ x.ents, e.data.size ≤ maxLen
end Go.Proofs.YtimfnbnffibgpaaGreatDoor
namespace Go.Proofs.YtimfnbnffibgpaaGreatDoor
open Go.RowKit Go.PlainAid
theorem flat_parts (sz : Nat) (rows : List (List Value)) (hs : ∀ r ∈ rows, r.length = sz) (k : Nat) (hk : k < rows.length) :
  ∃ F1 F2 : List Value, F1.length = k * sz ∧ rows.flatten = F1 ++ (rows[k] ++ F2) ∧ ∀ r, (rows.set k r).flatten = F1 ++ (r ++ F2) := by
 refine ⟨(rows.take k).flatten, (rows.drop (k + 1)).flatten, ?_, ?_, ?_⟩
 ·rw [flat_length sz _ (fun r hr => hs r (List.mem_of_mem_take hr)), List.length_take, Nat.min_eq_left (by omega)]
 ·conv => lhs; rw [← List.take_append_drop k rows, List.drop_eq_getElem_cons hk]
  rw [List.flatten_append, List.flatten_cons]
 ·intro r
  rw [List.set_eq_take_append_cons_drop, if_pos hk, List.flatten_append, List.flatten_cons]
section
variable {w : World} {base : Nat} {e : TypeId} {sz g cap : Nat} {rows : List (List Value)}
theorem Owns.cellX (h : Owns w base e sz (.slice (some ⟨g, 0, none⟩) rows.length cap) rows) (k f : Nat) (hk : k < rows.length) (hf : f < sz) : ∃ y, w.cell? ⟨g, k * sz + f, none⟩ = some y := by
 have hlt : k * sz + f < rows.length * sz := by
  have : (k + 1) * sz ≤ rows.length * sz := Nat.mul_le_mul_right sz hk
  rw [Nat.succ_mul] at this
  omega
 rw [World.ownsRow.cellAt h.2 (k * sz + f) hlt]
 exact ⟨_, List.getElem?_eq_getElem (by rw [h.2.1]; exact hlt)⟩
theorem Owns.free (h : Owns w base e sz (.slice (some ⟨g, 0, none⟩) rows.length cap) rows) (j : Nat) : w.frozen? ⟨g, j, none⟩ = false := World.ownsRow.frozenAt h.2 j
end
theorem set_self {R : List (List Value)} (j : Nat) (hj : j < R.length) : R.set j R[j] = R := List.set_getElem_self hj
section
variable {w : World} {base : Nat} {e : TypeId} {sz g cap n j : Nat} {R : List (List Value)} {r : List Value}
theorem Owns.pokeAt (h : Owns w base e sz (.slice (some ⟨g, 0, none⟩) n cap) (R.set j r)) (hn : R.length = n) (hj : j < n) (f : Nat) (hf : f < sz) (x : Value) :
  Owns (w.setCell ⟨g, j * sz + f, none⟩ x) base e sz (.slice (some ⟨g, 0, none⟩) n cap) (R.set j (r.set f x)) := by
 subst hn
 have hl : (R.set j r).length = R.length := List.length_set
 have h2 := h.2
 rw [hl] at h2
 have h1 := (World.ownsRow.stored h2 (j * sz + f) x).1
 obtain ⟨F1, F2, l1, e1, e2⟩ := flat_parts sz (R.set j r) h.1 j (by rw [hl]; exact hj)
 have hrr : (R.set j r)[j]'(by rw [hl]; exact hj) = r := by simp
 have hr : r.length = sz := by rw [← hrr]; exact h.1 _ (List.getElem_mem _)
 have e3 := e2 (r.set f x)
 rw [List.set_set] at e3
 refine ⟨?_, ?_⟩
 ·intro y hy
  obtain ⟨i, hi, rfl⟩ := List.getElem_of_mem hy
  have hi2 : i < R.length := by simpa using hi
  by_cases hij : i = j
  ·subst hij
   rw [List.getElem_set_self, List.length_set]
   exact hr
  ·have : (R.set j (r.set f x))[i]'hi = (R.set j r)[i]'(by rw [hl]; exact hi2) := by rw [List.getElem_set_ne (Ne.symm hij), List.getElem_set_ne (Ne.symm hij)]
   rw [this]
   exact h.1 _ (List.getElem_mem _)
 ·rw [List.length_set, e3]
  rw [e1, hrr] at h1
  have : (F1 ++ (r ++ F2)).set (j * sz + f) x = F1 ++ (r.set f x ++ F2) := by
   rw [← l1, List.set_append_right _ _ (by omega), List.set_append_left _ _ (by omega)]
   simp
  rw [this] at h1
  exact h1
theorem Owns.cellAt2 (h : Owns w base e sz (.slice (some ⟨g, 0, none⟩) n cap) (R.set j r)) (hn : R.length = n) (hj : j < n) (f : Nat) (hf : f < sz) : ∃ y, w.cell? ⟨g, j * sz + f, none⟩ = some y := by
 subst hn
 have hl : (R.set j r).length = R.length := List.length_set
 have h2 := h
 rw [← hl] at h2
 exact h2.cellX j f (by rw [hl]; exact hj) hf
theorem Owns.free2 (h : Owns w base e sz (.slice (some ⟨g, 0, none⟩) n cap) (R.set j r)) (hn : R.length = n) (k : Nat) : w.frozen? ⟨g, k, none⟩ = false := by
 subst hn
 have hl : (R.set j r).length = R.length := List.length_set
 have h2 := h
 rw [← hl] at h2
 exact h2.free k
end
def newR (f : Nat → List Value) (j : Nat) : List (List Value) := (List.range j).map f
theorem newR_length (f : Nat → List Value) (j : Nat) : (newR f j).length = j := by simp [newR]
def partR (f : Nat → List Value) (R : List (List Value)) (j : Nat) : List (List Value) := newR f j ++ R.drop j
theorem partR_zero (f : Nat → List Value) (R : List (List Value)) : partR f R 0 = R := by simp [partR, newR]
theorem partR_all (f : Nat → List Value) (R : List (List Value)) : partR f R R.length = newR f R.length := by simp [partR]
theorem partR_length (f : Nat → List Value) (R : List (List Value)) (j : Nat) (h : j ≤ R.length) : (partR f R j).length = R.length := by
 simp [partR, newR]
 omega
theorem partR_set (f : Nat → List Value) (R : List (List Value)) (j : Nat) (h : j < R.length) : (partR f R j).set j (f j) = partR f R (j + 1) := by
 unfold partR
 rw [List.set_append_right _ _ (by rw [newR_length]; omega), newR_length, Nat.sub_self, List.drop_eq_getElem_cons h, List.set_cons_zero]
 unfold newR
 rw [List.range_succ, List.map_append]
 simp
def Blk (w : World) (g : Nat) (cs : Array Value) (t : TypeId) : Prop := w.heap[g]? = some (.cells cs t (0, 0))
theorem Blk.lt {w : World} {g : Nat} {cs : Array Value} {t : TypeId} (h : Blk w g cs t) : g < w.heap.size := lt_of_block h
theorem Blk.cell {w : World} {g : Nat} {cs : Array Value} {t : TypeId} (h : Blk w g cs t) (i : Nat) (x : Value) (hx : cs[i]? = some x) : w.cell? ⟨g, i, none⟩ = some x := by
 rw [cell_of_row w g i cs t (0, 0) h]
 exact hx
theorem Blk.free {w : World} {g : Nat} {cs : Array Value} {t : TypeId} (h : Blk w g cs t) (i : Nat) : w.frozen? ⟨g, i, none⟩ = false := frozen_of_row w g i cs t h
theorem Blk.set {w : World} {g : Nat} {cs : Array Value} {t : TypeId} (h : Blk w g cs t) (i : Nat) (x : Value) : Blk (w.setCell ⟨g, i, none⟩ x) g (cs.setIfInBounds i x) t := heap_setCell_same w g i cs t x h
theorem Blk.other {w : World} {g g' : Nat} {cs : Array Value} {t : TypeId} (h : Blk w g cs t) (hne : g ≠ g') (i : Nat) (x : Value) : Blk (w.setCell ⟨g', i, none⟩ x) g cs t := by
 unfold Blk
 rw [Below.heap_setCell _ _ _ _ hne]
 exact h
theorem Blk.on {w w' : World} {B g : Nat} {cs : Array Value} {t : TypeId} (h : Blk w g cs t) (hb : Below B w w') (hg : g < B) : Blk w' g cs t := by
 unfold Blk
 rw [hb.block g hg]
 exact h
theorem Blk.new (w : World) (cs : Array Value) (t : TypeId) : Blk (w.alloc (.cells cs t)) w.heap.size cs t := heap_alloc_new w _
theorem Blk.alloc {w : World} {g : Nat} {cs : Array Value} {t : TypeId} (h : Blk w g cs t) (o : Obj) : Blk (w.alloc o) g cs t := by
 unfold Blk
 rw [Below.heap_alloc w o g h.lt]
 exact h
theorem Owns.other {w : World} {base : Nat} {e : TypeId} {sz : Nat} {v : Value} {rows : List (List Value)} (h : Owns w base e sz v rows) {g : Nat} (hne : v.ownBlock ≠ some g) (i : Nat) (x : Value) : Owns (w.setCell ⟨g, i, none⟩ x) base e sz v rows :=
 h.kept fun k _ hk => Below.heap_setCell _ _ _ _ (fun e => hne (by rw [hk]; exact congrArg some e))
theorem Owns.below {w : World} {base : Nat} {e : TypeId} {sz : Nat} {v : Value} {rows : List (List Value)} (h : Owns w base e sz v rows) {g : Nat} (hg : g < base) : v.ownBlock ≠ some g := fun e => by
 have := (h.lt g e).1
 omega
theorem Owns.shape {w : World} {base : Nat} {e : TypeId} {sz : Nat} {v : Value} {rows : List (List Value)} (h : Owns w base e sz v rows) : ∃ A m c, v = .slice A m c := by
 rcases h.2.2 with ⟨rfl, _⟩ | ⟨g, cap, cur, rfl, _⟩
 ·exact ⟨_, _, _, rfl⟩
 ·exact ⟨_, _, _, rfl⟩
end Go.Proofs.YtimfnbnffibgpaaGreatDoor
namespace Go.Proofs.YtimfnbnffibgpaaGreatDoor
open Go.ChangeShapes Go.WideShapes Go.ChangeAt Go.RowKit Go.PlainAid
set_option linter.unusedVariables false
def wtE1 (x : Ent) : Nat := x.data.size
def wtE : List Ent → Nat
 | [] => 0
 | x :: r => wtE1 x + wtE r
theorem wtE_snoc (l : List Ent) (k : Nat) (h : k < l.length) : wtE (l.take (k + 1)) = wtE (l.take k) + wtE1 (l.getD k default) := by
 rw [← getD_at l k h]
 induction l generalizing k with
 | nil => simp at h
 | cons x r ih =>
  cases k with
  | zero => simp [wtE]
  | succ k => simp only [List.take_succ_cons, wtE, List.getElem_cons_succ]; rw [ih k (by simpa using h)]; omega
def vEnt (x : Ent) : Value := .agg #[.int .i64 x.term, .string x.data]
def vRcd (x : Rcd) : Value := .agg #[.int .i64 x.kind, .int .i64 x.term, .int .i64 x.index, .int .i64 x.vote, .string x.data]
end Go.Proofs.YtimfnbnffibgpaaGreatDoor
namespace Go.Proofs.YtimfnbnffibgpaaGreatDoor
open Go.ChangeShapes Go.WideShapes Go.ChangeAt Go.RowKit Go.PlainAid
set_option linter.unusedVariables false
structure Ans where
 code : Int
 index : Int
 mark : Int
 data : ByteArray
instance : Inhabited Ans := ⟨⟨0, 0, 0, ByteArray.empty⟩⟩
def inRg (x lo hi : Int) : Bool := decide (lo ≤ x) && decide (x ≤ hi)
def ansOk (x : Ans) : Bool := inRg x.code 0 4 && inRg x.index 0 100000 && inRg x.mark 0 1099511627776 && decide (x.data.size ≤ 900)
def vAns (x : Ans) : Value := .agg #[.int .i64 x.code, .int .i64 x.index, .int .i64 x.mark, .string x.data]
def Cell4 (w : World) (g : Nat) (x : Ans) : Prop := w.cell? ⟨g, 0, none⟩ = some (.int .i64 x.code) ∧ w.cell? ⟨g, 1, none⟩ = some (.int .i64 x.index) ∧ w.cell? ⟨g, 2, none⟩ = some (.int .i64 x.mark) ∧ w.cell? ⟨g, 3, none⟩ = some (.string x.data) ∧ g < w.heap.size
theorem Cell4.on {w w' : World} {B g : Nat} {x : Ans} (h : Cell4 w g x) (hb : Below B w w') (hg : g < B) (hs : B ≤ w.heap.size) : Cell4 w' g x := by
 obtain ⟨a, b, c, c', d⟩ := h
 refine ⟨?_, ?_, ?_, ?_, Nat.lt_of_lt_of_le d ?_⟩
 ·rw [hb.cell (p := ⟨_, _, none⟩) hg]; exact a
 ·rw [hb.cell (p := ⟨_, _, none⟩) hg]; exact b
 ·rw [hb.cell (p := ⟨_, _, none⟩) hg]; exact c
 ·rw [hb.cell (p := ⟨_, _, none⟩) hg]; exact c'
 ·exact hb.size
theorem Cell4.new (w : World) (x : Ans) (t : TypeId) : Cell4 (w.alloc (.cells #[.int .i64 x.code, .int .i64 x.index, .int .i64 x.mark, .string x.data] t)) w.heap.size x := by
 have h : (w.alloc (.cells #[.int .i64 x.code, .int .i64 x.index, .int .i64 x.mark, .string x.data] t)).heap[w.heap.size]? = some (.cells #[.int .i64 x.code, .int .i64 x.index, .int .i64 x.mark, .string x.data] t (0, 0)) := heap_alloc_new w _
 refine ⟨?_, ?_, ?_, ?_, by simp⟩
 ·rw [cell_of_row _ _ 0 _ t (0, 0) h]; rfl
 ·rw [cell_of_row _ _ 1 _ t (0, 0) h]; rfl
 ·rw [cell_of_row _ _ 2 _ t (0, 0) h]; rfl
 ·rw [cell_of_row _ _ 3 _ t (0, 0) h]; rfl
theorem below_a1 (w : World) (a : Obj) : Below w.heap.size w (w.alloc a) := (Below.refl _ w).alloc (Nat.le_refl _) a
set_option maxHeartbeats 400000 in
theorem inS (x lo hi : Int) (w : World) : Calls Tryz.prog 20 #[.int .i64 x, .int .i64 lo, .int .i64 hi] w fun e w' => e = .returned (.bool (inRg x lo hi)) ∧ w = w' := by
 by_cases h1 : lo ≤ x
 ·go_enter Tryz.func20, Tryz.ntmps20
  go_wp2
  go_ret
  exact ⟨by simp [inRg, h1], rfl⟩
 ·have z : decide (lo ≤ x) = false := decide_eq_false h1
  have z2 : x < lo := by omega
  go_enter Tryz.func20, Tryz.ntmps20
  go_wp2
  go_ret
  exact ⟨by unfold inRg; rw [z]; rfl, rfl⟩
set_option maxHeartbeats 400000 in
theorem inI (x lo hi : Int) (w : World) : Calls Tryz.prog 55 #[.int .i64 x, .int .i64 lo, .int .i64 hi] w fun e w' => e = .returned (.bool (inRg x lo hi)) ∧ w = w' := by
 by_cases h1 : lo ≤ x
 ·go_enter Tryz.func55, Tryz.ntmps55
  go_wp2
  go_ret
  exact ⟨by simp [inRg, h1], rfl⟩
 ·have z : decide (lo ≤ x) = false := decide_eq_false h1
  have z2 : x < lo := by omega
  go_enter Tryz.func55, Tryz.ntmps55
  go_wp2
  go_ret
  exact ⟨by unfold inRg; rw [z]; rfl, rfl⟩
set_option maxHeartbeats 2000000 in
theorem specAnswerOk (x : Ans) (w : World) (hd : x.data.size ≤ maxLen) : Calls Tryz.prog 75 #[vAns x] w fun e w' => e = .returned (.bool (ansOk x)) ∧ Below w.heap.size w w' := by
 obtain ⟨c, i, m, d⟩ := x
 unfold vAns
 simp only at hd ⊢
 have HB : Hid (Below w.heap.size w (w.alloc (.cells #[.int .i64 c, .int .i64 i, .int .i64 m, .string d] 48))) := below_a1 _ _
 have HE : Hid (ansOk ⟨c, i, m, d⟩ = (inRg c 0 4 && inRg i 0 100000 && inRg m 0 1099511627776 && decide (d.size ≤ 900))) := rfl
 have hdi : (d.size : Int) ≤ 9223372036854775807 := by unfold maxLen at hd; omega
 have hq : Hid (decide ((d.size : Int) ≤ 900) = decide (d.size ≤ 900)) := by
  unfold Hid
  by_cases h : d.size ≤ 900
  ·rw [decide_eq_true h, decide_eq_true (by omega)]
  ·rw [decide_eq_false h, decide_eq_false (by omega)]
 clear hd
 have a1 := inS c 0 4
 have a2 := inS i 0 100000
 have a3 := inS m 0 1099511627776
 cases h1 : inRg c 0 4 <;> rw [h1] at a1 HE <;> clear h1
 ·go_enter Tryz.func75, Tryz.ntmps75
  go_wp2_with fail
  refine (a1 _).mono ?_
  rintro e w' ⟨rfl, rfl⟩
  go_wp2_with fail
  go_ret
  exact ⟨by rw [HE.out]; rfl, HB.out⟩
 cases h2 : inRg i 0 100000 <;> rw [h2] at a2 HE <;> clear h2
 ·go_enter Tryz.func75, Tryz.ntmps75
  go_wp2_with fail
  refine (a1 _).mono ?_
  rintro e w' ⟨rfl, rfl⟩
  go_wp2_with fail
  refine (a2 _).mono ?_
  rintro e w' ⟨rfl, rfl⟩
  go_wp2_with fail
  go_ret
  exact ⟨by rw [HE.out]; rfl, HB.out⟩
 cases h3 : inRg m 0 1099511627776 <;> rw [h3] at a3 HE <;> clear h3
 ·go_enter Tryz.func75, Tryz.ntmps75
  go_wp2_with fail
  refine (a1 _).mono ?_
  rintro e w' ⟨rfl, rfl⟩
  go_wp2_with fail
  refine (a2 _).mono ?_
  rintro e w' ⟨rfl, rfl⟩
  go_wp2_with fail
  refine (a3 _).mono ?_
  rintro e w' ⟨rfl, rfl⟩
  go_wp2_with fail
  go_ret
  exact ⟨by rw [HE.out]; rfl, HB.out⟩
 go_enter Tryz.func75, Tryz.ntmps75
 go_wp2_with fail
 refine (a1 _).mono ?_
 rintro e w' ⟨rfl, rfl⟩
 go_wp2_with fail
 refine (a2 _).mono ?_
 rintro e w' ⟨rfl, rfl⟩
 go_wp2_with fail
 refine (a3 _).mono ?_
 rintro e w' ⟨rfl, rfl⟩
 go_wp2_with fail
 go_ret
 exact ⟨by rw [HE.out, ← hq.out]; rfl, HB.out⟩
set_option maxHeartbeats 2000000 in
theorem implAnswerOk (x : Ans) (w : World) (hd : x.data.size ≤ maxLen) : Calls Tryz.prog 95 #[vAns x] w fun e w' => e = .returned (.bool (ansOk x)) ∧ Below w.heap.size w w' := by
 obtain ⟨c, i, m, d⟩ := x
 unfold vAns
 simp only at hd ⊢
 have HB : Hid (Below w.heap.size w (w.alloc (.cells #[.int .i64 c, .int .i64 i, .int .i64 m, .string d] 48))) := below_a1 _ _
 have HE : Hid (ansOk ⟨c, i, m, d⟩ = (inRg c 0 4 && inRg i 0 100000 && inRg m 0 1099511627776 && decide (d.size ≤ 900))) := rfl
 have hdi : (d.size : Int) ≤ 9223372036854775807 := by unfold maxLen at hd; omega
 have hq : Hid (decide ((d.size : Int) ≤ 900) = decide (d.size ≤ 900)) := by
  unfold Hid
  by_cases h : d.size ≤ 900
  ·rw [decide_eq_true h, decide_eq_true (by omega)]
  ·rw [decide_eq_false h, decide_eq_false (by omega)]
 clear hd
 have a1 := inI c 0 4
 have a2 := inI i 0 100000
 have a3 := inI m 0 1099511627776
 cases h1 : inRg c 0 4 <;> rw [h1] at a1 HE <;> clear h1
 ·go_enter Tryz.func95, Tryz.ntmps95
  go_wp2_with fail
  refine (a1 _).mono ?_
  rintro e w' ⟨rfl, rfl⟩
  go_wp2_with fail
  go_ret
  exact ⟨by rw [HE.out]; rfl, HB.out⟩
 cases h2 : inRg i 0 100000 <;> rw [h2] at a2 HE <;> clear h2
 ·go_enter Tryz.func95, Tryz.ntmps95
  go_wp2_with fail
  refine (a1 _).mono ?_
  rintro e w' ⟨rfl, rfl⟩
  go_wp2_with fail
  refine (a2 _).mono ?_
  rintro e w' ⟨rfl, rfl⟩
  go_wp2_with fail
  go_ret
  exact ⟨by rw [HE.out]; rfl, HB.out⟩
 cases h3 : inRg m 0 1099511627776 <;> rw [h3] at a3 HE <;> clear h3
 ·go_enter Tryz.func95, Tryz.ntmps95
  go_wp2_with fail
  refine (a1 _).mono ?_
  rintro e w' ⟨rfl, rfl⟩
  go_wp2_with fail
  refine (a2 _).mono ?_
  rintro e w' ⟨rfl, rfl⟩
  go_wp2_with fail
  refine (a3 _).mono ?_
  rintro e w' ⟨rfl, rfl⟩
  go_wp2_with fail
  go_ret
  exact ⟨by rw [HE.out]; rfl, HB.out⟩
 go_enter Tryz.func95, Tryz.ntmps95
 go_wp2_with fail
 refine (a1 _).mono ?_
 rintro e w' ⟨rfl, rfl⟩
 go_wp2_with fail
 refine (a2 _).mono ?_
 rintro e w' ⟨rfl, rfl⟩
 go_wp2_with fail
 refine (a3 _).mono ?_
 rintro e w' ⟨rfl, rfl⟩
 go_wp2_with fail
 go_ret
 exact ⟨by rw [HE.out, ← hq.out]; rfl, HB.out⟩
end Go.Proofs.YtimfnbnffibgpaaGreatDoor
namespace Go.Proofs.YtimfnbnffibgpaaGreatDoor
open Go.ChangeShapes Go.WideShapes Go.ChangeAt Go.RowKit Go.PlainAid
set_option linter.unusedVariables false
structure Mg where
 kind : Int
 frm : Int
 dst : Int
 term : Int
 index : Int
 iterm : Int
 commit : Int
 yes : Bool
 ents : List Ent
 data : ByteArray
def vMg (x : Mg) (u : Value) : Value := .agg #[.int .i64 x.kind, .int .i64 x.frm, .int .i64 x.dst, .int .i64 x.term, .int .i64 x.index, .int .i64 x.iterm, .int .i64 x.commit, .bool x.yes, u, .string x.data]
def MgV (w : World) (B : Nat) (v : Value) (x : Mg) : Prop := ∃ u, v = vMg x u ∧ Lies w B 2 u (entR x.ents)
def MgO (w : World) (base : Nat) (v : Value) (x : Mg) : Prop := ∃ u, v = vMg x u ∧ Owns w base 57 2 u (entR x.ents)
theorem MgV.on {w w' : World} {B : Nat} {v : Value} {x : Mg} (h : MgV w B v x) (hb : Below B w w') : MgV w' B v x := by
 obtain ⟨u, e, hl⟩ := h
 exact ⟨u, e, hl.on hb⟩
theorem MgV.mono {w : World} {B C : Nat} {v : Value} {x : Mg} (h : MgV w B v x) (hB : B ≤ C) : MgV w C v x := by
 obtain ⟨u, e, hl⟩ := h
 exact ⟨u, e, hl.mono hB⟩
theorem MgO.lies {w : World} {base : Nat} {v : Value} {x : Mg} (h : MgO w base v x) : MgV w w.heap.size v x := by
 obtain ⟨u, e, hl⟩ := h
 exact ⟨u, e, hl.lies⟩
theorem MgO.on {w w' : World} {base : Nat} {v : Value} {x : Mg} (h : MgO w base v x) (hb : Below w.heap.size w w') : MgO w' base v x := by
 obtain ⟨u, e, hl⟩ := h
 exact ⟨u, e, hl.on hb⟩
theorem MgO.mono {w : World} {base base' : Nat} {v : Value} {x : Mg} (h : MgO w base v x) (hb : base' ≤ base) : MgO w base' v x := by
 obtain ⟨u, e, hl⟩ := h
 exact ⟨u, e, hl.mono hb⟩
structure FitsM (x : Mg) : Prop where
 n : x.ents.length ≤ maxLen
 d : ∀ y ∈ x.ents, y.data.size ≤ maxLen
 t : x.data.size ≤ maxLen
def wtM (x : Mg) : Nat := x.ents.length + wtE x.ents + x.data.size
def srvB (a : Int) : Bool := inRg a 0 4
def cliB (a : Int) : Bool := inRg a 11 14
theorem Hid.mkM {p : Prop} (h : p) : Hid p := h
def svB (x : Mg) : Bool := srvB x.frm && srvB x.dst && decide (x.frm ≠ x.dst)
def askB (x : Mg) : Bool := cliB x.frm && srvB x.dst
def telB (x : Mg) : Bool := srvB x.frm && cliB x.dst
def endB (x : Mg) : Bool := if x.kind = 6 then askB x else if x.kind = 7 then telB x else svB x
def unT (x : Mg) : Mg := if x.kind < 6 then { x with term := 0 } else x
def unn (x : Mg) : Mg :=
 if x.kind = 1 then { unT x with index := 0, iterm := 0 }
 else if x.kind = 2 then { unT x with yes := false }
 else if x.kind = 3 then { unT x with index := 0, iterm := 0, commit := 0, ents := [] }
 else if x.kind = 4 then { unT x with yes := false, index := 0 }
 else if x.kind = 5 then { unT x with index := 0, iterm := 0, data := ⟨#[]⟩ }
 else if x.kind = 6 ∨ x.kind = 7 then { unT x with index := 0, data := ⟨#[]⟩ }
 else unT x
def nonB (x : Mg) : Bool := decide (x.term = 0) && decide (x.index = 0) && decide (x.iterm = 0) && decide (x.commit = 0) && !x.yes && decide (x.ents.length = 0) && decide (x.data = ByteArray.empty)
end Go.Proofs.YtimfnbnffibgpaaGreatDoor
namespace Go.Proofs.YtimfnbnffibgpaaGreatDoor
open Go.ChangeShapes Go.WideShapes Go.ChangeAt Go.RowKit Go.PlainAid
set_option linter.unusedVariables false
structure Opx where
 kind : Int
 key : ByteArray
 frm : Int
 til : Int
 data : ByteArray
def vOp (x : Opx) : Value := .agg #[.int .i64 x.kind, .string x.key, .int .i64 x.frm, .int .i64 x.til, .string x.data]
def CellO (w : World) (g : Nat) (x : Opx) : Prop := (w.cell? ⟨g, 0, none⟩ = some (.int .i64 x.kind) ∧ w.cell? ⟨g, 1, none⟩ = some (.string x.key) ∧ w.cell? ⟨g, 2, none⟩ = some (.int .i64 x.frm) ∧ w.cell? ⟨g, 3, none⟩ = some (.int .i64 x.til) ∧ w.cell? ⟨g, 4, none⟩ = some (.string x.data)) ∧ g < w.heap.size
theorem CellO.on {w w' : World} {B g : Nat} {x : Opx} (h : CellO w g x) (hb : Below B w w') (hg : g < B) : CellO w' g x := by
 obtain ⟨⟨a, b, c, d, e⟩, f⟩ := h
 refine ⟨⟨?_, ?_, ?_, ?_, ?_⟩, Nat.lt_of_lt_of_le f hb.size⟩
 ·rw [hb.cell (p := ⟨_, _, none⟩) hg]; exact a
 ·rw [hb.cell (p := ⟨_, _, none⟩) hg]; exact b
 ·rw [hb.cell (p := ⟨_, _, none⟩) hg]; exact c
 ·rw [hb.cell (p := ⟨_, _, none⟩) hg]; exact d
 ·rw [hb.cell (p := ⟨_, _, none⟩) hg]; exact e
theorem CellO.new (w : World) (x : Opx) (t : TypeId) : CellO (w.alloc (.cells #[.int .i64 x.kind, .string x.key, .int .i64 x.frm, .int .i64 x.til, .string x.data] t)) w.heap.size x := by
 have h : (w.alloc (.cells #[.int .i64 x.kind, .string x.key, .int .i64 x.frm, .int .i64 x.til, .string x.data] t)).heap[w.heap.size]? = some (.cells #[.int .i64 x.kind, .string x.key, .int .i64 x.frm, .int .i64 x.til, .string x.data] t (0, 0)) := heap_alloc_new w _
 refine ⟨⟨?_, ?_, ?_, ?_, ?_⟩, by simp⟩
 ·rw [cell_of_row _ _ 0 _ t (0, 0) h]; rfl
 ·rw [cell_of_row _ _ 1 _ t (0, 0) h]; rfl
 ·rw [cell_of_row _ _ 2 _ t (0, 0) h]; rfl
 ·rw [cell_of_row _ _ 3 _ t (0, 0) h]; rfl
 ·rw [cell_of_row _ _ 4 _ t (0, 0) h]; rfl
section
variable {H : Type} {enc : TypeId × Value → H} {w : World} {base : Nat} {spare : Nat → Bool} {held : Bool}
end
end Go.Proofs.YtimfnbnffibgpaaGreatDoor
namespace Go.Proofs.YtimfnbnffibgpaaGreatDoor
open Go.RowKit Go.PlainAid
def tAt (l : List Pnt) (j : Nat) : Int := (l.getD j default).t
def vAt (l : List Pnt) (j : Nat) : Int := (l.getD j default).v
def POk (l : List Pnt) : Prop := l.length ≤ 60 ∧ ∀ j, j < l.length → ((0 ≤ tAt l j ∧ tAt l j ≤ 1099511627776) ∧ (-1099511627776 ≤ vAt l j ∧ vAt l j ≤ 1099511627776)) ∧ (0 < j → tAt l (j - 1) < tAt l j)
instance (l : List Pnt) : Decidable (POk l) := by unfold POk; infer_instance
theorem POk.nil : POk [] := ⟨by simp, fun j hj => by simp at hj⟩
end Go.Proofs.YtimfnbnffibgpaaGreatDoor
namespace Go.Proofs.YtimfnbnffibgpaaGreatDoor
open Go.RowKit Go.PlainAid
theorem vvS_var (f n : Nat) (pre tl : List UInt8) (hn : n < 128 ^ (f + 1)) : vvS (txt (pre ++ vF f n ++ tl)) pre.length (vF f n).length = n := by
 induction f generalizing n pre with
 | zero =>
  simp at hn
  have e : (vF 0 n).length = 1 := rfl
  rw [e]
  have hb : bn (txt (pre ++ vF 0 n ++ tl)) pre.length = n := by
   rw [bn_txt _ _ (by simp [vF])]
   simp [vF, byt_toNat]
   omega
  simp only [vvS, hb]
  omega
 | succ f ih =>
  by_cases h : n < 128
  ·rw [vF_small _ n h]
   have hb : bn (txt (pre ++ [byt n] ++ tl)) pre.length = n := by
    rw [bn_txt _ _ (by simp)]
    simp [byt_toNat]
    omega
   simp only [List.length_cons, List.length_nil, vvS, hb]
   omega
  ·have e : vF (f + 1) n = byt (128 + n % 128) :: vF f (n / 128) := by rw [vF, if_neg h]
   have hd : n / 128 < 128 ^ (f + 1) := by
    rw [Nat.pow_succ] at hn
    exact Nat.div_lt_of_lt_mul (by rw [Nat.mul_comm]; exact hn)
   rw [e]
   have hb : bn (txt (pre ++ (byt (128 + n % 128) :: vF f (n / 128)) ++ tl)) pre.length = 128 + n % 128 := by
    rw [bn_txt _ _ (by simp)]
    simp [byt_toNat]
    omega
   have hi := ih (n / 128) (pre ++ [byt (128 + n % 128)]) hd
   have e2 : pre ++ [byt (128 + n % 128)] ++ vF f (n / 128) ++ tl = pre ++ (byt (128 + n % 128) :: vF f (n / 128)) ++ tl := by simp
   rw [e2] at hi
   simp only [List.length_cons, vvS, hb]
   simp only [List.length_append, List.length_cons, List.length_nil] at hi
   rw [Nat.zero_add] at hi
   rw [hi]
   omega
theorem sg_txt (l tl : List UInt8) : sg (txt (l ++ tl)) 0 l.length = l := by
 have h := sg_extract (txt (l ++ tl)) l.length (by rw [txt_size]; simp)
 have e : (txt (l ++ tl)).extract 0 l.length = txt l := by
  apply ByteArray.ext
  apply Array.toList_inj.1
  rw [Lib.extract_data]
  simp [txt]
 rw [e] at h
 exact (txt_inj _ _ h).symm
theorem vF_pos (f n : Nat) : 1 ≤ (vF f n).length := by
 cases f with
 | zero => simp [vF]
 | succ f => rw [vF]; split <;> simp
theorem find_var (n : Nat) (tl : List UInt8) (hn : n ≤ 562949953421311) : FindV (txt (vF 6 n ++ tl)) (vF 6 n).length ∧ vvS (txt (vF 6 n ++ tl)) 0 (vF 6 n).length = n := by
 have hp := vF_pos 6 n
 have hl := vF_length 6 n
 have hv := vvS_var 6 n [] tl (by omega)
 simp only [List.nil_append, List.length_nil] at hv
 refine ⟨⟨hp, hl, by rw [txt_size]; simp, ?_⟩, hv⟩
 obtain ⟨d, hd⟩ : ∃ d, (vF 6 n).length = d + 1 := ⟨(vF 6 n).length - 1, by omega⟩
 have hs := sg_txt (vF 6 n) tl
 rw [hd] at hs hv ⊢
 rw [← canonS_iff _ d 0 6 (by omega), hv, hs]
end Go.Proofs.YtimfnbnffibgpaaGreatDoor
namespace Go.Proofs.YtimfnbnffibgpaaGreatDoor
open Go.ChangeShapes Go.WideShapes Go.ChangeAt Go.RowKit Go.PlainAid
set_option linter.unusedVariables false
set_option maxHeartbeats 400000 in
theorem in_yes (x lo hi : Int) (w : World) (h1 : lo ≤ x) (h2 : x ≤ hi) :
  Calls Tryz.prog 20 #[.int .i64 x, .int .i64 lo, .int .i64 hi] w fun e w' => e = .returned (.bool true) ∧ w = w' := by
 go_enter Tryz.func20, Tryz.ntmps20
 go_wp2
 go_ret
 exact ⟨rfl, rfl⟩
set_option maxHeartbeats 400000 in
theorem in_no (x lo hi : Int) (w : World) (h : x < lo ∨ hi < x) :
  Calls Tryz.prog 20 #[.int .i64 x, .int .i64 lo, .int .i64 hi] w fun e w' => e = .returned (.bool false) ∧ w = w' := by
 by_cases h1 : x < lo
 ·go_enter Tryz.func20, Tryz.ntmps20
  go_wp2
  go_ret
  exact ⟨rfl, rfl⟩
 ·have h2 : hi < x := by omega
  have h3 : decide (x ≤ hi) = false := by simp; omega
  clear h
  go_enter Tryz.func20, Tryz.ntmps20
  go_wp2
  go_ret
  exact ⟨rfl, rfl⟩
end Go.Proofs.YtimfnbnffibgpaaGreatDoor
