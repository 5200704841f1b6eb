/- ErrIs Errs FrLaid PtRow PtPut PtApp PtAid -/
import Derived.Test.YtikknmoeefipmaaGreatDoorRows
import Derived.WalkKit
import Derived.LaidEql
import Derived.Stop.Asserts
import Derived.RowKitTokens
import Derived.Below
import Derived.PlainAid
import Derived.WalkSmall
import Derived.Lib.LaidTab
import Derived.Test.YtikknmoeefipmaaGreatDoorQp0
import Derived.ProofKit
import Derived.OpenShut
import Derived.ChangeVars
import Derived.LaidMore
import Derived.Lay
import Derived.Stop.LaidErr
import Derived.Stop.LaidTwo
import Derived.Laws.OwnMore
import Derived.OwnWalk
namespace Go.Proofs.YtikknmoeefipmaaGreatDoor
open Go.RowKit Go.PlainAid
set_option linter.unusedVariables false
theorem isTypeOf (v : Value) (w : World) : (callFunc 218 #[.iface 320 v]).run Tryz.prog w = .ok (.value (.iface 272 (.agg #[.pointer (some ⟨5, 320, none⟩)]))) w := by kernel_rfl
theorem isComparable (w : World) : (callFunc 291 #[.agg #[.pointer (some ⟨5, 320, none⟩)]]).run Tryz.prog w = .ok (.value (.bool true)) w := by kernel_rfl
theorem isMethodComparable (v : Value) (w : World) : (Go.method 451 272 v "Comparable").run Tryz.prog w = .ok (291, v) w := by kernel_rfl
theorem isComp : (Tryz.prog.info? 320).map (·.comparable) = some true := by kernel_rfl
theorem isSize : (Tryz.prog.info? 339).map (·.size) = some 1 := by kernel_rfl
theorem noIsE (v : Value) (xT : TypeId) (w : World) : (Instr.typeAssert (.iface 320 v) xT 317 true).run Tryz.prog w = .ok (.tuple #[.nilIface, .bool false]) w := run_typeAssert_lacksB Tryz.underlying317 (by kernel_rfl) (by kernel_rfl) v xT w
theorem noUnwrapE (v : Value) (xT : TypeId) (w : World) : (Instr.typeAssert (.iface 320 v) xT 280 true).run Tryz.prog w = .ok (.tuple #[.nilIface, .bool false]) w := run_typeAssert_lacksB Tryz.underlying280 (by kernel_rfl) (by kernel_rfl) v xT w
theorem noUnwrapsE (v : Value) (xT : TypeId) (w : World) : (Instr.typeAssert (.iface 320 v) xT 282 true).run Tryz.prog w = .ok (.tuple #[.nilIface, .bool false]) w := run_typeAssert_lacksB Tryz.underlying282 (by kernel_rfl) (by kernel_rfl) v xT w
theorem noIsW (v : Value) (xT : TypeId) (w : World) : (Instr.typeAssert (.iface 313 v) xT 317 true).run Tryz.prog w = .ok (.tuple #[.nilIface, .bool false]) w := run_typeAssert_lacksB Tryz.underlying317 (by kernel_rfl) (by kernel_rfl) v xT w
theorem hasUnwrapW (v : Value) (xT : TypeId) (w : World) : (Instr.typeAssert (.iface 313 v) xT 280 true).run Tryz.prog w = .ok (.tuple #[.iface 313 v, .bool true]) w := run_typeAssert_hasB Tryz.underlying280 (by kernel_rfl) v xT w
theorem methodUnwrap (v : Value) (w : World) : (Go.method 451 313 v "Unwrap").run Tryz.prog w = .ok (301, v) w := by kernel_rfl
theorem heap_alloc_old {w : World} {k : Nat} {o x : Obj} (h : w.heap[k]? = some x) : (w.alloc o).heap[k]? = some x := by
 show (w.heap.push o)[k]? = _
 rcases Nat.lt_or_ge k w.heap.size with h' | h'
 ·simp only [Array.getElem?_push, Nat.ne_of_lt h', if_false]
  exact h
 ·rw [Array.getElem?_eq_none h'] at h
  cases h
def wrapped (p : Int) (a : Addr) : Value := .iface 313 (.agg #[.int .i64 p, .iface 320 (.pointer (some a))])
set_option maxRecDepth 20000 in
set_option maxHeartbeats 1000000 in
theorem is_wrap_same (p : Int) (b : Addr) (w : World) :
  Calls Tryz.prog 257 #[wrapped p b, .iface 320 (.pointer (some b))] w fun e w' => e = .returned (.bool true) ∧ Below w.heap.size w w' := by
 unfold wrapped
 obtain ⟨i, hi, hcmp⟩ := Option.map_eq_some_iff.1 isComp
 obtain ⟨j, hj, hjs⟩ := Option.map_eq_some_iff.1 isSize
 have tT := isTypeOf
 have cT := isComparable
 have mR := isMethodComparable
 have nE := noIsE
 have uE := noUnwrapE
 have vE := noUnwrapsE
 have nW := noIsW
 have uW := hasUnwrapW
 have mU := methodUnwrap
 have heq := fun wx : World => run_eql_iface_ptr_same (P := Tryz.prog) wx b Tryz.underlying143 Tryz.underlying320 hi hcmp hj
 have hty := run_eql_iface_types (P := Tryz.prog) 313 320 (.agg #[.int .i64 p, .iface 320 (.pointer (some b))]) (.pointer (some b)) Tryz.underlying143 (by decide) w
 go_enter Tryz.func257, Tryz.ntmps257
 go_wp2
 refine wp_loop_rounds 2 ?_
 rw [rounds_succ]
 go_wp2
 rw [rounds_succ]
 go_wp2
 go_ret
 exact ⟨rfl, (Below.refl _ _).alloc (Nat.le_refl _) _⟩
set_option maxRecDepth 20000 in
set_option maxHeartbeats 1000000 in
theorem is_wrap_other (p : Int) (a b : Addr) (ca cb : Array Value) (ta tb : TypeId) (w : World) (hne : a ≠ b) (ha : w.heap[a.block]? = some (.cells ca ta (0, 0))) (hb : w.heap[b.block]? = some (.cells cb tb (0, 0))) :
  Calls Tryz.prog 257 #[wrapped p a, .iface 320 (.pointer (some b))] w fun e w' => e = .returned (.bool false) ∧ Below w.heap.size w w' := by
 unfold wrapped
 obtain ⟨i, hi, hcmp⟩ := Option.map_eq_some_iff.1 isComp
 obtain ⟨j, hj, hjs⟩ := Option.map_eq_some_iff.1 isSize
 have tT := isTypeOf
 have cT := isComparable
 have mR := isMethodComparable
 have nE := noIsE
 have uE := noUnwrapE
 have vE := noUnwrapsE
 have nW := noIsW
 have uW := hasUnwrapW
 have mU := methodUnwrap
 have heq : ∀ o : Obj, _ := fun o => run_eql_iface_ptr_other (P := Tryz.prog) (w.alloc o) Tryz.underlying143 Tryz.underlying320 hi hcmp hj (by rw [hjs]; decide) hne (heap_alloc_old ha) (heap_alloc_old hb)
 have hty := run_eql_iface_types (P := Tryz.prog) 313 320 (.agg #[.int .i64 p, .iface 320 (.pointer (some a))]) (.pointer (some b)) Tryz.underlying143 (by decide) w
 clear ha hb hne
 go_enter Tryz.func257, Tryz.ntmps257
 go_wp2
 refine wp_loop_rounds 2 ?_
 rw [rounds_succ]
 go_wp2
 rw [rounds_succ]
 go_wp2
 go_ret
 exact ⟨rfl, (Below.refl _ _).alloc (Nat.le_refl _) _⟩
end Go.Proofs.YtikknmoeefipmaaGreatDoor
namespace Go.Proofs.YtikknmoeefipmaaGreatDoor
open Go.RowKit Go.PlainAid
set_option linter.unusedVariables false
structure Errs (w : World) (a0 a1 a2 : Addr) : Prop where
 v0 : w.var? Tryz.prog "loop.example/g00360/impl.errFrameShort" = some #[.iface 320 (.pointer (some a0))]
 v1 : w.var? Tryz.prog "loop.example/g00360/impl.errFrameLength" = some #[.iface 320 (.pointer (some a1))]
 v2 : w.var? Tryz.prog "loop.example/g00360/impl.errFrameSum" = some #[.iface 320 (.pointer (some a2))]
 n1 : a1 ≠ a0
 n2 : a2 ≠ a0
 h0 : ∃ c t, w.heap[a0.block]? = some (.cells c t (0, 0))
 h1 : ∃ c t, w.heap[a1.block]? = some (.cells c t (0, 0))
 h2 : ∃ c t, w.heap[a2.block]? = some (.cells c t (0, 0))
theorem gShort : Tryz.prog.globalNamed "loop.example/g00360/impl.errFrameShort" = some 2 := by kernel_rfl
theorem gLen : Tryz.prog.globalNamed "loop.example/g00360/impl.errFrameLength" = some 3 := by kernel_rfl
theorem gBad : Tryz.prog.globalNamed "loop.example/g00360/impl.errFrameSum" = some 4 := by kernel_rfl
theorem Errs.c0 {w : World} {a0 a1 a2 : Addr} (h : Errs w a0 a1 a2) : w.cell? ⟨2, 0, none⟩ = some (.iface 320 (.pointer (some a0))) := by simpa using World.var?_cell gShort h.v0 0
theorem Errs.c1 {w : World} {a0 a1 a2 : Addr} (h : Errs w a0 a1 a2) : w.cell? ⟨3, 0, none⟩ = some (.iface 320 (.pointer (some a1))) := by simpa using World.var?_cell gLen h.v1 0
theorem Errs.c2 {w : World} {a0 a1 a2 : Addr} (h : Errs w a0 a1 a2) : w.cell? ⟨4, 0, none⟩ = some (.iface 320 (.pointer (some a2))) := by simpa using World.var?_cell gBad h.v2 0
theorem lt_of_some {w : World} {k : Nat} {x : Obj} (h : w.heap[k]? = some x) : k < w.heap.size := by
 rcases Nat.lt_or_ge k w.heap.size with h' | h'
 ·exact h'
 ·rw [Array.getElem?_eq_none h'] at h
  cases h
theorem Errs.on {w w' : World} {a0 a1 a2 : Addr} (h : Errs w a0 a1 a2) (hb : Below w.heap.size w w') : Errs w' a0 a1 a2 where
 v0 := var?_below hb gShort (World.block_lt_of_cell? _ _ h.c0) h.v0
 v1 := var?_below hb gLen (World.block_lt_of_cell? _ _ h.c1) h.v1
 v2 := var?_below hb gBad (World.block_lt_of_cell? _ _ h.c2) h.v2
 n1 := h.n1
 n2 := h.n2
 h0 := by obtain ⟨c, t, e⟩ := h.h0; exact ⟨c, t, by rw [hb.block _ (lt_of_some e)]; exact e⟩
 h1 := by obtain ⟨c, t, e⟩ := h.h1; exact ⟨c, t, by rw [hb.block _ (lt_of_some e)]; exact e⟩
 h2 := by obtain ⟨c, t, e⟩ := h.h2; exact ⟨c, t, by rw [hb.block _ (lt_of_some e)]; exact e⟩
set_option maxHeartbeats 400000 in
theorem code_short (p : Int) (a0 a1 a2 : Addr) (w : World) (h : Errs w a0 a1 a2) :
  Calls Tryz.prog 251 #[wrapped p a0] w fun e w' => e = .returned (.int .i64 1) ∧ Below w.heap.size w w' := by
 have hc := h.c0
 have c1 := is_wrap_same p a0 w
 clear h
 go_enter Tryz.func251, Tryz.ntmps251
 go_wp2_with fail
 refine c1.mono ?_
 rintro e w1 ⟨rfl, hb1⟩
 go_wp2_with fail
 go_ret
 exact ⟨rfl, hb1⟩
set_option maxHeartbeats 400000 in
theorem code_bad (p : Int) (a a0 a1 a2 : Addr) (w : World) (h : Errs w a0 a1 a2) (ha : a = a1 ∨ a = a2) :
  Calls Tryz.prog 251 #[wrapped p a] w fun e w' => e = .returned (.int .i64 2) ∧ Below w.heap.size w w' := by
 have hc := h.c0
 have c1 : Calls Tryz.prog 257 #[wrapped p a, .iface 320 (.pointer (some a0))] w fun e w' => e = .returned (.bool false) ∧ Below w.heap.size w w' := by
  obtain ⟨c, t, e⟩ := h.h0
  rcases ha with rfl | rfl
  ·obtain ⟨c', t', e'⟩ := h.h1
   exact is_wrap_other p a a0 c' c t' t w h.n1 e' e
  ·obtain ⟨c', t', e'⟩ := h.h2
   exact is_wrap_other p a a0 c' c t' t w h.n2 e' e
 clear h ha
 go_enter Tryz.func251, Tryz.ntmps251
 go_wp2_with fail
 refine c1.mono ?_
 rintro e w1 ⟨rfl, hb1⟩
 go_wp2_with fail
 go_ret
 exact ⟨rfl, hb1⟩
end Go.Proofs.YtikknmoeefipmaaGreatDoor
namespace Go.Proofs.YtikknmoeefipmaaGreatDoor
open Go.ChangeShapes Go.WideShapes Go.ChangeAt Go.RowKit
set_option linter.unusedVariables false
theorem own : ownKnob Tryz.prog.godebug = none := by kernel_rfl
theorem typeSum : (Tryz.prog.globals[1]?).map (·.type) = some 295 := by kernel_rfl
theorem typeShort : (Tryz.prog.globals[2]?).map (·.type) = some 143 := by kernel_rfl
theorem typeLen : (Tryz.prog.globals[3]?).map (·.type) = some 143 := by kernel_rfl
theorem typeBad : (Tryz.prog.globals[4]?).map (·.type) = some 143 := by kernel_rfl
theorem cellsSum : Tryz.prog.cellsOf 295 = 16 := by kernel_rfl
theorem cellsU32 : Tryz.prog.cellsOf 220 = 1 := by kernel_rfl
theorem cellsES : Tryz.prog.cellsOf 339 = 1 := by kernel_rfl
theorem cellsStr : Tryz.prog.cellsOf 9 = 1 := by kernel_rfl
theorem sum_data : (Rows.laid_loop_example_g00360_impl_halfSums : DataW Unit) = Lib.tabData .u32 sumTab := by kernel_rfl
theorem star : "*" ++ "errors.errorString" = "*errors.errorString" := by decide
theorem rowES (u : TypeId) (h : Tryz.prog.typeName? 3 u = some "*errors.errorString") : u = 320 :=
 typeName_ptr_named (nm := "errors.errorString") (by rw [star]; kernel_rfl) (by kernel_rfl) (by decide) u (by rw [star]; exact h)
theorem laidMet_skip {P : Program} {x y : String × DataW Unit} {r : List (String × DataW Unit)} {w : World} (h : laidMet P (x :: y :: r) w) : laidMet P (x :: r) w := by
 obtain ⟨ps, hv, hnd, hrows⟩ := h
 obtain ⟨n, d⟩ := x
 obtain ⟨n', d'⟩ := y
 obtain ⟨g, t, cs, fuel, p, q, h1, h2, h3, h4, ⟨g', t', cs', fuel', p', q', _, _, _, _, hq, rfl⟩, rfl⟩ := hv
 refine ⟨_, ⟨g, t, cs, fuel, p, q', h1, h2, h3, h4, hq, rfl⟩, ?_, fun b off hm => hrows b off ?_⟩
 ·exact List.Nodup.sublist (List.Sublist.append_left (List.sublist_append_right _ _) _) hnd
 ·rcases List.mem_append.1 hm with hm | hm
  ·exact List.mem_append_left _ hm
  ·exact List.mem_append_right _ (List.mem_append_right _ hm)
def laid4 : List (String × DataW Unit) := [("loop.example/g00360/impl.halfSums", Rows.laid_loop_example_g00360_impl_halfSums), ("loop.example/g00360/impl.errFrameShort", Rows.laid_loop_example_g00360_impl_errFrameShort), ("loop.example/g00360/impl.errFrameLength", Rows.laid_loop_example_g00360_impl_errFrameLength), ("loop.example/g00360/impl.errFrameSum", Rows.laid_loop_example_g00360_impl_errFrameSum)]
theorem laid4_plain (W : World) (h : laidMetH Tryz.prog laid4 W) : laidMet Tryz.prog laid4 W := by
 rw [MakeChecks.laidMetH_plain _ _ _ (by kernel_rfl)] at h
 exact h
theorem met_sum {W : World} (h : laidMetH Tryz.prog laid4 W) : SumTab W := by
 have h1 := laid4_plain W h
 unfold laid4 at h1
 rw [sum_data] at h1
 exact Lib.tabIs_of_head gSum typeSum Tryz.underlying295 Tryz.underlying220 cellsU32 cellsSum h1
theorem met_errs {W : World} (h : laidMetH Tryz.prog laid4 W) : ∃ a0 a1 a2, Errs W a0 a1 a2 := by
 have h1 := (laid4_plain W h).tail
 obtain ⟨a0, a1, s0, s1, c0, c1, t0, t1, hv0, hv1, _, _, _, _, _, _, hne, hb0, hb1⟩ := laid_sentinels2 h1 gShort typeShort gLen typeLen Tryz.underlying143 rowES Tryz.underlying320 Tryz.underlying339 rfl rfl Tryz.underlying9 cellsES cellsStr
 obtain ⟨a0', a2, s0', s2, c0', c2, t0', t2, hv0', hv2, _, _, _, _, _, _, hne2, hb0', hb2⟩ := laid_sentinels2 (laidMet_skip h1) gShort typeShort gBad typeBad Tryz.underlying143 rowES Tryz.underlying320 Tryz.underlying339 rfl rfl Tryz.underlying9 cellsES cellsStr
 have e : a0' = a0 := by
  have := hv0.symm.trans hv0'
  simp at this
  exact this.symm
 subst e
 exact ⟨a0', a1, a2, hv0, hv1, hv2, hne.symm, hne2.symm, ⟨_, _, hb0⟩, ⟨_, _, hb1⟩, ⟨_, _, hb2⟩⟩
def sumCells : List Value := sumTab.map fun z => Value.int .u32 z
theorem sum_shut {H : Type} (enc : TypeId × Value → H) (W : World) (sp : Nat → Bool) (n : Nat) : DataW.trod enc Tryz.prog W 0 sp true (n + 2) 295 sumCells = some (Lib.tabData .u32 sumTab, []) := by kernel_rfl
def sent (a : Addr) : Value := .iface 320 (.pointer (some a))
theorem sent_iface (a : Addr) : IsIface (sent a) := trivial
theorem vars_errs {H : Type} (enc : TypeId × Value → H) {W : World} {a0 a1 a2 : Addr} (h : Errs W a0 a1 a2) (ht : SumTab W) (sp : Nat → Bool) :
  DataW.TrodVars enc Tryz.prog W sp ["loop.example/g00360/impl.errFrameShort", "loop.example/g00360/impl.errFrameLength", "loop.example/g00360/impl.errFrameSum", "loop.example/g00360/impl.halfSums"]
   [tok enc (sent a0), tok enc (sent a1), tok enc (sent a2), Lib.tabData .u32 sumTab] (.cell 2 0 :: .cell 3 0 :: .cell 4 0 :: (MemPlace.row ⟨1, 0, none⟩ 16 ++ [] ++ [])) :=
 ⟨_, _, #[sent a0], 1, [], _, gShort, typeShort, h.v0, trod_held Tryz.underlying143 (sent_iface a0) 0, ⟨_, _, #[sent a1], 1, [], _, gLen, typeLen, h.v1, trod_held Tryz.underlying143 (sent_iface a1) 0, ⟨_, _, #[sent a2], 1, [], _, gBad, typeBad, h.v2, trod_held Tryz.underlying143 (sent_iface a2) 0,
  ⟨_, _, _, 2, [], [], gSum, typeSum, ht, sum_shut enc W sp 0, rfl, rfl⟩, rfl⟩, rfl⟩, rfl⟩
end Go.Proofs.YtikknmoeefipmaaGreatDoor
namespace Go.Proofs.YtikknmoeefipmaaGreatDoor
open Go.RowKit Go.PlainAid
structure Pnt where
 t : Int
 v : Int
instance : Inhabited Pnt := ⟨⟨0, 0⟩⟩
theorem Pnt.same {x y : Pnt} (h1 : x.t = y.t) (h2 : x.v = y.v) : x = y := by
 cases x
 cases y
 simp only at h1 h2
 subst h1
 subst h2
 rfl
def Lies (w : World) (B sz : Nat) (v : Value) (rows : List (List Value)) : Prop :=
 ∃ A cap, v = .slice A rows.length cap ∧ ((A = none → cap = 0) ∧ rows.length ≤ cap) ∧ (∀ r ∈ rows, r.length = sz) ∧ (rows.length = 0 ∨ ∃ g off, A = some ⟨g, off, none⟩ ∧ g < B ∧ ∀ k x, rows.flatten[k]? = some x → w.cell? ⟨g, off + k, none⟩ = some x)
theorem Lies.on {w w' : World} {B sz : Nat} {v : Value} {rows : List (List Value)} (h : Lies w B sz v rows) (hb : Below B w w') : Lies w' B sz v rows := by
 obtain ⟨A, cap, e, hz, hs, h⟩ := h
 refine ⟨A, cap, e, hz, hs, h.imp id ?_⟩
 rintro ⟨g, off, rfl, hg, hc⟩
 refine ⟨g, off, rfl, hg, fun k x hx => ?_⟩
 rw [← hc k x hx]
 exact World.cell?_of_block (w := w) (hb.block g hg)
theorem Lies.heap {w w' : World} {B sz : Nat} {v : Value} {rows : List (List Value)} (h : Lies w B sz v rows) (hh : w'.heap = w.heap) : Lies w' B sz v rows := by
 obtain ⟨A, cap, e, hz, hs, h⟩ := h
 refine ⟨A, cap, e, hz, hs, h.imp id ?_⟩
 rintro ⟨g, off, rfl, hg, hc⟩
 refine ⟨g, off, rfl, hg, fun k x hx => ?_⟩
 rw [← hc k x hx]
 exact World.cell?_of_block (w := w) (by rw [hh])
theorem Lies.mono {w : World} {B C sz : Nat} {v : Value} {rows : List (List Value)} (h : Lies w B sz v rows) (hB : B ≤ C) : Lies w C sz v rows := by
 obtain ⟨A, cap, e, hz, hs, h⟩ := h
 refine ⟨A, cap, e, hz, hs, h.imp id ?_⟩
 rintro ⟨g, off, rfl, hg, hc⟩
 exact ⟨g, off, rfl, by omega, hc⟩
theorem flat_at (sz : Nat) : ∀ (rows : List (List Value)), (∀ r ∈ rows, r.length = sz) → ∀ (j f : Nat) (hj : j < rows.length), f < sz → rows.flatten[j * sz + f]? = (rows[j])[f]?
 | [], _, j, f, hj, _ => by simp at hj
 | r :: rs, hs, 0, f, _, hf => by
  have := hs r (by simp)
  simp only [List.flatten_cons, Nat.zero_mul, Nat.zero_add, List.getElem_cons_zero]
  rw [List.getElem?_append_left (by omega)]
 | r :: rs, hs, j + 1, f, hj, hf => by
  have hr := hs r (by simp)
  have ih := flat_at sz rs (fun r hr => hs r (by simp [hr])) j f (by simp at hj; omega) hf
  simp only [List.flatten_cons, List.getElem_cons_succ]
  rw [List.getElem?_append_right (by rw [hr, Nat.succ_mul]; omega), ← ih, hr]
  congr 1
  rw [Nat.succ_mul]
  omega
theorem flat_length (sz : Nat) (rows : List (List Value)) (hs : ∀ r ∈ rows, r.length = sz) : rows.flatten.length = rows.length * sz := by
 induction rows with
 | nil => simp
 | cons r rs ih =>
  rw [List.flatten_cons, List.length_append, ih (fun r hr => hs r (by simp [hr])), hs r (by simp), List.length_cons, Nat.succ_mul]
  omega
theorem Lies.look {w : World} {B sz : Nat} {v : Value} {rows : List (List Value)} (h : Lies w B sz v rows) : ∃ A cap, v = .slice A rows.length cap ∧ ∀ j (hj : j < rows.length), ∃ g off, A = some ⟨g, off, none⟩ ∧ g < B ∧ ∀ f x, f < sz → (rows[j])[f]? = some x → w.cell? ⟨g, off + (j * sz + f), none⟩ = some x := by
 obtain ⟨A, cap, rfl, _, hs, h⟩ := h
 refine ⟨A, cap, rfl, fun j hj => ?_⟩
 rcases h with h | ⟨g, off, rfl, hg, hc⟩
 ·omega
 ·exact ⟨g, off, rfl, hg, fun f x hf hx => hc _ x (by rw [flat_at sz rows hs j f hj hf]; exact hx)⟩
theorem Lies.room {w : World} {B sz : Nat} {A : Option Addr} {n c : Nat} {rows : List (List Value)} (h : Lies w B sz (.slice A n c) rows) : n = rows.length ∧ n ≤ c := by
 obtain ⟨A', c', e, hz, _⟩ := h
 cases e
 exact ⟨rfl, hz.2⟩
theorem Lies.first {w : World} {B sz : Nat} {A : Option Addr} {n c : Nat} {rows : List (List Value)} (h : Lies w B sz (.slice A n c) rows) (k : Nat) (hk : k ≤ rows.length) : Lies w B sz (.slice A k c) (rows.take k) := by
 obtain ⟨A', c', e, hz, hs, h⟩ := h
 cases e
 have hl : (rows.take k).length = k := by rw [List.length_take]; omega
 refine ⟨A, c, by rw [hl], ⟨hz.1, by rw [hl]; exact Nat.le_trans hk hz.2⟩, fun r hr => hs r (List.mem_of_mem_take hr), ?_⟩
 rw [hl]
 rcases h with h | ⟨g, off, rfl, hg, hc⟩
 ·exact .inl (by omega)
 ·refine .inr ⟨g, off, rfl, hg, fun j x hx => hc j x ?_⟩
  rw [← List.take_append_drop k rows, List.flatten_append, List.getElem?_append_left ((List.getElem?_eq_some_iff.1 hx).1)]
  exact hx
def Owns (w : World) (base : Nat) (e : TypeId) (sz : Nat) (v : Value) (rows : List (List Value)) : Prop := (∀ r ∈ rows, r.length = sz) ∧ w.ownsRow base e sz v rows.length rows.flatten
theorem Owns.lt {w : World} {base : Nat} {e : TypeId} {sz : Nat} {v : Value} {rows : List (List Value)} (h : Owns w base e sz v rows) : ∀ k, v.ownBlock = some k → base ≤ k ∧ k < w.heap.size := World.ownsRow.lt h.2
theorem Owns.lies {w : World} {base : Nat} {e : TypeId} {sz : Nat} {v : Value} {rows : List (List Value)} (h : Owns w base e sz v rows) : Lies w w.heap.size sz v rows := by
 have hlt := h.lt
 have hc := fun g hg => World.ownsRow.cells h.2 (g := g) hg
 rcases h.2.2 with ⟨rfl, h0⟩ | ⟨g, cap, cur, rfl, _, _, hcap, _⟩
 ·exact ⟨none, 0, by rw [h0], ⟨fun _ => rfl, by omega⟩, h.1, .inl h0⟩
 ·refine ⟨_, cap, rfl, ⟨fun e => (by cases e), hcap⟩, h.1, .inr ⟨g, 0, rfl, (hlt g rfl).2, fun k x hx => ?_⟩⟩
  have e : (⟨g, 0, none⟩ : Addr).add k = ⟨g, 0 + k, none⟩ := by cases k <;> simp [Addr.add]
  rw [← e]
  exact hc g rfl k x hx
theorem Owns.kept {w w' : World} {base : Nat} {e : TypeId} {sz : Nat} {v : Value} {rows : List (List Value)} (h : Owns w base e sz v rows) (hk : ∀ g, g < w.heap.size → v.ownBlock = some g → w'.heap[g]? = w.heap[g]?) : Owns w' base e sz v rows := by
 have hl := h.lt
 refine ⟨h.1, h.2.1, h.2.2.imp id ?_⟩
 rintro ⟨g, cap, cur, rfl, hg, hh, r⟩
 refine ⟨g, cap, cur, rfl, hg, ?_, r⟩
 rw [hk g (hl g rfl).2 rfl]
 exact hh
theorem Owns.on {w w' : World} {base : Nat} {e : TypeId} {sz : Nat} {v : Value} {rows : List (List Value)} (h : Owns w base e sz v rows) (hb : Below w.heap.size w w') : Owns w' base e sz v rows := h.kept fun g hg _ => hb.block g hg
theorem Owns.heap {w w' : World} {base : Nat} {e : TypeId} {sz : Nat} {v : Value} {rows : List (List Value)} (h : Owns w base e sz v rows) (hh : w'.heap = w.heap) : Owns w' base e sz v rows := h.kept fun g _ _ => by rw [hh]
theorem Owns.mono {w : World} {base base' : Nat} {e : TypeId} {sz : Nat} {v : Value} {rows : List (List Value)} (h : Owns w base e sz v rows) (hb : base' ≤ base) : Owns w base' e sz v rows :=
 ⟨h.1, h.2.1, h.2.2.imp id fun ⟨g, cap, cur, e, hg, r⟩ => ⟨g, cap, cur, e, Nat.le_trans hb hg, r⟩⟩
theorem getD_mem {α : Type} [Inhabited α] (l : List α) (j : Nat) (h : j < l.length) : l.getD j default ∈ l := by
 rw [List.getD_eq_getElem?_getD, List.getElem?_eq_getElem h]
 exact List.getElem_mem h
theorem getD_at {α : Type} [Inhabited α] (l : List α) (j : Nat) (h : j < l.length) : l[j] = l.getD j default := by
 rw [List.getD_eq_getElem?_getD, List.getElem?_eq_getElem h]
 rfl
theorem take_getD {α : Type} [Inhabited α] (l : List α) (j : Nat) (h : j < l.length) : l.take (j + 1) = l.take j ++ [l.getD j default] := by
 rw [List.take_add_one, List.getElem?_eq_getElem h, ← getD_at l j h]
 rfl
def ptC (x : Pnt) : List Value := [.int .i64 x.t, .int .i64 x.v]
def ptR (l : List Pnt) : List (List Value) := l.map ptC
theorem ptR_snoc (l : List Pnt) (k : Nat) (h : k < l.length) : ptR (l.take (k + 1)) = ptR (l.take k) ++ [ptC (l.getD k default)] := by
 unfold ptR
 rw [take_getD l k h, List.map_append]
 rfl
theorem ptR_length (l : List Pnt) : (ptR l).length = l.length := by simp [ptR]
theorem ptR_append (l m : List Pnt) : ptR (l ++ m) = ptR l ++ ptR m := by simp [ptR]
theorem pt_look {w : World} {B : Nat} {v : Value} {l : List Pnt} (h : Lies w B 2 v (ptR l)) : ∃ A cap, v = .slice A l.length cap ∧ ∀ j, j < l.length → ∃ g off, A = some ⟨g, off, none⟩ ∧ g < B ∧
  w.cell? ⟨g, off + j * 2, none⟩ = some (.int .i64 (l.getD j default).t) ∧ w.cell? ⟨g, off + j * 2 + 1, none⟩ = some (.int .i64 (l.getD j default).v) := by
 obtain ⟨A, cap, e, h⟩ := h.look
 refine ⟨A, cap, by rw [e]; simp [ptR], fun j hj => ?_⟩
 rw [← getD_at l j hj]
 obtain ⟨g, off, e, hg, hc⟩ := h j (by simpa [ptR] using hj)
 refine ⟨g, off, e, hg, ?_, ?_⟩
 ·have := hc 0 _ (by omega) (by simp [ptR, ptC]; rfl); simpa [Nat.add_assoc] using this
 ·have := hc 1 _ (by omega) (by simp [ptR, ptC]; rfl); simpa [Nat.add_assoc] using this
theorem Lies.behind {w : World} {B sz g off n c : Nat} {rows : List (List Value)} (h : Lies w B sz (.slice (some ⟨g, off, none⟩) n c) rows) (k : Nat) (hk : k ≤ rows.length) : Lies w B sz (.slice (some ⟨g, off + k * sz, none⟩) (n - k) (c - k)) (rows.drop k) := by
 obtain ⟨A', c', e, hz, hs, h⟩ := h
 cases e
 have hl : (rows.drop k).length = rows.length - k := List.length_drop
 refine ⟨_, c - k, by rw [hl], ⟨fun e => (by cases e), by rw [hl]; have := hz.2; omega⟩, fun r hr => hs r (List.mem_of_mem_drop hr), ?_⟩
 rw [hl]
 rcases h with h | ⟨g', off', e, hg, hc⟩
 ·exact .inl (by omega)
 ·cases e
  refine .inr ⟨g, off + k * sz, rfl, hg, fun j x hx => ?_⟩
  have hl2 : (rows.take k).flatten.length = k * sz := by rw [flat_length sz _ (fun r hr => hs r (List.mem_of_mem_take hr)), List.length_take, Nat.min_eq_left hk]
  have := hc (k * sz + j) x (by
   rw [← List.take_append_drop k rows, List.flatten_append, List.getElem?_append_right (by omega), hl2, Nat.add_sub_cancel_left]
   exact hx)
  rw [← Nat.add_assoc] at this
  exact this
def vPt (x : Pnt) : Value := .agg #[.int .i64 x.t, .int .i64 x.v]
end Go.Proofs.YtikknmoeefipmaaGreatDoor
namespace Go.Proofs.YtikknmoeefipmaaGreatDoor
open Go.RowKit Go.PlainAid
theorem flat_parts (sz : Nat) (rows : List (List Value)) (hs : ∀ r ∈ rows, r.length = sz) (k : Nat) (hk : k < rows.length) :
  ∃ F1 F2 : List Value, F1.length = k * sz ∧ rows.flatten = F1 ++ (rows[k] ++ F2) ∧ ∀ r, (rows.set k r).flatten = F1 ++ (r ++ F2) := by
 refine ⟨(rows.take k).flatten, (rows.drop (k + 1)).flatten, ?_, ?_, ?_⟩
 ·rw [flat_length sz _ (fun r hr => hs r (List.mem_of_mem_take hr)), List.length_take, Nat.min_eq_left (by omega)]
 ·conv => lhs; rw [← List.take_append_drop k rows, List.drop_eq_getElem_cons hk]
  rw [List.flatten_append, List.flatten_cons]
 ·intro r
  rw [List.set_eq_take_append_cons_drop, if_pos hk, List.flatten_append, List.flatten_cons]
theorem set_len {rows : List (List Value)} {sz k : Nat} {r : List Value} (hs : ∀ r ∈ rows, r.length = sz) (hr : r.length = sz) : ∀ x ∈ rows.set k r, x.length = sz := by
 intro x hx
 rcases List.mem_or_eq_of_mem_set hx with h | rfl
 ·exact hs x h
 ·exact hr
section
variable {w : World} {base : Nat} {e : TypeId} {sz g cap : Nat} {rows : List (List Value)}
theorem Owns.cellX (h : Owns w base e sz (.slice (some ⟨g, 0, none⟩) rows.length cap) rows) (k f : Nat) (hk : k < rows.length) (hf : f < sz) : ∃ y, w.cell? ⟨g, k * sz + f, none⟩ = some y := by
 have hlt : k * sz + f < rows.length * sz := by
  have : (k + 1) * sz ≤ rows.length * sz := Nat.mul_le_mul_right sz hk
  rw [Nat.succ_mul] at this
  omega
 rw [World.ownsRow.cellAt h.2 (k * sz + f) hlt]
 exact ⟨_, List.getElem?_eq_getElem (by rw [h.2.1]; exact hlt)⟩
theorem Owns.free (h : Owns w base e sz (.slice (some ⟨g, 0, none⟩) rows.length cap) rows) (j : Nat) : w.frozen? ⟨g, j, none⟩ = false := World.ownsRow.frozenAt h.2 j
theorem Owns.put2 (h : Owns w base e 2 (.slice (some ⟨g, 0, none⟩) rows.length cap) rows) (k : Nat) (hk : k < rows.length) (a b : Value) :
  Owns ((w.setCell ⟨g, k * 2, none⟩ a).setCell ⟨g, k * 2 + 1, none⟩ b) base e 2 (.slice (some ⟨g, 0, none⟩) rows.length cap) (rows.set k [a, b]) := by
 have h1 := (World.ownsRow.stored h.2 (k * 2) a).1
 have h2 := (World.ownsRow.stored h1 (k * 2 + 1) b).1
 refine ⟨set_len h.1 rfl, ?_⟩
 rw [List.length_set]
 obtain ⟨F1, F2, l1, e1, e2⟩ := flat_parts 2 rows h.1 k hk
 have hr := h.1 rows[k] (List.getElem_mem hk)
 obtain ⟨x, y, hxy⟩ : ∃ x y, rows[k] = [x, y] := by
  match hh : rows[k], hr with
  | [x, y], _ => exact ⟨x, y, rfl⟩
 rw [e2]
 rw [e1, hxy] at h2
 have : ((F1 ++ ([x, y] ++ F2)).set (k * 2) a).set (k * 2 + 1) b = F1 ++ ([a, b] ++ F2) := by
  rw [← l1, List.set_append_right _ _ (by omega), List.set_append_right _ _ (by omega)]
  simp
 rw [this] at h2
 exact h2
end
theorem set_self {R : List (List Value)} (j : Nat) (hj : j < R.length) : R.set j R[j] = R := List.set_getElem_self hj
section
variable {w : World} {base : Nat} {e : TypeId} {sz g cap n j : Nat} {R : List (List Value)} {r : List Value}
theorem Owns.pokeAt (h : Owns w base e sz (.slice (some ⟨g, 0, none⟩) n cap) (R.set j r)) (hn : R.length = n) (hj : j < n) (f : Nat) (hf : f < sz) (x : Value) :
  Owns (w.setCell ⟨g, j * sz + f, none⟩ x) base e sz (.slice (some ⟨g, 0, none⟩) n cap) (R.set j (r.set f x)) := by
 subst hn
 have hl : (R.set j r).length = R.length := List.length_set
 have h2 := h.2
 rw [hl] at h2
 have h1 := (World.ownsRow.stored h2 (j * sz + f) x).1
 obtain ⟨F1, F2, l1, e1, e2⟩ := flat_parts sz (R.set j r) h.1 j (by rw [hl]; exact hj)
 have hrr : (R.set j r)[j]'(by rw [hl]; exact hj) = r := by simp
 have hr : r.length = sz := by rw [← hrr]; exact h.1 _ (List.getElem_mem _)
 have e3 := e2 (r.set f x)
 rw [List.set_set] at e3
 refine ⟨?_, ?_⟩
 ·intro y hy
  obtain ⟨i, hi, rfl⟩ := List.getElem_of_mem hy
  have hi2 : i < R.length := by simpa using hi
  by_cases hij : i = j
  ·subst hij
   rw [List.getElem_set_self, List.length_set]
   exact hr
  ·have : (R.set j (r.set f x))[i]'hi = (R.set j r)[i]'(by rw [hl]; exact hi2) := by rw [List.getElem_set_ne (Ne.symm hij), List.getElem_set_ne (Ne.symm hij)]
   rw [this]
   exact h.1 _ (List.getElem_mem _)
 ·rw [List.length_set, e3]
  rw [e1, hrr] at h1
  have : (F1 ++ (r ++ F2)).set (j * sz + f) x = F1 ++ (r.set f x ++ F2) := by
   rw [← l1, List.set_append_right _ _ (by omega), List.set_append_left _ _ (by omega)]
   simp
  rw [this] at h1
  exact h1
end
def newR (f : Nat → List Value) (j : Nat) : List (List Value) := (List.range j).map f
theorem newR_length (f : Nat → List Value) (j : Nat) : (newR f j).length = j := by simp [newR]
def partR (f : Nat → List Value) (R : List (List Value)) (j : Nat) : List (List Value) := newR f j ++ R.drop j
theorem partR_zero (f : Nat → List Value) (R : List (List Value)) : partR f R 0 = R := by simp [partR, newR]
theorem partR_all (f : Nat → List Value) (R : List (List Value)) : partR f R R.length = newR f R.length := by simp [partR]
theorem partR_length (f : Nat → List Value) (R : List (List Value)) (j : Nat) (h : j ≤ R.length) : (partR f R j).length = R.length := by
 simp [partR, newR]
 omega
theorem partR_set (f : Nat → List Value) (R : List (List Value)) (j : Nat) (h : j < R.length) : (partR f R j).set j (f j) = partR f R (j + 1) := by
 unfold partR
 rw [List.set_append_right _ _ (by rw [newR_length]; omega), newR_length, Nat.sub_self, List.drop_eq_getElem_cons h, List.set_cons_zero]
 unfold newR
 rw [List.range_succ, List.map_append]
 simp
theorem fill_step (Z : List Value) (done : List (List Value)) (r : List Value) (n k : Nat) (hk : done.length = k) (hn : k < n) :
  (done ++ List.replicate (n - k) Z).set k r = (done ++ [r]) ++ List.replicate (n - (k + 1)) Z := by
 obtain ⟨m, rfl⟩ : ∃ m, n = k + 1 + m := ⟨n - (k + 1), by omega⟩
 rw [show k + 1 + m - k = m + 1 by omega, show k + 1 + m - (k + 1) = m by omega, List.set_append_right _ _ (by omega), hk, Nat.sub_self, List.replicate_succ, List.set_cons_zero]
 simp
def Blk (w : World) (g : Nat) (cs : Array Value) (t : TypeId) : Prop := w.heap[g]? = some (.cells cs t (0, 0))
theorem Blk.lt {w : World} {g : Nat} {cs : Array Value} {t : TypeId} (h : Blk w g cs t) : g < w.heap.size := lt_of_block h
theorem Blk.cell {w : World} {g : Nat} {cs : Array Value} {t : TypeId} (h : Blk w g cs t) (i : Nat) (x : Value) (hx : cs[i]? = some x) : w.cell? ⟨g, i, none⟩ = some x := by
 rw [cell_of_row w g i cs t (0, 0) h]
 exact hx
theorem Blk.free {w : World} {g : Nat} {cs : Array Value} {t : TypeId} (h : Blk w g cs t) (i : Nat) : w.frozen? ⟨g, i, none⟩ = false := frozen_of_row w g i cs t h
theorem Blk.set {w : World} {g : Nat} {cs : Array Value} {t : TypeId} (h : Blk w g cs t) (i : Nat) (x : Value) : Blk (w.setCell ⟨g, i, none⟩ x) g (cs.setIfInBounds i x) t := heap_setCell_same w g i cs t x h
theorem Blk.other {w : World} {g g' : Nat} {cs : Array Value} {t : TypeId} (h : Blk w g cs t) (hne : g ≠ g') (i : Nat) (x : Value) : Blk (w.setCell ⟨g', i, none⟩ x) g cs t := by
 unfold Blk
 rw [Below.heap_setCell _ _ _ _ hne]
 exact h
theorem Blk.on {w w' : World} {B g : Nat} {cs : Array Value} {t : TypeId} (h : Blk w g cs t) (hb : Below B w w') (hg : g < B) : Blk w' g cs t := by
 unfold Blk
 rw [hb.block g hg]
 exact h
theorem Blk.new (w : World) (cs : Array Value) (t : TypeId) : Blk (w.alloc (.cells cs t)) w.heap.size cs t := heap_alloc_new w _
theorem Blk.alloc {w : World} {g : Nat} {cs : Array Value} {t : TypeId} (h : Blk w g cs t) (o : Obj) : Blk (w.alloc o) g cs t := by
 unfold Blk
 rw [Below.heap_alloc w o g h.lt]
 exact h
theorem Owns.other {w : World} {base : Nat} {e : TypeId} {sz : Nat} {v : Value} {rows : List (List Value)} (h : Owns w base e sz v rows) {g : Nat} (hne : v.ownBlock ≠ some g) (i : Nat) (x : Value) : Owns (w.setCell ⟨g, i, none⟩ x) base e sz v rows :=
 h.kept fun k _ hk => Below.heap_setCell _ _ _ _ (fun e => hne (by rw [hk]; exact congrArg some e))
theorem Owns.below {w : World} {base : Nat} {e : TypeId} {sz : Nat} {v : Value} {rows : List (List Value)} (h : Owns w base e sz v rows) {g : Nat} (hg : g < base) : v.ownBlock ≠ some g := fun e => by
 have := (h.lt g e).1
 omega
theorem Owns.shape {w : World} {base : Nat} {e : TypeId} {sz : Nat} {v : Value} {rows : List (List Value)} (h : Owns w base e sz v rows) : ∃ A m c, v = .slice A m c := by
 rcases h.2.2 with ⟨rfl, _⟩ | ⟨g, cap, cur, rfl, _⟩
 ·exact ⟨_, _, _, rfl⟩
 ·exact ⟨_, _, _, rfl⟩
end Go.Proofs.YtikknmoeefipmaaGreatDoor
namespace Go.Proofs.YtikknmoeefipmaaGreatDoor
open Go.RowKit Go.PlainAid
theorem Owns.empty (w : World) (base : Nat) (e : TypeId) (sz : Nat) (hb : base ≤ w.heap.size) : Owns (w.alloc (.cells #[] e)) base e sz (.slice (some ⟨w.heap.size, 0, none⟩) 0 0) [] :=
 ⟨fun r hr => by simp at hr, World.ownsRow_lit w #[] 0 hb (by unfold maxLen; omega) (by simp)⟩
theorem Owns.nil (w : World) (base : Nat) (e : TypeId) (sz : Nat) : Owns w base e sz (.slice none 0 0) [] := ⟨fun r hr => by simp at hr, World.ownsRow_nil w base e sz⟩
theorem Owns.alloc {w : World} {base : Nat} {e : TypeId} {sz : Nat} {v : Value} {rows : List (List Value)} (h : Owns w base e sz v rows) (o : Obj) : Owns (w.alloc o) base e sz v rows := ⟨h.1, World.ownsRow.alloc h.2 o⟩
theorem run_append_where {P : Program} (w : World) (base : Nat) (t ty e : TypeId) (i : TypeInfo) (z : Value) (size bytes : Nat) (ht : P.underlying t = some (.slice e)) (hi : P.info? e = some i) (hz : i.zero = some z)
  (hsize : i.size = size) (hby : i.bytes = bytes)
  (v : Value) (n : Nat) (xs : List Value) (hown : w.ownsRow base e size v n xs)
  (a : Addr) (m c : Nat) (news : List Value) (hl : news.length = m * size) (hnews : ∀ j u, news[j]? = some u → w.cell? (a.add j) = some u) (h1 : ∀ u ∈ news, u.oneCell' = true)
  (h63 : n + m ≤ maxLen) (hbytes : (n + m) * bytes ≤ 140737488355328) (v' : Value) (w' : World)
  (h : (Builtin.append_ #[t, t] ty #[v, .slice (some a) m c]).run P w = .ok v' w') : v'.ownBlock = v.ownBlock ∨ v'.ownBlock = some w.heap.size := by
 subst hsize
 subst hby
 have hsmall : n + m ≤ 9223372036854775807 := by simp only [maxLen] at h63; omega
 rcases hown.2 with ⟨rfl, rfl⟩ | ⟨g, cap, cur, rfl, hbg, hg, hnc, hcm, hcs, htake⟩
 ·by_cases hm : m = 0
  ·subst hm
   have hn : news = [] := List.eq_nil_of_length_eq_zero (by simpa using hl)
   subst hn
   have hr : (Builtin.append_ #[t, t] ty #[.slice none 0 0, .slice (some a) 0 c]).run P w = .ok (.slice none 0 0) w := by
    simp [Builtin.append_, run_underlying ht, sizeOf, typeInfo, hi, Builtin.lenOf, Builtin.firstCells, loadCells, loadCellsFrom]
   rw [hr] at h
   cases h
   exact .inl rfl
  ·have hr := run_append_nil (P := P) w t ty e i z ht hi hz a m c news hl hnews (by omega) (by omega) (by have hb := hbytes; simp only [Nat.zero_add] at hb; omega)
   rw [hr] at h
   cases h
   exact .inr rfl
 ·by_cases hroom : n + m ≤ cap
  ·have hfit : n * i.size + news.length ≤ cur.size := by rw [hl, hcs, ← Nat.add_mul]; exact Nat.mul_le_mul_right _ hroom
   have hr := run_append_room (P := P) w t ty e i ht hi g n cap cur hg a m c news hl hnews h1 hroom hfit
   rw [hr] at h
   cases h
   exact .inl rfl
  ·have holds : ∀ j u, xs[j]? = some u → w.cell? ((⟨g, 0, none⟩ : Addr).add j) = some u := hown.cells (g := g) rfl
   have hr := run_append_grow (P := P) w t ty e i z ht hi hz ⟨g, 0, none⟩ n cap xs hown.1 holds a m c news hl hnews (by omega) (by omega) (growslice_fits (by omega) hbytes)
   rw [hr] at h
   cases h
   exact .inr rfl
theorem wpList_append_own2 {P : Program} {w : World} {ops : Array Oper} {rest : List Oper} {o : Oper} {a : Act} {Q : Exit → Act → World → Prop} (hgd : o.guard = none) (s x : Operand) (t : TypeId)
  (ho : o.op = .call { callee := .builtin .append, args := #[s, x], argTypes := #[t, t] })
  (base : Nat) (e : TypeId) (i : TypeInfo) (z : Value) (size bytes : Nat) (ht : P.underlying t = some (.slice e)) (hi : P.info? e = some i) (hz : i.zero = some z)
  (hsize : i.size = size) (hby : i.bytes = bytes) (hzs : z.cells.size = size) (hsz : 0 < size)
  (v : Value) (n : Nat) (xs : List Value) (hs : a.eval s = v) (hown : w.ownsRow base e size v n xs)
  (ad : Addr) (m c : Nat) (news : List Value) (hx : a.eval x = .slice (some ad) m c) (hl : news.length = m * size) (hnews : ∀ j u, news[j]? = some u → w.cell? (ad.add j) = some u) (h1 : ∀ u ∈ news, u.oneCell' = true)
  (h63 : n + m ≤ maxLen) (hbytes : (n + m) * bytes ≤ 140737488355328) (hbase : base ≤ w.heap.size)
  (h : ∀ v' w', w'.ownsRow base e size v' (n + m) (xs ++ news) → w.grownBy w' v.ownBlock → (v'.ownBlock = v.ownBlock ∨ v'.ownBlock = some w.heap.size) → wpList P ops Q rest (a.put o.dst v') w') : wpList P ops Q (o :: rest) a w := by
 obtain ⟨v', w', hr, h2, h3, _⟩ := run_append_own (P := P) w base t o.type e i z size bytes ht hi hz hsize hby hzs hsz v n xs hown ad m c news hl hnews h1 h63 hbytes hbase
 have h5 := run_append_where (P := P) w base t o.type e i z size bytes ht hi hz hsize hby v n xs hown ad m c news hl hnews h1 h63 hbytes v' w' hr
 refine wpList_plain hgd fun K hK => ?_
 unfold Oper.wp execOp
 simp only [ho, resolve, invoke, builtin, Sem.run_bind, Sem.run_pure, Result.andThen_ok, List.map_toArray, List.map_cons, List.map_nil, hs, hx, hr]
 exact hK _ _ (h v' w' h2 h3 h5)
theorem wpList_append_row {P : Program} {w : World} {ops : Array Oper} {rest : List Oper} {o : Oper} {a : Act} {Q : Exit → Act → World → Prop} (hgd : o.guard = none) (s x : Operand) (t e : TypeId) (z : Value) (sz bytes : Nat)
  (ho : o.op = .call { callee := .builtin .append, args := #[s, x], argTypes := #[t, t] })
  (ht : P.underlying t = some (.slice e)) (hinfo : (P.info? e).map (fun i => (i.zero, i.size, i.bytes)) = some (some z, sz, bytes)) (hzs : z.cells.size = sz) (hsz : 0 < sz)
  (base : Nat) (v : Value) (rows : List (List Value)) (hs : a.eval s = v) (hown : Owns w base e sz v rows) (r : List Value) (hr : r.length = sz) (h1 : ∀ u ∈ r, u.oneCell' = true)
  (hx : a.eval x = .slice (some ⟨w.heap.size, 0, none⟩) 1 1) (hlen : rows.length ≤ 2097152) (hby : bytes ≤ 1000) (hbase : base ≤ w.heap.size)
  (h : ∀ v' w', Owns w' base e sz v' (rows ++ [r]) → Below base w w' → (∀ g, g < w.heap.size → v.ownBlock ≠ some g → w'.heap[g]? = w.heap[g]?) → (v'.ownBlock = v.ownBlock ∨ ∀ g, v'.ownBlock = some g → w.heap.size ≤ g) → wpList P ops Q rest (a.put o.dst v') w') : wpList P ops Q (o :: rest) a (w.alloc (.cells r.toArray e)) := by
 obtain ⟨i0, hi, hz0, hz1, hz2⟩ := info_parts hinfo
 have hb1 : (rows.length + 1) * bytes ≤ 140737488355328 := Nat.le_trans (Nat.mul_le_mul (show rows.length + 1 ≤ 2097153 by omega) hby) (by omega)
 refine wpList_append_own2 (w := w.alloc (.cells r.toArray e)) hgd s x t ho base e i0 z sz bytes ht hi hz0 hz1 hz2 hzs hsz v rows.length rows.flatten hs (World.ownsRow.alloc hown.2 _) ⟨w.heap.size, 0, none⟩ 1 1 r hx (by rw [hr]; omega) ?_ h1 (by unfold maxLen; omega) hb1 (by simp; omega) ?_
 ·intro j u hj
  have e1 : (⟨w.heap.size, 0, none⟩ : Addr).add j = ⟨w.heap.size, j, none⟩ := by cases j <;> simp [Addr.add]
  rw [e1, World.cell?_alloc_mark]
  simpa using hj
 ·intro v' w' h2 h3 h5
  have hb0 : ∀ k, v.ownBlock = some k → base ≤ k := fun k hk => (hown.lt k hk).1
  refine h v' w' ⟨?_, ?_⟩ ?_ ?_ (h5.imp id fun e g hg => by rw [e] at hg; cases hg; simp)
  ·intro y hy
   rcases List.mem_append.1 hy with hy | hy
   ·exact hown.1 y hy
   ·rw [List.mem_singleton.1 hy]; exact hr
  ·rw [List.length_append, List.flatten_append]
   simpa using h2
  ·exact ((Below.refl base w).alloc hbase _).grown h3 (by simp; omega) hb0
  ·intro g hg hne
   rw [h3.block g (by simp; omega) (fun e => hne e.symm)]
   exact Below.heap_alloc w _ g hg
theorem wpList_append_all {P : Program} {w : World} {ops : Array Oper} {rest : List Oper} {o : Oper} {a : Act} {Q : Exit → Act → World → Prop} (hgd : o.guard = none) (s x : Operand) (t e : TypeId) (z : Value) (sz bytes : Nat)
  (ho : o.op = .call { callee := .builtin .append, args := #[s, x], argTypes := #[t, t] })
  (ht : P.underlying t = some (.slice e)) (hinfo : (P.info? e).map (fun i => (i.zero, i.size, i.bytes)) = some (some z, sz, bytes)) (hzs : z.cells.size = sz) (hsz : 0 < sz)
  (base : Nat) (v u : Value) (rows more : List (List Value)) (B : Nat) (hs : a.eval s = v) (hown : Owns w base e sz v rows) (hu : Lies w B sz u more) (h1 : ∀ r ∈ more, ∀ y ∈ r, y.oneCell' = true)
  (hx : a.eval x = u) (hlen : rows.length + more.length ≤ 2097152) (hby : bytes ≤ 1000) (hbase : base ≤ w.heap.size)
  (h : ∀ v' w', Owns w' base e sz v' (rows ++ more) → Below base w w' → (∀ g, g < w.heap.size → v.ownBlock ≠ some g → w'.heap[g]? = w.heap[g]?) → (v'.ownBlock = v.ownBlock ∨ ∀ g, v'.ownBlock = some g → w.heap.size ≤ g) → wpList P ops Q rest (a.put o.dst v') w') : wpList P ops Q (o :: rest) a w := by
 obtain ⟨i0, hi, hz0, hz1, hz2⟩ := info_parts hinfo
 have hb1 : (rows.length + more.length) * bytes ≤ 140737488355328 := Nat.le_trans (Nat.mul_le_mul hlen hby) (by omega)
 obtain ⟨A, cap, rfl, hz, hms, hm⟩ := hu
 have fin : ∀ v' w', w'.ownsRow base e sz v' (rows.length + more.length) (rows.flatten ++ more.flatten) → w.grownBy w' v.ownBlock → (v'.ownBlock = v.ownBlock ∨ v'.ownBlock = some w.heap.size) → wpList P ops Q rest (a.put o.dst v') w' := by
  intro v' w' h2 h3 h5
  have hb0 : ∀ k, v.ownBlock = some k → base ≤ k := fun k hk => (hown.lt k hk).1
  refine h v' w' ⟨?_, ?_⟩ ?_ ?_ (h5.imp id fun e g hg => by rw [e] at hg; cases hg; exact Nat.le_refl _)
  ·intro y hy
   rcases List.mem_append.1 hy with hy | hy
   ·exact hown.1 y hy
   ·exact hms y hy
  ·rw [List.length_append, List.flatten_append]
   exact h2
  ·exact (Below.refl base w).grown h3 hbase hb0
  ·intro g hg hne
   exact h3.block g hg (fun e => hne e.symm)
 match A, hz, hx, hm with
 | none, hz, hx, hm =>
  have h0 : more.length = 0 := by
   rcases hm with h0 | ⟨g, off, e, _⟩
   ·exact h0
   ·cases e
  have hc0 := hz.1 rfl
  subst hc0
  have hnil : more = [] := List.eq_nil_of_length_eq_zero h0
  subst hnil
  refine wpList_plain hgd fun K hK => ?_
  have hr := run_append_owned_none (P := P) w base t o.type e i0 sz ht hi v rows.length rows.flatten hown.2
  unfold Oper.wp
  simp [execOp, ho, resolve, invoke, builtin, hs, hx, hr, Result.andThen]
  refine hK _ _ (fin v w ?_ ⟨rfl, rfl, rfl, Nat.le_refl _, fun _ _ _ => rfl⟩ (.inl rfl))
  simpa using hown.2
 | some ad, hz, hx, hm =>
  refine wpList_append_own2 (w := w) hgd s x t ho base e i0 z sz bytes ht hi hz0 hz1 hz2 hzs hsz v rows.length rows.flatten hs hown.2 ad more.length cap more.flatten hx (flat_length sz more hms) ?_ ?_ (by unfold maxLen; omega) hb1 hbase ?_
  ·intro j y hj
   rcases hm with h0 | ⟨g, off, e, hg, hc⟩
   ·rw [List.eq_nil_of_length_eq_zero h0] at hj
    simp at hj
   ·cases e
    have e1 : (⟨g, off, none⟩ : Addr).add j = ⟨g, off + j, none⟩ := by cases j <;> simp [Addr.add]
    rw [e1]
    exact hc j y hj
  ·intro y hy
   obtain ⟨r, hr, hyr⟩ := List.mem_flatten.1 hy
   exact h1 r hr y hyr
  ·intro v' w' h2 h3 h5
   exact fin v' w' h2 h3 h5
theorem pt_one (l : List Pnt) : ∀ r ∈ ptR l, ∀ y ∈ r, y.oneCell' = true := by
 intro r hr y hy
 obtain ⟨x, _, rfl⟩ := List.mem_map.1 hr
 simp [ptC] at hy
 rcases hy with rfl | rfl <;> rfl
theorem Owns.first {w : World} {base : Nat} {e : TypeId} {sz : Nat} {A : Option Addr} {n c : Nat} {rows : List (List Value)} (h : Owns w base e sz (.slice A n c) rows) (k : Nat) (hk : k ≤ rows.length) : Owns w base e sz (.slice A k c) (rows.take k) := by
 obtain ⟨hs, hl, h⟩ := h
 have hkl : (rows.take k).length = k := by rw [List.length_take]; omega
 have hs' : ∀ r ∈ rows.take k, r.length = sz := fun r hr => hs r (List.mem_of_mem_take hr)
 have hft : (rows.take k).flatten = rows.flatten.take (k * sz) := by
  have h1 : rows.flatten = (rows.take k).flatten ++ (rows.drop k).flatten := by rw [← List.flatten_append, List.take_append_drop]
  have hl2 : (rows.take k).flatten.length = k * sz := by rw [flat_length sz _ hs', hkl]
  rw [h1]
  exact (List.take_left' hl2).symm
 refine ⟨hs', ?_, ?_⟩
 ·rw [flat_length sz _ hs']
 rcases h with ⟨e1, h0⟩ | ⟨g, cap, cur, e1, hb, hh, hn, hm, hz, ht⟩
 ·cases e1
  have : k = 0 := by omega
  subst this
  exact .inl ⟨rfl, by simp⟩
 ·cases e1
  refine .inr ⟨g, c, cur, by rw [hkl], hb, hh, by rw [hkl]; omega, hm, hz, ?_⟩
  rw [hkl, hft, ← ht, List.take_take]
  congr 1
  have : k * sz ≤ rows.length * sz := Nat.mul_le_mul_right sz hk
  omega
end Go.Proofs.YtikknmoeefipmaaGreatDoor
namespace Go.Proofs.YtikknmoeefipmaaGreatDoor
open Go.RowKit Go.PlainAid
def tAt (l : List Pnt) (j : Nat) : Int := (l.getD j default).t
def vAt (l : List Pnt) (j : Nat) : Int := (l.getD j default).v
def POk (l : List Pnt) : Prop := l.length ≤ 60 ∧ ∀ j, j < l.length → ((0 ≤ tAt l j ∧ tAt l j ≤ 1099511627776) ∧ (-1099511627776 ≤ vAt l j ∧ vAt l j ≤ 1099511627776)) ∧ (0 < j → tAt l (j - 1) < tAt l j)
instance (l : List Pnt) : Decidable (POk l) := by unfold POk; infer_instance
theorem POk.nil : POk [] := ⟨by simp, fun j hj => by simp at hj⟩
end Go.Proofs.YtikknmoeefipmaaGreatDoor
