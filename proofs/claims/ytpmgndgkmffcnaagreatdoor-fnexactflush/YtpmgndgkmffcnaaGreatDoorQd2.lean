/- Errs FrLaid PtRow PtPut -/
import Derived.Test.YtpmgndgkmffcnaaGreatDoorRows
import Derived.Test.YtpmgndgkmffcnaaGreatDoorQd1
import Derived.WalkKit
import Derived.Below
import Derived.PlainAid
import Derived.WalkSmall
import Derived.ProofKit
import Derived.OpenShut
import Derived.ChangeVars
import Derived.LaidMore
import Derived.Lay
import Derived.RowKitTokens
import Derived.Stop.LaidErr
import Derived.Stop.LaidTwo
import Derived.Test.YtpmgndgkmffcnaaGreatDoorQd0
import Derived.Laws.OwnMore
import Derived.OwnWalk
namespace Go.Proofs.YtpmgndgkmffcnaaGreatDoor
open Go.RowKit Go.PlainAid
set_option linter.unusedVariables false
structure Errs (w : World) (a0 a1 a2 : Addr) : Prop where
 v0 : w.var? Tryz.prog "loop.example/g00360/impl.errFrameShort" = some #[.iface 219 (.pointer (some a0))]
 v1 : w.var? Tryz.prog "loop.example/g00360/impl.errFrameLength" = some #[.iface 219 (.pointer (some a1))]
 v2 : w.var? Tryz.prog "loop.example/g00360/impl.errFrameSum" = some #[.iface 219 (.pointer (some a2))]
 n1 : a1 ≠ a0
 n2 : a2 ≠ a0
 h0 : ∃ c t, w.heap[a0.block]? = some (.cells c t (0, 0))
 h1 : ∃ c t, w.heap[a1.block]? = some (.cells c t (0, 0))
 h2 : ∃ c t, w.heap[a2.block]? = some (.cells c t (0, 0))
theorem gShort : Tryz.prog.globalNamed "loop.example/g00360/impl.errFrameShort" = some 1 := by kernel_rfl
theorem gLen : Tryz.prog.globalNamed "loop.example/g00360/impl.errFrameLength" = some 2 := by kernel_rfl
theorem gBad : Tryz.prog.globalNamed "loop.example/g00360/impl.errFrameSum" = some 3 := by kernel_rfl
theorem Errs.c0 {w : World} {a0 a1 a2 : Addr} (h : Errs w a0 a1 a2) : w.cell? ⟨1, 0, none⟩ = some (.iface 219 (.pointer (some a0))) := by simpa using World.var?_cell gShort h.v0 0
theorem Errs.c1 {w : World} {a0 a1 a2 : Addr} (h : Errs w a0 a1 a2) : w.cell? ⟨2, 0, none⟩ = some (.iface 219 (.pointer (some a1))) := by simpa using World.var?_cell gLen h.v1 0
theorem Errs.c2 {w : World} {a0 a1 a2 : Addr} (h : Errs w a0 a1 a2) : w.cell? ⟨3, 0, none⟩ = some (.iface 219 (.pointer (some a2))) := by simpa using World.var?_cell gBad h.v2 0
theorem lt_of_some {w : World} {k : Nat} {x : Obj} (h : w.heap[k]? = some x) : k < w.heap.size := by
 rcases Nat.lt_or_ge k w.heap.size with h' | h'
 ·exact h'
 ·rw [Array.getElem?_eq_none h'] at h
  cases h
theorem Errs.on {w w' : World} {a0 a1 a2 : Addr} (h : Errs w a0 a1 a2) (hb : Below w.heap.size w w') : Errs w' a0 a1 a2 where
 v0 := var?_below hb gShort (World.block_lt_of_cell? _ _ h.c0) h.v0
 v1 := var?_below hb gLen (World.block_lt_of_cell? _ _ h.c1) h.v1
 v2 := var?_below hb gBad (World.block_lt_of_cell? _ _ h.c2) h.v2
 n1 := h.n1
 n2 := h.n2
 h0 := by obtain ⟨c, t, e⟩ := h.h0; exact ⟨c, t, by rw [hb.block _ (lt_of_some e)]; exact e⟩
 h1 := by obtain ⟨c, t, e⟩ := h.h1; exact ⟨c, t, by rw [hb.block _ (lt_of_some e)]; exact e⟩
 h2 := by obtain ⟨c, t, e⟩ := h.h2; exact ⟨c, t, by rw [hb.block _ (lt_of_some e)]; exact e⟩
set_option maxHeartbeats 400000 in
theorem code_short (p : Int) (a0 a1 a2 : Addr) (w : World) (h : Errs w a0 a1 a2) :
  Calls Tryz.prog 177 #[wrapped p a0] w fun e w' => e = .returned (.int .i64 1) ∧ Below w.heap.size w w' := by
 have hc := h.c0
 have c1 := is_wrap_same p a0 w
 clear h
 go_enter Tryz.func177, Tryz.ntmps177
 go_wp2_with fail
 refine c1.mono ?_
 rintro e w1 ⟨rfl, hb1⟩
 go_wp2_with fail
 go_ret
 exact ⟨rfl, hb1⟩
set_option maxHeartbeats 400000 in
theorem code_bad (p : Int) (a a0 a1 a2 : Addr) (w : World) (h : Errs w a0 a1 a2) (ha : a = a1 ∨ a = a2) :
  Calls Tryz.prog 177 #[wrapped p a] w fun e w' => e = .returned (.int .i64 2) ∧ Below w.heap.size w w' := by
 have hc := h.c0
 have c1 : Calls Tryz.prog 182 #[wrapped p a, .iface 219 (.pointer (some a0))] w fun e w' => e = .returned (.bool false) ∧ Below w.heap.size w w' := by
  obtain ⟨c, t, e⟩ := h.h0
  rcases ha with rfl | rfl
  ·obtain ⟨c', t', e'⟩ := h.h1
   exact is_wrap_other p a a0 c' c t' t w h.n1 e' e
  ·obtain ⟨c', t', e'⟩ := h.h2
   exact is_wrap_other p a a0 c' c t' t w h.n2 e' e
 clear h ha
 go_enter Tryz.func177, Tryz.ntmps177
 go_wp2_with fail
 refine c1.mono ?_
 rintro e w1 ⟨rfl, hb1⟩
 go_wp2_with fail
 go_ret
 exact ⟨rfl, hb1⟩
end Go.Proofs.YtpmgndgkmffcnaaGreatDoor
namespace Go.Proofs.YtpmgndgkmffcnaaGreatDoor
open Go.ChangeShapes Go.WideShapes Go.ChangeAt Go.RowKit
set_option linter.unusedVariables false
theorem own : ownKnob Tryz.prog.godebug = none := by kernel_rfl
theorem typeSum : (Tryz.prog.globals[0]?).map (·.type) = some 183 := by kernel_rfl
theorem typeShort : (Tryz.prog.globals[1]?).map (·.type) = some 179 := by kernel_rfl
theorem typeLen : (Tryz.prog.globals[2]?).map (·.type) = some 179 := by kernel_rfl
theorem typeBad : (Tryz.prog.globals[3]?).map (·.type) = some 179 := by kernel_rfl
theorem cellsSum : Tryz.prog.cellsOf 183 = 16 := by kernel_rfl
theorem cellsU32 : Tryz.prog.cellsOf 142 = 1 := by kernel_rfl
theorem cellsES : Tryz.prog.cellsOf 242 = 1 := by kernel_rfl
theorem cellsStr : Tryz.prog.cellsOf 9 = 1 := by kernel_rfl
theorem sum_data : (Rows.laid_loop_example_g00360_impl_halfSums : DataW Unit) = Lib.tabData .u32 sumTab := by kernel_rfl
theorem star : "*" ++ "errors.errorString" = "*errors.errorString" := by decide
theorem rowES (u : TypeId) (h : Tryz.prog.typeName? 3 u = some "*errors.errorString") : u = 219 :=
 typeName_ptr_named (nm := "errors.errorString") (by rw [star]; kernel_rfl) (by kernel_rfl) (by decide) u (by rw [star]; exact h)
theorem laidMet_skip {P : Program} {x y : String × DataW Unit} {r : List (String × DataW Unit)} {w : World} (h : laidMet P (x :: y :: r) w) : laidMet P (x :: r) w := by
 obtain ⟨ps, hv, hnd, hrows⟩ := h
 obtain ⟨n, d⟩ := x
 obtain ⟨n', d'⟩ := y
 obtain ⟨g, t, cs, fuel, p, q, h1, h2, h3, h4, ⟨g', t', cs', fuel', p', q', _, _, _, _, hq, rfl⟩, rfl⟩ := hv
 refine ⟨_, ⟨g, t, cs, fuel, p, q', h1, h2, h3, h4, hq, rfl⟩, ?_, fun b off hm => hrows b off ?_⟩
 ·exact List.Nodup.sublist (List.Sublist.append_left (List.sublist_append_right _ _) _) hnd
 ·rcases List.mem_append.1 hm with hm | hm
  ·exact List.mem_append_left _ hm
  ·exact List.mem_append_right _ (List.mem_append_right _ hm)
def laid4 : List (String × DataW Unit) := [("loop.example/g00360/impl.halfSums", Rows.laid_loop_example_g00360_impl_halfSums), ("loop.example/g00360/impl.errFrameShort", Rows.laid_loop_example_g00360_impl_errFrameShort), ("loop.example/g00360/impl.errFrameLength", Rows.laid_loop_example_g00360_impl_errFrameLength), ("loop.example/g00360/impl.errFrameSum", Rows.laid_loop_example_g00360_impl_errFrameSum)]
theorem laid4_plain (W : World) (h : laidMetH Tryz.prog laid4 W) : laidMet Tryz.prog laid4 W := by
 rw [MakeChecks.laidMetH_plain _ _ _ (by kernel_rfl)] at h
 exact h
theorem met_sum {W : World} (h : laidMetH Tryz.prog laid4 W) : SumTab W := by
 have h1 := laid4_plain W h
 unfold laid4 at h1
 rw [sum_data] at h1
 exact Lib.tabIs_of_head gSum typeSum Tryz.underlying183 Tryz.underlying142 cellsU32 cellsSum h1
theorem met_errs {W : World} (h : laidMetH Tryz.prog laid4 W) : ∃ a0 a1 a2, Errs W a0 a1 a2 := by
 have h1 := (laid4_plain W h).tail
 obtain ⟨a0, a1, s0, s1, c0, c1, t0, t1, hv0, hv1, _, _, _, _, _, _, hne, hb0, hb1⟩ := laid_sentinels2 h1 gShort typeShort gLen typeLen Tryz.underlying179 rowES Tryz.underlying219 Tryz.underlying242 rfl rfl Tryz.underlying9 cellsES cellsStr
 obtain ⟨a0', a2, s0', s2, c0', c2, t0', t2, hv0', hv2, _, _, _, _, _, _, hne2, hb0', hb2⟩ := laid_sentinels2 (laidMet_skip h1) gShort typeShort gBad typeBad Tryz.underlying179 rowES Tryz.underlying219 Tryz.underlying242 rfl rfl Tryz.underlying9 cellsES cellsStr
 have e : a0' = a0 := by
  have := hv0.symm.trans hv0'
  simp at this
  exact this.symm
 subst e
 exact ⟨a0', a1, a2, hv0, hv1, hv2, hne.symm, hne2.symm, ⟨_, _, hb0⟩, ⟨_, _, hb1⟩, ⟨_, _, hb2⟩⟩
def sumCells : List Value := sumTab.map fun z => Value.int .u32 z
theorem sum_shut {H : Type} (enc : TypeId × Value → H) (W : World) (sp : Nat → Bool) (n : Nat) : DataW.trod enc Tryz.prog W 0 sp true (n + 2) 183 sumCells = some (Lib.tabData .u32 sumTab, []) := by kernel_rfl
def sent (a : Addr) : Value := .iface 219 (.pointer (some a))
theorem sent_iface (a : Addr) : IsIface (sent a) := trivial
theorem vars_errs {H : Type} (enc : TypeId × Value → H) {W : World} {a0 a1 a2 : Addr} (h : Errs W a0 a1 a2) (ht : SumTab W) (sp : Nat → Bool) :
  DataW.TrodVars enc Tryz.prog W sp ["loop.example/g00360/impl.errFrameShort", "loop.example/g00360/impl.errFrameLength", "loop.example/g00360/impl.errFrameSum", "loop.example/g00360/impl.halfSums"]
   [tok enc (sent a0), tok enc (sent a1), tok enc (sent a2), Lib.tabData .u32 sumTab] (.cell 1 0 :: .cell 2 0 :: .cell 3 0 :: (MemPlace.row ⟨0, 0, none⟩ 16 ++ [] ++ [])) :=
 ⟨_, _, #[sent a0], 1, [], _, gShort, typeShort, h.v0, trod_held Tryz.underlying179 (sent_iface a0) 0, ⟨_, _, #[sent a1], 1, [], _, gLen, typeLen, h.v1, trod_held Tryz.underlying179 (sent_iface a1) 0, ⟨_, _, #[sent a2], 1, [], _, gBad, typeBad, h.v2, trod_held Tryz.underlying179 (sent_iface a2) 0,
  ⟨_, _, _, 2, [], [], gSum, typeSum, ht, sum_shut enc W sp 0, rfl, rfl⟩, rfl⟩, rfl⟩, rfl⟩
end Go.Proofs.YtpmgndgkmffcnaaGreatDoor
namespace Go.Proofs.YtpmgndgkmffcnaaGreatDoor
open Go.RowKit Go.PlainAid
structure Pnt where
 t : Int
 v : Int
instance : Inhabited Pnt := ⟨⟨0, 0⟩⟩
theorem Pnt.same {x y : Pnt} (h1 : x.t = y.t) (h2 : x.v = y.v) : x = y := by
 cases x
 cases y
 simp only at h1 h2
 subst h1
 subst h2
 rfl
def Lies (w : World) (B sz : Nat) (v : Value) (rows : List (List Value)) : Prop :=
 ∃ A cap, v = .slice A rows.length cap ∧ ((A = none → cap = 0) ∧ rows.length ≤ cap) ∧ (∀ r ∈ rows, r.length = sz) ∧ (rows.length = 0 ∨ ∃ g off, A = some ⟨g, off, none⟩ ∧ g < B ∧ ∀ k x, rows.flatten[k]? = some x → w.cell? ⟨g, off + k, none⟩ = some x)
theorem Lies.on {w w' : World} {B sz : Nat} {v : Value} {rows : List (List Value)} (h : Lies w B sz v rows) (hb : Below B w w') : Lies w' B sz v rows := by
 obtain ⟨A, cap, e, hz, hs, h⟩ := h
 refine ⟨A, cap, e, hz, hs, h.imp id ?_⟩
 rintro ⟨g, off, rfl, hg, hc⟩
 refine ⟨g, off, rfl, hg, fun k x hx => ?_⟩
 rw [← hc k x hx]
 exact World.cell?_of_block (w := w) (hb.block g hg)
theorem Lies.heap {w w' : World} {B sz : Nat} {v : Value} {rows : List (List Value)} (h : Lies w B sz v rows) (hh : w'.heap = w.heap) : Lies w' B sz v rows := by
 obtain ⟨A, cap, e, hz, hs, h⟩ := h
 refine ⟨A, cap, e, hz, hs, h.imp id ?_⟩
 rintro ⟨g, off, rfl, hg, hc⟩
 refine ⟨g, off, rfl, hg, fun k x hx => ?_⟩
 rw [← hc k x hx]
 exact World.cell?_of_block (w := w) (by rw [hh])
theorem Lies.mono {w : World} {B C sz : Nat} {v : Value} {rows : List (List Value)} (h : Lies w B sz v rows) (hB : B ≤ C) : Lies w C sz v rows := by
 obtain ⟨A, cap, e, hz, hs, h⟩ := h
 refine ⟨A, cap, e, hz, hs, h.imp id ?_⟩
 rintro ⟨g, off, rfl, hg, hc⟩
 exact ⟨g, off, rfl, by omega, hc⟩
theorem flat_at (sz : Nat) : ∀ (rows : List (List Value)), (∀ r ∈ rows, r.length = sz) → ∀ (j f : Nat) (hj : j < rows.length), f < sz → rows.flatten[j * sz + f]? = (rows[j])[f]?
 | [], _, j, f, hj, _ => by simp at hj
 | r :: rs, hs, 0, f, _, hf => by
  have := hs r (by simp)
  simp only [List.flatten_cons, Nat.zero_mul, Nat.zero_add, List.getElem_cons_zero]
  rw [List.getElem?_append_left (by omega)]
 | r :: rs, hs, j + 1, f, hj, hf => by
  have hr := hs r (by simp)
  have ih := flat_at sz rs (fun r hr => hs r (by simp [hr])) j f (by simp at hj; omega) hf
  simp only [List.flatten_cons, List.getElem_cons_succ]
  rw [List.getElem?_append_right (by rw [hr, Nat.succ_mul]; omega), ← ih, hr]
  congr 1
  rw [Nat.succ_mul]
  omega
theorem flat_length (sz : Nat) (rows : List (List Value)) (hs : ∀ r ∈ rows, r.length = sz) : rows.flatten.length = rows.length * sz := by
 induction rows with
 | nil => simp
 | cons r rs ih =>
  rw [List.flatten_cons, List.length_append, ih (fun r hr => hs r (by simp [hr])), hs r (by simp), List.length_cons, Nat.succ_mul]
  omega
theorem Lies.look {w : World} {B sz : Nat} {v : Value} {rows : List (List Value)} (h : Lies w B sz v rows) : ∃ A cap, v = .slice A rows.length cap ∧ ∀ j (hj : j < rows.length), ∃ g off, A = some ⟨g, off, none⟩ ∧ g < B ∧ ∀ f x, f < sz → (rows[j])[f]? = some x → w.cell? ⟨g, off + (j * sz + f), none⟩ = some x := by
 obtain ⟨A, cap, rfl, _, hs, h⟩ := h
 refine ⟨A, cap, rfl, fun j hj => ?_⟩
 rcases h with h | ⟨g, off, rfl, hg, hc⟩
 ·omega
 ·exact ⟨g, off, rfl, hg, fun f x hf hx => hc _ x (by rw [flat_at sz rows hs j f hj hf]; exact hx)⟩
theorem Lies.room {w : World} {B sz : Nat} {A : Option Addr} {n c : Nat} {rows : List (List Value)} (h : Lies w B sz (.slice A n c) rows) : n = rows.length ∧ n ≤ c := by
 obtain ⟨A', c', e, hz, _⟩ := h
 cases e
 exact ⟨rfl, hz.2⟩
theorem Lies.first {w : World} {B sz : Nat} {A : Option Addr} {n c : Nat} {rows : List (List Value)} (h : Lies w B sz (.slice A n c) rows) (k : Nat) (hk : k ≤ rows.length) : Lies w B sz (.slice A k c) (rows.take k) := by
 obtain ⟨A', c', e, hz, hs, h⟩ := h
 cases e
 have hl : (rows.take k).length = k := by rw [List.length_take]; omega
 refine ⟨A, c, by rw [hl], ⟨hz.1, by rw [hl]; exact Nat.le_trans hk hz.2⟩, fun r hr => hs r (List.mem_of_mem_take hr), ?_⟩
 rw [hl]
 rcases h with h | ⟨g, off, rfl, hg, hc⟩
 ·exact .inl (by omega)
 ·refine .inr ⟨g, off, rfl, hg, fun j x hx => hc j x ?_⟩
  rw [← List.take_append_drop k rows, List.flatten_append, List.getElem?_append_left ((List.getElem?_eq_some_iff.1 hx).1)]
  exact hx
def Owns (w : World) (base : Nat) (e : TypeId) (sz : Nat) (v : Value) (rows : List (List Value)) : Prop := (∀ r ∈ rows, r.length = sz) ∧ w.ownsRow base e sz v rows.length rows.flatten
theorem Owns.lt {w : World} {base : Nat} {e : TypeId} {sz : Nat} {v : Value} {rows : List (List Value)} (h : Owns w base e sz v rows) : ∀ k, v.ownBlock = some k → base ≤ k ∧ k < w.heap.size := World.ownsRow.lt h.2
theorem Owns.lies {w : World} {base : Nat} {e : TypeId} {sz : Nat} {v : Value} {rows : List (List Value)} (h : Owns w base e sz v rows) : Lies w w.heap.size sz v rows := by
 have hlt := h.lt
 have hc := fun g hg => World.ownsRow.cells h.2 (g := g) hg
 rcases h.2.2 with ⟨rfl, h0⟩ | ⟨g, cap, cur, rfl, _, _, hcap, _⟩
 ·exact ⟨none, 0, by rw [h0], ⟨fun _ => rfl, by omega⟩, h.1, .inl h0⟩
 ·refine ⟨_, cap, rfl, ⟨fun e => (by cases e), hcap⟩, h.1, .inr ⟨g, 0, rfl, (hlt g rfl).2, fun k x hx => ?_⟩⟩
  have e : (⟨g, 0, none⟩ : Addr).add k = ⟨g, 0 + k, none⟩ := by cases k <;> simp [Addr.add]
  rw [← e]
  exact hc g rfl k x hx
theorem Owns.kept {w w' : World} {base : Nat} {e : TypeId} {sz : Nat} {v : Value} {rows : List (List Value)} (h : Owns w base e sz v rows) (hk : ∀ g, g < w.heap.size → v.ownBlock = some g → w'.heap[g]? = w.heap[g]?) : Owns w' base e sz v rows := by
 have hl := h.lt
 refine ⟨h.1, h.2.1, h.2.2.imp id ?_⟩
 rintro ⟨g, cap, cur, rfl, hg, hh, r⟩
 refine ⟨g, cap, cur, rfl, hg, ?_, r⟩
 rw [hk g (hl g rfl).2 rfl]
 exact hh
theorem Owns.on {w w' : World} {base : Nat} {e : TypeId} {sz : Nat} {v : Value} {rows : List (List Value)} (h : Owns w base e sz v rows) (hb : Below w.heap.size w w') : Owns w' base e sz v rows := h.kept fun g hg _ => hb.block g hg
theorem Owns.heap {w w' : World} {base : Nat} {e : TypeId} {sz : Nat} {v : Value} {rows : List (List Value)} (h : Owns w base e sz v rows) (hh : w'.heap = w.heap) : Owns w' base e sz v rows := h.kept fun g _ _ => by rw [hh]
theorem Owns.mono {w : World} {base base' : Nat} {e : TypeId} {sz : Nat} {v : Value} {rows : List (List Value)} (h : Owns w base e sz v rows) (hb : base' ≤ base) : Owns w base' e sz v rows :=
 ⟨h.1, h.2.1, h.2.2.imp id fun ⟨g, cap, cur, e, hg, r⟩ => ⟨g, cap, cur, e, Nat.le_trans hb hg, r⟩⟩
theorem getD_mem {α : Type} [Inhabited α] (l : List α) (j : Nat) (h : j < l.length) : l.getD j default ∈ l := by
 rw [List.getD_eq_getElem?_getD, List.getElem?_eq_getElem h]
 exact List.getElem_mem h
theorem getD_at {α : Type} [Inhabited α] (l : List α) (j : Nat) (h : j < l.length) : l[j] = l.getD j default := by
 rw [List.getD_eq_getElem?_getD, List.getElem?_eq_getElem h]
 rfl
theorem take_getD {α : Type} [Inhabited α] (l : List α) (j : Nat) (h : j < l.length) : l.take (j + 1) = l.take j ++ [l.getD j default] := by
 rw [List.take_add_one, List.getElem?_eq_getElem h, ← getD_at l j h]
 rfl
def ptC (x : Pnt) : List Value := [.int .i64 x.t, .int .i64 x.v]
def ptR (l : List Pnt) : List (List Value) := l.map ptC
theorem ptR_snoc (l : List Pnt) (k : Nat) (h : k < l.length) : ptR (l.take (k + 1)) = ptR (l.take k) ++ [ptC (l.getD k default)] := by
 unfold ptR
 rw [take_getD l k h, List.map_append]
 rfl
theorem ptR_length (l : List Pnt) : (ptR l).length = l.length := by simp [ptR]
theorem ptR_append (l m : List Pnt) : ptR (l ++ m) = ptR l ++ ptR m := by simp [ptR]
theorem pt_look {w : World} {B : Nat} {v : Value} {l : List Pnt} (h : Lies w B 2 v (ptR l)) : ∃ A cap, v = .slice A l.length cap ∧ ∀ j, j < l.length → ∃ g off, A = some ⟨g, off, none⟩ ∧ g < B ∧
  w.cell? ⟨g, off + j * 2, none⟩ = some (.int .i64 (l.getD j default).t) ∧ w.cell? ⟨g, off + j * 2 + 1, none⟩ = some (.int .i64 (l.getD j default).v) := by
 obtain ⟨A, cap, e, h⟩ := h.look
 refine ⟨A, cap, by rw [e]; simp [ptR], fun j hj => ?_⟩
 rw [← getD_at l j hj]
 obtain ⟨g, off, e, hg, hc⟩ := h j (by simpa [ptR] using hj)
 refine ⟨g, off, e, hg, ?_, ?_⟩
 ·have := hc 0 _ (by omega) (by simp [ptR, ptC]; rfl); simpa [Nat.add_assoc] using this
 ·have := hc 1 _ (by omega) (by simp [ptR, ptC]; rfl); simpa [Nat.add_assoc] using this
theorem Lies.behind {w : World} {B sz g off n c : Nat} {rows : List (List Value)} (h : Lies w B sz (.slice (some ⟨g, off, none⟩) n c) rows) (k : Nat) (hk : k ≤ rows.length) : Lies w B sz (.slice (some ⟨g, off + k * sz, none⟩) (n - k) (c - k)) (rows.drop k) := by
 obtain ⟨A', c', e, hz, hs, h⟩ := h
 cases e
 have hl : (rows.drop k).length = rows.length - k := List.length_drop
 refine ⟨_, c - k, by rw [hl], ⟨fun e => (by cases e), by rw [hl]; have := hz.2; omega⟩, fun r hr => hs r (List.mem_of_mem_drop hr), ?_⟩
 rw [hl]
 rcases h with h | ⟨g', off', e, hg, hc⟩
 ·exact .inl (by omega)
 ·cases e
  refine .inr ⟨g, off + k * sz, rfl, hg, fun j x hx => ?_⟩
  have hl2 : (rows.take k).flatten.length = k * sz := by rw [flat_length sz _ (fun r hr => hs r (List.mem_of_mem_take hr)), List.length_take, Nat.min_eq_left hk]
  have := hc (k * sz + j) x (by
   rw [← List.take_append_drop k rows, List.flatten_append, List.getElem?_append_right (by omega), hl2, Nat.add_sub_cancel_left]
   exact hx)
  rw [← Nat.add_assoc] at this
  exact this
def vPt (x : Pnt) : Value := .agg #[.int .i64 x.t, .int .i64 x.v]
end Go.Proofs.YtpmgndgkmffcnaaGreatDoor
namespace Go.Proofs.YtpmgndgkmffcnaaGreatDoor
open Go.RowKit Go.PlainAid
theorem flat_parts (sz : Nat) (rows : List (List Value)) (hs : ∀ r ∈ rows, r.length = sz) (k : Nat) (hk : k < rows.length) :
  ∃ F1 F2 : List Value, F1.length = k * sz ∧ rows.flatten = F1 ++ (rows[k] ++ F2) ∧ ∀ r, (rows.set k r).flatten = F1 ++ (r ++ F2) := by
 refine ⟨(rows.take k).flatten, (rows.drop (k + 1)).flatten, ?_, ?_, ?_⟩
 ·rw [flat_length sz _ (fun r hr => hs r (List.mem_of_mem_take hr)), List.length_take, Nat.min_eq_left (by omega)]
 ·conv => lhs; rw [← List.take_append_drop k rows, List.drop_eq_getElem_cons hk]
  rw [List.flatten_append, List.flatten_cons]
 ·intro r
  rw [List.set_eq_take_append_cons_drop, if_pos hk, List.flatten_append, List.flatten_cons]
theorem set_len {rows : List (List Value)} {sz k : Nat} {r : List Value} (hs : ∀ r ∈ rows, r.length = sz) (hr : r.length = sz) : ∀ x ∈ rows.set k r, x.length = sz := by
 intro x hx
 rcases List.mem_or_eq_of_mem_set hx with h | rfl
 ·exact hs x h
 ·exact hr
section
variable {w : World} {base : Nat} {e : TypeId} {sz g cap : Nat} {rows : List (List Value)}
theorem Owns.cellX (h : Owns w base e sz (.slice (some ⟨g, 0, none⟩) rows.length cap) rows) (k f : Nat) (hk : k < rows.length) (hf : f < sz) : ∃ y, w.cell? ⟨g, k * sz + f, none⟩ = some y := by
 have hlt : k * sz + f < rows.length * sz := by
  have : (k + 1) * sz ≤ rows.length * sz := Nat.mul_le_mul_right sz hk
  rw [Nat.succ_mul] at this
  omega
 rw [World.ownsRow.cellAt h.2 (k * sz + f) hlt]
 exact ⟨_, List.getElem?_eq_getElem (by rw [h.2.1]; exact hlt)⟩
theorem Owns.free (h : Owns w base e sz (.slice (some ⟨g, 0, none⟩) rows.length cap) rows) (j : Nat) : w.frozen? ⟨g, j, none⟩ = false := World.ownsRow.frozenAt h.2 j
theorem Owns.put2 (h : Owns w base e 2 (.slice (some ⟨g, 0, none⟩) rows.length cap) rows) (k : Nat) (hk : k < rows.length) (a b : Value) :
  Owns ((w.setCell ⟨g, k * 2, none⟩ a).setCell ⟨g, k * 2 + 1, none⟩ b) base e 2 (.slice (some ⟨g, 0, none⟩) rows.length cap) (rows.set k [a, b]) := by
 have h1 := (World.ownsRow.stored h.2 (k * 2) a).1
 have h2 := (World.ownsRow.stored h1 (k * 2 + 1) b).1
 refine ⟨set_len h.1 rfl, ?_⟩
 rw [List.length_set]
 obtain ⟨F1, F2, l1, e1, e2⟩ := flat_parts 2 rows h.1 k hk
 have hr := h.1 rows[k] (List.getElem_mem hk)
 obtain ⟨x, y, hxy⟩ : ∃ x y, rows[k] = [x, y] := by
  match hh : rows[k], hr with
  | [x, y], _ => exact ⟨x, y, rfl⟩
 rw [e2]
 rw [e1, hxy] at h2
 have : ((F1 ++ ([x, y] ++ F2)).set (k * 2) a).set (k * 2 + 1) b = F1 ++ ([a, b] ++ F2) := by
  rw [← l1, List.set_append_right _ _ (by omega), List.set_append_right _ _ (by omega)]
  simp
 rw [this] at h2
 exact h2
end
theorem set_self {R : List (List Value)} (j : Nat) (hj : j < R.length) : R.set j R[j] = R := List.set_getElem_self hj
section
variable {w : World} {base : Nat} {e : TypeId} {sz g cap n j : Nat} {R : List (List Value)} {r : List Value}
theorem Owns.pokeAt (h : Owns w base e sz (.slice (some ⟨g, 0, none⟩) n cap) (R.set j r)) (hn : R.length = n) (hj : j < n) (f : Nat) (hf : f < sz) (x : Value) :
  Owns (w.setCell ⟨g, j * sz + f, none⟩ x) base e sz (.slice (some ⟨g, 0, none⟩) n cap) (R.set j (r.set f x)) := by
 subst hn
 have hl : (R.set j r).length = R.length := List.length_set
 have h2 := h.2
 rw [hl] at h2
 have h1 := (World.ownsRow.stored h2 (j * sz + f) x).1
 obtain ⟨F1, F2, l1, e1, e2⟩ := flat_parts sz (R.set j r) h.1 j (by rw [hl]; exact hj)
 have hrr : (R.set j r)[j]'(by rw [hl]; exact hj) = r := by simp
 have hr : r.length = sz := by rw [← hrr]; exact h.1 _ (List.getElem_mem _)
 have e3 := e2 (r.set f x)
 rw [List.set_set] at e3
 refine ⟨?_, ?_⟩
 ·intro y hy
  obtain ⟨i, hi, rfl⟩ := List.getElem_of_mem hy
  have hi2 : i < R.length := by simpa using hi
  by_cases hij : i = j
  ·subst hij
   rw [List.getElem_set_self, List.length_set]
   exact hr
  ·have : (R.set j (r.set f x))[i]'hi = (R.set j r)[i]'(by rw [hl]; exact hi2) := by rw [List.getElem_set_ne (Ne.symm hij), List.getElem_set_ne (Ne.symm hij)]
   rw [this]
   exact h.1 _ (List.getElem_mem _)
 ·rw [List.length_set, e3]
  rw [e1, hrr] at h1
  have : (F1 ++ (r ++ F2)).set (j * sz + f) x = F1 ++ (r.set f x ++ F2) := by
   rw [← l1, List.set_append_right _ _ (by omega), List.set_append_left _ _ (by omega)]
   simp
  rw [this] at h1
  exact h1
end
def newR (f : Nat → List Value) (j : Nat) : List (List Value) := (List.range j).map f
theorem newR_length (f : Nat → List Value) (j : Nat) : (newR f j).length = j := by simp [newR]
def partR (f : Nat → List Value) (R : List (List Value)) (j : Nat) : List (List Value) := newR f j ++ R.drop j
theorem partR_zero (f : Nat → List Value) (R : List (List Value)) : partR f R 0 = R := by simp [partR, newR]
theorem partR_all (f : Nat → List Value) (R : List (List Value)) : partR f R R.length = newR f R.length := by simp [partR]
theorem partR_length (f : Nat → List Value) (R : List (List Value)) (j : Nat) (h : j ≤ R.length) : (partR f R j).length = R.length := by
 simp [partR, newR]
 omega
theorem partR_set (f : Nat → List Value) (R : List (List Value)) (j : Nat) (h : j < R.length) : (partR f R j).set j (f j) = partR f R (j + 1) := by
 unfold partR
 rw [List.set_append_right _ _ (by rw [newR_length]; omega), newR_length, Nat.sub_self, List.drop_eq_getElem_cons h, List.set_cons_zero]
 unfold newR
 rw [List.range_succ, List.map_append]
 simp
theorem fill_step (Z : List Value) (done : List (List Value)) (r : List Value) (n k : Nat) (hk : done.length = k) (hn : k < n) :
  (done ++ List.replicate (n - k) Z).set k r = (done ++ [r]) ++ List.replicate (n - (k + 1)) Z := by
 obtain ⟨m, rfl⟩ : ∃ m, n = k + 1 + m := ⟨n - (k + 1), by omega⟩
 rw [show k + 1 + m - k = m + 1 by omega, show k + 1 + m - (k + 1) = m by omega, List.set_append_right _ _ (by omega), hk, Nat.sub_self, List.replicate_succ, List.set_cons_zero]
 simp
def Blk (w : World) (g : Nat) (cs : Array Value) (t : TypeId) : Prop := w.heap[g]? = some (.cells cs t (0, 0))
theorem Blk.lt {w : World} {g : Nat} {cs : Array Value} {t : TypeId} (h : Blk w g cs t) : g < w.heap.size := lt_of_block h
theorem Blk.cell {w : World} {g : Nat} {cs : Array Value} {t : TypeId} (h : Blk w g cs t) (i : Nat) (x : Value) (hx : cs[i]? = some x) : w.cell? ⟨g, i, none⟩ = some x := by
 rw [cell_of_row w g i cs t (0, 0) h]
 exact hx
theorem Blk.free {w : World} {g : Nat} {cs : Array Value} {t : TypeId} (h : Blk w g cs t) (i : Nat) : w.frozen? ⟨g, i, none⟩ = false := frozen_of_row w g i cs t h
theorem Blk.set {w : World} {g : Nat} {cs : Array Value} {t : TypeId} (h : Blk w g cs t) (i : Nat) (x : Value) : Blk (w.setCell ⟨g, i, none⟩ x) g (cs.setIfInBounds i x) t := heap_setCell_same w g i cs t x h
theorem Blk.other {w : World} {g g' : Nat} {cs : Array Value} {t : TypeId} (h : Blk w g cs t) (hne : g ≠ g') (i : Nat) (x : Value) : Blk (w.setCell ⟨g', i, none⟩ x) g cs t := by
 unfold Blk
 rw [Below.heap_setCell _ _ _ _ hne]
 exact h
theorem Blk.on {w w' : World} {B g : Nat} {cs : Array Value} {t : TypeId} (h : Blk w g cs t) (hb : Below B w w') (hg : g < B) : Blk w' g cs t := by
 unfold Blk
 rw [hb.block g hg]
 exact h
theorem Blk.new (w : World) (cs : Array Value) (t : TypeId) : Blk (w.alloc (.cells cs t)) w.heap.size cs t := heap_alloc_new w _
theorem Blk.alloc {w : World} {g : Nat} {cs : Array Value} {t : TypeId} (h : Blk w g cs t) (o : Obj) : Blk (w.alloc o) g cs t := by
 unfold Blk
 rw [Below.heap_alloc w o g h.lt]
 exact h
theorem Owns.other {w : World} {base : Nat} {e : TypeId} {sz : Nat} {v : Value} {rows : List (List Value)} (h : Owns w base e sz v rows) {g : Nat} (hne : v.ownBlock ≠ some g) (i : Nat) (x : Value) : Owns (w.setCell ⟨g, i, none⟩ x) base e sz v rows :=
 h.kept fun k _ hk => Below.heap_setCell _ _ _ _ (fun e => hne (by rw [hk]; exact congrArg some e))
theorem Owns.below {w : World} {base : Nat} {e : TypeId} {sz : Nat} {v : Value} {rows : List (List Value)} (h : Owns w base e sz v rows) {g : Nat} (hg : g < base) : v.ownBlock ≠ some g := fun e => by
 have := (h.lt g e).1
 omega
theorem Owns.shape {w : World} {base : Nat} {e : TypeId} {sz : Nat} {v : Value} {rows : List (List Value)} (h : Owns w base e sz v rows) : ∃ A m c, v = .slice A m c := by
 rcases h.2.2 with ⟨rfl, _⟩ | ⟨g, cap, cur, rfl, _⟩
 ·exact ⟨_, _, _, rfl⟩
 ·exact ⟨_, _, _, rfl⟩
end Go.Proofs.YtpmgndgkmffcnaaGreatDoor
