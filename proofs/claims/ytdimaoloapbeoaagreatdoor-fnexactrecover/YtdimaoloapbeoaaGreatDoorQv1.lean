/- Errs FrLaid DkAid DkRow DkSz DkPut -/
import Derived.Test.YtdimaoloapbeoaaGreatDoorRows
import Derived.Test.YtdimaoloapbeoaaGreatDoorQv0
import Derived.WalkKit
import Derived.Below
import Derived.PlainAid
import Derived.WalkSmall
import Derived.ProofKit
import Derived.OpenShut
import Derived.ChangeVars
import Derived.LaidMore
import Derived.Lay
import Derived.RowKitTokens
import Derived.Stop.LaidErr
import Derived.Stop.LaidTwo
import Derived.Laws.OwnMore
import Derived.OwnWalk
import Derived.WalkLawsBesides
import Derived.Outline
import Derived.BigQuiet
import Derived.Deep.QuietTactic
namespace Go.Proofs.YtdimaoloapbeoaaGreatDoor
open Go.RowKit Go.PlainAid
set_option linter.unusedVariables false
structure Errs (w : World) (a0 a1 a2 : Addr) : Prop where
 v0 : w.var? Tryz.prog "loop.example/g00360/impl.errFrameShort" = some #[.iface 204 (.pointer (some a0))]
 v1 : w.var? Tryz.prog "loop.example/g00360/impl.errFrameLength" = some #[.iface 204 (.pointer (some a1))]
 v2 : w.var? Tryz.prog "loop.example/g00360/impl.errFrameSum" = some #[.iface 204 (.pointer (some a2))]
 n1 : a1 ≠ a0
 n2 : a2 ≠ a0
 h0 : ∃ c t, w.heap[a0.block]? = some (.cells c t (0, 0))
 h1 : ∃ c t, w.heap[a1.block]? = some (.cells c t (0, 0))
 h2 : ∃ c t, w.heap[a2.block]? = some (.cells c t (0, 0))
theorem gShort : Tryz.prog.globalNamed "loop.example/g00360/impl.errFrameShort" = some 0 := by kernel_rfl
theorem gLen : Tryz.prog.globalNamed "loop.example/g00360/impl.errFrameLength" = some 1 := by kernel_rfl
theorem gBad : Tryz.prog.globalNamed "loop.example/g00360/impl.errFrameSum" = some 2 := by kernel_rfl
theorem Errs.c0 {w : World} {a0 a1 a2 : Addr} (h : Errs w a0 a1 a2) : w.cell? ⟨0, 0, none⟩ = some (.iface 204 (.pointer (some a0))) := by simpa using World.var?_cell gShort h.v0 0
theorem Errs.c1 {w : World} {a0 a1 a2 : Addr} (h : Errs w a0 a1 a2) : w.cell? ⟨1, 0, none⟩ = some (.iface 204 (.pointer (some a1))) := by simpa using World.var?_cell gLen h.v1 0
theorem Errs.c2 {w : World} {a0 a1 a2 : Addr} (h : Errs w a0 a1 a2) : w.cell? ⟨2, 0, none⟩ = some (.iface 204 (.pointer (some a2))) := by simpa using World.var?_cell gBad h.v2 0
theorem lt_of_some {w : World} {k : Nat} {x : Obj} (h : w.heap[k]? = some x) : k < w.heap.size := by
 rcases Nat.lt_or_ge k w.heap.size with h' | h'
 ·exact h'
 ·rw [Array.getElem?_eq_none h'] at h
  cases h
theorem Errs.on {w w' : World} {a0 a1 a2 : Addr} (h : Errs w a0 a1 a2) (hb : Below w.heap.size w w') : Errs w' a0 a1 a2 where
 v0 := var?_below hb gShort (World.block_lt_of_cell? _ _ h.c0) h.v0
 v1 := var?_below hb gLen (World.block_lt_of_cell? _ _ h.c1) h.v1
 v2 := var?_below hb gBad (World.block_lt_of_cell? _ _ h.c2) h.v2
 n1 := h.n1
 n2 := h.n2
 h0 := by obtain ⟨c, t, e⟩ := h.h0; exact ⟨c, t, by rw [hb.block _ (lt_of_some e)]; exact e⟩
 h1 := by obtain ⟨c, t, e⟩ := h.h1; exact ⟨c, t, by rw [hb.block _ (lt_of_some e)]; exact e⟩
 h2 := by obtain ⟨c, t, e⟩ := h.h2; exact ⟨c, t, by rw [hb.block _ (lt_of_some e)]; exact e⟩
set_option maxHeartbeats 400000 in
theorem code_short (p : Int) (a0 a1 a2 : Addr) (w : World) (h : Errs w a0 a1 a2) :
  Calls Tryz.prog 115 #[wrapped p a0] w fun e w' => e = .returned (.int .i64 1) ∧ Below w.heap.size w w' := by
 have hc := h.c0
 have c1 := is_wrap_same p a0 w
 clear h
 go_enter Tryz.func115, Tryz.ntmps115
 go_wp2_with fail
 refine c1.mono ?_
 rintro e w1 ⟨rfl, hb1⟩
 go_wp2_with fail
 go_ret
 exact ⟨rfl, hb1⟩
set_option maxHeartbeats 400000 in
theorem code_bad (p : Int) (a a0 a1 a2 : Addr) (w : World) (h : Errs w a0 a1 a2) (ha : a = a1 ∨ a = a2) :
  Calls Tryz.prog 115 #[wrapped p a] w fun e w' => e = .returned (.int .i64 2) ∧ Below w.heap.size w w' := by
 have hc := h.c0
 have c1 : Calls Tryz.prog 120 #[wrapped p a, .iface 204 (.pointer (some a0))] w fun e w' => e = .returned (.bool false) ∧ Below w.heap.size w w' := by
  obtain ⟨c, t, e⟩ := h.h0
  rcases ha with rfl | rfl
  ·obtain ⟨c', t', e'⟩ := h.h1
   exact is_wrap_other p a a0 c' c t' t w h.n1 e' e
  ·obtain ⟨c', t', e'⟩ := h.h2
   exact is_wrap_other p a a0 c' c t' t w h.n2 e' e
 clear h ha
 go_enter Tryz.func115, Tryz.ntmps115
 go_wp2_with fail
 refine c1.mono ?_
 rintro e w1 ⟨rfl, hb1⟩
 go_wp2_with fail
 go_ret
 exact ⟨rfl, hb1⟩
end Go.Proofs.YtdimaoloapbeoaaGreatDoor
namespace Go.Proofs.YtdimaoloapbeoaaGreatDoor
open Go.ChangeShapes Go.WideShapes Go.ChangeAt Go.RowKit
set_option linter.unusedVariables false
theorem own : ownKnob Tryz.prog.godebug = none := by kernel_rfl
theorem typeSum : (Tryz.prog.globals[3]?).map (·.type) = some 203 := by kernel_rfl
theorem typeShort : (Tryz.prog.globals[0]?).map (·.type) = some 157 := by kernel_rfl
theorem typeLen : (Tryz.prog.globals[1]?).map (·.type) = some 157 := by kernel_rfl
theorem typeBad : (Tryz.prog.globals[2]?).map (·.type) = some 157 := by kernel_rfl
theorem cellsSum : Tryz.prog.cellsOf 203 = 16 := by kernel_rfl
theorem cellsU32 : Tryz.prog.cellsOf 183 = 1 := by kernel_rfl
theorem cellsES : Tryz.prog.cellsOf 228 = 1 := by kernel_rfl
theorem cellsStr : Tryz.prog.cellsOf 9 = 1 := by kernel_rfl
theorem sum_data : (Rows.laid_loop_example_g00360_impl_halfSums : DataW Unit) = Lib.tabData .u32 sumTab := by kernel_rfl
theorem star : "*" ++ "errors.errorString" = "*errors.errorString" := by decide
theorem rowES (u : TypeId) (h : Tryz.prog.typeName? 3 u = some "*errors.errorString") : u = 204 :=
 typeName_ptr_named (nm := "errors.errorString") (by rw [star]; kernel_rfl) (by kernel_rfl) (by decide) u (by rw [star]; exact h)
theorem laidMet_skip {P : Program} {x y : String × DataW Unit} {r : List (String × DataW Unit)} {w : World} (h : laidMet P (x :: y :: r) w) : laidMet P (x :: r) w := by
 obtain ⟨ps, hv, hnd, hrows⟩ := h
 obtain ⟨n, d⟩ := x
 obtain ⟨n', d'⟩ := y
 obtain ⟨g, t, cs, fuel, p, q, h1, h2, h3, h4, ⟨g', t', cs', fuel', p', q', _, _, _, _, hq, rfl⟩, rfl⟩ := hv
 refine ⟨_, ⟨g, t, cs, fuel, p, q', h1, h2, h3, h4, hq, rfl⟩, ?_, fun b off hm => hrows b off ?_⟩
 ·exact List.Nodup.sublist (List.Sublist.append_left (List.sublist_append_right _ _) _) hnd
 ·rcases List.mem_append.1 hm with hm | hm
  ·exact List.mem_append_left _ hm
  ·exact List.mem_append_right _ (List.mem_append_right _ hm)
def laid4 : List (String × DataW Unit) := [("loop.example/g00360/impl.halfSums", Rows.laid_loop_example_g00360_impl_halfSums), ("loop.example/g00360/impl.errFrameShort", Rows.laid_loop_example_g00360_impl_errFrameShort), ("loop.example/g00360/impl.errFrameLength", Rows.laid_loop_example_g00360_impl_errFrameLength), ("loop.example/g00360/impl.errFrameSum", Rows.laid_loop_example_g00360_impl_errFrameSum)]
theorem laid4_plain (W : World) (h : laidMetH Tryz.prog laid4 W) : laidMet Tryz.prog laid4 W := by
 rw [MakeChecks.laidMetH_plain _ _ _ (by kernel_rfl)] at h
 exact h
theorem met_sum {W : World} (h : laidMetH Tryz.prog laid4 W) : SumTab W := by
 have h1 := laid4_plain W h
 unfold laid4 at h1
 rw [sum_data] at h1
 exact Lib.tabIs_of_head gSum typeSum Tryz.underlying203 Tryz.underlying183 cellsU32 cellsSum h1
theorem met_errs {W : World} (h : laidMetH Tryz.prog laid4 W) : ∃ a0 a1 a2, Errs W a0 a1 a2 := by
 have h1 := (laid4_plain W h).tail
 obtain ⟨a0, a1, s0, s1, c0, c1, t0, t1, hv0, hv1, _, _, _, _, _, _, hne, hb0, hb1⟩ := laid_sentinels2 h1 gShort typeShort gLen typeLen Tryz.underlying157 rowES Tryz.underlying204 Tryz.underlying228 rfl rfl Tryz.underlying9 cellsES cellsStr
 obtain ⟨a0', a2, s0', s2, c0', c2, t0', t2, hv0', hv2, _, _, _, _, _, _, hne2, hb0', hb2⟩ := laid_sentinels2 (laidMet_skip h1) gShort typeShort gBad typeBad Tryz.underlying157 rowES Tryz.underlying204 Tryz.underlying228 rfl rfl Tryz.underlying9 cellsES cellsStr
 have e : a0' = a0 := by
  have := hv0.symm.trans hv0'
  simp at this
  exact this.symm
 subst e
 exact ⟨a0', a1, a2, hv0, hv1, hv2, hne.symm, hne2.symm, ⟨_, _, hb0⟩, ⟨_, _, hb1⟩, ⟨_, _, hb2⟩⟩
def sumCells : List Value := sumTab.map fun z => Value.int .u32 z
theorem sum_shut {H : Type} (enc : TypeId × Value → H) (W : World) (sp : Nat → Bool) (n : Nat) : DataW.trod enc Tryz.prog W 0 sp true (n + 2) 203 sumCells = some (Lib.tabData .u32 sumTab, []) := by kernel_rfl
def sent (a : Addr) : Value := .iface 204 (.pointer (some a))
theorem sent_iface (a : Addr) : IsIface (sent a) := trivial
theorem vars_errs {H : Type} (enc : TypeId × Value → H) {W : World} {a0 a1 a2 : Addr} (h : Errs W a0 a1 a2) (ht : SumTab W) (sp : Nat → Bool) :
  DataW.TrodVars enc Tryz.prog W sp ["loop.example/g00360/impl.errFrameShort", "loop.example/g00360/impl.errFrameLength", "loop.example/g00360/impl.errFrameSum", "loop.example/g00360/impl.halfSums"]
   [tok enc (sent a0), tok enc (sent a1), tok enc (sent a2), Lib.tabData .u32 sumTab] (.cell 0 0 :: .cell 1 0 :: .cell 2 0 :: (MemPlace.row ⟨3, 0, none⟩ 16 ++ [] ++ [])) :=
 ⟨_, _, #[sent a0], 1, [], _, gShort, typeShort, h.v0, trod_held Tryz.underlying157 (sent_iface a0) 0, ⟨_, _, #[sent a1], 1, [], _, gLen, typeLen, h.v1, trod_held Tryz.underlying157 (sent_iface a1) 0, ⟨_, _, #[sent a2], 1, [], _, gBad, typeBad, h.v2, trod_held Tryz.underlying157 (sent_iface a2) 0,
  ⟨_, _, _, 2, [], [], gSum, typeSum, ht, sum_shut enc W sp 0, rfl, rfl⟩, rfl⟩, rfl⟩, rfl⟩
end Go.Proofs.YtdimaoloapbeoaaGreatDoor
namespace Go.Proofs.YtdimaoloapbeoaaGreatDoor
open Go.RowKit Go.PlainAid
structure Nod where
 id : Int
 data : ByteArray
 sure : Int
structure Lnk where
 name : ByteArray
 id : Int
structure Mov where
 kind : Int
 name : ByteArray
 to : ByteArray
 id : Int
structure Dsk where
 room : Int
 next : Int
 nods : List Nod
 dir : List Lnk
 movs : List Mov
instance : Inhabited Nod := ⟨⟨0, ByteArray.empty, 0⟩⟩
instance : Inhabited Lnk := ⟨⟨ByteArray.empty, 0⟩⟩
instance : Inhabited Mov := ⟨⟨0, ByteArray.empty, ByteArray.empty, 0⟩⟩
def nameB (b : Nat) : Bool := (97 ≤ b && b ≤ 122) || (48 ≤ b && b ≤ 57) || b == 46
def nameOk (s : ByteArray) : Bool := decide (1 ≤ s.size) && decide (s.size ≤ 12) && (List.range s.size).all fun j => nameB (bn s j)
def linkAt (l : List Lnk) (name : ByteArray) : Option Nat := l.findIdx? fun x => decide (x.name = name)
def without (l : List Lnk) (name : ByteArray) : List Lnk := l.filter fun x => decide (x.name ≠ name)
def ahead (a b : ByteArray) : Bool := Op.bytesLess a.toList b.toList
def ins (x : Lnk) : List Lnk → List Lnk
 | [] => [x]
 | y :: r => if ahead x.name y.name then x :: y :: r else y :: ins x r
def withL (l : List Lnk) (x : Lnk) : List Lnk := ins x (without l x.name)
def apply (l : List Lnk) (m : Mov) : Option (List Lnk) :=
 if nameOk m.name = false then none
 else if m.kind = 1 ∧ m.to.size = 0 ∧ linkAt l m.name = none then some (withL l ⟨m.name, m.id⟩)
 else match linkAt l m.name with
  | some i =>
   if m.kind = 2 ∧ m.id = 0 ∧ nameOk m.to = true ∧ m.to ≠ m.name then some (withL (without l m.name) ⟨m.to, (l.getD i default).id⟩)
   else if m.kind = 3 ∧ m.id = 0 ∧ m.to.size = 0 then some (without l m.name)
   else none
  | none => none
def names (l : List Lnk) : List Mov → List Lnk
 | [] => l
 | m :: r => names ((apply l m).getD l) r
def nodAt (l : List Nod) (id : Int) : Option Nat := l.findIdx? fun x => decide (x.id = id)
def linked (l : List Lnk) (id : Int) : Bool := l.any fun x => decide (x.id = id)
def made (l : List Mov) (id : Int) : Bool := l.any fun m => decide (m.kind = 1) && decide (m.id = id)
def bytesOf : List Nod → Nat
 | [] => 0
 | x :: r => x.data.size + bytesOf r
end Go.Proofs.YtdimaoloapbeoaaGreatDoor
namespace Go.Proofs.YtdimaoloapbeoaaGreatDoor
open Go.RowKit Go.PlainAid
def Lies (w : World) (B sz : Nat) (v : Value) (rows : List (List Value)) : Prop :=
 ∃ A cap, v = .slice A rows.length cap ∧ ((A = none → cap = 0) ∧ rows.length ≤ cap) ∧ (∀ r ∈ rows, r.length = sz) ∧ (rows.length = 0 ∨ ∃ g off, A = some ⟨g, off, none⟩ ∧ g < B ∧ ∀ k x, rows.flatten[k]? = some x → w.cell? ⟨g, off + k, none⟩ = some x)
theorem Lies.on {w w' : World} {B sz : Nat} {v : Value} {rows : List (List Value)} (h : Lies w B sz v rows) (hb : Below B w w') : Lies w' B sz v rows := by
 obtain ⟨A, cap, e, hz, hs, h⟩ := h
 refine ⟨A, cap, e, hz, hs, h.imp id ?_⟩
 rintro ⟨g, off, rfl, hg, hc⟩
 refine ⟨g, off, rfl, hg, fun k x hx => ?_⟩
 rw [← hc k x hx]
 exact World.cell?_of_block (w := w) (hb.block g hg)
theorem Lies.heap {w w' : World} {B sz : Nat} {v : Value} {rows : List (List Value)} (h : Lies w B sz v rows) (hh : w'.heap = w.heap) : Lies w' B sz v rows := by
 obtain ⟨A, cap, e, hz, hs, h⟩ := h
 refine ⟨A, cap, e, hz, hs, h.imp id ?_⟩
 rintro ⟨g, off, rfl, hg, hc⟩
 refine ⟨g, off, rfl, hg, fun k x hx => ?_⟩
 rw [← hc k x hx]
 exact World.cell?_of_block (w := w) (by rw [hh])
theorem Lies.mono {w : World} {B C sz : Nat} {v : Value} {rows : List (List Value)} (h : Lies w B sz v rows) (hB : B ≤ C) : Lies w C sz v rows := by
 obtain ⟨A, cap, e, hz, hs, h⟩ := h
 refine ⟨A, cap, e, hz, hs, h.imp id ?_⟩
 rintro ⟨g, off, rfl, hg, hc⟩
 exact ⟨g, off, rfl, by omega, hc⟩
theorem flat_at (sz : Nat) : ∀ (rows : List (List Value)), (∀ r ∈ rows, r.length = sz) → ∀ (j f : Nat) (hj : j < rows.length), f < sz → rows.flatten[j * sz + f]? = (rows[j])[f]?
 | [], _, j, f, hj, _ => by simp at hj
 | r :: rs, hs, 0, f, _, hf => by
  have := hs r (by simp)
  simp only [List.flatten_cons, Nat.zero_mul, Nat.zero_add, List.getElem_cons_zero]
  rw [List.getElem?_append_left (by omega)]
 | r :: rs, hs, j + 1, f, hj, hf => by
  have hr := hs r (by simp)
  have ih := flat_at sz rs (fun r hr => hs r (by simp [hr])) j f (by simp at hj; omega) hf
  simp only [List.flatten_cons, List.getElem_cons_succ]
  rw [List.getElem?_append_right (by rw [hr, Nat.succ_mul]; omega), ← ih, hr]
  congr 1
  rw [Nat.succ_mul]
  omega
theorem flat_length (sz : Nat) (rows : List (List Value)) (hs : ∀ r ∈ rows, r.length = sz) : rows.flatten.length = rows.length * sz := by
 induction rows with
 | nil => simp
 | cons r rs ih =>
  rw [List.flatten_cons, List.length_append, ih (fun r hr => hs r (by simp [hr])), hs r (by simp), List.length_cons, Nat.succ_mul]
  omega
theorem Lies.look {w : World} {B sz : Nat} {v : Value} {rows : List (List Value)} (h : Lies w B sz v rows) : ∃ A cap, v = .slice A rows.length cap ∧ ∀ j (hj : j < rows.length), ∃ g off, A = some ⟨g, off, none⟩ ∧ g < B ∧ ∀ f x, f < sz → (rows[j])[f]? = some x → w.cell? ⟨g, off + (j * sz + f), none⟩ = some x := by
 obtain ⟨A, cap, rfl, _, hs, h⟩ := h
 refine ⟨A, cap, rfl, fun j hj => ?_⟩
 rcases h with h | ⟨g, off, rfl, hg, hc⟩
 ·omega
 ·exact ⟨g, off, rfl, hg, fun f x hf hx => hc _ x (by rw [flat_at sz rows hs j f hj hf]; exact hx)⟩
theorem Lies.room {w : World} {B sz : Nat} {A : Option Addr} {n c : Nat} {rows : List (List Value)} (h : Lies w B sz (.slice A n c) rows) : n = rows.length ∧ n ≤ c := by
 obtain ⟨A', c', e, hz, _⟩ := h
 cases e
 exact ⟨rfl, hz.2⟩
theorem Lies.first {w : World} {B sz : Nat} {A : Option Addr} {n c : Nat} {rows : List (List Value)} (h : Lies w B sz (.slice A n c) rows) (k : Nat) (hk : k ≤ rows.length) : Lies w B sz (.slice A k c) (rows.take k) := by
 obtain ⟨A', c', e, hz, hs, h⟩ := h
 cases e
 have hl : (rows.take k).length = k := by rw [List.length_take]; omega
 refine ⟨A, c, by rw [hl], ⟨hz.1, by rw [hl]; exact Nat.le_trans hk hz.2⟩, fun r hr => hs r (List.mem_of_mem_take hr), ?_⟩
 rw [hl]
 rcases h with h | ⟨g, off, rfl, hg, hc⟩
 ·exact .inl (by omega)
 ·refine .inr ⟨g, off, rfl, hg, fun j x hx => hc j x ?_⟩
  rw [← List.take_append_drop k rows, List.flatten_append, List.getElem?_append_left ((List.getElem?_eq_some_iff.1 hx).1)]
  exact hx
def Owns (w : World) (base : Nat) (e : TypeId) (sz : Nat) (v : Value) (rows : List (List Value)) : Prop := (∀ r ∈ rows, r.length = sz) ∧ w.ownsRow base e sz v rows.length rows.flatten
theorem Owns.lt {w : World} {base : Nat} {e : TypeId} {sz : Nat} {v : Value} {rows : List (List Value)} (h : Owns w base e sz v rows) : ∀ k, v.ownBlock = some k → base ≤ k ∧ k < w.heap.size := World.ownsRow.lt h.2
theorem Owns.lies {w : World} {base : Nat} {e : TypeId} {sz : Nat} {v : Value} {rows : List (List Value)} (h : Owns w base e sz v rows) : Lies w w.heap.size sz v rows := by
 have hlt := h.lt
 have hc := fun g hg => World.ownsRow.cells h.2 (g := g) hg
 rcases h.2.2 with ⟨rfl, h0⟩ | ⟨g, cap, cur, rfl, _, _, hcap, _⟩
 ·exact ⟨none, 0, by rw [h0], ⟨fun _ => rfl, by omega⟩, h.1, .inl h0⟩
 ·refine ⟨_, cap, rfl, ⟨fun e => (by cases e), hcap⟩, h.1, .inr ⟨g, 0, rfl, (hlt g rfl).2, fun k x hx => ?_⟩⟩
  have e : (⟨g, 0, none⟩ : Addr).add k = ⟨g, 0 + k, none⟩ := by cases k <;> simp [Addr.add]
  rw [← e]
  exact hc g rfl k x hx
theorem Owns.kept {w w' : World} {base : Nat} {e : TypeId} {sz : Nat} {v : Value} {rows : List (List Value)} (h : Owns w base e sz v rows) (hk : ∀ g, g < w.heap.size → v.ownBlock = some g → w'.heap[g]? = w.heap[g]?) : Owns w' base e sz v rows := by
 have hl := h.lt
 refine ⟨h.1, h.2.1, h.2.2.imp id ?_⟩
 rintro ⟨g, cap, cur, rfl, hg, hh, r⟩
 refine ⟨g, cap, cur, rfl, hg, ?_, r⟩
 rw [hk g (hl g rfl).2 rfl]
 exact hh
theorem Owns.on {w w' : World} {base : Nat} {e : TypeId} {sz : Nat} {v : Value} {rows : List (List Value)} (h : Owns w base e sz v rows) (hb : Below w.heap.size w w') : Owns w' base e sz v rows := h.kept fun g hg _ => hb.block g hg
theorem Owns.heap {w w' : World} {base : Nat} {e : TypeId} {sz : Nat} {v : Value} {rows : List (List Value)} (h : Owns w base e sz v rows) (hh : w'.heap = w.heap) : Owns w' base e sz v rows := h.kept fun g _ _ => by rw [hh]
theorem Owns.mono {w : World} {base base' : Nat} {e : TypeId} {sz : Nat} {v : Value} {rows : List (List Value)} (h : Owns w base e sz v rows) (hb : base' ≤ base) : Owns w base' e sz v rows :=
 ⟨h.1, h.2.1, h.2.2.imp id fun ⟨g, cap, cur, e, hg, r⟩ => ⟨g, cap, cur, e, Nat.le_trans hb hg, r⟩⟩
def nodC (x : Nod) : List Value := [.int .i64 x.id, .string x.data, .int .i64 x.sure]
def lnkC (x : Lnk) : List Value := [.string x.name, .int .i64 x.id]
def movC (x : Mov) : List Value := [.int .i64 x.kind, .string x.name, .string x.to, .int .i64 x.id]
def nodR (l : List Nod) : List (List Value) := l.map nodC
def lnkR (l : List Lnk) : List (List Value) := l.map lnkC
def movR (l : List Mov) : List (List Value) := l.map movC
theorem getD_mem {α : Type} [Inhabited α] (l : List α) (j : Nat) (h : j < l.length) : l.getD j default ∈ l := by
 rw [List.getD_eq_getElem?_getD, List.getElem?_eq_getElem h]
 exact List.getElem_mem h
theorem getD_at {α : Type} [Inhabited α] (l : List α) (j : Nat) (h : j < l.length) : l[j] = l.getD j default := by
 rw [List.getD_eq_getElem?_getD, List.getElem?_eq_getElem h]
 rfl
theorem take_getD {α : Type} [Inhabited α] (l : List α) (j : Nat) (h : j < l.length) : l.take (j + 1) = l.take j ++ [l.getD j default] := by
 rw [List.take_add_one, List.getElem?_eq_getElem h, ← getD_at l j h]
 rfl
theorem nodR_snoc (l : List Nod) (k : Nat) (h : k < l.length) : nodR (l.take (k + 1)) = nodR (l.take k) ++ [nodC (l.getD k default)] := by
 unfold nodR
 rw [take_getD l k h, List.map_append]
 rfl
theorem nodR_length (l : List Nod) : (nodR l).length = l.length := by simp [nodR]
theorem lnkR_snoc (l : List Lnk) (k : Nat) (h : k < l.length) : lnkR (l.take (k + 1)) = lnkR (l.take k) ++ [lnkC (l.getD k default)] := by
 unfold lnkR
 rw [take_getD l k h, List.map_append]
 rfl
theorem lnkR_length (l : List Lnk) : (lnkR l).length = l.length := by simp [lnkR]
theorem lnkR_append (l m : List Lnk) : lnkR (l ++ m) = lnkR l ++ lnkR m := by simp [lnkR]
theorem movR_snoc (l : List Mov) (k : Nat) (h : k < l.length) : movR (l.take (k + 1)) = movR (l.take k) ++ [movC (l.getD k default)] := by
 unfold movR
 rw [take_getD l k h, List.map_append]
 rfl
theorem movR_length (l : List Mov) : (movR l).length = l.length := by simp [movR]
theorem nod_look {w : World} {B : Nat} {v : Value} {l : List Nod} (h : Lies w B 3 v (nodR l)) : ∃ A cap, v = .slice A l.length cap ∧ ∀ j, j < l.length → ∃ g off, A = some ⟨g, off, none⟩ ∧ g < B ∧
  w.cell? ⟨g, off + j * 3, none⟩ = some (.int .i64 (l.getD j default).id) ∧ w.cell? ⟨g, off + j * 3 + 1, none⟩ = some (.string (l.getD j default).data) ∧ w.cell? ⟨g, off + j * 3 + 2, none⟩ = some (.int .i64 (l.getD j default).sure) := by
 obtain ⟨A, cap, e, h⟩ := h.look
 refine ⟨A, cap, by rw [e]; simp [nodR], fun j hj => ?_⟩
 rw [← getD_at l j hj]
 obtain ⟨g, off, e, hg, hc⟩ := h j (by simpa [nodR] using hj)
 refine ⟨g, off, e, hg, ?_, ?_, ?_⟩
 ·have := hc 0 _ (by omega) (by simp [nodR, nodC]; rfl); simpa [Nat.add_assoc] using this
 ·have := hc 1 _ (by omega) (by simp [nodR, nodC]; rfl); simpa [Nat.add_assoc] using this
 ·have := hc 2 _ (by omega) (by simp [nodR, nodC]; rfl); simpa [Nat.add_assoc] using this
theorem lnk_look {w : World} {B : Nat} {v : Value} {l : List Lnk} (h : Lies w B 2 v (lnkR l)) : ∃ A cap, v = .slice A l.length cap ∧ ∀ j, j < l.length → ∃ g off, A = some ⟨g, off, none⟩ ∧ g < B ∧
  w.cell? ⟨g, off + j * 2, none⟩ = some (.string (l.getD j default).name) ∧ w.cell? ⟨g, off + j * 2 + 1, none⟩ = some (.int .i64 (l.getD j default).id) := by
 obtain ⟨A, cap, e, h⟩ := h.look
 refine ⟨A, cap, by rw [e]; simp [lnkR], fun j hj => ?_⟩
 rw [← getD_at l j hj]
 obtain ⟨g, off, e, hg, hc⟩ := h j (by simpa [lnkR] using hj)
 refine ⟨g, off, e, hg, ?_, ?_⟩
 ·have := hc 0 _ (by omega) (by simp [lnkR, lnkC]; rfl); simpa [Nat.add_assoc] using this
 ·have := hc 1 _ (by omega) (by simp [lnkR, lnkC]; rfl); simpa [Nat.add_assoc] using this
theorem mov_look {w : World} {B : Nat} {v : Value} {l : List Mov} (h : Lies w B 4 v (movR l)) : ∃ A cap, v = .slice A l.length cap ∧ ∀ j, j < l.length → ∃ g off, A = some ⟨g, off, none⟩ ∧ g < B ∧
  w.cell? ⟨g, off + j * 4, none⟩ = some (.int .i64 (l.getD j default).kind) ∧ w.cell? ⟨g, off + j * 4 + 1, none⟩ = some (.string (l.getD j default).name) ∧ w.cell? ⟨g, off + j * 4 + 2, none⟩ = some (.string (l.getD j default).to) ∧ w.cell? ⟨g, off + j * 4 + 3, none⟩ = some (.int .i64 (l.getD j default).id) := by
 obtain ⟨A, cap, e, h⟩ := h.look
 refine ⟨A, cap, by rw [e]; simp [movR], fun j hj => ?_⟩
 rw [← getD_at l j hj]
 obtain ⟨g, off, e, hg, hc⟩ := h j (by simpa [movR] using hj)
 refine ⟨g, off, e, hg, ?_, ?_, ?_, ?_⟩
 ·have := hc 0 _ (by omega) (by simp [movR, movC]; rfl); simpa [Nat.add_assoc] using this
 ·have := hc 1 _ (by omega) (by simp [movR, movC]; rfl); simpa [Nat.add_assoc] using this
 ·have := hc 2 _ (by omega) (by simp [movR, movC]; rfl); simpa [Nat.add_assoc] using this
 ·have := hc 3 _ (by omega) (by simp [movR, movC]; rfl); simpa [Nat.add_assoc] using this
end Go.Proofs.YtdimaoloapbeoaaGreatDoor
namespace Go.Proofs.YtdimaoloapbeoaaGreatDoor
open Go.ChangeShapes Go.WideShapes Go.ChangeAt Go.RowKit Go.PlainAid
set_option linter.unusedVariables false
def wtN1 (x : Nod) : Nat := x.data.size
def wtN : List Nod → Nat
 | [] => 0
 | x :: r => wtN1 x + wtN r
theorem wtN_snoc (l : List Nod) (k : Nat) (h : k < l.length) : wtN (l.take (k + 1)) = wtN (l.take k) + wtN1 (l.getD k default) := by
 rw [← getD_at l k h]
 induction l generalizing k with
 | nil => simp at h
 | cons x r ih =>
  cases k with
  | zero => simp [wtN]
  | succ k => simp only [List.take_succ_cons, wtN, List.getElem_cons_succ]; rw [ih k (by simpa using h)]; omega
def vNod (x : Nod) : Value := .agg #[.int .i64 x.id, .string x.data, .int .i64 x.sure]
set_option maxHeartbeats 400000 in
theorem szInode (x : Nod) (left : Int) (w : World) (h0 : 0 ≤ left) (h1 : left ≤ 1048576) (hx : x.data.size ≤ maxLen) :
  Calls Tryz.prog 40 #[vNod x, .int .i64 left] w fun e w' => (∃ r, e = .returned (.int .i64 r) ∧ Hid (r = -1 ∨ 0 ≤ r ∧ r + (wtN1 x : Int) = left)) ∧ Below w.heap.size w w' := by
 unfold maxLen at hx
 unfold vNod wtN1
 obtain ⟨xid, xdata, xsure⟩ := x
 simp only at hx ⊢
 generalize hn : xdata.size = n at *
 have q1 : (n : Int) ≤ 9223372036854775807 := by omega
 have w2 : wrap64 (left - (n : Int)) = left - (n : Int) := by unfold wrap64; omega
 by_cases hl : left < (n : Int)
 ·have HL : Hid (left < (n : Int)) := hl
  have q2 : left - (n : Int) < 0 := by omega
  go_enter Tryz.func40, Tryz.ntmps40
  go_wp2
  go_ret
  exact ⟨⟨_, rfl, .inl rfl⟩, (Below.refl _ _).alloc (Nat.le_refl _) _⟩
 ·have HL : Hid ((n : Int) ≤ left) := by unfold Hid; omega
  have q2 : 0 ≤ left - (n : Int) := by omega
  have q3 : decide (left - (n : Int) < 0) = false := decide_eq_false (by omega)
  go_enter Tryz.func40, Tryz.ntmps40
  go_wp2
  go_ret
  exact ⟨⟨_, rfl, .inr ⟨by have := HL.out; omega, by omega⟩⟩, (Below.refl _ _).alloc (Nat.le_refl _) _⟩
set_option maxHeartbeats 1000000 in
theorem szInodeS (l : List Nod) (v : Value) (left : Int) (w : World) (B : Nat) (hv : Lies w B 3 v (nodR l)) (hd : ∀ x ∈ l, x.data.size ≤ maxLen) (hn : l.length ≤ maxLen) (h0 : 0 ≤ left) (h1 : left ≤ 1048576) (hB : B ≤ w.heap.size) :
  Calls Tryz.prog 13 #[v, .int .i64 left] w fun e w' => ∃ r : Int, e = .returned (.int .i64 r) ∧ (r = -1 ∨ 0 ≤ r ∧ r + ((l.length + wtN l : Nat) : Int) = left) ∧ Below w.heap.size w w' := by
 unfold maxLen at hn
 obtain ⟨A, cap, rfl, hl⟩ := nod_look hv
 have HL : Hid (∀ j, j < l.length → ∃ g off, A = some ⟨g, off, none⟩ ∧ g < B ∧ _) := hl
 have HD : Hid (∀ x ∈ l, x.data.size ≤ maxLen) := hd
 have HB : Hid (B ≤ w.heap.size) := hB
 clear hl hd hB hv
 have q1 : (l.length : Int) ≤ 9223372036854775807 := by omega
 have w2 : wrap64 (left - (l.length : Int)) = left - (l.length : Int) := by unfold wrap64; omega
 by_cases hs : left < (l.length : Int)
 ·have q2 : left - (l.length : Int) < 0 := by omega
  go_enter Tryz.func13, Tryz.ntmps13
  go_wp2_with fail
  go_ret
  exact ⟨-1, rfl, .inl rfl, Below.refl _ _⟩
 ·have q2 : 0 ≤ left - (l.length : Int) := by omega
  have q3 : decide (left - (l.length : Int) < 0) = false := decide_eq_false (by omega)
  have HQ : Hid (0 ≤ left - (l.length : Int)) := q2
  generalize hN : l.length = n at *
  go_enter Tryz.func13, Tryz.ntmps13
  go_wp2_with fail
  clear q2 q3 w2
  go_loopw [1, 5] (fun v1 v5 wr => ∃ (k : Nat) (r : Int), k ≤ n ∧ v5 = .int .i64 (k : Int) ∧ v1 = .int .i64 r ∧ 0 ≤ r ∧ r + ((n + wtN (l.take k) : Nat) : Int) = left ∧ Below w.heap.size w wr) (fun _ i _ => n - (intOf i).toNat)
  case atStart => exact ⟨0, left - (n : Int), by omega, rfl, rfl, HQ.out, by simp [wtN], Below.refl _ _⟩
  case round =>
   obtain ⟨k, r, hk, rfl, rfl, hr0, hr, hb⟩ := hrel
   have HR : Hid (r + ((n + wtN (l.take k) : Nat) : Int) = left) := hr
   have HB1 : Hid (Below w.heap.size w wr) := hb
   have q9 : r ≤ 1048576 := by omega
   clear hr hb
   by_cases hlt : k < n
   ·have q4 : (k : Int) < (n : Int) := by omega
    obtain ⟨g, off, rfl, hg, hc0, hc1, hc2⟩ := HL.out k (by omega)
    have hgw : g < w.heap.size := Nat.lt_of_lt_of_le hg HB.out
    rw [← HB1.out.cell (p := ⟨_, _, none⟩) hgw] at hc0
    rw [← HB1.out.cell (p := ⟨_, _, none⟩) hgw] at hc1
    rw [← HB1.out.cell (p := ⟨_, _, none⟩) hgw] at hc2
    have c1 := fun wx => szInode (l.getD k default) r wx hr0 q9 (HD.out _ (getD_mem l k (by omega)))
    have HW : Hid (wtN (l.take (k + 1)) = wtN (l.take k) + wtN1 (l.getD k default)) := wtN_snoc l k (by omega)
    unfold vNod at c1
    generalize wtN1 (l.getD k default) = t at *
    generalize l.getD k default = x at *
    go_wp2_with fail
    refine (c1 _).mono ?_
    rintro e w2 ⟨⟨r2, rfl, hr2⟩, hb2⟩
    have HR2 : Hid (r2 = -1 ∨ 0 ≤ r2 ∧ r2 + (t : Int) = r) := hr2
    have HB2 : Hid (Below w.heap.size w w2) := HB1.out.trans (hb2.mono HB1.out.size)
    clear hr2 hb2
    rcases HR2.out with rfl | ⟨hp, hq⟩
    ·go_wp2_with fail
     go_ret
     exact ⟨-1, rfl, .inl rfl, HB2.out⟩
    ·have q5 : decide (r2 < 0) = false := decide_eq_false (by omega)
     have HQ2 : Hid (r2 + (t : Int) = r) := hq
     clear hq
     go_wp2_with fail
     go_roundw
     case rel => exact ⟨k + 1, r2, by omega, by go_num, rfl, hp, by have := HR.out; have := HQ2.out; rw [HW.out]; omega, HB2.out⟩
     case measure => simp [intOf]; omega
   ·obtain rfl : k = n := by omega
    go_wp2_with fail
    go_ret
    exact ⟨r, rfl, .inr ⟨hr0, by have := HR.out; rw [← hN, List.take_length] at this; rw [← hN]; exact this⟩, HB1.out⟩
def wtL1 (x : Lnk) : Nat := x.name.size
def wtL : List Lnk → Nat
 | [] => 0
 | x :: r => wtL1 x + wtL r
theorem wtL_snoc (l : List Lnk) (k : Nat) (h : k < l.length) : wtL (l.take (k + 1)) = wtL (l.take k) + wtL1 (l.getD k default) := by
 rw [← getD_at l k h]
 induction l generalizing k with
 | nil => simp at h
 | cons x r ih =>
  cases k with
  | zero => simp [wtL]
  | succ k => simp only [List.take_succ_cons, wtL, List.getElem_cons_succ]; rw [ih k (by simpa using h)]; omega
def vLnk (x : Lnk) : Value := .agg #[.string x.name, .int .i64 x.id]
set_option maxHeartbeats 400000 in
theorem szLink (x : Lnk) (left : Int) (w : World) (h0 : 0 ≤ left) (h1 : left ≤ 1048576) (hx : x.name.size ≤ maxLen) :
  Calls Tryz.prog 41 #[vLnk x, .int .i64 left] w fun e w' => (∃ r, e = .returned (.int .i64 r) ∧ Hid (r = -1 ∨ 0 ≤ r ∧ r + (wtL1 x : Int) = left)) ∧ Below w.heap.size w w' := by
 unfold maxLen at hx
 unfold vLnk wtL1
 obtain ⟨xname, xid⟩ := x
 simp only at hx ⊢
 generalize hn : xname.size = n at *
 have q1 : (n : Int) ≤ 9223372036854775807 := by omega
 have w2 : wrap64 (left - (n : Int)) = left - (n : Int) := by unfold wrap64; omega
 by_cases hl : left < (n : Int)
 ·have HL : Hid (left < (n : Int)) := hl
  have q2 : left - (n : Int) < 0 := by omega
  go_enter Tryz.func41, Tryz.ntmps41
  go_wp2
  go_ret
  exact ⟨⟨_, rfl, .inl rfl⟩, (Below.refl _ _).alloc (Nat.le_refl _) _⟩
 ·have HL : Hid ((n : Int) ≤ left) := by unfold Hid; omega
  have q2 : 0 ≤ left - (n : Int) := by omega
  have q3 : decide (left - (n : Int) < 0) = false := decide_eq_false (by omega)
  go_enter Tryz.func41, Tryz.ntmps41
  go_wp2
  go_ret
  exact ⟨⟨_, rfl, .inr ⟨by have := HL.out; omega, by omega⟩⟩, (Below.refl _ _).alloc (Nat.le_refl _) _⟩
set_option maxHeartbeats 1000000 in
theorem szLinkS (l : List Lnk) (v : Value) (left : Int) (w : World) (B : Nat) (hv : Lies w B 2 v (lnkR l)) (hd : ∀ x ∈ l, x.name.size ≤ maxLen) (hn : l.length ≤ maxLen) (h0 : 0 ≤ left) (h1 : left ≤ 1048576) (hB : B ≤ w.heap.size) :
  Calls Tryz.prog 14 #[v, .int .i64 left] w fun e w' => ∃ r : Int, e = .returned (.int .i64 r) ∧ (r = -1 ∨ 0 ≤ r ∧ r + ((l.length + wtL l : Nat) : Int) = left) ∧ Below w.heap.size w w' := by
 unfold maxLen at hn
 obtain ⟨A, cap, rfl, hl⟩ := lnk_look hv
 have HL : Hid (∀ j, j < l.length → ∃ g off, A = some ⟨g, off, none⟩ ∧ g < B ∧ _) := hl
 have HD : Hid (∀ x ∈ l, x.name.size ≤ maxLen) := hd
 have HB : Hid (B ≤ w.heap.size) := hB
 clear hl hd hB hv
 have q1 : (l.length : Int) ≤ 9223372036854775807 := by omega
 have w2 : wrap64 (left - (l.length : Int)) = left - (l.length : Int) := by unfold wrap64; omega
 by_cases hs : left < (l.length : Int)
 ·have q2 : left - (l.length : Int) < 0 := by omega
  go_enter Tryz.func14, Tryz.ntmps14
  go_wp2_with fail
  go_ret
  exact ⟨-1, rfl, .inl rfl, Below.refl _ _⟩
 ·have q2 : 0 ≤ left - (l.length : Int) := by omega
  have q3 : decide (left - (l.length : Int) < 0) = false := decide_eq_false (by omega)
  have HQ : Hid (0 ≤ left - (l.length : Int)) := q2
  generalize hN : l.length = n at *
  go_enter Tryz.func14, Tryz.ntmps14
  go_wp2_with fail
  clear q2 q3 w2
  go_loopw [1, 5] (fun v1 v5 wr => ∃ (k : Nat) (r : Int), k ≤ n ∧ v5 = .int .i64 (k : Int) ∧ v1 = .int .i64 r ∧ 0 ≤ r ∧ r + ((n + wtL (l.take k) : Nat) : Int) = left ∧ Below w.heap.size w wr) (fun _ i _ => n - (intOf i).toNat)
  case atStart => exact ⟨0, left - (n : Int), by omega, rfl, rfl, HQ.out, by simp [wtL], Below.refl _ _⟩
  case round =>
   obtain ⟨k, r, hk, rfl, rfl, hr0, hr, hb⟩ := hrel
   have HR : Hid (r + ((n + wtL (l.take k) : Nat) : Int) = left) := hr
   have HB1 : Hid (Below w.heap.size w wr) := hb
   have q9 : r ≤ 1048576 := by omega
   clear hr hb
   by_cases hlt : k < n
   ·have q4 : (k : Int) < (n : Int) := by omega
    obtain ⟨g, off, rfl, hg, hc0, hc1⟩ := HL.out k (by omega)
    have hgw : g < w.heap.size := Nat.lt_of_lt_of_le hg HB.out
    rw [← HB1.out.cell (p := ⟨_, _, none⟩) hgw] at hc0
    rw [← HB1.out.cell (p := ⟨_, _, none⟩) hgw] at hc1
    have c1 := fun wx => szLink (l.getD k default) r wx hr0 q9 (HD.out _ (getD_mem l k (by omega)))
    have HW : Hid (wtL (l.take (k + 1)) = wtL (l.take k) + wtL1 (l.getD k default)) := wtL_snoc l k (by omega)
    unfold vLnk at c1
    generalize wtL1 (l.getD k default) = t at *
    generalize l.getD k default = x at *
    go_wp2_with fail
    refine (c1 _).mono ?_
    rintro e w2 ⟨⟨r2, rfl, hr2⟩, hb2⟩
    have HR2 : Hid (r2 = -1 ∨ 0 ≤ r2 ∧ r2 + (t : Int) = r) := hr2
    have HB2 : Hid (Below w.heap.size w w2) := HB1.out.trans (hb2.mono HB1.out.size)
    clear hr2 hb2
    rcases HR2.out with rfl | ⟨hp, hq⟩
    ·go_wp2_with fail
     go_ret
     exact ⟨-1, rfl, .inl rfl, HB2.out⟩
    ·have q5 : decide (r2 < 0) = false := decide_eq_false (by omega)
     have HQ2 : Hid (r2 + (t : Int) = r) := hq
     clear hq
     go_wp2_with fail
     go_roundw
     case rel => exact ⟨k + 1, r2, by omega, by go_num, rfl, hp, by have := HR.out; have := HQ2.out; rw [HW.out]; omega, HB2.out⟩
     case measure => simp [intOf]; omega
   ·obtain rfl : k = n := by omega
    go_wp2_with fail
    go_ret
    exact ⟨r, rfl, .inr ⟨hr0, by have := HR.out; rw [← hN, List.take_length] at this; rw [← hN]; exact this⟩, HB1.out⟩
def wtM1 (x : Mov) : Nat := x.name.size + x.to.size
def wtM : List Mov → Nat
 | [] => 0
 | x :: r => wtM1 x + wtM r
theorem wtM_snoc (l : List Mov) (k : Nat) (h : k < l.length) : wtM (l.take (k + 1)) = wtM (l.take k) + wtM1 (l.getD k default) := by
 rw [← getD_at l k h]
 induction l generalizing k with
 | nil => simp at h
 | cons x r ih =>
  cases k with
  | zero => simp [wtM]
  | succ k => simp only [List.take_succ_cons, wtM, List.getElem_cons_succ]; rw [ih k (by simpa using h)]; omega
def vMov (x : Mov) : Value := .agg #[.int .i64 x.kind, .string x.name, .string x.to, .int .i64 x.id]
set_option maxHeartbeats 400000 in
theorem szMove (x : Mov) (left : Int) (w : World) (h0 : 0 ≤ left) (h1 : left ≤ 1048576) (hx : x.name.size ≤ maxLen ∧ x.to.size ≤ maxLen) :
  Calls Tryz.prog 42 #[vMov x, .int .i64 left] w fun e w' => (∃ r, e = .returned (.int .i64 r) ∧ Hid (r = -1 ∨ 0 ≤ r ∧ r + (wtM1 x : Int) = left)) ∧ Below w.heap.size w w' := by
 unfold maxLen at hx
 unfold vMov wtM1
 obtain ⟨xkind, xname, xto, xid⟩ := x
 simp only at hx ⊢
 obtain ⟨hx1, hx2⟩ := hx
 generalize hn : xname.size = n at *
 generalize hm : xto.size = m at *
 have q1 : (n : Int) ≤ 9223372036854775807 := by omega
 have q4 : (m : Int) ≤ 9223372036854775807 := by omega
 have w2 : wrap64 (left - (n : Int)) = left - (n : Int) := by unfold wrap64; omega
 by_cases hl : left < (n : Int)
 ·have HL : Hid (left < ((n + m : Nat) : Int)) := by unfold Hid; omega
  have q2 : left - (n : Int) < 0 := by omega
  go_enter Tryz.func42, Tryz.ntmps42
  go_wp2
  go_ret
  exact ⟨⟨_, rfl, .inl rfl⟩, (Below.refl _ _).alloc (Nat.le_refl _) _⟩
 ·have q2 : 0 ≤ left - (n : Int) := by omega
  have q3 : decide (left - (n : Int) < 0) = false := decide_eq_false (by omega)
  have w3 : wrap64 (left - (n : Int) - (m : Int)) = left - (n : Int) - (m : Int) := by unfold wrap64; omega
  by_cases hl2 : left - (n : Int) < (m : Int)
  ·have HL : Hid (left < ((n + m : Nat) : Int)) := by unfold Hid; omega
   have q5 : left - (n : Int) - (m : Int) < 0 := by omega
   go_enter Tryz.func42, Tryz.ntmps42
   go_wp2
   go_ret
   exact ⟨⟨_, rfl, .inl rfl⟩, (Below.refl _ _).alloc (Nat.le_refl _) _⟩
  ·have HL : Hid (((n + m : Nat) : Int) ≤ left) := by unfold Hid; omega
   have HE : Hid (left - (n : Int) - (m : Int) = left - ((n + m : Nat) : Int)) := by unfold Hid; omega
   have q5 : 0 ≤ left - (n : Int) - (m : Int) := by omega
   have q6 : decide (left - (n : Int) - (m : Int) < 0) = false := decide_eq_false (by omega)
   go_enter Tryz.func42, Tryz.ntmps42
   go_wp2
   go_ret
   exact ⟨⟨_, rfl, .inr ⟨by have := HL.out; omega, by omega⟩⟩, (Below.refl _ _).alloc (Nat.le_refl _) _⟩
set_option maxHeartbeats 1000000 in
theorem szMoveS (l : List Mov) (v : Value) (left : Int) (w : World) (B : Nat) (hv : Lies w B 4 v (movR l)) (hd : ∀ x ∈ l, x.name.size ≤ maxLen ∧ x.to.size ≤ maxLen) (hn : l.length ≤ maxLen) (h0 : 0 ≤ left) (h1 : left ≤ 1048576) (hB : B ≤ w.heap.size) :
  Calls Tryz.prog 15 #[v, .int .i64 left] w fun e w' => ∃ r : Int, e = .returned (.int .i64 r) ∧ (r = -1 ∨ 0 ≤ r ∧ r + ((l.length + wtM l : Nat) : Int) = left) ∧ Below w.heap.size w w' := by
 unfold maxLen at hn
 obtain ⟨A, cap, rfl, hl⟩ := mov_look hv
 have HL : Hid (∀ j, j < l.length → ∃ g off, A = some ⟨g, off, none⟩ ∧ g < B ∧ _) := hl
 have HD : Hid (∀ x ∈ l, x.name.size ≤ maxLen ∧ x.to.size ≤ maxLen) := hd
 have HB : Hid (B ≤ w.heap.size) := hB
 clear hl hd hB hv
 have q1 : (l.length : Int) ≤ 9223372036854775807 := by omega
 have w2 : wrap64 (left - (l.length : Int)) = left - (l.length : Int) := by unfold wrap64; omega
 by_cases hs : left < (l.length : Int)
 ·have q2 : left - (l.length : Int) < 0 := by omega
  go_enter Tryz.func15, Tryz.ntmps15
  go_wp2_with fail
  go_ret
  exact ⟨-1, rfl, .inl rfl, Below.refl _ _⟩
 ·have q2 : 0 ≤ left - (l.length : Int) := by omega
  have q3 : decide (left - (l.length : Int) < 0) = false := decide_eq_false (by omega)
  have HQ : Hid (0 ≤ left - (l.length : Int)) := q2
  generalize hN : l.length = n at *
  go_enter Tryz.func15, Tryz.ntmps15
  go_wp2_with fail
  clear q2 q3 w2
  go_loopw [1, 5] (fun v1 v5 wr => ∃ (k : Nat) (r : Int), k ≤ n ∧ v5 = .int .i64 (k : Int) ∧ v1 = .int .i64 r ∧ 0 ≤ r ∧ r + ((n + wtM (l.take k) : Nat) : Int) = left ∧ Below w.heap.size w wr) (fun _ i _ => n - (intOf i).toNat)
  case atStart => exact ⟨0, left - (n : Int), by omega, rfl, rfl, HQ.out, by simp [wtM], Below.refl _ _⟩
  case round =>
   obtain ⟨k, r, hk, rfl, rfl, hr0, hr, hb⟩ := hrel
   have HR : Hid (r + ((n + wtM (l.take k) : Nat) : Int) = left) := hr
   have HB1 : Hid (Below w.heap.size w wr) := hb
   have q9 : r ≤ 1048576 := by omega
   clear hr hb
   by_cases hlt : k < n
   ·have q4 : (k : Int) < (n : Int) := by omega
    obtain ⟨g, off, rfl, hg, hc0, hc1, hc2, hc3⟩ := HL.out k (by omega)
    have hgw : g < w.heap.size := Nat.lt_of_lt_of_le hg HB.out
    rw [← HB1.out.cell (p := ⟨_, _, none⟩) hgw] at hc0
    rw [← HB1.out.cell (p := ⟨_, _, none⟩) hgw] at hc1
    rw [← HB1.out.cell (p := ⟨_, _, none⟩) hgw] at hc2
    rw [← HB1.out.cell (p := ⟨_, _, none⟩) hgw] at hc3
    have c1 := fun wx => szMove (l.getD k default) r wx hr0 q9 (HD.out _ (getD_mem l k (by omega)))
    have HW : Hid (wtM (l.take (k + 1)) = wtM (l.take k) + wtM1 (l.getD k default)) := wtM_snoc l k (by omega)
    unfold vMov at c1
    generalize wtM1 (l.getD k default) = t at *
    generalize l.getD k default = x at *
    go_wp2_with fail
    refine (c1 _).mono ?_
    rintro e w2 ⟨⟨r2, rfl, hr2⟩, hb2⟩
    have HR2 : Hid (r2 = -1 ∨ 0 ≤ r2 ∧ r2 + (t : Int) = r) := hr2
    have HB2 : Hid (Below w.heap.size w w2) := HB1.out.trans (hb2.mono HB1.out.size)
    clear hr2 hb2
    rcases HR2.out with rfl | ⟨hp, hq⟩
    ·go_wp2_with fail
     go_ret
     exact ⟨-1, rfl, .inl rfl, HB2.out⟩
    ·have q5 : decide (r2 < 0) = false := decide_eq_false (by omega)
     have HQ2 : Hid (r2 + (t : Int) = r) := hq
     clear hq
     go_wp2_with fail
     go_roundw
     case rel => exact ⟨k + 1, r2, by omega, by go_num, rfl, hp, by have := HR.out; have := HQ2.out; rw [HW.out]; omega, HB2.out⟩
     case measure => simp [intOf]; omega
   ·obtain rfl : k = n := by omega
    go_wp2_with fail
    go_ret
    exact ⟨r, rfl, .inr ⟨hr0, by have := HR.out; rw [← hN, List.take_length] at this; rw [← hN]; exact this⟩, HB1.out⟩
structure Fits (d : Dsk) : Prop where
 n : d.nods.length ≤ maxLen
 l : d.dir.length ≤ maxLen
 m : d.movs.length ≤ maxLen
 nx : ∀ x ∈ d.nods, x.data.size ≤ maxLen
 lx : ∀ x ∈ d.dir, x.name.size ≤ maxLen
 mx : ∀ x ∈ d.movs, x.name.size ≤ maxLen ∧ x.to.size ≤ maxLen
def DiskV (w : World) (B : Nat) (v : Value) (d : Dsk) : Prop := ∃ v1 v2 v3, v = .agg #[.int .i64 d.room, .int .i64 d.next, v1, v2, v3] ∧ Lies w B 3 v1 (nodR d.nods) ∧ Lies w B 2 v2 (lnkR d.dir) ∧ Lies w B 4 v3 (movR d.movs)
theorem DiskV.on {w w' : World} {B : Nat} {v : Value} {d : Dsk} (h : DiskV w B v d) (hb : Below B w w') : DiskV w' B v d := by
 obtain ⟨v1, v2, v3, e, h1, h2, h3⟩ := h
 exact ⟨v1, v2, v3, e, h1.on hb, h2.on hb, h3.on hb⟩
theorem DiskV.mono {w : World} {B C : Nat} {v : Value} {d : Dsk} (h : DiskV w B v d) (hB : B ≤ C) : DiskV w C v d := by
 obtain ⟨v1, v2, v3, e, h1, h2, h3⟩ := h
 exact ⟨v1, v2, v3, e, h1.mono hB, h2.mono hB, h3.mono hB⟩
def wtD (d : Dsk) : Nat := d.nods.length + wtN d.nods + (d.dir.length + wtL d.dir) + (d.movs.length + wtM d.movs)
set_option maxHeartbeats 1000000 in
theorem szDisk (d : Dsk) (v : Value) (w : World) (B : Nat) (left : Int) (h0 : 0 ≤ left) (h1 : left ≤ 1048576) (hv : DiskV w B v d) (hf : Fits d) (hB : B ≤ w.heap.size) :
  Calls Tryz.prog 4 #[v, .int .i64 left] w fun e w' => ∃ r : Int, e = .returned (.int .i64 r) ∧ (r = -1 ∨ 0 ≤ r ∧ r + (wtD d : Int) = left) ∧ Below w.heap.size w w' := by
 obtain ⟨v1, v2, v3, rfl, hn, hl, hm⟩ := hv
 have HF : Hid (Fits d) := hf
 have HB : Hid (B ≤ w.heap.size) := hB
 have HN : Hid (Lies w B 3 v1 (nodR d.nods)) := hn
 have HL : Hid (Lies w B 2 v2 (lnkR d.dir)) := hl
 have HM : Hid (Lies w B 4 v3 (movR d.movs)) := hm
 have HW : Hid (wtD d = d.nods.length + wtN d.nods + (d.dir.length + wtL d.dir) + (d.movs.length + wtM d.movs)) := rfl
 clear hn hl hm hf hB
 go_enter Tryz.func4, Tryz.ntmps4
 go_wp2_with fail
 have B1 : Hid (Below w.heap.size w (w.alloc (.cells #[.int .i64 d.room, .int .i64 d.next, v1, v2, v3] 26))) := (Below.refl _ _).alloc (Nat.le_refl _) _
 have k1 : ∀ i x, #[Value.int .i64 d.room, .int .i64 d.next, v1, v2, v3][i]? = some x → (w.alloc (.cells #[.int .i64 d.room, .int .i64 d.next, v1, v2, v3] 26)).cell? ⟨w.heap.size, i, none⟩ = some x := fun i x hx => by rw [World.cell?_alloc_mark]; exact hx
 have K3 := k1 3 v2 rfl
 have K4 := k1 4 v3 rfl
 clear k1
 have Z1 : w.heap.size < (w.alloc (.cells #[.int .i64 d.room, .int .i64 d.next, v1, v2, v3] 26)).heap.size := by simp
 generalize hw1 : w.alloc (.cells #[.int .i64 d.room, .int .i64 d.next, v1, v2, v3] 26) = w1 at *
 have c1 := szInodeS d.nods v1 left w1 B (HN.out.on (B1.out.mono HB.out)) HF.out.nx HF.out.n h0 h1 (Nat.le_trans HB.out B1.out.size)
 have P0 : Hid (w.heap.size = w.heap.size) := rfl
 generalize hp : w.heap.size = p at *
 refine c1.mono ?_
 rintro e w2 ⟨r1, rfl, hr1, hb2⟩
 have R1 : Hid (r1 = -1 ∨ 0 ≤ r1 ∧ r1 + ((d.nods.length + wtN d.nods : Nat) : Int) = left) := hr1
 have B2 : Hid (Below p w w2) := B1.out.trans (hb2.mono (Nat.le_of_lt Z1))
 have C3 := (hb2.cell (p := ⟨p, 3, none⟩) Z1).trans K3
 have C4 := (hb2.cell (p := ⟨p, 4, none⟩) Z1).trans K4
 have Z2 : p < w2.heap.size := Nat.lt_of_lt_of_le Z1 hb2.size
 clear hr1 hb2 K3 K4 Z1 hw1
 rcases R1.out with rfl | ⟨hp1, hq1⟩
 ·go_wp2_with fail
  go_ret
  exact ⟨-1, rfl, .inl rfl, by rw [hp]; exact B2.out⟩
 have q1 : decide (r1 < 0) = false := decide_eq_false (by omega)
 have HQ1 : Hid (r1 + ((d.nods.length + wtN d.nods : Nat) : Int) = left) := hq1
 have q2 : r1 ≤ 1048576 := by omega
 clear hq1
 have c2 := szLinkS d.dir v2 r1 w2 B (HL.out.on (B2.out.mono HB.out)) HF.out.lx HF.out.l hp1 q2 (Nat.le_trans HB.out (by have := B2.out.size; rw [hp] at this; exact this))
 go_wp2_with fail
 refine c2.mono ?_
 rintro e w3 ⟨r2, rfl, hr2, hb3⟩
 have R2 : Hid (r2 = -1 ∨ 0 ≤ r2 ∧ r2 + ((d.dir.length + wtL d.dir : Nat) : Int) = r1) := hr2
 have B3 : Hid (Below p w w3) := B2.out.trans (hb3.mono (Nat.le_of_lt Z2))
 have D4 := (hb3.cell (p := ⟨p, 4, none⟩) Z2).trans C4
 clear hr2 hb3 C3 C4 Z2
 rcases R2.out with rfl | ⟨hp2, hq2⟩
 ·go_wp2_with fail
  go_ret
  exact ⟨-1, rfl, .inl rfl, by rw [hp]; exact B3.out⟩
 have q3 : decide (r2 < 0) = false := decide_eq_false (by omega)
 have HQ2 : Hid (r2 + ((d.dir.length + wtL d.dir : Nat) : Int) = r1) := hq2
 have q4 : r2 ≤ 1048576 := by omega
 clear hq2
 have c3 := szMoveS d.movs v3 r2 w3 B (HM.out.on (B3.out.mono HB.out)) HF.out.mx HF.out.m hp2 q4 (Nat.le_trans HB.out (by have := B3.out.size; rw [hp] at this; exact this))
 go_wp2_with fail
 refine c3.mono ?_
 rintro e w4 ⟨r3, rfl, hr3, hb4⟩
 have R3 : Hid (r3 = -1 ∨ 0 ≤ r3 ∧ r3 + ((d.movs.length + wtM d.movs : Nat) : Int) = r2) := hr3
 have B4 : Hid (Below p w w4) := B3.out.trans (hb4.mono (by have := B3.out.size; rw [hp] at this; exact this))
 clear hr3 hb4
 rcases R3.out with rfl | ⟨hp3, hq3⟩
 ·go_wp2_with fail
  go_ret
  exact ⟨-1, rfl, .inl rfl, by rw [hp]; exact B4.out⟩
 have q5 : decide (r3 < 0) = false := decide_eq_false (by omega)
 have HQ3 : Hid (r3 + ((d.movs.length + wtM d.movs : Nat) : Int) = r2) := hq3
 clear hq3
 go_wp2_with fail
 go_ret
 refine ⟨r3, rfl, .inr ⟨hp3, ?_⟩, by rw [hp]; exact B4.out⟩
 have := HQ1.out
 have := HQ2.out
 have := HQ3.out
 rw [HW.out]
 omega
end Go.Proofs.YtdimaoloapbeoaaGreatDoor
namespace Go.Proofs.YtdimaoloapbeoaaGreatDoor
open Go.RowKit Go.PlainAid
theorem flat_parts (sz : Nat) (rows : List (List Value)) (hs : ∀ r ∈ rows, r.length = sz) (k : Nat) (hk : k < rows.length) :
  ∃ F1 F2 : List Value, F1.length = k * sz ∧ rows.flatten = F1 ++ (rows[k] ++ F2) ∧ ∀ r, (rows.set k r).flatten = F1 ++ (r ++ F2) := by
 refine ⟨(rows.take k).flatten, (rows.drop (k + 1)).flatten, ?_, ?_, ?_⟩
 ·rw [flat_length sz _ (fun r hr => hs r (List.mem_of_mem_take hr)), List.length_take, Nat.min_eq_left (by omega)]
 ·conv => lhs; rw [← List.take_append_drop k rows, List.drop_eq_getElem_cons hk]
  rw [List.flatten_append, List.flatten_cons]
 ·intro r
  rw [List.set_eq_take_append_cons_drop, if_pos hk, List.flatten_append, List.flatten_cons]
theorem set_len {rows : List (List Value)} {sz k : Nat} {r : List Value} (hs : ∀ r ∈ rows, r.length = sz) (hr : r.length = sz) : ∀ x ∈ rows.set k r, x.length = sz := by
 intro x hx
 rcases List.mem_or_eq_of_mem_set hx with h | rfl
 ·exact hs x h
 ·exact hr
section
variable {w : World} {base : Nat} {e : TypeId} {sz g cap : Nat} {rows : List (List Value)}
theorem Owns.cellX (h : Owns w base e sz (.slice (some ⟨g, 0, none⟩) rows.length cap) rows) (k f : Nat) (hk : k < rows.length) (hf : f < sz) : ∃ y, w.cell? ⟨g, k * sz + f, none⟩ = some y := by
 have hlt : k * sz + f < rows.length * sz := by
  have : (k + 1) * sz ≤ rows.length * sz := Nat.mul_le_mul_right sz hk
  rw [Nat.succ_mul] at this
  omega
 rw [World.ownsRow.cellAt h.2 (k * sz + f) hlt]
 exact ⟨_, List.getElem?_eq_getElem (by rw [h.2.1]; exact hlt)⟩
theorem Owns.free (h : Owns w base e sz (.slice (some ⟨g, 0, none⟩) rows.length cap) rows) (j : Nat) : w.frozen? ⟨g, j, none⟩ = false := World.ownsRow.frozenAt h.2 j
theorem Owns.put2 (h : Owns w base e 2 (.slice (some ⟨g, 0, none⟩) rows.length cap) rows) (k : Nat) (hk : k < rows.length) (a b : Value) :
  Owns ((w.setCell ⟨g, k * 2, none⟩ a).setCell ⟨g, k * 2 + 1, none⟩ b) base e 2 (.slice (some ⟨g, 0, none⟩) rows.length cap) (rows.set k [a, b]) := by
 have h1 := (World.ownsRow.stored h.2 (k * 2) a).1
 have h2 := (World.ownsRow.stored h1 (k * 2 + 1) b).1
 refine ⟨set_len h.1 rfl, ?_⟩
 rw [List.length_set]
 obtain ⟨F1, F2, l1, e1, e2⟩ := flat_parts 2 rows h.1 k hk
 have hr := h.1 rows[k] (List.getElem_mem hk)
 obtain ⟨x, y, hxy⟩ : ∃ x y, rows[k] = [x, y] := by
  match hh : rows[k], hr with
  | [x, y], _ => exact ⟨x, y, rfl⟩
 rw [e2]
 rw [e1, hxy] at h2
 have : ((F1 ++ ([x, y] ++ F2)).set (k * 2) a).set (k * 2 + 1) b = F1 ++ ([a, b] ++ F2) := by
  rw [← l1, List.set_append_right _ _ (by omega), List.set_append_right _ _ (by omega)]
  simp
 rw [this] at h2
 exact h2
theorem Owns.put3 (h : Owns w base e 3 (.slice (some ⟨g, 0, none⟩) rows.length cap) rows) (k : Nat) (hk : k < rows.length) (a b c : Value) :
  Owns (((w.setCell ⟨g, k * 3, none⟩ a).setCell ⟨g, k * 3 + 1, none⟩ b).setCell ⟨g, k * 3 + 2, none⟩ c) base e 3 (.slice (some ⟨g, 0, none⟩) rows.length cap) (rows.set k [a, b, c]) := by
 have h1 := (World.ownsRow.stored h.2 (k * 3) a).1
 have h2 := (World.ownsRow.stored h1 (k * 3 + 1) b).1
 have h3 := (World.ownsRow.stored h2 (k * 3 + 2) c).1
 refine ⟨set_len h.1 rfl, ?_⟩
 rw [List.length_set]
 obtain ⟨F1, F2, l1, e1, e2⟩ := flat_parts 3 rows h.1 k hk
 have hr := h.1 rows[k] (List.getElem_mem hk)
 obtain ⟨x, y, z, hxy⟩ : ∃ x y z, rows[k] = [x, y, z] := by
  match hh : rows[k], hr with
  | [x, y, z], _ => exact ⟨x, y, z, rfl⟩
 rw [e2]
 rw [e1, hxy] at h3
 have : (((F1 ++ ([x, y, z] ++ F2)).set (k * 3) a).set (k * 3 + 1) b).set (k * 3 + 2) c = F1 ++ ([a, b, c] ++ F2) := by
  rw [← l1, List.set_append_right _ _ (by omega), List.set_append_right _ _ (by omega), List.set_append_right _ _ (by omega)]
  simp
 rw [this] at h3
 exact h3
theorem Owns.put4 (h : Owns w base e 4 (.slice (some ⟨g, 0, none⟩) rows.length cap) rows) (k : Nat) (hk : k < rows.length) (a b c d : Value) :
  Owns ((((w.setCell ⟨g, k * 4, none⟩ a).setCell ⟨g, k * 4 + 1, none⟩ b).setCell ⟨g, k * 4 + 2, none⟩ c).setCell ⟨g, k * 4 + 3, none⟩ d) base e 4 (.slice (some ⟨g, 0, none⟩) rows.length cap) (rows.set k [a, b, c, d]) := by
 have h1 := (World.ownsRow.stored h.2 (k * 4) a).1
 have h2 := (World.ownsRow.stored h1 (k * 4 + 1) b).1
 have h3 := (World.ownsRow.stored h2 (k * 4 + 2) c).1
 have h4 := (World.ownsRow.stored h3 (k * 4 + 3) d).1
 refine ⟨set_len h.1 rfl, ?_⟩
 rw [List.length_set]
 obtain ⟨F1, F2, l1, e1, e2⟩ := flat_parts 4 rows h.1 k hk
 have hr := h.1 rows[k] (List.getElem_mem hk)
 obtain ⟨x, y, z, t, hxy⟩ : ∃ x y z t, rows[k] = [x, y, z, t] := by
  match hh : rows[k], hr with
  | [x, y, z, t], _ => exact ⟨x, y, z, t, rfl⟩
 rw [e2]
 rw [e1, hxy] at h4
 have : ((((F1 ++ ([x, y, z, t] ++ F2)).set (k * 4) a).set (k * 4 + 1) b).set (k * 4 + 2) c).set (k * 4 + 3) d = F1 ++ ([a, b, c, d] ++ F2) := by
  rw [← l1, List.set_append_right _ _ (by omega), List.set_append_right _ _ (by omega), List.set_append_right _ _ (by omega), List.set_append_right _ _ (by omega)]
  simp
 rw [this] at h4
 exact h4
end
theorem set_self {R : List (List Value)} (j : Nat) (hj : j < R.length) : R.set j R[j] = R := List.set_getElem_self hj
section
variable {w : World} {base : Nat} {e : TypeId} {sz g cap n j : Nat} {R : List (List Value)} {r : List Value}
theorem Owns.pokeAt (h : Owns w base e sz (.slice (some ⟨g, 0, none⟩) n cap) (R.set j r)) (hn : R.length = n) (hj : j < n) (f : Nat) (hf : f < sz) (x : Value) :
  Owns (w.setCell ⟨g, j * sz + f, none⟩ x) base e sz (.slice (some ⟨g, 0, none⟩) n cap) (R.set j (r.set f x)) := by
 subst hn
 have hl : (R.set j r).length = R.length := List.length_set
 have h2 := h.2
 rw [hl] at h2
 have h1 := (World.ownsRow.stored h2 (j * sz + f) x).1
 obtain ⟨F1, F2, l1, e1, e2⟩ := flat_parts sz (R.set j r) h.1 j (by rw [hl]; exact hj)
 have hrr : (R.set j r)[j]'(by rw [hl]; exact hj) = r := by simp
 have hr : r.length = sz := by rw [← hrr]; exact h.1 _ (List.getElem_mem _)
 have e3 := e2 (r.set f x)
 rw [List.set_set] at e3
 refine ⟨?_, ?_⟩
 ·intro y hy
  obtain ⟨i, hi, rfl⟩ := List.getElem_of_mem hy
  have hi2 : i < R.length := by simpa using hi
  by_cases hij : i = j
  ·subst hij
   rw [List.getElem_set_self, List.length_set]
   exact hr
  ·have : (R.set j (r.set f x))[i]'hi = (R.set j r)[i]'(by rw [hl]; exact hi2) := by rw [List.getElem_set_ne (Ne.symm hij), List.getElem_set_ne (Ne.symm hij)]
   rw [this]
   exact h.1 _ (List.getElem_mem _)
 ·rw [List.length_set, e3]
  rw [e1, hrr] at h1
  have : (F1 ++ (r ++ F2)).set (j * sz + f) x = F1 ++ (r.set f x ++ F2) := by
   rw [← l1, List.set_append_right _ _ (by omega), List.set_append_left _ _ (by omega)]
   simp
  rw [this] at h1
  exact h1
theorem Owns.cellAt2 (h : Owns w base e sz (.slice (some ⟨g, 0, none⟩) n cap) (R.set j r)) (hn : R.length = n) (hj : j < n) (f : Nat) (hf : f < sz) : ∃ y, w.cell? ⟨g, j * sz + f, none⟩ = some y := by
 subst hn
 have hl : (R.set j r).length = R.length := List.length_set
 have h2 := h
 rw [← hl] at h2
 exact h2.cellX j f (by rw [hl]; exact hj) hf
theorem Owns.free2 (h : Owns w base e sz (.slice (some ⟨g, 0, none⟩) n cap) (R.set j r)) (hn : R.length = n) (k : Nat) : w.frozen? ⟨g, k, none⟩ = false := by
 subst hn
 have hl : (R.set j r).length = R.length := List.length_set
 have h2 := h
 rw [← hl] at h2
 exact h2.free k
end
def newR (f : Nat → List Value) (j : Nat) : List (List Value) := (List.range j).map f
theorem newR_length (f : Nat → List Value) (j : Nat) : (newR f j).length = j := by simp [newR]
def partR (f : Nat → List Value) (R : List (List Value)) (j : Nat) : List (List Value) := newR f j ++ R.drop j
theorem partR_zero (f : Nat → List Value) (R : List (List Value)) : partR f R 0 = R := by simp [partR, newR]
theorem partR_all (f : Nat → List Value) (R : List (List Value)) : partR f R R.length = newR f R.length := by simp [partR]
theorem partR_length (f : Nat → List Value) (R : List (List Value)) (j : Nat) (h : j ≤ R.length) : (partR f R j).length = R.length := by
 simp [partR, newR]
 omega
theorem partR_set (f : Nat → List Value) (R : List (List Value)) (j : Nat) (h : j < R.length) : (partR f R j).set j (f j) = partR f R (j + 1) := by
 unfold partR
 rw [List.set_append_right _ _ (by rw [newR_length]; omega), newR_length, Nat.sub_self, List.drop_eq_getElem_cons h, List.set_cons_zero]
 unfold newR
 rw [List.range_succ, List.map_append]
 simp
theorem fill_step (Z : List Value) (done : List (List Value)) (r : List Value) (n k : Nat) (hk : done.length = k) (hn : k < n) :
  (done ++ List.replicate (n - k) Z).set k r = (done ++ [r]) ++ List.replicate (n - (k + 1)) Z := by
 obtain ⟨m, rfl⟩ : ∃ m, n = k + 1 + m := ⟨n - (k + 1), by omega⟩
 rw [show k + 1 + m - k = m + 1 by omega, show k + 1 + m - (k + 1) = m by omega, List.set_append_right _ _ (by omega), hk, Nat.sub_self, List.replicate_succ, List.set_cons_zero]
 simp
end Go.Proofs.YtdimaoloapbeoaaGreatDoor
