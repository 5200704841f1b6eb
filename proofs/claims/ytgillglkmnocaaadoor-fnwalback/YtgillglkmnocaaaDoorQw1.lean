/- WkRow WkBlk WkSz RcSpec RcImpl RcOf NumD -/
import Derived.Test.YtgillglkmnocaaaDoorQw0
import Derived.WalkKit
import Derived.ProofKit
import Derived.Laws.OwnMore
import Derived.Below
import Derived.OwnWalk
import Derived.WalkSmall
import Derived.Test.YtgillglkmnocaaaDoorRows
import Derived.OpenShut
import Derived.WalkLawsBesides
import Derived.Outline
import Derived.BigQuiet
import Derived.Deep.QuietTactic
import Derived.Handy
import Derived.Deep.RegionWith
import Derived.WalkSpells
import Derived.WalkMore
import Derived.Deep.OwnRows
import Derived.Deep.RegionHeld3
import Derived.Deep.RegionLaw
import Derived.Deep.DrawnRows
namespace Go.Proofs.YtgillglkmnocaaaDoor
open Go.RowKit Go.PlainAid
def Lies (w : World) (B sz : Nat) (v : Value) (rows : List (List Value)) : Prop :=
 ∃ A cap, v = .slice A rows.length cap ∧ ((A = none → cap = 0) ∧ rows.length ≤ cap) ∧ (∀ r ∈ rows, r.length = sz) ∧ (rows.length = 0 ∨ ∃ g off, A = some ⟨g, off, none⟩ ∧ g < B ∧ ∀ k x, rows.flatten[k]? = some x → w.cell? ⟨g, off + k, none⟩ = some x)
theorem Lies.on {w w' : World} {B sz : Nat} {v : Value} {rows : List (List Value)} (h : Lies w B sz v rows) (hb : Below B w w') : Lies w' B sz v rows := by
 obtain ⟨A, cap, e, hz, hs, h⟩ := h
 refine ⟨A, cap, e, hz, hs, h.imp id ?_⟩
 rintro ⟨g, off, rfl, hg, hc⟩
 refine ⟨g, off, rfl, hg, fun k x hx => ?_⟩
 rw [← hc k x hx]
 exact World.cell?_of_block (w := w) (hb.block g hg)
theorem Lies.heap {w w' : World} {B sz : Nat} {v : Value} {rows : List (List Value)} (h : Lies w B sz v rows) (hh : w'.heap = w.heap) : Lies w' B sz v rows := by
 obtain ⟨A, cap, e, hz, hs, h⟩ := h
 refine ⟨A, cap, e, hz, hs, h.imp id ?_⟩
 rintro ⟨g, off, rfl, hg, hc⟩
 refine ⟨g, off, rfl, hg, fun k x hx => ?_⟩
 rw [← hc k x hx]
 exact World.cell?_of_block (w := w) (by rw [hh])
theorem Lies.mono {w : World} {B C sz : Nat} {v : Value} {rows : List (List Value)} (h : Lies w B sz v rows) (hB : B ≤ C) : Lies w C sz v rows := by
 obtain ⟨A, cap, e, hz, hs, h⟩ := h
 refine ⟨A, cap, e, hz, hs, h.imp id ?_⟩
 rintro ⟨g, off, rfl, hg, hc⟩
 exact ⟨g, off, rfl, by omega, hc⟩
theorem flat_at (sz : Nat) : ∀ (rows : List (List Value)), (∀ r ∈ rows, r.length = sz) → ∀ (j f : Nat) (hj : j < rows.length), f < sz → rows.flatten[j * sz + f]? = (rows[j])[f]?
 | [], _, j, f, hj, _ => by simp at hj
 | r :: rs, hs, 0, f, _, hf => by
  have := hs r (by simp)
  simp only [List.flatten_cons, Nat.zero_mul, Nat.zero_add, List.getElem_cons_zero]
  rw [List.getElem?_append_left (by omega)]
 | r :: rs, hs, j + 1, f, hj, hf => by
  have hr := hs r (by simp)
  have ih := flat_at sz rs (fun r hr => hs r (by simp [hr])) j f (by simp at hj; omega) hf
  simp only [List.flatten_cons, List.getElem_cons_succ]
  rw [List.getElem?_append_right (by rw [hr, Nat.succ_mul]; omega), ← ih, hr]
  congr 1
  rw [Nat.succ_mul]
  omega
theorem flat_length (sz : Nat) (rows : List (List Value)) (hs : ∀ r ∈ rows, r.length = sz) : rows.flatten.length = rows.length * sz := by
 induction rows with
 | nil => simp
 | cons r rs ih =>
  rw [List.flatten_cons, List.length_append, ih (fun r hr => hs r (by simp [hr])), hs r (by simp), List.length_cons, Nat.succ_mul]
  omega
theorem Lies.look {w : World} {B sz : Nat} {v : Value} {rows : List (List Value)} (h : Lies w B sz v rows) : ∃ A cap, v = .slice A rows.length cap ∧ ∀ j (hj : j < rows.length), ∃ g off, A = some ⟨g, off, none⟩ ∧ g < B ∧ ∀ f x, f < sz → (rows[j])[f]? = some x → w.cell? ⟨g, off + (j * sz + f), none⟩ = some x := by
 obtain ⟨A, cap, rfl, _, hs, h⟩ := h
 refine ⟨A, cap, rfl, fun j hj => ?_⟩
 rcases h with h | ⟨g, off, rfl, hg, hc⟩
 ·omega
 ·exact ⟨g, off, rfl, hg, fun f x hf hx => hc _ x (by rw [flat_at sz rows hs j f hj hf]; exact hx)⟩
theorem Lies.room {w : World} {B sz : Nat} {A : Option Addr} {n c : Nat} {rows : List (List Value)} (h : Lies w B sz (.slice A n c) rows) : n = rows.length ∧ n ≤ c := by
 obtain ⟨A', c', e, hz, _⟩ := h
 cases e
 exact ⟨rfl, hz.2⟩
theorem Lies.first {w : World} {B sz : Nat} {A : Option Addr} {n c : Nat} {rows : List (List Value)} (h : Lies w B sz (.slice A n c) rows) (k : Nat) (hk : k ≤ rows.length) : Lies w B sz (.slice A k c) (rows.take k) := by
 obtain ⟨A', c', e, hz, hs, h⟩ := h
 cases e
 have hl : (rows.take k).length = k := by rw [List.length_take]; omega
 refine ⟨A, c, by rw [hl], ⟨hz.1, by rw [hl]; exact Nat.le_trans hk hz.2⟩, fun r hr => hs r (List.mem_of_mem_take hr), ?_⟩
 rw [hl]
 rcases h with h | ⟨g, off, rfl, hg, hc⟩
 ·exact .inl (by omega)
 ·refine .inr ⟨g, off, rfl, hg, fun j x hx => hc j x ?_⟩
  rw [← List.take_append_drop k rows, List.flatten_append, List.getElem?_append_left ((List.getElem?_eq_some_iff.1 hx).1)]
  exact hx
def Owns (w : World) (base : Nat) (e : TypeId) (sz : Nat) (v : Value) (rows : List (List Value)) : Prop := (∀ r ∈ rows, r.length = sz) ∧ w.ownsRow base e sz v rows.length rows.flatten
theorem Owns.lt {w : World} {base : Nat} {e : TypeId} {sz : Nat} {v : Value} {rows : List (List Value)} (h : Owns w base e sz v rows) : ∀ k, v.ownBlock = some k → base ≤ k ∧ k < w.heap.size := World.ownsRow.lt h.2
theorem Owns.lies {w : World} {base : Nat} {e : TypeId} {sz : Nat} {v : Value} {rows : List (List Value)} (h : Owns w base e sz v rows) : Lies w w.heap.size sz v rows := by
 have hlt := h.lt
 have hc := fun g hg => World.ownsRow.cells h.2 (g := g) hg
 rcases h.2.2 with ⟨rfl, h0⟩ | ⟨g, cap, cur, rfl, _, _, hcap, _⟩
 ·exact ⟨none, 0, by rw [h0], ⟨fun _ => rfl, by omega⟩, h.1, .inl h0⟩
 ·refine ⟨_, cap, rfl, ⟨fun e => (by cases e), hcap⟩, h.1, .inr ⟨g, 0, rfl, (hlt g rfl).2, fun k x hx => ?_⟩⟩
  have e : (⟨g, 0, none⟩ : Addr).add k = ⟨g, 0 + k, none⟩ := by cases k <;> simp [Addr.add]
  rw [← e]
  exact hc g rfl k x hx
theorem Owns.kept {w w' : World} {base : Nat} {e : TypeId} {sz : Nat} {v : Value} {rows : List (List Value)} (h : Owns w base e sz v rows) (hk : ∀ g, g < w.heap.size → v.ownBlock = some g → w'.heap[g]? = w.heap[g]?) : Owns w' base e sz v rows := by
 have hl := h.lt
 refine ⟨h.1, h.2.1, h.2.2.imp id ?_⟩
 rintro ⟨g, cap, cur, rfl, hg, hh, r⟩
 refine ⟨g, cap, cur, rfl, hg, ?_, r⟩
 rw [hk g (hl g rfl).2 rfl]
 exact hh
theorem Owns.on {w w' : World} {base : Nat} {e : TypeId} {sz : Nat} {v : Value} {rows : List (List Value)} (h : Owns w base e sz v rows) (hb : Below w.heap.size w w') : Owns w' base e sz v rows := h.kept fun g hg _ => hb.block g hg
theorem Owns.heap {w w' : World} {base : Nat} {e : TypeId} {sz : Nat} {v : Value} {rows : List (List Value)} (h : Owns w base e sz v rows) (hh : w'.heap = w.heap) : Owns w' base e sz v rows := h.kept fun g _ _ => by rw [hh]
theorem Owns.mono {w : World} {base base' : Nat} {e : TypeId} {sz : Nat} {v : Value} {rows : List (List Value)} (h : Owns w base e sz v rows) (hb : base' ≤ base) : Owns w base' e sz v rows :=
 ⟨h.1, h.2.1, h.2.2.imp id fun ⟨g, cap, cur, e, hg, r⟩ => ⟨g, cap, cur, e, Nat.le_trans hb hg, r⟩⟩
theorem getD_mem {α : Type} [Inhabited α] (l : List α) (j : Nat) (h : j < l.length) : l.getD j default ∈ l := by
 rw [List.getD_eq_getElem?_getD, List.getElem?_eq_getElem h]
 exact List.getElem_mem h
theorem getD_at {α : Type} [Inhabited α] (l : List α) (j : Nat) (h : j < l.length) : l[j] = l.getD j default := by
 rw [List.getD_eq_getElem?_getD, List.getElem?_eq_getElem h]
 rfl
def entC (x : Ent) : List Value := [.int .i64 x.term, .string x.data]
def entR (l : List Ent) : List (List Value) := l.map entC
theorem entR_length (l : List Ent) : (entR l).length = l.length := by simp [entR]
theorem entR_append (l m : List Ent) : entR (l ++ m) = entR l ++ entR m := by simp [entR]
theorem ent_look {w : World} {B : Nat} {v : Value} {l : List Ent} (h : Lies w B 2 v (entR l)) : ∃ A cap, v = .slice A l.length cap ∧ ∀ j, j < l.length → ∃ g off, A = some ⟨g, off, none⟩ ∧ g < B ∧
  w.cell? ⟨g, off + j * 2, none⟩ = some (.int .i64 (l.getD j default).term) ∧ w.cell? ⟨g, off + j * 2 + 1, none⟩ = some (.string (l.getD j default).data) := by
 obtain ⟨A, cap, e, h⟩ := h.look
 refine ⟨A, cap, by rw [e]; simp [entR], fun j hj => ?_⟩
 rw [← getD_at l j hj]
 obtain ⟨g, off, e, hg, hc⟩ := h j (by simpa [entR] using hj)
 refine ⟨g, off, e, hg, ?_, ?_⟩
 ·have := hc 0 _ (by omega) (by simp [entR, entC]; rfl); simpa [Nat.add_assoc] using this
 ·have := hc 1 _ (by omega) (by simp [entR, entC]; rfl); simpa [Nat.add_assoc] using this
def WalV (w : World) (B : Nat) (v : Value) (x : Wl) : Prop := ∃ u, v = .agg #[.int .i64 x.term, .int .i64 x.vote, .int .i64 x.base, .int .i64 x.bterm, u] ∧ Lies w B 2 u (entR x.ents)
theorem WalV.on {w w' : World} {B : Nat} {v : Value} {x : Wl} (h : WalV w B v x) (hb : Below B w w') : WalV w' B v x := by
 obtain ⟨u, e, h⟩ := h
 exact ⟨u, e, h.on hb⟩
theorem WalV.mono {w : World} {B C : Nat} {v : Value} {x : Wl} (h : WalV w B v x) (hB : B ≤ C) : WalV w C v x := by
 obtain ⟨u, e, h⟩ := h
 exact ⟨u, e, h.mono hB⟩
def WalO (w : World) (base : Nat) (v : Value) (x : Wl) : Prop := ∃ u, v = .agg #[.int .i64 x.term, .int .i64 x.vote, .int .i64 x.base, .int .i64 x.bterm, u] ∧ Owns w base 61 2 u (entR x.ents)
theorem WalO.lies {w : World} {base : Nat} {v : Value} {x : Wl} (h : WalO w base v x) : WalV w w.heap.size v x := by
 obtain ⟨u, e, h⟩ := h
 exact ⟨u, e, h.lies⟩
theorem WalO.on {w w' : World} {base : Nat} {v : Value} {x : Wl} (h : WalO w base v x) (hb : Below w.heap.size w w') : WalO w' base v x := by
 obtain ⟨u, e, h⟩ := h
 exact ⟨u, e, h.on hb⟩
theorem WalO.mono {w : World} {base base' : Nat} {v : Value} {x : Wl} (h : WalO w base v x) (hb : base' ≤ base) : WalO w base' v x := by
 obtain ⟨u, e, h⟩ := h
 exact ⟨u, e, h.mono hb⟩
structure FitsW (x : Wl) : Prop where
 n : x.ents.length ≤ maxLen
 d : ∀ e ∈ x.ents, e.data.size ≤ maxLen
end Go.Proofs.YtgillglkmnocaaaDoor
namespace Go.Proofs.YtgillglkmnocaaaDoor
open Go.RowKit Go.PlainAid
def Blk (w : World) (g : Nat) (cs : Array Value) (t : TypeId) : Prop := w.heap[g]? = some (.cells cs t (0, 0))
theorem Blk.lt {w : World} {g : Nat} {cs : Array Value} {t : TypeId} (h : Blk w g cs t) : g < w.heap.size := lt_of_block h
theorem Blk.cell {w : World} {g : Nat} {cs : Array Value} {t : TypeId} (h : Blk w g cs t) (i : Nat) (x : Value) (hx : cs[i]? = some x) : w.cell? ⟨g, i, none⟩ = some x := by
 rw [cell_of_row w g i cs t (0, 0) h]
 exact hx
theorem Blk.free {w : World} {g : Nat} {cs : Array Value} {t : TypeId} (h : Blk w g cs t) (i : Nat) : w.frozen? ⟨g, i, none⟩ = false := frozen_of_row w g i cs t h
theorem Blk.set {w : World} {g : Nat} {cs : Array Value} {t : TypeId} (h : Blk w g cs t) (i : Nat) (x : Value) : Blk (w.setCell ⟨g, i, none⟩ x) g (cs.setIfInBounds i x) t := heap_setCell_same w g i cs t x h
theorem Blk.other {w : World} {g g' : Nat} {cs : Array Value} {t : TypeId} (h : Blk w g cs t) (hne : g ≠ g') (i : Nat) (x : Value) : Blk (w.setCell ⟨g', i, none⟩ x) g cs t := by
 unfold Blk
 rw [Below.heap_setCell _ _ _ _ hne]
 exact h
theorem Blk.on {w w' : World} {B g : Nat} {cs : Array Value} {t : TypeId} (h : Blk w g cs t) (hb : Below B w w') (hg : g < B) : Blk w' g cs t := by
 unfold Blk
 rw [hb.block g hg]
 exact h
theorem Blk.new (w : World) (cs : Array Value) (t : TypeId) : Blk (w.alloc (.cells cs t)) w.heap.size cs t := heap_alloc_new w _
theorem Blk.alloc {w : World} {g : Nat} {cs : Array Value} {t : TypeId} (h : Blk w g cs t) (o : Obj) : Blk (w.alloc o) g cs t := by
 unfold Blk
 rw [Below.heap_alloc w o g h.lt]
 exact h
theorem Owns.other {w : World} {base : Nat} {e : TypeId} {sz : Nat} {v : Value} {rows : List (List Value)} (h : Owns w base e sz v rows) {g : Nat} (hne : v.ownBlock ≠ some g) (i : Nat) (x : Value) : Owns (w.setCell ⟨g, i, none⟩ x) base e sz v rows :=
 h.kept fun k _ hk => Below.heap_setCell _ _ _ _ (fun e => hne (by rw [hk]; exact congrArg some e))
theorem Owns.below {w : World} {base : Nat} {e : TypeId} {sz : Nat} {v : Value} {rows : List (List Value)} (h : Owns w base e sz v rows) {g : Nat} (hg : g < base) : v.ownBlock ≠ some g := fun e => by
 have := (h.lt g e).1
 omega
theorem Owns.shape {w : World} {base : Nat} {e : TypeId} {sz : Nat} {v : Value} {rows : List (List Value)} (h : Owns w base e sz v rows) : ∃ A m c, v = .slice A m c := by
 rcases h.2.2 with ⟨rfl, _⟩ | ⟨g, cap, cur, rfl, _⟩
 ·exact ⟨_, _, _, rfl⟩
 ·exact ⟨_, _, _, rfl⟩
end Go.Proofs.YtgillglkmnocaaaDoor
namespace Go.Proofs.YtgillglkmnocaaaDoor
open Go.ChangeShapes Go.WideShapes Go.ChangeAt Go.RowKit Go.PlainAid
set_option linter.unusedVariables false
def vRcd (x : Rcd) : Value := .agg #[.int .i64 x.kind, .int .i64 x.term, .int .i64 x.index, .int .i64 x.vote, .string x.data]
end Go.Proofs.YtgillglkmnocaaaDoor
namespace Go.Proofs.YtgillglkmnocaaaDoor
open Go.ChangeShapes Go.WideShapes Go.ChangeAt Go.RowKit Go.PlainAid
set_option linter.unusedVariables false
theorem toList_beq (a b : ByteArray) : (a.toList == b.toList) = decide (a = b) := by
 rw [Lib.toList_data, Lib.toList_data]
 by_cases h : a = b
 ·subst h
  simp
 ·rw [decide_eq_false h, beq_eq_false_iff_ne]
  intro e
  exact h (ByteArray.ext (Array.toList_inj.1 e))
theorem empty_beq (d : ByteArray) : d.toList.isEmpty = decide (d = ByteArray.empty) := by
 have h := toList_beq d ByteArray.empty
 rw [← h]
 have : ByteArray.empty.toList = [] := by rw [Lib.toList_data]; rfl
 rw [this]
 cases d.toList <;> rfl
set_option maxHeartbeats 400000 in
theorem inB (x lo hi : Int) (w : World) : Calls Tryd.prog 19 #[.int .i64 x, .int .i64 lo, .int .i64 hi] w fun e w' => e = .returned (.bool (inIt x lo hi)) ∧ w = w' := by
 by_cases h1 : lo ≤ x
 ·go_enter Tryd.func19, Tryd.ntmps19
  go_wp2
  go_ret
  exact ⟨by simp [inIt, h1], rfl⟩
 ·have z : decide (lo ≤ x) = false := decide_eq_false h1
  have z2 : x < lo := by omega
  go_enter Tryd.func19, Tryd.ntmps19
  go_wp2
  go_ret
  exact ⟨by unfold inIt; rw [z]; rfl, rfl⟩
set_option maxHeartbeats 400000 in
theorem basedV (i t : Int) (w : World) : Calls Tryd.prog 20 #[.int .i64 i, .int .i64 t] w fun e w' => e = .returned (.bool (based i t)) ∧ w = w' := by
 by_cases h1 : i = 0
 ·subst h1
  go_enter Tryd.func20, Tryd.ntmps20
  go_wp2
  go_ret
  exact ⟨by unfold based; rw [if_pos rfl]; exact congrArg (fun b => Ending.returned (.bool b)) (by by_cases h : t = 0 <;> simp [h]), rfl⟩
 ·have z : (i == 0) = false := by simpa using h1
  have a1 := inB i 1 100000
  have a2 := inB t 1 100000
  have HE : Hid (based i t = (inIt i 1 100000 && inIt t 1 100000)) := by unfold Hid based; rw [if_neg h1]
  cases h2 : inIt i 1 100000 <;> rw [h2] at a1 HE <;> clear h1 h2
  ·go_enter Tryd.func20, Tryd.ntmps20
   go_wp2_with fail
   refine (a1 _).mono ?_
   rintro e w' ⟨rfl, rfl⟩
   go_wp2_with fail
   go_ret
   exact ⟨by rw [HE.out]; rfl, rfl⟩
  ·go_enter Tryd.func20, Tryd.ntmps20
   go_wp2_with fail
   refine (a1 _).mono ?_
   rintro e w' ⟨rfl, rfl⟩
   go_wp2_with fail
   refine (a2 _).mono ?_
   rintro e w' ⟨rfl, rfl⟩
   go_wp2_with fail
   go_ret
   exact ⟨by rw [HE.out]; rfl, rfl⟩
end Go.Proofs.YtgillglkmnocaaaDoor
namespace Go.Proofs.YtgillglkmnocaaaDoor
open Go.ChangeShapes Go.WideShapes Go.ChangeAt Go.RowKit Go.PlainAid
set_option linter.unusedVariables false
def bnd (k t i v n : Int) : Bool := decide ((k = 1 ∧ 0 ≤ t ∧ t ≤ 100000 ∧ -1 ≤ v ∧ v ≤ 4) ∨ (k = 4 ∧ i = 0 ∧ t = 0) ∨ ((k = 4 ∧ i ≠ 0 ∨ k = 2) ∧ 1 ≤ t ∧ t ≤ 100000 ∧ n ≤ 900 ∧ 1 ≤ i ∧ i ≤ 100000) ∨ (k = 3 ∧ 1 ≤ i ∧ i ≤ 100000))
def kindV (r : Rcd) : Value :=
 if r.kind = 1 then .iface 40 (.agg #[.int .i64 r.term, .int .i64 r.vote])
 else if r.kind = 2 then .iface 77 (.agg #[.int .i64 r.index, .int .i64 r.term, .string r.data])
 else if r.kind = 3 then .iface 91 (.agg #[.int .i64 r.index])
 else .iface 38 (.agg #[.int .i64 r.index, .int .i64 r.term])
set_option maxHeartbeats 4000000 in
theorem inBoundsV (k t i v : Int) (d : ByteArray) (w : World) (hd : d.size ≤ maxLen) : Calls Tryd.prog 48 #[.agg #[.int .i64 k, .int .i64 t, .int .i64 i, .int .i64 v, .string d]] w fun e w' => e = .returned (.bool (bnd k t i v d.size)) ∧ Below w.heap.size w w' := by
 have HB : Hid (Below w.heap.size w (w.alloc (.cells #[.int .i64 k, .int .i64 t, .int .i64 i, .int .i64 v, .string d] 55))) := (Below.refl _ _).alloc (Nat.le_refl _) _
 have hdi : (d.size : Int) ≤ 9223372036854775807 := by unfold maxLen at hd; omega
 clear hd
 by_cases k1 : k = 1
 ·subst k1
  by_cases h4 : 0 ≤ t
  ·by_cases h3 : t ≤ 100000
   ·by_cases h2 : -1 ≤ v
    ·by_cases h1 : v < 5
     ·go_enter Tryd.func48, Tryd.ntmps48
      go_wp2
      go_ret
      exact ⟨by first | (rw [show bnd _ _ _ _ _ = true from decide_eq_true (by omega)]; rfl) | (rw [show bnd _ _ _ _ _ = false from decide_eq_false (by omega)]; rfl), HB.out⟩
     ·go_enter Tryd.func48, Tryd.ntmps48
      go_wp2
      go_ret
      exact ⟨by first | (rw [show bnd _ _ _ _ _ = true from decide_eq_true (by omega)]; rfl) | (rw [show bnd _ _ _ _ _ = false from decide_eq_false (by omega)]; rfl), HB.out⟩
    ·go_enter Tryd.func48, Tryd.ntmps48
     go_wp2
     go_ret
     exact ⟨by first | (rw [show bnd _ _ _ _ _ = true from decide_eq_true (by omega)]; rfl) | (rw [show bnd _ _ _ _ _ = false from decide_eq_false (by omega)]; rfl), HB.out⟩
   ·go_enter Tryd.func48, Tryd.ntmps48
    go_wp2
    go_ret
    exact ⟨by first | (rw [show bnd _ _ _ _ _ = true from decide_eq_true (by omega)]; rfl) | (rw [show bnd _ _ _ _ _ = false from decide_eq_false (by omega)]; rfl), HB.out⟩
  ·go_enter Tryd.func48, Tryd.ntmps48
   go_wp2
   go_ret
   exact ⟨by first | (rw [show bnd _ _ _ _ _ = true from decide_eq_true (by omega)]; rfl) | (rw [show bnd _ _ _ _ _ = false from decide_eq_false (by omega)]; rfl), HB.out⟩
 by_cases k4 : k = 4
 ·subst k4
  by_cases i0 : i = 0
  ·subst i0
   by_cases t0 : t = 0
   ·subst t0
    go_enter Tryd.func48, Tryd.ntmps48
    go_wp2
    go_ret
    exact ⟨by first | (rw [show bnd _ _ _ _ _ = true from decide_eq_true (by omega)]; rfl) | (rw [show bnd _ _ _ _ _ = false from decide_eq_false (by omega)]; rfl), HB.out⟩
   ·have zt : (t == 0) = false := by simpa using t0
    go_enter Tryd.func48, Tryd.ntmps48
    go_wp2
    go_ret
    exact ⟨by first | (rw [show bnd _ _ _ _ _ = true from decide_eq_true (by omega)]; rfl) | (rw [show bnd _ _ _ _ _ = false from decide_eq_false (by omega)]; rfl), HB.out⟩
  ·have zi : (i == 0) = false := by simpa using i0
   by_cases g3 : t < 1
   ·go_enter Tryd.func48, Tryd.ntmps48
    go_wp2
    go_ret
    exact ⟨by first | (rw [show bnd _ _ _ _ _ = true from decide_eq_true (by omega)]; rfl) | (rw [show bnd _ _ _ _ _ = false from decide_eq_false (by omega)]; rfl), HB.out⟩
   ·by_cases g2 : 100000 < t
    ·go_enter Tryd.func48, Tryd.ntmps48
     go_wp2
     go_ret
     exact ⟨by first | (rw [show bnd _ _ _ _ _ = true from decide_eq_true (by omega)]; rfl) | (rw [show bnd _ _ _ _ _ = false from decide_eq_false (by omega)]; rfl), HB.out⟩
    ·by_cases g1 : 900 < (d.size : Int)
     ·go_enter Tryd.func48, Tryd.ntmps48
      go_wp2
      go_ret
      exact ⟨by first | (rw [show bnd _ _ _ _ _ = true from decide_eq_true (by omega)]; rfl) | (rw [show bnd _ _ _ _ _ = false from decide_eq_false (by omega)]; rfl), HB.out⟩
     ·by_cases h2 : 1 ≤ i
      ·by_cases h1 : i ≤ 100000
       ·go_enter Tryd.func48, Tryd.ntmps48
        go_wp2
        go_ret
        exact ⟨by first | (rw [show bnd _ _ _ _ _ = true from decide_eq_true (by omega)]; rfl) | (rw [show bnd _ _ _ _ _ = false from decide_eq_false (by omega)]; rfl), HB.out⟩
       ·go_enter Tryd.func48, Tryd.ntmps48
        go_wp2
        go_ret
        exact ⟨by first | (rw [show bnd _ _ _ _ _ = true from decide_eq_true (by omega)]; rfl) | (rw [show bnd _ _ _ _ _ = false from decide_eq_false (by omega)]; rfl), HB.out⟩
      ·go_enter Tryd.func48, Tryd.ntmps48
       go_wp2
       go_ret
       exact ⟨by first | (rw [show bnd _ _ _ _ _ = true from decide_eq_true (by omega)]; rfl) | (rw [show bnd _ _ _ _ _ = false from decide_eq_false (by omega)]; rfl), HB.out⟩
 by_cases k2 : k = 2
 ·subst k2
  by_cases g3 : t < 1
  ·go_enter Tryd.func48, Tryd.ntmps48
   go_wp2
   go_ret
   exact ⟨by first | (rw [show bnd _ _ _ _ _ = true from decide_eq_true (by omega)]; rfl) | (rw [show bnd _ _ _ _ _ = false from decide_eq_false (by omega)]; rfl), HB.out⟩
  ·by_cases g2 : 100000 < t
   ·go_enter Tryd.func48, Tryd.ntmps48
    go_wp2
    go_ret
    exact ⟨by first | (rw [show bnd _ _ _ _ _ = true from decide_eq_true (by omega)]; rfl) | (rw [show bnd _ _ _ _ _ = false from decide_eq_false (by omega)]; rfl), HB.out⟩
   ·by_cases g1 : 900 < (d.size : Int)
    ·go_enter Tryd.func48, Tryd.ntmps48
     go_wp2
     go_ret
     exact ⟨by first | (rw [show bnd _ _ _ _ _ = true from decide_eq_true (by omega)]; rfl) | (rw [show bnd _ _ _ _ _ = false from decide_eq_false (by omega)]; rfl), HB.out⟩
    ·by_cases h2 : 1 ≤ i
     ·by_cases h1 : i ≤ 100000
      ·go_enter Tryd.func48, Tryd.ntmps48
       go_wp2
       go_ret
       exact ⟨by first | (rw [show bnd _ _ _ _ _ = true from decide_eq_true (by omega)]; rfl) | (rw [show bnd _ _ _ _ _ = false from decide_eq_false (by omega)]; rfl), HB.out⟩
      ·go_enter Tryd.func48, Tryd.ntmps48
       go_wp2
       go_ret
       exact ⟨by first | (rw [show bnd _ _ _ _ _ = true from decide_eq_true (by omega)]; rfl) | (rw [show bnd _ _ _ _ _ = false from decide_eq_false (by omega)]; rfl), HB.out⟩
     ·go_enter Tryd.func48, Tryd.ntmps48
      go_wp2
      go_ret
      exact ⟨by first | (rw [show bnd _ _ _ _ _ = true from decide_eq_true (by omega)]; rfl) | (rw [show bnd _ _ _ _ _ = false from decide_eq_false (by omega)]; rfl), HB.out⟩
 by_cases k3 : k = 3
 ·subst k3
  by_cases h2 : 1 ≤ i
  ·by_cases h1 : i ≤ 100000
   ·go_enter Tryd.func48, Tryd.ntmps48
    go_wp2
    go_ret
    exact ⟨by first | (rw [show bnd _ _ _ _ _ = true from decide_eq_true (by omega)]; rfl) | (rw [show bnd _ _ _ _ _ = false from decide_eq_false (by omega)]; rfl), HB.out⟩
   ·go_enter Tryd.func48, Tryd.ntmps48
    go_wp2
    go_ret
    exact ⟨by first | (rw [show bnd _ _ _ _ _ = true from decide_eq_true (by omega)]; rfl) | (rw [show bnd _ _ _ _ _ = false from decide_eq_false (by omega)]; rfl), HB.out⟩
  ·go_enter Tryd.func48, Tryd.ntmps48
   go_wp2
   go_ret
   exact ⟨by first | (rw [show bnd _ _ _ _ _ = true from decide_eq_true (by omega)]; rfl) | (rw [show bnd _ _ _ _ _ = false from decide_eq_false (by omega)]; rfl), HB.out⟩
 have y1 : (k == 1) = false := by simpa using k1
 have y2 : (k == 2) = false := by simpa using k2
 have y3 : (k == 3) = false := by simpa using k3
 have y4 : (k == 4) = false := by simpa using k4
 go_enter Tryd.func48, Tryd.ntmps48
 go_wp2
 go_ret
 exact ⟨by first | (rw [show bnd _ _ _ _ _ = true from decide_eq_true (by omega)]; rfl) | (rw [show bnd _ _ _ _ _ = false from decide_eq_false (by omega)]; rfl), HB.out⟩
set_option maxHeartbeats 1000000 in
theorem kindOfV (k t i v : Int) (d : ByteArray) (w : World) : Calls Tryd.prog 49 #[.agg #[.int .i64 k, .int .i64 t, .int .i64 i, .int .i64 v, .string d]] w fun e w' => e = .returned (kindV ⟨k, t, i, v, d⟩) ∧ Below w.heap.size w w' := by
 have HB : Hid (Below w.heap.size w (w.alloc (.cells #[.int .i64 k, .int .i64 t, .int .i64 i, .int .i64 v, .string d] 55))) := (Below.refl _ _).alloc (Nat.le_refl _) _
 by_cases k1 : k = 1
 ·subst k1
  go_enter Tryd.func49, Tryd.ntmps49
  go_wp2
  go_ret
  exact ⟨rfl, HB.out⟩
 by_cases k2 : k = 2
 ·subst k2
  go_enter Tryd.func49, Tryd.ntmps49
  go_wp2
  go_ret
  exact ⟨rfl, HB.out⟩
 by_cases k3 : k = 3
 ·subst k3
  go_enter Tryd.func49, Tryd.ntmps49
  go_wp2
  go_ret
  exact ⟨rfl, HB.out⟩
 have y1 : (k == 1) = false := by simpa using k1
 have y2 : (k == 2) = false := by simpa using k2
 have y3 : (k == 3) = false := by simpa using k3
 have HE : Hid (kindV ⟨k, t, i, v, d⟩ = .iface 38 (.agg #[.int .i64 i, .int .i64 t])) := by unfold Hid kindV; rw [if_neg k1, if_neg k2, if_neg k3]
 clear k1 k2 k3
 go_enter Tryd.func49, Tryd.ntmps49
 go_wp2
 go_ret
 exact ⟨by rw [HE.out]; rfl, HB.out⟩
theorem below_alloc2' (w : World) (a b : Obj) : Below w.heap.size w ((w.alloc a).alloc b) := ((Below.refl _ w).alloc (Nat.le_refl _) a).alloc (by simp) b
set_option maxHeartbeats 400000 in
theorem hardRec (t v : Int) (w : World) : Calls Tryd.prog 71 #[.agg #[.int .i64 t, .int .i64 v]] w fun e w' => e = .returned (.agg #[.int .i64 1, .int .i64 t, .int .i64 0, .int .i64 v, .string ⟨#[]⟩]) ∧ Below w.heap.size w w' := by
 go_enter Tryd.func71, Tryd.ntmps71
 go_wp2
 exact bodyPost_ret (v := .agg #[.int .i64 1, .int .i64 t, .int .i64 0, .int .i64 v, .string ⟨#[]⟩]) (by simp [results, go_sem]) rfl ⟨rfl, below_alloc2' _ _ _⟩
set_option maxHeartbeats 400000 in
theorem entryRec (i t : Int) (d : ByteArray) (w : World) : Calls Tryd.prog 73 #[.agg #[.int .i64 i, .int .i64 t, .string d]] w fun e w' => e = .returned (.agg #[.int .i64 2, .int .i64 t, .int .i64 i, .int .i64 0, .string d]) ∧ Below w.heap.size w w' := by
 go_enter Tryd.func73, Tryd.ntmps73
 go_wp2
 exact bodyPost_ret (v := .agg #[.int .i64 2, .int .i64 t, .int .i64 i, .int .i64 0, .string d]) (by simp [results, go_sem]) rfl ⟨rfl, below_alloc2' _ _ _⟩
set_option maxHeartbeats 400000 in
theorem cutRec (i : Int) (w : World) : Calls Tryd.prog 74 #[.agg #[.int .i64 i]] w fun e w' => e = .returned (.agg #[.int .i64 3, .int .i64 0, .int .i64 i, .int .i64 0, .string ⟨#[]⟩]) ∧ Below w.heap.size w w' := by
 go_enter Tryd.func74, Tryd.ntmps74
 go_wp2
 exact bodyPost_ret (v := .agg #[.int .i64 3, .int .i64 0, .int .i64 i, .int .i64 0, .string ⟨#[]⟩]) (by simp [results, go_sem]) rfl ⟨rfl, below_alloc2' _ _ _⟩
set_option maxHeartbeats 400000 in
theorem baseRec (i t : Int) (w : World) : Calls Tryd.prog 70 #[.agg #[.int .i64 i, .int .i64 t]] w fun e w' => e = .returned (.agg #[.int .i64 4, .int .i64 t, .int .i64 i, .int .i64 0, .string ⟨#[]⟩]) ∧ Below w.heap.size w w' := by
 go_enter Tryd.func70, Tryd.ntmps70
 go_wp2
 exact bodyPost_ret (v := .agg #[.int .i64 4, .int .i64 t, .int .i64 i, .int .i64 0, .string ⟨#[]⟩]) (by simp [results, go_sem]) rfl ⟨rfl, below_alloc2' _ _ _⟩
end Go.Proofs.YtgillglkmnocaaaDoor
namespace Go.Proofs.YtgillglkmnocaaaDoor
open Go.ChangeShapes Go.WideShapes Go.ChangeAt Go.RowKit Go.PlainAid
set_option linter.unusedVariables false
def recV (r : Rcd) : Value := if recOk r = true then kindV r else .nilIface
def rest0 (k t i v : Int) (d : ByteArray) : Bool :=
 if k = 1 then decide (i = 0) && decide (d = ByteArray.empty) else if k = 2 then decide (v = 0)
 else if k = 3 then decide (t = 0) && decide (v = 0) && decide (d = ByteArray.empty) else decide (v = 0) && decide (d = ByteArray.empty)
theorem recOk_iff (k t i v : Int) (d : ByteArray) : recOk ⟨k, t, i, v, d⟩ = (bnd k t i v d.size && rest0 k t i v d) := by
 rw [Bool.eq_iff_iff]
 unfold recOk bnd rest0 based inIt
 have hz : d = ByteArray.empty → (d.size : Int) = 0 := fun h => by subst h; rfl
 by_cases k1 : k = 1
 ·subst k1
  simp
  constructor <;> intro h <;> simp [h]
 by_cases k2 : k = 2
 ·subst k2
  simp
  omega
 by_cases k3 : k = 3
 ·subst k3
  simp
  constructor <;> intro h <;> simp [h]
 by_cases k4 : k = 4
 ·subst k4
  by_cases hd : d = ByteArray.empty
  ·have := hz hd
   by_cases hi : i = 0
   ·subst hi
    simp [hd]
   ·simp [hd, hi]
    omega
  ·simp [hd]
 ·simp [k1, k2, k3, k4]
theorem empty_eqs (d : ByteArray) : ([] == d.toList) = decide (d = ByteArray.empty) := by
 rw [← empty_beq]
 cases d.toList <;> rfl
set_option maxHeartbeats 1000000 in
theorem recordOf_no (k t i v : Int) (d : ByteArray) (w : World) (hd : d.size ≤ maxLen) (hn : bnd k t i v d.size = false) : Calls Tryd.prog 38 #[.agg #[.int .i64 k, .int .i64 t, .int .i64 i, .int .i64 v, .string d]] w fun e w' => e = .returned .nilIface ∧ Below w.heap.size w w' := by
 have c1 := fun wx => inBoundsV k t i v d wx hd
 rw [hn] at c1
 have hb0 : Below w.heap.size w (w.alloc (.cells #[.int .i64 k, .int .i64 t, .int .i64 i, .int .i64 v, .string d] 55)) := (Below.refl _ _).alloc (Nat.le_refl _) _
 go_enter Tryd.func38, Tryd.ntmps38
 go_wp2_with fail
 generalize w.alloc (.cells #[.int .i64 k, .int .i64 t, .int .i64 i, .int .i64 v, .string d] 55) = W at *
 refine (c1 _).mono ?_
 rintro e w1 ⟨rfl, hb1⟩
 have B1 : Hid (Below w.heap.size w w1) := hb0.trans (hb1.mono hb0.size)
 clear hb0 hb1 c1
 go_wp2_with fail
 go_ret
 exact ⟨rfl, B1.out⟩
set_option maxHeartbeats 2000000 in
theorem recordOf_hard (t i v : Int) (d : ByteArray) (w : World) (hd : d.size ≤ maxLen) (hn : bnd 1 t i v d.size = true) : Calls Tryd.prog 38 #[.agg #[.int .i64 1, .int .i64 t, .int .i64 i, .int .i64 v, .string d]] w fun e w' => e = .returned (recV ⟨1, t, i, v, d⟩) ∧ Below w.heap.size w w' := by
 have HE : Hid (recV ⟨1, t, i, v, d⟩ = if (decide (i = 0) && decide (d = ByteArray.empty)) = true then kindV ⟨1, t, i, v, d⟩ else .nilIface) := by unfold Hid recV; rw [recOk_iff, hn, Bool.true_and]; rfl
 have c1 := fun wx => inBoundsV 1 t i v d wx hd
 rw [hn] at c1
 have c2 := fun wx => kindOfV 1 t i v d wx
 have c3 := fun wx => hardRec t v wx
 have hb0 : Below w.heap.size w (w.alloc (.cells #[.int .i64 1, .int .i64 t, .int .i64 i, .int .i64 v, .string d] 55)) := (Below.refl _ _).alloc (Nat.le_refl _) _
 have k0 := Blk.new w #[.int .i64 1, .int .i64 t, .int .i64 i, .int .i64 v, .string d] 55
 clear hd hn
 go_enter Tryd.func38, Tryd.ntmps38
 go_wp2_with fail
 generalize w.alloc (.cells #[.int .i64 1, .int .i64 t, .int .i64 i, .int .i64 v, .string d] 55) = W at *
 refine (c1 _).mono ?_
 rintro e w1 ⟨rfl, hb1⟩
 have B1 : Hid (Below w.heap.size w w1) := hb0.trans (hb1.mono hb0.size)
 have k1 := k0.on hb1 k0.lt
 clear hb0 hb1 c1 k0
 have e0 := k1.cell 0 (.int .i64 1) rfl
 have e1 := k1.cell 1 (.int .i64 t) rfl
 have e2 := k1.cell 2 (.int .i64 i) rfl
 have e3 := k1.cell 3 (.int .i64 v) rfl
 have e4 := k1.cell 4 (.string d) rfl
 have K1 : Hid (Blk w1 w.heap.size _ _) := k1
 clear k1
 go_wp2_with fail
 refine (c2 _).mono ?_
 rintro e w2 ⟨rfl, hb2⟩
 have B2 : Hid (Below w.heap.size w w2) := B1.out.trans (hb2.mono B1.out.size)
 have k2 := K1.out.on hb2 K1.out.lt
 have hlt : w.heap.size < w2.heap.size := k2.lt
 clear hb2 e0 e1 e2 e3 e4 K1 B1
 have e0 := k2.cell 0 (.int .i64 1) rfl
 have e1 := k2.cell 1 (.int .i64 t) rfl
 have e2 := k2.cell 2 (.int .i64 i) rfl
 have e3 := k2.cell 3 (.int .i64 v) rfl
 have e4 := k2.cell 4 (.string d) rfl
 clear k2 c2
 rw [show kindV ⟨1, t, i, v, d⟩ = .iface 40 (.agg #[.int .i64 t, .int .i64 v]) from rfl]
 by_cases hzi : i = 0
 ·subst hzi
  rw [decide_eq_true rfl] at HE
  have hb1 := empty_beq d
  have hb2 := empty_eqs d
  cases hdd : decide (d = ByteArray.empty) <;> rw [hdd] at hb1 hb2 HE <;> clear hdd
  ·have HE : Hid (recV ⟨1, t, 0, v, d⟩ = .nilIface) := by unfold Hid; rw [HE.out]; rfl
   go_wp2_with fail
   go_region_with (go_at_call 71; refine (c3 _).mono ?_; rintro e w3 ⟨rfl, hb3⟩; have a0 := (hb3.cell (p := ⟨w.heap.size, 0, none⟩) hlt).trans e0; have a1 := (hb3.cell (p := ⟨w.heap.size, 1, none⟩) hlt).trans e1; have a2 := (hb3.cell (p := ⟨w.heap.size, 2, none⟩) hlt).trans e2; have a3 := (hb3.cell (p := ⟨w.heap.size, 3, none⟩) hlt).trans e3; have a4 := (hb3.cell (p := ⟨w.heap.size, 4, none⟩) hlt).trans e4)
   all_goals go_wp2_with fail
   all_goals go_ret
   all_goals exact ⟨by rw [HE.out]; first | rfl | simp [kindV], B2.out.trans (((Below.refl _ w2).drew.trans hb3).mono B2.out.size)⟩
  ·have HE : Hid (recV ⟨1, t, 0, v, d⟩ = kindV ⟨1, t, 0, v, d⟩) := by unfold Hid; rw [HE.out]; rfl
   go_wp2_with fail
   go_region_with (go_at_call 71; refine (c3 _).mono ?_; rintro e w3 ⟨rfl, hb3⟩; have a0 := (hb3.cell (p := ⟨w.heap.size, 0, none⟩) hlt).trans e0; have a1 := (hb3.cell (p := ⟨w.heap.size, 1, none⟩) hlt).trans e1; have a2 := (hb3.cell (p := ⟨w.heap.size, 2, none⟩) hlt).trans e2; have a3 := (hb3.cell (p := ⟨w.heap.size, 3, none⟩) hlt).trans e3; have a4 := (hb3.cell (p := ⟨w.heap.size, 4, none⟩) hlt).trans e4)
   all_goals go_wp2_with fail
   all_goals go_ret
   all_goals exact ⟨by rw [HE.out]; first | rfl | simp [kindV], B2.out.trans (((Below.refl _ w2).drew.trans hb3).mono B2.out.size)⟩
 ·rw [decide_eq_false hzi] at HE
  have HE : Hid (recV ⟨1, t, i, v, d⟩ = .nilIface) := by unfold Hid; rw [HE.out]; first | rfl | simp
  have zi : ((0 : Int) == i) = false := by simpa using Ne.symm hzi
  go_wp2_with fail
  go_region_with (go_at_call 71; refine (c3 _).mono ?_; rintro e w3 ⟨rfl, hb3⟩; have a0 := (hb3.cell (p := ⟨w.heap.size, 0, none⟩) hlt).trans e0; have a1 := (hb3.cell (p := ⟨w.heap.size, 1, none⟩) hlt).trans e1; have a2 := (hb3.cell (p := ⟨w.heap.size, 2, none⟩) hlt).trans e2; have a3 := (hb3.cell (p := ⟨w.heap.size, 3, none⟩) hlt).trans e3; have a4 := (hb3.cell (p := ⟨w.heap.size, 4, none⟩) hlt).trans e4)
  all_goals go_wp2_with fail
  all_goals go_ret
  all_goals exact ⟨by rw [HE.out]; first | rfl | simp [kindV], B2.out.trans (((Below.refl _ w2).drew.trans hb3).mono B2.out.size)⟩
set_option maxHeartbeats 2000000 in
theorem recordOf_entry (t i v : Int) (d : ByteArray) (w : World) (hd : d.size ≤ maxLen) (hn : bnd 2 t i v d.size = true) : Calls Tryd.prog 38 #[.agg #[.int .i64 2, .int .i64 t, .int .i64 i, .int .i64 v, .string d]] w fun e w' => e = .returned (recV ⟨2, t, i, v, d⟩) ∧ Below w.heap.size w w' := by
 have HE : Hid (recV ⟨2, t, i, v, d⟩ = if (decide (v = 0)) = true then kindV ⟨2, t, i, v, d⟩ else .nilIface) := by unfold Hid recV; rw [recOk_iff, hn, Bool.true_and]; rfl
 have c1 := fun wx => inBoundsV 2 t i v d wx hd
 rw [hn] at c1
 have c2 := fun wx => kindOfV 2 t i v d wx
 have c3 := fun wx => entryRec i t d wx
 have hb0 : Below w.heap.size w (w.alloc (.cells #[.int .i64 2, .int .i64 t, .int .i64 i, .int .i64 v, .string d] 55)) := (Below.refl _ _).alloc (Nat.le_refl _) _
 have k0 := Blk.new w #[.int .i64 2, .int .i64 t, .int .i64 i, .int .i64 v, .string d] 55
 clear hd hn
 go_enter Tryd.func38, Tryd.ntmps38
 go_wp2_with fail
 generalize w.alloc (.cells #[.int .i64 2, .int .i64 t, .int .i64 i, .int .i64 v, .string d] 55) = W at *
 refine (c1 _).mono ?_
 rintro e w1 ⟨rfl, hb1⟩
 have B1 : Hid (Below w.heap.size w w1) := hb0.trans (hb1.mono hb0.size)
 have k1 := k0.on hb1 k0.lt
 clear hb0 hb1 c1 k0
 have e0 := k1.cell 0 (.int .i64 2) rfl
 have e1 := k1.cell 1 (.int .i64 t) rfl
 have e2 := k1.cell 2 (.int .i64 i) rfl
 have e3 := k1.cell 3 (.int .i64 v) rfl
 have e4 := k1.cell 4 (.string d) rfl
 have K1 : Hid (Blk w1 w.heap.size _ _) := k1
 clear k1
 go_wp2_with fail
 refine (c2 _).mono ?_
 rintro e w2 ⟨rfl, hb2⟩
 have B2 : Hid (Below w.heap.size w w2) := B1.out.trans (hb2.mono B1.out.size)
 have k2 := K1.out.on hb2 K1.out.lt
 have hlt : w.heap.size < w2.heap.size := k2.lt
 clear hb2 e0 e1 e2 e3 e4 K1 B1
 have e0 := k2.cell 0 (.int .i64 2) rfl
 have e1 := k2.cell 1 (.int .i64 t) rfl
 have e2 := k2.cell 2 (.int .i64 i) rfl
 have e3 := k2.cell 3 (.int .i64 v) rfl
 have e4 := k2.cell 4 (.string d) rfl
 clear k2 c2
 rw [show kindV ⟨2, t, i, v, d⟩ = .iface 77 (.agg #[.int .i64 i, .int .i64 t, .string d]) from rfl]
 by_cases hzv : v = 0
 ·subst hzv
  rw [decide_eq_true rfl] at HE
  have HE : Hid (recV ⟨2, t, i, 0, d⟩ = kindV ⟨2, t, i, 0, d⟩) := by unfold Hid; rw [HE.out]; rfl
  go_wp2_with fail
  go_region_with (go_at_call 73; refine (c3 _).mono ?_; rintro e w3 ⟨rfl, hb3⟩; have a0 := (hb3.cell (p := ⟨w.heap.size, 0, none⟩) hlt).trans e0; have a1 := (hb3.cell (p := ⟨w.heap.size, 1, none⟩) hlt).trans e1; have a2 := (hb3.cell (p := ⟨w.heap.size, 2, none⟩) hlt).trans e2; have a3 := (hb3.cell (p := ⟨w.heap.size, 3, none⟩) hlt).trans e3; have a4 := (hb3.cell (p := ⟨w.heap.size, 4, none⟩) hlt).trans e4)
  all_goals go_wp2_with fail
  all_goals go_ret
  all_goals exact ⟨by rw [HE.out]; first | rfl | simp [kindV], B2.out.trans (((Below.refl _ w2).drew.trans hb3).mono B2.out.size)⟩
 ·rw [decide_eq_false hzv] at HE
  have HE : Hid (recV ⟨2, t, i, v, d⟩ = .nilIface) := by unfold Hid; rw [HE.out]; first | rfl | simp
  have zv : ((0 : Int) == v) = false := by simpa using Ne.symm hzv
  go_wp2_with fail
  go_region_with (go_at_call 73; refine (c3 _).mono ?_; rintro e w3 ⟨rfl, hb3⟩; have a0 := (hb3.cell (p := ⟨w.heap.size, 0, none⟩) hlt).trans e0; have a1 := (hb3.cell (p := ⟨w.heap.size, 1, none⟩) hlt).trans e1; have a2 := (hb3.cell (p := ⟨w.heap.size, 2, none⟩) hlt).trans e2; have a3 := (hb3.cell (p := ⟨w.heap.size, 3, none⟩) hlt).trans e3; have a4 := (hb3.cell (p := ⟨w.heap.size, 4, none⟩) hlt).trans e4)
  all_goals go_wp2_with fail
  all_goals go_ret
  all_goals exact ⟨by rw [HE.out]; first | rfl | simp [kindV], B2.out.trans (((Below.refl _ w2).drew.trans hb3).mono B2.out.size)⟩
set_option maxHeartbeats 2000000 in
theorem recordOf_cut (t i v : Int) (d : ByteArray) (w : World) (hd : d.size ≤ maxLen) (hn : bnd 3 t i v d.size = true) : Calls Tryd.prog 38 #[.agg #[.int .i64 3, .int .i64 t, .int .i64 i, .int .i64 v, .string d]] w fun e w' => e = .returned (recV ⟨3, t, i, v, d⟩) ∧ Below w.heap.size w w' := by
 have HE : Hid (recV ⟨3, t, i, v, d⟩ = if (decide (t = 0) && decide (v = 0) && decide (d = ByteArray.empty)) = true then kindV ⟨3, t, i, v, d⟩ else .nilIface) := by unfold Hid recV; rw [recOk_iff, hn, Bool.true_and]; rfl
 have c1 := fun wx => inBoundsV 3 t i v d wx hd
 rw [hn] at c1
 have c2 := fun wx => kindOfV 3 t i v d wx
 have c3 := fun wx => cutRec i wx
 have hb0 : Below w.heap.size w (w.alloc (.cells #[.int .i64 3, .int .i64 t, .int .i64 i, .int .i64 v, .string d] 55)) := (Below.refl _ _).alloc (Nat.le_refl _) _
 have k0 := Blk.new w #[.int .i64 3, .int .i64 t, .int .i64 i, .int .i64 v, .string d] 55
 clear hd hn
 go_enter Tryd.func38, Tryd.ntmps38
 go_wp2_with fail
 generalize w.alloc (.cells #[.int .i64 3, .int .i64 t, .int .i64 i, .int .i64 v, .string d] 55) = W at *
 refine (c1 _).mono ?_
 rintro e w1 ⟨rfl, hb1⟩
 have B1 : Hid (Below w.heap.size w w1) := hb0.trans (hb1.mono hb0.size)
 have k1 := k0.on hb1 k0.lt
 clear hb0 hb1 c1 k0
 have e0 := k1.cell 0 (.int .i64 3) rfl
 have e1 := k1.cell 1 (.int .i64 t) rfl
 have e2 := k1.cell 2 (.int .i64 i) rfl
 have e3 := k1.cell 3 (.int .i64 v) rfl
 have e4 := k1.cell 4 (.string d) rfl
 have K1 : Hid (Blk w1 w.heap.size _ _) := k1
 clear k1
 go_wp2_with fail
 refine (c2 _).mono ?_
 rintro e w2 ⟨rfl, hb2⟩
 have B2 : Hid (Below w.heap.size w w2) := B1.out.trans (hb2.mono B1.out.size)
 have k2 := K1.out.on hb2 K1.out.lt
 have hlt : w.heap.size < w2.heap.size := k2.lt
 clear hb2 e0 e1 e2 e3 e4 K1 B1
 have e0 := k2.cell 0 (.int .i64 3) rfl
 have e1 := k2.cell 1 (.int .i64 t) rfl
 have e2 := k2.cell 2 (.int .i64 i) rfl
 have e3 := k2.cell 3 (.int .i64 v) rfl
 have e4 := k2.cell 4 (.string d) rfl
 clear k2 c2
 rw [show kindV ⟨3, t, i, v, d⟩ = .iface 91 (.agg #[.int .i64 i]) from rfl]
 by_cases hzt : t = 0
 ·subst hzt
  rw [decide_eq_true rfl] at HE
  by_cases hzv : v = 0
  ·subst hzv
   rw [decide_eq_true rfl] at HE
   have hb1 := empty_beq d
   have hb2 := empty_eqs d
   cases hdd : decide (d = ByteArray.empty) <;> rw [hdd] at hb1 hb2 HE <;> clear hdd
   ·have HE : Hid (recV ⟨3, 0, i, 0, d⟩ = .nilIface) := by unfold Hid; rw [HE.out]; rfl
    go_wp2_with fail
    go_region_with (go_at_call 74; refine (c3 _).mono ?_; rintro e w3 ⟨rfl, hb3⟩; have a0 := (hb3.cell (p := ⟨w.heap.size, 0, none⟩) hlt).trans e0; have a1 := (hb3.cell (p := ⟨w.heap.size, 1, none⟩) hlt).trans e1; have a2 := (hb3.cell (p := ⟨w.heap.size, 2, none⟩) hlt).trans e2; have a3 := (hb3.cell (p := ⟨w.heap.size, 3, none⟩) hlt).trans e3; have a4 := (hb3.cell (p := ⟨w.heap.size, 4, none⟩) hlt).trans e4)
    all_goals go_wp2_with fail
    all_goals go_ret
    all_goals exact ⟨by rw [HE.out]; first | rfl | simp [kindV], B2.out.trans (((Below.refl _ w2).drew.trans hb3).mono B2.out.size)⟩
   ·have HE : Hid (recV ⟨3, 0, i, 0, d⟩ = kindV ⟨3, 0, i, 0, d⟩) := by unfold Hid; rw [HE.out]; rfl
    go_wp2_with fail
    go_region_with (go_at_call 74; refine (c3 _).mono ?_; rintro e w3 ⟨rfl, hb3⟩; have a0 := (hb3.cell (p := ⟨w.heap.size, 0, none⟩) hlt).trans e0; have a1 := (hb3.cell (p := ⟨w.heap.size, 1, none⟩) hlt).trans e1; have a2 := (hb3.cell (p := ⟨w.heap.size, 2, none⟩) hlt).trans e2; have a3 := (hb3.cell (p := ⟨w.heap.size, 3, none⟩) hlt).trans e3; have a4 := (hb3.cell (p := ⟨w.heap.size, 4, none⟩) hlt).trans e4)
    all_goals go_wp2_with fail
    all_goals go_ret
    all_goals exact ⟨by rw [HE.out]; first | rfl | simp [kindV], B2.out.trans (((Below.refl _ w2).drew.trans hb3).mono B2.out.size)⟩
  ·rw [decide_eq_false hzv] at HE
   have HE : Hid (recV ⟨3, 0, i, v, d⟩ = .nilIface) := by unfold Hid; rw [HE.out]; first | rfl | simp
   have zv : ((0 : Int) == v) = false := by simpa using Ne.symm hzv
   go_wp2_with fail
   go_region_with (go_at_call 74; refine (c3 _).mono ?_; rintro e w3 ⟨rfl, hb3⟩; have a0 := (hb3.cell (p := ⟨w.heap.size, 0, none⟩) hlt).trans e0; have a1 := (hb3.cell (p := ⟨w.heap.size, 1, none⟩) hlt).trans e1; have a2 := (hb3.cell (p := ⟨w.heap.size, 2, none⟩) hlt).trans e2; have a3 := (hb3.cell (p := ⟨w.heap.size, 3, none⟩) hlt).trans e3; have a4 := (hb3.cell (p := ⟨w.heap.size, 4, none⟩) hlt).trans e4)
   all_goals go_wp2_with fail
   all_goals go_ret
   all_goals exact ⟨by rw [HE.out]; first | rfl | simp [kindV], B2.out.trans (((Below.refl _ w2).drew.trans hb3).mono B2.out.size)⟩
 ·rw [decide_eq_false hzt] at HE
  have HE : Hid (recV ⟨3, t, i, v, d⟩ = .nilIface) := by unfold Hid; rw [HE.out]; first | rfl | simp
  have zt : ((0 : Int) == t) = false := by simpa using Ne.symm hzt
  go_wp2_with fail
  go_region_with (go_at_call 74; refine (c3 _).mono ?_; rintro e w3 ⟨rfl, hb3⟩; have a0 := (hb3.cell (p := ⟨w.heap.size, 0, none⟩) hlt).trans e0; have a1 := (hb3.cell (p := ⟨w.heap.size, 1, none⟩) hlt).trans e1; have a2 := (hb3.cell (p := ⟨w.heap.size, 2, none⟩) hlt).trans e2; have a3 := (hb3.cell (p := ⟨w.heap.size, 3, none⟩) hlt).trans e3; have a4 := (hb3.cell (p := ⟨w.heap.size, 4, none⟩) hlt).trans e4)
  all_goals go_wp2_with fail
  all_goals go_ret
  all_goals exact ⟨by rw [HE.out]; first | rfl | simp [kindV], B2.out.trans (((Below.refl _ w2).drew.trans hb3).mono B2.out.size)⟩
set_option maxHeartbeats 2000000 in
theorem recordOf_base (t i v : Int) (d : ByteArray) (w : World) (hd : d.size ≤ maxLen) (hn : bnd 4 t i v d.size = true) : Calls Tryd.prog 38 #[.agg #[.int .i64 4, .int .i64 t, .int .i64 i, .int .i64 v, .string d]] w fun e w' => e = .returned (recV ⟨4, t, i, v, d⟩) ∧ Below w.heap.size w w' := by
 have HE : Hid (recV ⟨4, t, i, v, d⟩ = if (decide (v = 0) && decide (d = ByteArray.empty)) = true then kindV ⟨4, t, i, v, d⟩ else .nilIface) := by unfold Hid recV; rw [recOk_iff, hn, Bool.true_and]; rfl
 have c1 := fun wx => inBoundsV 4 t i v d wx hd
 rw [hn] at c1
 have c2 := fun wx => kindOfV 4 t i v d wx
 have c3 := fun wx => baseRec i t wx
 have hb0 : Below w.heap.size w (w.alloc (.cells #[.int .i64 4, .int .i64 t, .int .i64 i, .int .i64 v, .string d] 55)) := (Below.refl _ _).alloc (Nat.le_refl _) _
 have k0 := Blk.new w #[.int .i64 4, .int .i64 t, .int .i64 i, .int .i64 v, .string d] 55
 clear hd hn
 go_enter Tryd.func38, Tryd.ntmps38
 go_wp2_with fail
 generalize w.alloc (.cells #[.int .i64 4, .int .i64 t, .int .i64 i, .int .i64 v, .string d] 55) = W at *
 refine (c1 _).mono ?_
 rintro e w1 ⟨rfl, hb1⟩
 have B1 : Hid (Below w.heap.size w w1) := hb0.trans (hb1.mono hb0.size)
 have k1 := k0.on hb1 k0.lt
 clear hb0 hb1 c1 k0
 have e0 := k1.cell 0 (.int .i64 4) rfl
 have e1 := k1.cell 1 (.int .i64 t) rfl
 have e2 := k1.cell 2 (.int .i64 i) rfl
 have e3 := k1.cell 3 (.int .i64 v) rfl
 have e4 := k1.cell 4 (.string d) rfl
 have K1 : Hid (Blk w1 w.heap.size _ _) := k1
 clear k1
 go_wp2_with fail
 refine (c2 _).mono ?_
 rintro e w2 ⟨rfl, hb2⟩
 have B2 : Hid (Below w.heap.size w w2) := B1.out.trans (hb2.mono B1.out.size)
 have k2 := K1.out.on hb2 K1.out.lt
 have hlt : w.heap.size < w2.heap.size := k2.lt
 clear hb2 e0 e1 e2 e3 e4 K1 B1
 have e0 := k2.cell 0 (.int .i64 4) rfl
 have e1 := k2.cell 1 (.int .i64 t) rfl
 have e2 := k2.cell 2 (.int .i64 i) rfl
 have e3 := k2.cell 3 (.int .i64 v) rfl
 have e4 := k2.cell 4 (.string d) rfl
 clear k2 c2
 rw [show kindV ⟨4, t, i, v, d⟩ = .iface 38 (.agg #[.int .i64 i, .int .i64 t]) from rfl]
 by_cases hzv : v = 0
 ·subst hzv
  rw [decide_eq_true rfl] at HE
  have hb1 := empty_beq d
  have hb2 := empty_eqs d
  cases hdd : decide (d = ByteArray.empty) <;> rw [hdd] at hb1 hb2 HE <;> clear hdd
  ·have HE : Hid (recV ⟨4, t, i, 0, d⟩ = .nilIface) := by unfold Hid; rw [HE.out]; rfl
   go_wp2_with fail
   go_region_with (go_at_call 70; refine (c3 _).mono ?_; rintro e w3 ⟨rfl, hb3⟩; have a0 := (hb3.cell (p := ⟨w.heap.size, 0, none⟩) hlt).trans e0; have a1 := (hb3.cell (p := ⟨w.heap.size, 1, none⟩) hlt).trans e1; have a2 := (hb3.cell (p := ⟨w.heap.size, 2, none⟩) hlt).trans e2; have a3 := (hb3.cell (p := ⟨w.heap.size, 3, none⟩) hlt).trans e3; have a4 := (hb3.cell (p := ⟨w.heap.size, 4, none⟩) hlt).trans e4)
   all_goals go_wp2_with fail
   all_goals go_ret
   all_goals exact ⟨by rw [HE.out]; first | rfl | simp [kindV], B2.out.trans (((Below.refl _ w2).drew.trans hb3).mono B2.out.size)⟩
  ·have HE : Hid (recV ⟨4, t, i, 0, d⟩ = kindV ⟨4, t, i, 0, d⟩) := by unfold Hid; rw [HE.out]; rfl
   go_wp2_with fail
   go_region_with (go_at_call 70; refine (c3 _).mono ?_; rintro e w3 ⟨rfl, hb3⟩; have a0 := (hb3.cell (p := ⟨w.heap.size, 0, none⟩) hlt).trans e0; have a1 := (hb3.cell (p := ⟨w.heap.size, 1, none⟩) hlt).trans e1; have a2 := (hb3.cell (p := ⟨w.heap.size, 2, none⟩) hlt).trans e2; have a3 := (hb3.cell (p := ⟨w.heap.size, 3, none⟩) hlt).trans e3; have a4 := (hb3.cell (p := ⟨w.heap.size, 4, none⟩) hlt).trans e4)
   all_goals go_wp2_with fail
   all_goals go_ret
   all_goals exact ⟨by rw [HE.out]; first | rfl | simp [kindV], B2.out.trans (((Below.refl _ w2).drew.trans hb3).mono B2.out.size)⟩
 ·rw [decide_eq_false hzv] at HE
  have HE : Hid (recV ⟨4, t, i, v, d⟩ = .nilIface) := by unfold Hid; rw [HE.out]; first | rfl | simp
  have zv : ((0 : Int) == v) = false := by simpa using Ne.symm hzv
  go_wp2_with fail
  go_region_with (go_at_call 70; refine (c3 _).mono ?_; rintro e w3 ⟨rfl, hb3⟩; have a0 := (hb3.cell (p := ⟨w.heap.size, 0, none⟩) hlt).trans e0; have a1 := (hb3.cell (p := ⟨w.heap.size, 1, none⟩) hlt).trans e1; have a2 := (hb3.cell (p := ⟨w.heap.size, 2, none⟩) hlt).trans e2; have a3 := (hb3.cell (p := ⟨w.heap.size, 3, none⟩) hlt).trans e3; have a4 := (hb3.cell (p := ⟨w.heap.size, 4, none⟩) hlt).trans e4)
  all_goals go_wp2_with fail
  all_goals go_ret
  all_goals exact ⟨by rw [HE.out]; first | rfl | simp [kindV], B2.out.trans (((Below.refl _ w2).drew.trans hb3).mono B2.out.size)⟩
theorem recordOfV (r : Rcd) (w : World) (hd : r.data.size ≤ maxLen) : Calls Tryd.prog 38 #[vRcd r] w fun e w' => e = .returned (recV r) ∧ Below w.heap.size w w' := by
 obtain ⟨k, t, i, v, d⟩ := r
 cases hn : bnd k t i v d.size
 ·have : recV ⟨k, t, i, v, d⟩ = .nilIface := by unfold recV; rw [recOk_iff, hn]; rfl
  rw [this]
  exact recordOf_no k t i v d w hd hn
 ·have hh := of_decide_eq_true hn
  rcases (show k = 1 ∨ k = 2 ∨ k = 3 ∨ k = 4 by omega) with rfl | rfl | rfl | rfl
  ·exact recordOf_hard t i v d w hd hn
  ·exact recordOf_entry t i v d w hd hn
  ·exact recordOf_cut t i v d w hd hn
  ·exact recordOf_base t i v d w hd hn
set_option maxHeartbeats 1000000 in
theorem implRecOk (r : Rcd) (w : World) (hd : r.data.size ≤ maxLen) : Calls Tryd.prog 29 #[vRcd r] w fun e w' => e = .returned (.bool (recOk r)) ∧ Below w.heap.size w w' := by
 have c1 := fun wx => recordOfV r wx hd
 have HE : Hid (recV r = if recOk r = true then kindV r else .nilIface) := rfl
 have HK : Hid (∃ a b, kindV r = .iface a b) := by
  unfold Hid kindV
  split
  ·exact ⟨_, _, rfl⟩
  split
  ·exact ⟨_, _, rfl⟩
  split
  ·exact ⟨_, _, rfl⟩
  ·exact ⟨_, _, rfl⟩
 unfold vRcd at *
 have hb0 : Below w.heap.size w (w.alloc (.cells #[.int .i64 r.kind, .int .i64 r.term, .int .i64 r.index, .int .i64 r.vote, .string r.data] 55)) := (Below.refl _ _).alloc (Nat.le_refl _) _
 go_enter Tryd.func29, Tryd.ntmps29
 go_wp2_with fail
 generalize w.alloc (.cells #[.int .i64 r.kind, .int .i64 r.term, .int .i64 r.index, .int .i64 r.vote, .string r.data] 55) = W at *
 refine (c1 _).mono ?_
 rintro e w1 ⟨rfl, hb1⟩
 have B1 : Hid (Below w.heap.size w w1) := hb0.trans (hb1.mono hb0.size)
 clear hb0 hb1 c1
 cases ho : recOk r
 ·rw [show recV r = .nilIface by rw [HE.out, ho]; rfl]
  go_wp2_with fail
  go_ret
  exact ⟨by rw [ho]; rfl, B1.out⟩
 ·obtain ⟨a, b, hk⟩ := HK.out
  rw [show recV r = .iface a b by rw [HE.out, ho, hk]; rfl]
  clear hk
  go_wp2_with fail
  go_ret
  exact ⟨by rw [ho]; rfl, B1.out⟩
end Go.Proofs.YtgillglkmnocaaaDoor
namespace Go.Proofs.YtgillglkmnocaaaDoor
open Go.ChangeShapes Go.WideShapes Go.ChangeAt Go.RowKit Go.PlainAid
set_option linter.unusedVariables false
set_option maxHeartbeats 400000 in
theorem impl_var (n : Nat) (w : World) (h1 : n ≤ 562949953421311) :
  Calls Tryd.prog 34 #[.int .i64 (n : Int)] w fun e w' => e = .returned (.string (txt (vF 6 n))) ∧ Below w.heap.size w w' := by
 have q1 : (n : Int) ≤ 562949953421311 := by omega
 have q0 : (0 : Int) ≤ (n : Int) := by omega
 have hmk : ∀ w : World, (Instr.makeSlice 22 (.int .i64 0) (.int .i64 7)).run Tryd.prog w = .ok (.slice (some ⟨w.heap.size, 0, none⟩) 0 7) (w.alloc (.cells #[.int .u8 0, .int .u8 0, .int .u8 0, .int .u8 0, .int .u8 0, .int .u8 0, .int .u8 0] 5)) := fun _ => by kernel_rfl
 go_enter Tryd.func34, Tryd.ntmps34
 go_wp2
 go_loopw [0, 3] (fun v0 v3 wr => ∃ m f : Nat, ∃ pre : List UInt8, v0 = .int .i64 m ∧ m ≤ 562949953421311 ∧ m < 128 ^ (f + 1) ∧ pre ++ vF f m = vF 6 n ∧ Buf wr w.heap.size v3 pre ∧ Below w.heap.size w wr) (fun i _ _ => (intOf i).toNat)
 case atStart => exact ⟨n, 6, [], rfl, h1, by omega, rfl, Buf.made w w.heap.size 7 _ (Nat.le_refl _) (by simp [maxLen]) rfl, (Below.refl _ _).alloc (Nat.le_refl _) _⟩
 case round =>
  obtain ⟨m, f, pre, rfl, hm1, hm2, hpre, hbuf, hb⟩ := hrel
  have HP : Hid (pre ++ vF f m = vF 6 n) := hpre
  clear hpre
  have HM : Hid (m < 128 ^ (f + 1)) := hm2
  clear hm2
  have hlp : pre.length ≤ 7 := by
   have := congrArg List.length HP.out
   have := vF_length 6 n
   simp at *
   omega
  have hsz := hb.size
  by_cases hlt : (128 : Int) ≤ (m : Int)
  ·have hcs := one_cell ((m : Int) % 128 + 128) (128 + m % 128) (by omega) (by omega)
   have HC : Hid (#[Value.int .u8 ((m : Int) % 128 + 128)] = byteCells [byt (128 + m % 128)]) := hcs
   clear hcs
   go_wp2_with (at_builtin; refine wpList_append_bytes rfl (.tmp 13) (.tmp 18) 22 rfl Tryd.underlying22 Tryd.info5 w.heap.size _ pre rfl hbuf _ [byt (128 + m % 128)] HC.out 1 1 rfl rfl (by simp; omega) hsz ?_; intro v' w1 hbuf1 hb1)
   obtain ⟨g, hg1, hg2, _⟩ := vF_round f m pre HM.out (by omega)
   go_roundw
   case rel => exact ⟨m / 128, g, pre ++ [byt (128 + m % 128)], by go_num, by omega, hg1, hg2.trans HP.out, hbuf1, hb.trans hb1⟩
   case measure => simp [intOf]; omega
  ·have hcs := one_cell (m : Int) m rfl (by omega)
   have HC : Hid (#[Value.int .u8 (m : Int)] = byteCells [byt m]) := hcs
   clear hcs
   go_wp2_with (at_builtin; refine wpList_append_bytes rfl (.tmp 22) (.tmp 25) 22 rfl Tryd.underlying22 Tryd.info5 w.heap.size _ pre rfl hbuf _ [byt m] HC.out 1 1 rfl rfl (by simp; omega) hsz ?_; intro v' w1 hbuf1 hb1; have hcv := hbuf1.string (P := Tryd.prog) 22 9 Tryd.underlying22 Tryd.underlying5 Tryd.underlying9)
   go_ret
   exact ⟨by rw [← HP.out, vF_small f m (by omega)]; rfl, hb.trans hb1⟩
end Go.Proofs.YtgillglkmnocaaaDoor
