/- DkMap ImMap ImSpare ImTakeI ImLaid ImClone -/
import Derived.Test.YtdimaoloapbeoaaGreatDoorQv1
import Derived.Maps.OwnSet
import Derived.Maps.Ext
import Derived.Maps.RangeWalk
import Derived.Test.YtdimaoloapbeoaaGreatDoorRows
import Derived.Test.YtdimaoloapbeoaaGreatDoorQv2
import Derived.StringKeys
import Derived.Test.YtdimaoloapbeoaaGreatDoorQv3
import Derived.Deep.RegionHeld3
import Derived.Deep.QuietTactic
import Derived.BigQuiet
import Derived.Shelf.SlGeneric
import Derived.Ground.SlmcProg
import Derived.Shelf.SlMaps.Clone
import Derived.Test.YtdimaoloapbeoaaGreatDoorProg
namespace Go.Proofs.YtdimaoloapbeoaaGreatDoor
open Go.RowKit Go.PlainAid Go.Maps
def nameK (s : ByteArray) : Lit := .string s.data.toList
def linkD (l : List Lnk) : DataW Unit := .map (l.map fun x => (nameK x.name, .lit (.int .i64 x.id)))
def ptrD (l : List (Int × Nat)) : DataW Unit := .map (l.map fun p => (.int .i64 p.1, .lit (.int .i64 (p.2 : Int))))
theorem bytes_eq {a b : ByteArray} (h : a.data.toList = b.data.toList) : a = b := by
 apply ByteArray.ext
 exact Array.toList_inj.1 h
theorem nameK_same (a b : ByteArray) : (nameK a).sameKey (nameK b) = decide (a = b) := by
 unfold nameK Lit.sameKey
 by_cases h : a = b
 ·subst h; simp
 ·rw [decide_eq_false h]
  exact beq_eq_false_iff_ne.2 fun e => h (bytes_eq e)
theorem before_less : ∀ a b : List UInt8, bytesBefore a b = Op.bytesLess a b
 | [], [] => rfl
 | _ :: _, [] => rfl
 | [], _ :: _ => rfl
 | a :: x, b :: y => by
  unfold bytesBefore Op.bytesLess
  rw [before_less x y]
theorem nameK_before (a b : ByteArray) : (nameK a).before (nameK b) = ahead a b := by
 show bytesBefore a.data.toList b.data.toList = Op.bytesLess a.toList b.toList
 rw [before_less, Lib.toList_data, Lib.toList_data]
theorem ins_insert (x : Lnk) : ∀ l : List Lnk, (ins x l).map (fun y => ((nameK y.name, .lit (.int .i64 y.id)) : Lit × DataW Unit)) = DataW.insert (nameK x.name, .lit (.int .i64 x.id)) (l.map fun y => (nameK y.name, .lit (.int .i64 y.id)))
 | [] => rfl
 | y :: r => by
  unfold ins
  rw [List.map_cons]
  unfold DataW.insert
  rw [nameK_before]
  by_cases h : ahead x.name y.name = true
  ·rw [if_pos h, if_pos h]; rfl
  ·rw [if_neg h, if_neg h, List.map_cons, ins_insert x r]
theorem filter_links (l : List Lnk) (name : ByteArray) : (l.map fun y => ((nameK y.name, .lit (.int .i64 y.id)) : Lit × DataW Unit)).filter (fun p => !p.1.sameKey (nameK name)) = (without l name).map fun y => (nameK y.name, .lit (.int .i64 y.id)) := by
 unfold without
 rw [List.filter_map]
 congr 1
 apply List.filter_congr
 intro x _
 simp only [Function.comp, nameK_same]
 by_cases h : x.name = name <;> simp [h]
theorem linkD_put (l : List Lnk) (x : Lnk) : (linkD l).put (nameK x.name) (.lit (.int .i64 x.id)) = linkD (withL l x) := by
 unfold linkD DataW.put withL
 simp only
 rw [filter_links, ins_insert]
theorem linkD_del (l : List Lnk) (name : ByteArray) : (linkD l).del (nameK name) = linkD (without l name) := by
 unfold linkD DataW.del
 simp only
 rw [filter_links]
theorem linkD_has (l : List Lnk) (name : ByteArray) : has (linkD l) (nameK name) = (linkAt l name).isSome := by
 unfold linkD linkAt
 rw [has_eq, List.any_map, List.findIdx?_isSome]
 congr 1
 funext x
 simp only [Function.comp, nameK_same]
theorem linkD_at (l : List Lnk) (name : ByteArray) (i : Nat) (h : linkAt l name = some i) (z : DataW Unit) : (linkD l).atKey (nameK name) z = .lit (.int .i64 (l.getD i default).id) := by
 unfold linkAt at h
 rw [List.findIdx?_eq_some_iff_getElem] at h
 obtain ⟨hi, hp, hn⟩ := h
 have hf : l.find? (fun x => decide (x.name = name)) = some l[i] := by
  rw [List.find?_eq_some_iff_getElem]
  exact ⟨hp, i, hi, rfl, fun j hj => by simpa using hn j hj⟩
 unfold linkD DataW.atKey
 simp only
 rw [List.find?_map]
 have e : ((fun p : Lit × DataW Unit => p.1.sameKey (nameK name)) ∘ fun y : Lnk => (nameK y.name, .lit (.int .i64 y.id))) = fun x : Lnk => decide (x.name = name) := by
  funext x
  simp only [Function.comp, nameK_same]
 rw [e, hf, ← getD_at l i hi]
 rfl
theorem linkD_none (l : List Lnk) (name : ByteArray) (h : linkAt l name = none) (z : DataW Unit) : (linkD l).atKey (nameK name) z = z := by
 refine atKey_of_not_has ?_ z
 rw [linkD_has, h]
 rfl
theorem linkD_size (l : List Lnk) : Maps.size (linkD l) = l.length := by
 unfold linkD
 rw [size_eq, List.length_map]
def ptrAt (l : List (Int × Nat)) (id : Int) : Option Nat := (l.find? fun p => decide (p.1 = id)).map (·.2)
def ptrDel (l : List (Int × Nat)) (id : Int) : List (Int × Nat) := l.filter fun p => decide (p.1 ≠ id)
theorem intK_same (a b : Int) : (Lit.int .i64 a).sameKey (.int .i64 b) = decide (a = b) := by
 unfold Lit.sameKey
 simp
theorem ptrD_del (l : List (Int × Nat)) (id : Int) : (ptrD l).del (.int .i64 id) = ptrD (ptrDel l id) := by
 unfold ptrD DataW.del ptrDel
 simp only
 rw [List.filter_map]
 congr 2
 apply List.filter_congr
 intro x _
 simp only [Function.comp, intK_same]
 by_cases h : x.1 = id <;> simp [h]
theorem ptrD_has (l : List (Int × Nat)) (id : Int) : has (ptrD l) (.int .i64 id) = (ptrAt l id).isSome := by
 unfold ptrD ptrAt
 rw [has_eq, List.any_map, Option.isSome_map, Bool.eq_iff_iff, List.find?_isSome, List.any_eq_true]
 simp only [Function.comp, intK_same]
theorem ptrD_at (l : List (Int × Nat)) (id : Int) (z : DataW Unit) : (ptrD l).atKey (.int .i64 id) z = match ptrAt l id with | some g => .lit (.int .i64 (g : Int)) | none => z := by
 unfold ptrD DataW.atKey ptrAt
 simp only
 rw [List.find?_map]
 have e : ((fun p : Lit × DataW Unit => p.1.sameKey (.int .i64 id)) ∘ fun y : Int × Nat => ((.int .i64 y.1 : Lit), (.lit (.int .i64 (y.2 : Int)) : DataW Unit))) = fun x : Int × Nat => decide (x.1 = id) := by
  funext x
  simp only [Function.comp, intK_same]
 rw [e]
 cases l.find? fun p => decide (p.1 = id) <;> rfl
theorem ptrD_size (l : List (Int × Nat)) : Maps.size (ptrD l) = l.length := by
 unfold ptrD
 rw [size_eq, List.length_map]
theorem insert_last (k : Int) (d : DataW Unit) : ∀ l : List (Int × Nat), (∀ p ∈ l, p.1 < k) → DataW.insert (.int .i64 k, d) (l.map fun p => ((.int .i64 p.1 : Lit), (.lit (.int .i64 (p.2 : Int)) : DataW Unit))) = (l.map fun p => (.int .i64 p.1, .lit (.int .i64 (p.2 : Int)))) ++ [(.int .i64 k, d)]
 | [], _ => rfl
 | p :: r, h => by
  rw [List.map_cons]
  unfold DataW.insert
  have h1 := h p (by simp)
  have e : (Lit.int .i64 k).before (.int .i64 p.1) = false := by
   unfold Lit.before
   exact decide_eq_false (by omega)
  rw [e, insert_last k d r fun q hq => h q (by simp [hq])]
  rfl
theorem ptrD_put (l : List (Int × Nat)) (id : Int) (g : Nat) (h : ∀ p ∈ l, p.1 < id) : (ptrD l).put (.int .i64 id) (.lit (.int .i64 (g : Int))) = ptrD (l ++ [(id, g)]) := by
 unfold ptrD DataW.put
 simp only
 have e : (l.map fun p => ((.int .i64 p.1 : Lit), (.lit (.int .i64 (p.2 : Int)) : DataW Unit))).filter (fun p => !p.1.sameKey (.int .i64 id)) = l.map fun p => (.int .i64 p.1, .lit (.int .i64 (p.2 : Int))) := by
  apply List.filter_eq_self.2
  intro p hp
  obtain ⟨q, hq, rfl⟩ := List.mem_map.1 hp
  have := h q hq
  simp only [intK_same]
  rw [decide_eq_false (by omega)]
  rfl
 rw [e, insert_last id _ l h, List.map_append]
 rfl
def ptrElem : Value → Option (DataW Unit × List MemPlace)
 | .pointer none => some (.nil, [])
 | .pointer (some ⟨g, 0, none⟩) => some (.lit (.int .i64 (g : Int)), [])
 | _ => none
theorem ptrElem_mk (g : Nat) : ptrElem (.pointer (some ⟨g, 0, none⟩)) = some (.lit (.int .i64 (g : Int)), []) := rfl
theorem ptrElem_inv {v : Value} {g : Nat} {ps : List MemPlace} (h : ptrElem v = some (.lit (.int .i64 (g : Int)), ps)) : v = .pointer (some ⟨g, 0, none⟩) := by
 unfold ptrElem at h
 split at h
 ·cases h
 ·rename_i g' 
  cases h
  rfl
 ·cases h
theorem ptrElem_inv_nil {v : Value} {ps : List MemPlace} (h : ptrElem v = some (.nil, ps)) : v = .pointer none := by
 unfold ptrElem at h
 split at h
 ·rfl
 ·cases h
 ·cases h
end Go.Proofs.YtdimaoloapbeoaaGreatDoor
namespace Go.Proofs.YtdimaoloapbeoaaGreatDoor
open Go.RowKit Go.PlainAid Go.Maps Go.ChangeMaps Go.WideMaps
structure But (S : Nat → Prop) (w w' : World) : Prop where
 os : w'.os = w.os
 tape : w'.tape = w.tape
 output : w'.output = w.output
 size : w.heap.size ≤ w'.heap.size
 block : ∀ k, k < w.heap.size → ¬ S k → w'.heap[k]? = w.heap[k]?
theorem But.refl (S : Nat → Prop) (w : World) : But S w w := ⟨rfl, rfl, rfl, Nat.le_refl _, fun _ _ _ => rfl⟩
theorem But.trans {S T : Nat → Prop} {a b c : World} (h : But S a b) (k : But T b c) (hs : ∀ i, i < a.heap.size → T i → S i) : But S a c :=
 ⟨k.os.trans h.os, k.tape.trans h.tape, k.output.trans h.output, Nat.le_trans h.size k.size, fun i hi hn => (k.block i (Nat.lt_of_lt_of_le hi h.size) (fun ht => hn (hs i hi ht))).trans (h.block i hi hn)⟩
theorem But.below {S : Nat → Prop} {w w' : World} (h : But S w w') (B : Nat) (hB : B ≤ w.heap.size) (hs : ∀ i, i < B → ¬ S i) : Below B w w' :=
 ⟨h.os, h.tape, h.output, h.size, fun i hi => h.block i (Nat.lt_of_lt_of_le hi hB) (hs i hi)⟩
theorem But.mono {S T : Nat → Prop} {w w' : World} (h : But S w w') (hs : ∀ i, i < w.heap.size → S i → T i) : But T w w' :=
 ⟨h.os, h.tape, h.output, h.size, fun i hi hn => h.block i hi fun k => hn (hs i hi k)⟩
theorem But.of_below {w w' : World} (S : Nat → Prop) (h : Below w.heap.size w w') : But S w w' := ⟨h.os, h.tape, h.output, h.size, fun i hi _ => h.block i hi⟩
theorem But.of_grown {w w' : World} {b : Nat} (h : w.grownBy w' (some b)) : But (fun i => i = b) w w' := ⟨h.os, h.tape, h.output, h.size, fun i hi hn => h.block i hi fun e => hn (by cases e; rfl)⟩
theorem But.alloc {S : Nat → Prop} {a w : World} (h : But S a w) (o : Obj) : But S a (w.alloc o) := h.trans (But.of_below (fun _ => False) ((Below.refl _ w).alloc (Nat.le_refl _) o)) (fun _ _ k => k.elim)
theorem But.drew {S : Nat → Prop} {a w : World} (h : But S a w) : But S a w.drew := ⟨h.os, h.tape, h.output, h.size, h.block⟩
theorem But.drewN {S : Nat → Prop} {a w : World} (h : But S a w) (n : Nat) : But S a (w.drewN n) := ⟨h.os, h.tape, h.output, h.size, h.block⟩
theorem But.setCell {S : Nat → Prop} {a w : World} (h : But S a w) {p : Addr} (hp : p.block < a.heap.size → S p.block) (u : Value) : But S a (w.setCell p u) :=
 ⟨h.os, h.tape, h.output, by
  have : (w.setCell p u).heap.size = w.heap.size := by simp [World.setCell]
  rw [this]
  exact h.size, fun i hi hn => by
  rw [Below.heap_setCell _ _ _ _ (fun e : i = p.block => hn (by subst e; exact hp hi))]
  exact h.block i hi hn⟩
theorem But.blk {S : Nat → Prop} {w w' : World} {g : Nat} {cs : Array Value} {t : TypeId} (h : But S w w') (hb : Blk w g cs t) (hn : ¬ S g) : Blk w' g cs t := by
 unfold Blk
 rw [h.block g hb.lt hn]
 exact hb
theorem But.lies {S : Nat → Prop} {w w' : World} {B sz : Nat} {v : Value} {rows : List (List Value)} (h : But S w w') (hv : Lies w B sz v rows) (hB : B ≤ w.heap.size) (hs : ∀ i, i < B → ¬ S i) : Lies w' B sz v rows := hv.on (h.below B hB hs)
def intElem : Value → Option (DataW Unit × List MemPlace)
 | .int .i64 a => some (.lit (.int .i64 a), [])
 | _ => none
theorem intElem_inv {v : Value} {a : Int} {ps : List MemPlace} (h : intElem v = some (.lit (.int .i64 a), ps)) : v = .int .i64 a := by
 unfold intElem at h
 split at h
 ·cases h; rfl
 ·cases h
def NT (w : World) (b : Nat) (l : List Lnk) : Prop := ∃ n, w.ownsMap Tryz.prog 9 intElem b n (linkD l)
theorem NT.lt {w : World} {b : Nat} {l : List Lnk} (h : NT w b l) : b < w.heap.size := let ⟨_, h⟩ := h; h.lt
theorem NT.kept {w w' : World} {b : Nat} {l : List Lnk} (h : NT w b l) (hb : w'.heap[b]? = w.heap[b]?) : NT w' b l := by
 obtain ⟨n, es, clock, h1, h2⟩ := h
 exact ⟨n, es, clock, hb.trans h1, h2⟩
theorem NT.on {w w' : World} {b B : Nat} {l : List Lnk} (h : NT w b l) (hb : Below B w w') (hB : b < B) : NT w' b l := h.kept (hb.block b hB)
theorem NT.but {S : Nat → Prop} {w w' : World} {b : Nat} {l : List Lnk} (h : NT w b l) (hb : But S w w') (hn : ¬ S b) : NT w' b l := h.kept (hb.block b h.lt hn)
theorem NT.tight {w : World} {b : Nat} {l : List Lnk} (h : NT w b l) : w.ownsMap Tryz.prog 9 intElem b l.length (linkD l) := by
 obtain ⟨n, es, clock, hb, F, hs, hD⟩ := h
 refine ⟨es, clock, hb, F, ?_, hD⟩
 have := congrArg Maps.size hD
 rw [linkD_size] at this
 rw [this]
 simp [Maps.size, length_sorted]
theorem NT.made (w : World) : NT (w.alloc (.map #[] 0)) w.heap.size [] := ⟨0, World.ownsMap_made w _ _ _⟩
theorem nameK_of {s : ByteArray} (hs : s.size ≤ maxLen) : keyOf Tryz.prog 9 (.string s) = some (nameK s) := keyOf_string_mk Tryz.underlying9 hs
theorem zero_int (w : World) : (zeroValue 3).run Tryz.prog w = .ok (.int .i64 0) w := by simp [Tryz.zeroValue3]
theorem NT.look {w : World} {b : Nat} {l : List Lnk} (h : NT w b l) (s : ByteArray) (hs : s.size ≤ maxLen) :
  (linkAt l s = none → (Instr.lookup 117 (.map (some b)) (.string s) true).run Tryz.prog w = .ok (.tuple #[.int .i64 0, .bool false]) w) ∧
  (∀ i, linkAt l s = some i → (Instr.lookup 117 (.map (some b)) (.string s) true).run Tryz.prog w = .ok (.tuple #[.int .i64 (l.getD i default).id, .bool true]) w) := by
 obtain ⟨n, h⟩ := h
 obtain ⟨v, ps, hrun, hv⟩ := h.look_ok (string_keyed Tryz.underlying9) Tryz.underlying117 (zero_int w) (zd := .lit (.int .i64 0)) (zp := []) rfl (nameK_of hs)
 rw [linkD_has] at hrun
 constructor
 ·intro e
  rw [linkD_none l s e] at hv
  rw [hrun, e, intElem_inv hv]
  rfl
 ·intro i e
  rw [linkD_at l s i e] at hv
  rw [hrun, e, intElem_inv hv]
  rfl
theorem NT.val {w : World} {b : Nat} {l : List Lnk} (h : NT w b l) (s : ByteArray) (hs : s.size ≤ maxLen) (i : Nat) (hi : linkAt l s = some i) :
  (Instr.lookup 117 (.map (some b)) (.string s) false).run Tryz.prog w = .ok (.int .i64 (l.getD i default).id) w := by
 obtain ⟨n, h⟩ := h
 obtain ⟨v, ps, hrun, hv⟩ := h.lookup (string_keyed Tryz.underlying9) Tryz.underlying117 (zero_int w) (zd := .lit (.int .i64 0)) (zp := []) rfl (nameK_of hs)
 rw [linkD_at l s i hi] at hv
 rw [hrun, intElem_inv hv]
theorem NT.put {w : World} {b : Nat} {l : List Lnk} (h : NT w b l) (s : ByteArray) (id : Int) (hs : s.size ≤ maxLen) (hl : l.length < maxLen) :
  ∃ w', (Instr.mapUpdate 117 (.map (some b)) (.string s) (.int .i64 id)).run Tryz.prog w = .ok () w' ∧ NT w' b (withL l ⟨s, id⟩) ∧ But (fun i => i = b) w w' ∧ w'.heap.size = w.heap.size := by
 obtain ⟨w', hrun, h1, h2⟩ := h.tight.store (string_keyed Tryz.underlying9) Tryz.underlying117 hl (nameK_of hs) (show intElem (.int .i64 id) = some (.lit (.int .i64 id), []) from rfl)
 rw [linkD_put l ⟨s, id⟩] at h1
 refine ⟨w', hrun, ⟨_, h1⟩, But.of_grown h2.grown, ?_⟩
 obtain ⟨_, _, _, _, _, rfl⟩ := h2
 simp [setBlock]
theorem NT.del {w : World} {b : Nat} {l : List Lnk} (h : NT w b l) (s : ByteArray) (hs : s.size ≤ maxLen) (ty : TypeId) :
  ∃ w', (Builtin.delete_ #[117, 9] ty #[.map (some b), .string s]).run Tryz.prog w = .ok (.tuple #[]) w' ∧ NT w' b (without l s) ∧ But (fun i => i = b) w w' ∧ w'.heap.size = w.heap.size := by
 obtain ⟨n, h⟩ := h
 obtain ⟨w', hrun, h1, h2⟩ := h.drop (string_keyed Tryz.underlying9) Tryz.underlying117 (nameK_of hs) ty
 rw [linkD_del l s] at h1
 refine ⟨w', hrun, ⟨_, h1⟩, But.of_grown h2.grown, ?_⟩
 obtain ⟨_, _, _, _, _, rfl⟩ := h2
 simp [setBlock]
def IT (w : World) (b : Nat) (l : List (Int × Nat)) : Prop := ∃ n, w.ownsMap Tryz.prog 3 ptrElem b n (ptrD l)
theorem IT.lt {w : World} {b : Nat} {l : List (Int × Nat)} (h : IT w b l) : b < w.heap.size := let ⟨_, h⟩ := h; h.lt
theorem IT.kept {w w' : World} {b : Nat} {l : List (Int × Nat)} (h : IT w b l) (hb : w'.heap[b]? = w.heap[b]?) : IT w' b l := by
 obtain ⟨n, es, clock, h1, h2⟩ := h
 exact ⟨n, es, clock, hb.trans h1, h2⟩
theorem IT.on {w w' : World} {b B : Nat} {l : List (Int × Nat)} (h : IT w b l) (hb : Below B w w') (hB : b < B) : IT w' b l := h.kept (hb.block b hB)
theorem IT.but {S : Nat → Prop} {w w' : World} {b : Nat} {l : List (Int × Nat)} (h : IT w b l) (hb : But S w w') (hn : ¬ S b) : IT w' b l := h.kept (hb.block b h.lt hn)
theorem IT.tight {w : World} {b : Nat} {l : List (Int × Nat)} (h : IT w b l) : w.ownsMap Tryz.prog 3 ptrElem b l.length (ptrD l) := by
 obtain ⟨n, es, clock, hb, F, hs, hD⟩ := h
 refine ⟨es, clock, hb, F, ?_, hD⟩
 have := congrArg Maps.size hD
 rw [ptrD_size] at this
 rw [this]
 simp [Maps.size, length_sorted]
theorem IT.made (w : World) : IT (w.alloc (.map #[] 0)) w.heap.size [] := ⟨0, World.ownsMap_made w _ _ _⟩
def IntOk (a : Int) : Prop := -9223372036854775808 ≤ a ∧ a ≤ 9223372036854775807
theorem wf_int {a : Int} (h : IntOk a) : (Lit.int .i64 a).wf = true := by
 exact WalkArith.wf_i64 h
theorem intK_of {a : Int} (h : IntOk a) : keyOf Tryz.prog 3 (.int .i64 a) = some (.int .i64 a) := keyOf_int_mk Tryz.underlying3 (wf_int h)
theorem zero_ptr (w : World) : (zeroValue 122).run Tryz.prog w = .ok (.pointer none) w := by simp [Tryz.zeroValue122]
theorem IT.val {w : World} {b : Nat} {l : List (Int × Nat)} (h : IT w b l) (id : Int) (hs : IntOk id) :
  (ptrAt l id = none → (Instr.lookup 115 (.map (some b)) (.int .i64 id) false).run Tryz.prog w = .ok (.pointer none) w) ∧
  (∀ g, ptrAt l id = some g → (Instr.lookup 115 (.map (some b)) (.int .i64 id) false).run Tryz.prog w = .ok (.pointer (some ⟨g, 0, none⟩)) w) := by
 obtain ⟨n, h⟩ := h
 obtain ⟨v, ps, hrun, hv⟩ := h.lookup (int_keyed Tryz.underlying3) Tryz.underlying115 (zero_ptr w) (zd := .nil) (zp := []) rfl (intK_of hs)
 rw [ptrD_at] at hv
 constructor
 ·intro e
  rw [e] at hv
  rw [hrun, ptrElem_inv_nil hv]
 ·intro g e
  rw [e] at hv
  rw [hrun, ptrElem_inv hv]
theorem IT.put {w : World} {b : Nat} {l : List (Int × Nat)} (h : IT w b l) (id : Int) (g : Nat) (hs : IntOk id) (hl : l.length < maxLen) (hlast : ∀ p ∈ l, p.1 < id) :
  ∃ w', (Instr.mapUpdate 115 (.map (some b)) (.int .i64 id) (.pointer (some ⟨g, 0, none⟩))).run Tryz.prog w = .ok () w' ∧ IT w' b (l ++ [(id, g)]) ∧ But (fun i => i = b) w w' ∧ w'.heap.size = w.heap.size := by
 obtain ⟨w', hrun, h1, h2⟩ := h.tight.store (int_keyed Tryz.underlying3) Tryz.underlying115 hl (intK_of hs) (ptrElem_mk g)
 rw [ptrD_put l id g hlast] at h1
 refine ⟨w', hrun, ⟨_, h1⟩, But.of_grown h2.grown, ?_⟩
 obtain ⟨_, _, _, _, _, rfl⟩ := h2
 simp [setBlock]
theorem IT.del {w : World} {b : Nat} {l : List (Int × Nat)} (h : IT w b l) (id : Int) (hs : IntOk id) (ty : TypeId) :
  ∃ w', (Builtin.delete_ #[115, 3] ty #[.map (some b), .int .i64 id]).run Tryz.prog w = .ok (.tuple #[]) w' ∧ IT w' b (ptrDel l id) ∧ But (fun i => i = b) w w' ∧ w'.heap.size = w.heap.size := by
 obtain ⟨n, h⟩ := h
 obtain ⟨w', hrun, h1, h2⟩ := h.drop (int_keyed Tryz.underlying3) Tryz.underlying115 (intK_of hs) ty
 rw [ptrD_del l id] at h1
 refine ⟨w', hrun, ⟨_, h1⟩, But.of_grown h2.grown, ?_⟩
 obtain ⟨_, _, _, _, _, rfl⟩ := h2
 simp [setBlock]
theorem IT.len {w : World} {b : Nat} {l : List (Int × Nat)} (h : IT w b l) (ty : TypeId) : (Builtin.len_ #[115] ty #[.map (some b)]).run Tryz.prog w = .ok (.int .i64 (l.length : Int)) w := by
 obtain ⟨n, h⟩ := h
 have := h.len Tryz.underlying115 ty
 rw [ptrD_size] at this
 exact this
end Go.Proofs.YtdimaoloapbeoaaGreatDoor
namespace Go.Proofs.YtdimaoloapbeoaaGreatDoor
open Go.ChangeShapes Go.WideShapes Go.ChangeAt Go.RowKit Go.PlainAid Go.Maps
set_option linter.unusedVariables false
theorem ret_int {k : IntKind} {a b : Int} (h : a = b) : Ending.returned (.int k a) = .returned (.int k b) := by rw [h]
def prs (ns : List Nod) (gs : List Nat) : List (Int × Nat) := (ns.map (·.id)).zip gs
structure Held (w : World) (ns : List Nod) (gs : List Nat) : Prop where
 len : gs.length = ns.length
 blk : ∀ j, j < ns.length → Blk w (gs.getD j 0) #[.int .i64 (ns.getD j default).id, .string (ns.getD j default).data, .int .i64 (ns.getD j default).sure] 90
theorem Held.kept {w w' : World} {ns : List Nod} {gs : List Nat} (h : Held w ns gs) (hk : ∀ g ∈ gs, w'.heap[g]? = w.heap[g]?) : Held w' ns gs :=
 ⟨h.len, fun j hj => by
  unfold Blk
  rw [hk _ (by
   have hj' : j < gs.length := by rw [h.len]; exact hj
   rw [List.getD_eq_getElem?_getD, List.getElem?_eq_getElem hj']
   exact List.getElem_mem hj')]
  exact h.blk j hj⟩
theorem Held.lt {w : World} {ns : List Nod} {gs : List Nat} (h : Held w ns gs) : ∀ g ∈ gs, g < w.heap.size := fun g hg => by
 obtain ⟨j, hj, rfl⟩ := List.getElem_of_mem hg
 have := (h.blk j (by rw [← h.len]; exact hj)).lt
 rw [List.getD_eq_getElem?_getD, List.getElem?_eq_getElem hj] at this
 exact this
theorem Held.but {S : Nat → Prop} {w w' : World} {ns : List Nod} {gs : List Nat} (h : Held w ns gs) (hb : But S w w') (hn : ∀ g ∈ gs, ¬ S g) : Held w' ns gs := h.kept fun g hg => hb.block g (h.lt g hg) (hn g hg)
theorem Held.on {B : Nat} {w w' : World} {ns : List Nod} {gs : List Nat} (h : Held w ns gs) (hb : Below B w w') (hn : ∀ g ∈ gs, g < B) : Held w' ns gs := h.kept fun g hg => hb.block g (hn g hg)
def Rising (ns : List Nod) : Prop := ns.Pairwise fun a b => a.id < b.id
theorem prs_at {ns : List Nod} {gs : List Nat} {x : Int} {g : Nat} (h : ptrAt (prs ns gs) x = some g) : ∃ j, j < ns.length ∧ (ns.getD j default).id = x ∧ gs.getD j 0 = g := by
 unfold ptrAt prs at h
 rw [Option.map_eq_some_iff] at h
 obtain ⟨p, hp, rfl⟩ := h
 have h1 := List.find?_some hp
 have h2 := List.mem_of_find?_eq_some hp
 obtain ⟨j, hj, rfl⟩ := List.getElem_of_mem h2
 have hl : j < ns.length ∧ j < gs.length := by
  rw [List.length_zip, List.length_map] at hj
  omega
 refine ⟨j, hl.1, ?_, ?_⟩
 ·rw [← getD_at ns j hl.1]
  have := of_decide_eq_true h1
  rw [List.getElem_zip, List.getElem_map] at this
  exact this
 ·rw [List.getD_eq_getElem?_getD, List.getElem?_eq_getElem hl.2]
  rw [List.getElem_zip]
  rfl
def rem (left : Lit → Bool) : List Nod → Nat
 | [] => 0
 | x :: r => (if left (.int .i64 x.id) = true then x.data.size else 0) + rem left r
theorem rem_all {left : Lit → Bool} {ns : List Nod} (h : ∀ x ∈ ns, left (.int .i64 x.id) = true) : rem left ns = bytesOf ns := by
 induction ns with
 | nil => rfl
 | cons x r ih =>
  unfold rem bytesOf
  rw [if_pos (h x (by simp)), ih fun y hy => h y (by simp [hy])]
theorem rem_no {left : Lit → Bool} {ns : List Nod} (h : ∀ kl, left kl = false) : rem left ns = 0 := by
 induction ns with
 | nil => rfl
 | cons x r ih =>
  unfold rem
  rw [ih, if_neg (by rw [h]; exact Bool.false_ne_true)]
theorem rem_congr {p q : Lit → Bool} {ns : List Nod} (h : ∀ x ∈ ns, p (.int .i64 x.id) = q (.int .i64 x.id)) : rem p ns = rem q ns := by
 induction ns with
 | nil => rfl
 | cons x r ih =>
  unfold rem
  rw [h x (by simp), ih fun y hy => h y (by simp [hy])]
theorem rem_strike {left : Lit → Bool} : ∀ {ns : List Nod}, Rising ns → ∀ {j : Nat}, j < ns.length → left (.int .i64 (ns.getD j default).id) = true → rem left ns = rem (fun z => left z && !z.sameKey (.int .i64 (ns.getD j default).id)) ns + (ns.getD j default).data.size
 | [], _, j, hj, _ => by simp at hj
 | x :: r, hr, 0, _, hl => by
  have h1 := List.pairwise_cons.1 hr
  have e : (List.getD (x :: r) 0 default) = x := rfl
  rw [e] at hl ⊢
  unfold rem
  rw [if_pos hl, intK_same, decide_eq_true rfl, Bool.not_true, Bool.and_false, if_neg Bool.false_ne_true]
  have : rem left r = rem (fun z => left z && !z.sameKey (.int .i64 x.id)) r := rem_congr fun y hy => by
   rw [intK_same, decide_eq_false (by have := h1.1 y hy; omega)]
   simp
  omega
 | x :: r, hr, j + 1, hj, hl => by
  have h1 := List.pairwise_cons.1 hr
  have e : (List.getD (x :: r) (j + 1) default) = r.getD j default := rfl
  rw [e] at hl ⊢
  have ih := rem_strike h1.2 (show j < r.length by simpa using hj) hl
  unfold rem
  have hm := getD_mem r j (by simpa using hj)
  rw [intK_same, decide_eq_false (by have := h1.1 _ hm; omega), Bool.not_false, Bool.and_true]
  omega
theorem rem_le (left : Lit → Bool) : ∀ ns : List Nod, rem left ns ≤ bytesOf ns
 | [] => Nat.le_refl _
 | x :: r => by
  have := rem_le left r
  unfold rem bytesOf
  split <;> omega
theorem prs_has {ns : List Nod} {gs : List Nat} (hl : gs.length = ns.length) {x : Nod} (hx : x ∈ ns) : has (ptrD (prs ns gs)) (.int .i64 x.id) = true := by
 rw [ptrD_has]
 unfold ptrAt
 rw [Option.isSome_map, List.find?_isSome]
 obtain ⟨j, hj, rfl⟩ := List.getElem_of_mem hx
 refine ⟨(ns[j].id, gs[j]'(by omega)), ?_, by simp⟩
 unfold prs
 rw [List.mem_iff_getElem]
 exact ⟨j, by rw [List.length_zip, List.length_map]; omega, by rw [List.getElem_zip, List.getElem_map]⟩
theorem wpList_next_it {P : Program} (w : World) {ops : Array Oper} {rest : List Oper} {o : Oper} {a : Act} {Q : Exit → Act → World → Prop} (hg : o.guard = none) (it : Operand) (hop : o.op = Op.next it false) (k : TypeId) (hk : P.underlying k = some (.int .i64)) (b r n : Nat) (l : List (Int × Nat)) (left : Lit → Bool) (cnt : Nat)
  (hit : a.eval it = .pointer (some ⟨r, 0, none⟩)) (h : w.ranges P k ptrElem b r n (ptrD l) left cnt)
  (hDone : cnt = 0 → (∀ kl, left kl = false) → wpList P ops Q rest (a.put o.dst (.tuple #[.bool false])) w)
  (hMore : ∀ (x : Int) (g : Nat) (w' : World) (cnt' : Nat), left (.int .i64 x) = true → ptrAt l x = some g → w'.ranges P k ptrElem b r n (ptrD l) (fun z => left z && !z.sameKey (.int .i64 x)) cnt' → cnt' < cnt →
   w.grownBy w' (some r) → w'.heap.size = w.heap.size → (Instr.entry (.pointer (some ⟨r, 0, none⟩))).run P w' = .ok (.tuple #[.int .i64 x, .pointer (some ⟨g, 0, none⟩)]) w' → wpList P ops Q rest (a.put o.dst (.tuple #[.bool true, .int .i64 x, .pointer (some ⟨g, 0, none⟩)])) w') :
  wpList P ops Q (o :: rest) a w := by
 refine wpList_plain hg fun K' hK' => ?_
 unfold Oper.wp
 rcases h.next (int_keyed hk) o.type with ⟨h0, hl, hrun⟩ | ⟨key, v, kl, y, w', cnt', hkey, hlk, hv, hat, hrun, hrg, hlt, hgr, hsz, hen⟩
 ·simp [execOp, hop, hit, hrun, Result.andThen]
  exact hK' _ _ (hDone h0 hl)
 ·obtain ⟨x, rfl, rfl, _⟩ := Maps.keyOf_int_inv hk hkey
  obtain ⟨g, hg', rfl⟩ : ∃ g, ptrAt l x = some g ∧ v = .pointer (some ⟨g, 0, none⟩) := by
   have h1 := hat .nil
   have h2 := hat (.map [])
   rw [ptrD_at] at h1 h2
   rcases e : ptrAt l x with _ | g
   ·rw [e] at h1 h2
    rw [← h1] at h2
    cases h2
   ·rw [e] at h1
    refine ⟨g, rfl, ptrElem_inv (ps := y.2) ?_⟩
    rw [hv]
    exact congrArg some (Prod.ext h1.symm rfl)
  simp [execOp, hop, hit, hrun, Result.andThen]
  exact hK' _ _ (hMore x g w' cnt' hlk hg' hrg hlt hgr hsz hen)
set_option maxRecDepth 20000 in
set_option maxHeartbeats 1000000 in
theorem spareV (room next : Int) (v4 v5 v6 : Value) (p bi : Nat) (ns : List Nod) (gs : List Nat) (w : World) (hp : Blk w p #[.int .i64 room, .int .i64 next, .map (some bi), v4, v5, v6] 119) (hI : IT w bi (prs ns gs)) (hH : Held w ns gs) (hr : Rising ns)
  (h0 : 0 ≤ room) (h1 : room ≤ 1048576) (hs : bytesOf ns ≤ 4194304) :
  Calls Tryz.prog 91 #[.pointer (some ⟨p, 0, none⟩)] w fun e w' => e = .returned (.int .i64 (room - (bytesOf ns : Int))) ∧ Below w.heap.size w w' := by
 have HI := hI.tight
 have HH : Hid (Held w ns gs) := hH
 have HR : Hid (Rising ns) := hr
 have HS : Hid (bytesOf ns ≤ 4194304) := hs
 have HA : Hid (rem (has (ptrD (prs ns gs))) ns = bytesOf ns) := rem_all fun x hx => prs_has hH.len hx
 have hbl := hI.lt
 have y0 := hp.cell 0 _ rfl
 have y2 := hp.cell 2 _ rfl
 have q0 : (bytesOf ns : Int) ≤ 4194304 := by omega
 clear hp hI hH hr hs
 go_enter Tryz.func91, Tryz.ntmps91
 go_wp2_with (at_range; refine wpList_range_own _ rfl _ 115 rfl 3 122 (int_keyed Tryz.underlying3) Tryz.underlying115 _ bi _ _ rfl HI ?_; intro w0 hrg0 hg0 hs0)
 go_frame
 have B0 : Hid (Below w.heap.size w w0) := (Below.refl _ w).grown hg0 (Nat.le_refl _) (fun j hj => by cases hj)
 have RG : Hid (w0.ranges Tryz.prog 3 ptrElem bi w.heap.size (prs ns gs).length (ptrD (prs ns gs)) (has (ptrD (prs ns gs))) (Maps.size (ptrD (prs ns gs)))) := hrg0
 clear hrg0 hg0 hs0 y0 y2 HI
 go_loopw [3] (fun v3 wr => ∃ (left : Lit → Bool) (cnt : Nat), wr.ranges Tryz.prog 3 ptrElem bi w.heap.size (prs ns gs).length (ptrD (prs ns gs)) left cnt ∧ v3 = .int .i64 (room - (bytesOf ns : Int) + (rem left ns : Int)) ∧ Below w.heap.size w wr)
  (fun _ wr => wr.rangeLeft bi w.heap.size)
 case atStart => exact ⟨_, _, RG.out, by rw [HA.out]; congr 1; omega, B0.out⟩
 case round =>
  obtain ⟨left, cnt, hrg, rfl, hb⟩ := hrel
  have HB : Hid (Below w.heap.size w wr) := hb
  have hle := rem_le left ns
  have q1 : (rem left ns : Int) ≤ 4194304 := by omega
  clear hb hle
  go_wp2_with (at_next; refine wpList_next_it _ rfl _ rfl 3 Tryz.underlying3 bi w.heap.size _ _ _ _ rfl hrg ?_ ?_)
  ·intro hc0 hl0
   have HZ : Hid (rem left ns = 0) := rem_no hl0
   clear hl0 hc0
   go_wp2_with fail
   go_ret
   exact ⟨ret_int (by rw [HZ.out]; omega), HB.out⟩
  ·intro x g w1 cnt1 hlx hat hrg1 hlt hg1 hs1 hen
   obtain ⟨j, hj, hx, hgj⟩ := prs_at hat
   have HE : Hid (rem left ns = rem (fun z => left z && !z.sameKey (.int .i64 x)) ns + (ns.getD j default).data.size) := by
    unfold Hid
    rw [← hx]
    exact rem_strike HR.out hj (by rw [hx]; exact hlx)
   have B1 : Hid (Below w.heap.size w w1) := HB.out.grown hg1 HB.out.size (fun i hi => by cases hi; exact Nat.le_refl _)
   have hk := HH.out.blk j hj
   rw [hgj] at hk
   have hk1 := hk.on B1.out hk.lt
   have x1 := hk1.cell 1 _ rfl
   have R1 : Hid (w1.ranges Tryz.prog 3 ptrElem bi w.heap.size (prs ns gs).length (ptrD (prs ns gs)) (fun z => left z && !z.sameKey (.int .i64 x)) cnt1) := hrg1
   have R0 : Hid (wr.ranges Tryz.prog 3 ptrElem bi w.heap.size (prs ns gs).length (ptrD (prs ns gs)) left cnt) := hrg
   have hsz : ((ns.getD j default).data.size : Int) ≤ 4194304 := by have := HE.out; omega
   have HLT : Hid (cnt1 < cnt) := hlt
   have EI : Hid ((rem left ns : Int) = (rem (fun z => left z && !z.sameKey (.int .i64 x)) ns : Int) + ((ns.getD j default).data.size : Int)) := by unfold Hid; rw [HE.out]; omega
   clear hrg1 hrg hlt hg1 hs1 hk hk1 hlx hat hx hgj HE hj
   generalize (ns.getD j default).data = dt at *
   generalize hre : rem left ns = re at *
   generalize hrf : rem (fun z => left z && !z.sameKey (.int .i64 x)) ns = rf at *
   go_wp2_with fail
   go_roundw
   case rel => exact ⟨_, cnt1, R1.out, by rw [hrf]; congr 1; have := EI.out; omega, B1.out⟩
   case measure => rw [R1.out.left_eq, R0.out.left_eq]; exact HLT.out
end Go.Proofs.YtdimaoloapbeoaaGreatDoor
namespace Go.Proofs.YtdimaoloapbeoaaGreatDoor
open Go.ChangeShapes Go.WideShapes Go.ChangeAt Go.RowKit Go.PlainAid Go.Maps
set_option linter.unusedVariables false
def lastId (ns : List Nod) : Nat → Int
 | 0 => 0
 | k + 1 => (ns.getD k default).id
def goodAt (next : Int) (ns : List Nod) (k : Nat) : Bool :=
 !decide ((ns.getD k default).id ≤ lastId ns k) && !decide (next ≤ (ns.getD k default).id) && !decide ((ns.getD k default).sure < 0) && !decide (((ns.getD k default).data.size : Int) < (ns.getD k default).sure)
def takeOk (room next : Int) (ns : List Nod) : Bool := decide (ns.length ≤ 10) && (List.range ns.length).all (goodAt next ns) && decide ((bytesOf ns : Int) ≤ room)
theorem all_no {n k : Nat} {p : Nat → Bool} (hk : k < n) (h : p k = false) : (List.range n).all p = false := by
 rw [List.all_eq_false]
 exact ⟨k, List.mem_range.2 hk, by rw [h]; exact Bool.false_ne_true⟩
theorem all_yes {n : Nat} {p : Nat → Bool} (h : ∀ j, j < n → p j = true) : (List.range n).all p = true := by
 rw [List.all_eq_true]
 exact fun j hj => h j (List.mem_range.1 hj)
theorem takeOk_long {room next : Int} {ns : List Nod} (h : ¬ ns.length ≤ 10) : takeOk room next ns = false := by
 unfold takeOk
 rw [decide_eq_false h]
 rfl
theorem takeOk_no {room next : Int} {ns : List Nod} {k : Nat} (hk : k < ns.length) (h : goodAt next ns k = false) : takeOk room next ns = false := by
 unfold takeOk
 rw [all_no hk h, Bool.and_false]
 rfl
theorem takeOk_end {room next : Int} {ns : List Nod} (hl : ns.length ≤ 10) (h : ∀ j, j < ns.length → goodAt next ns j = true) : takeOk room next ns = decide ((bytesOf ns : Int) ≤ room) := by
 unfold takeOk
 rw [all_yes h, decide_eq_true hl, Bool.true_and, Bool.true_and]
theorem goodAt_gt {next : Int} {ns : List Nod} {k : Nat} (h : goodAt next ns k = true) : lastId ns k < (ns.getD k default).id := by
 unfold goodAt at h
 simp only [Bool.and_eq_true, Bool.not_eq_true', decide_eq_false_iff_not] at h
 omega
theorem lastId_nonneg {next : Int} {ns : List Nod} {k : Nat} (h : ∀ j, j < k → goodAt next ns j = true) : 0 ≤ lastId ns k := by
 induction k with
 | zero => exact Int.le_refl _
 | succ k ih =>
  have h1 := ih fun j hj => h j (by omega)
  have h2 := goodAt_gt (h k (by omega))
  show 0 ≤ (ns.getD k default).id
  omega
theorem take_rising {next : Int} {ns : List Nod} {k : Nat} (hk : k ≤ ns.length) (h : ∀ j, j < k → goodAt next ns j = true) : Rising (ns.take k) ∧ ∀ x ∈ ns.take k, x.id ≤ lastId ns k := by
 induction k with
 | zero => exact ⟨by rw [List.take_zero]; exact List.Pairwise.nil, fun x hx => by rw [List.take_zero] at hx; cases hx⟩
 | succ k ih =>
  obtain ⟨h1, h2⟩ := ih (by omega) fun j hj => h j (by omega)
  have hg := goodAt_gt (h k (by omega))
  rw [take_getD ns k (by omega)]
  refine ⟨?_, fun x hx => ?_⟩
  ·unfold Rising
   rw [List.pairwise_append]
   refine ⟨h1, List.pairwise_singleton _ _, fun a ha b hb => ?_⟩
   rw [List.mem_singleton] at hb
   subst hb
   have := h2 a ha
   omega
  ·rcases List.mem_append.1 hx with hx | hx
   ·have := h2 x hx
    show x.id ≤ (ns.getD k default).id
    omega
   ·rw [List.mem_singleton] at hx
    subst hx
    exact Int.le_refl _
theorem prs_snoc {ns : List Nod} {gs : List Nat} {x : Nod} {g : Nat} (h : gs.length = ns.length) : prs (ns ++ [x]) (gs ++ [g]) = prs ns gs ++ [(x.id, g)] := by
 unfold prs
 rw [List.map_append, List.zip_append (by rw [List.length_map, h])]
 rfl
theorem prs_mem {ns : List Nod} {gs : List Nat} {p : Int × Nat} (h : p ∈ prs ns gs) : ∃ x ∈ ns, x.id = p.1 := by
 have h1 := (List.of_mem_zip h).1
 obtain ⟨x, hx, e⟩ := List.mem_map.1 h1
 exact ⟨x, hx, e⟩
theorem prs_length {ns : List Nod} {gs : List Nat} (h : gs.length = ns.length) : (prs ns gs).length = ns.length := by
 unfold prs
 rw [List.length_zip, List.length_map]
 omega
theorem getD_snoc_lt {α : Type} (l : List α) (x d : α) (j : Nat) (h : j < l.length) : (l ++ [x]).getD j d = l.getD j d := by
 rw [List.getD_eq_getElem?_getD, List.getElem?_append_left h, ← List.getD_eq_getElem?_getD]
theorem getD_snoc_last {α : Type} (l : List α) (x d : α) : (l ++ [x]).getD l.length d = x := by
 rw [List.getD_eq_getElem?_getD, List.getElem?_append_right (Nat.le_refl _)]
 simp
theorem Held.snoc {w : World} {ns : List Nod} {gs : List Nat} {x : Nod} {g : Nat} (h : Held w ns gs) (hg : Blk w g #[.int .i64 x.id, .string x.data, .int .i64 x.sure] 90) : Held w (ns ++ [x]) (gs ++ [g]) :=
 ⟨by rw [List.length_append, List.length_append, h.len]; rfl, fun j hj => by
  rw [List.length_append, List.length_singleton] at hj
  by_cases hlt : j < ns.length
  ·rw [getD_snoc_lt ns x default j hlt, getD_snoc_lt gs g 0 j (by rw [h.len]; exact hlt)]
   exact h.blk j hlt
  ·obtain rfl : j = ns.length := by omega
   rw [getD_snoc_last]
   have := getD_snoc_last gs g 0
   rw [h.len] at this
   rw [this]
   exact hg⟩
structure Taken (w wr : World) (bi : Nat) (ns : List Nod) (gs : List Nat) : Prop where
 it : IT wr bi (prs ns gs)
 held : Held wr ns gs
 new : ∀ g ∈ gs, w.heap.size ≤ g
 rise : gs.Pairwise (· < ·)
 but : But (fun i => i = bi) w wr
set_option maxRecDepth 20000 in
set_option maxHeartbeats 4000000 in
theorem takeInodesV (room next : Int) (v1 v4 v5 v6 : Value) (p bi B : Nat) (ns : List Nod) (w : World) (hp : Blk w p #[.int .i64 room, .int .i64 next, .map (some bi), v4, v5, v6] 119) (hI : IT w bi []) (hv : Lies w B 3 v1 (nodR ns)) (hB : B ≤ w.heap.size) (hbB : B ≤ bi) (hne : p ≠ bi)
  (h0 : 0 ≤ room) (h1 : room ≤ 1048576) (hx0 : 1 ≤ next) (hx1 : next ≤ 1000000) (hs : bytesOf ns ≤ 4194304) (hln : ns.length ≤ 1048576) :
  Calls Tryz.prog 60 #[.pointer (some ⟨p, 0, none⟩), v1] w fun e w' => e = .returned (.bool (takeOk room next ns)) ∧ But (fun i => i = bi) w w' ∧ (takeOk room next ns = true → ∃ gs, Taken w w' bi ns gs) := by
 obtain ⟨A, cap, rfl, hl⟩ := nod_look hv
 have HL : Hid (∀ j, j < ns.length → ∃ g off, A = some ⟨g, off, none⟩ ∧ g < B ∧ _) := hl
 have HB : Hid (B ≤ w.heap.size) := hB
 have HBB : Hid (B ≤ bi) := hbB
 have HP : Hid (Blk w p #[.int .i64 room, .int .i64 next, .map (some bi), v4, v5, v6] 119) := hp
 have HNE : Hid (p ≠ bi) := hne
 have HS : Hid (bytesOf ns ≤ 4194304) := hs
 have HI : Hid (IT w bi []) := hI
 clear hl hv hB hbB hp hne hs hI
 by_cases hlen : ns.length ≤ 10
 ·have q1 : (ns.length : Int) ≤ 10 := by omega
  have n1' : decide ((10 : Int) < (ns.length : Int)) = false := decide_eq_false (by omega)
  have HE : Hid ((∀ j, j < ns.length → goodAt next ns j = true) → takeOk room next ns = decide ((bytesOf ns : Int) ≤ room)) := takeOk_end hlen
  have HNO : Hid (∀ k, k < ns.length → goodAt next ns k = false → takeOk room next ns = false) := fun k hk h => takeOk_no hk h
  have HLN : Hid (ns.length ≤ 10) := hlen
  clear hlen hln
  generalize hN : ns.length = N at *
  go_enter Tryz.func60, Tryz.ntmps60
  go_wp2_with fail
  go_loopw [5, 13] (fun v5' v13 wr => ∃ k : Nat, k ≤ N ∧ v13 = .int .i64 (k : Int) ∧ v5' = .int .i64 (lastId ns k) ∧ (∀ j, j < k → goodAt next ns j = true) ∧ ∃ gs, Taken w wr bi (ns.take k) gs) (fun _ i _ => N - (intOf i).toNat)
  case atStart => exact ⟨0, by omega, rfl, rfl, fun j hj => by omega, [], by rw [List.take_zero]; exact ⟨HI.out, ⟨rfl, fun j hj => by simp at hj⟩, fun g hg => by (cases hg), List.Pairwise.nil, But.refl _ _⟩⟩
  case round =>
   obtain ⟨k, hk, rfl, rfl, hgd, gs, hT⟩ := hrel
   have HG : Hid (∀ j, j < k → goodAt next ns j = true) := hgd
   have HT : Hid (Taken w wr bi (ns.take k) gs) := hT
   clear hgd hT
   have hpr : Blk wr p #[.int .i64 room, .int .i64 next, .map (some bi), v4, v5, v6] 119 := HT.out.but.blk HP.out HNE.out
   by_cases hlt : k < N
   ·have q4 : (k : Int) < (N : Int) := by omega
    obtain ⟨g, off, rfl, hg, hc0, hc1, hc2⟩ := HL.out k hlt
    have hgw : g < w.heap.size := Nat.lt_of_lt_of_le hg HB.out
    have hgb : wr.heap[g]? = w.heap[g]? := HT.out.but.block g hgw (fun e => by have := HBB.out; omega)
    have hcc : ∀ o, wr.cell? ⟨g, o, none⟩ = w.cell? ⟨g, o, none⟩ := fun o => World.cell?_of_block (w := w) hgb
    rw [← hcc] at hc0 hc1 hc2
    have HGE : Hid (goodAt next ns k = (!decide ((ns.getD k default).id ≤ lastId ns k) && !decide (next ≤ (ns.getD k default).id) && !decide ((ns.getD k default).sure < 0) && !decide (((ns.getD k default).data.size : Int) < (ns.getD k default).sure))) := rfl
    have HBD : Hid (goodAt next ns k = false → takeOk room next ns = false) := fun h => HNO.out k (by omega) h
    have HGD : Hid (goodAt next ns k = true → ∀ j, j < k + 1 → goodAt next ns j = true) := fun h => less_succ HG.out h
    have hsz : ((ns.getD k default).data.size : Int) ≤ 4194304 := by
     have e1 := bytesOf_snoc ns k (by omega)
     have e2 := bytesOf_le ns (k + 1)
     have := HS.out
     omega
    have HTK : Hid (ns.take (k + 1) = ns.take k ++ [ns.getD k default]) := take_getD ns k (by omega)
    have HLS : Hid (lastId ns (k + 1) = (ns.getD k default).id) := rfl
    have HLT : Hid (∀ x ∈ ns.take k, x.id ≤ lastId ns k) := (take_rising (by omega) HG.out).2
    have hla0 : 0 ≤ lastId ns k := lastId_nonneg HG.out
    have hpl : p < wr.heap.size := hpr.lt
    have hbl : bi < wr.heap.size := HT.out.it.lt
    clear hgb hgw hcc hg
    generalize hxx : ns.getD k default = xx at *
    obtain ⟨xi, xd, xs⟩ := xx
    simp only at *
    generalize hla : lastId ns k = la at *
    go_wp2_with fail
    have KP : Blk (wr.alloc (.cells #[.int .i64 xi, .string xd, .int .i64 xs] 90)) p #[.int .i64 room, .int .i64 next, .map (some bi), v4, v5, v6] 119 := hpr.alloc _
    have KZ := Blk.new wr #[.int .i64 xi, .string xd, .int .i64 xs] 90
    have BY : Hid (But (fun i => i = bi) w (wr.alloc (.cells #[.int .i64 xi, .string xd, .int .i64 xs] 90))) := HT.out.but.alloc _
    have IY : Hid (IT (wr.alloc (.cells #[.int .i64 xi, .string xd, .int .i64 xs] 90)) bi (prs (ns.take k) gs)) := HT.out.it.on ((Below.refl _ wr).alloc (Nat.le_refl _) _) hbl
    have HY : Hid (Held (wr.alloc (.cells #[.int .i64 xi, .string xd, .int .i64 xs] 90)) (ns.take k) gs) := HT.out.held.on ((Below.refl _ wr).alloc (Nat.le_refl _) _) HT.out.held.lt
    have SY : (wr.alloc (.cells #[.int .i64 xi, .string xd, .int .i64 xs] 90)).heap.size = wr.heap.size + 1 := by simp
    generalize wr.alloc (.cells #[.int .i64 xi, .string xd, .int .i64 xs] 90) = Y at *
    have z0 : Y.cell? ⟨wr.heap.size, 0, none⟩ = some (.int .i64 xi) := KZ.cell 0 _ rfl
    have z1 : Y.cell? ⟨wr.heap.size, 1, none⟩ = some (.string xd) := KZ.cell 1 _ rfl
    have z2 : Y.cell? ⟨wr.heap.size, 2, none⟩ = some (.int .i64 xs) := KZ.cell 2 _ rfl
    have b1 : Y.cell? ⟨p, 1, none⟩ = some (.int .i64 next) := KP.cell 1 _ rfl
    have b2 : Y.cell? ⟨p, 2, none⟩ = some (.map (some bi)) := KP.cell 2 _ rfl
    have HWZ : Hid (w.heap.size ≤ wr.heap.size) := HT.out.but.size
    clear KP KZ hpr hc0 hc1 hc2
    have HSY : Hid (Y.heap.size = wr.heap.size + 1) := SY
    clear SY
    generalize wr.heap.size = pz at *
    by_cases c1 : xi ≤ la
    ·have e1 : decide (xi ≤ la) = true := decide_eq_true c1
     have gf : Hid (goodAt next ns k = false) := by unfold Hid; rw [HGE.out, e1] <;> rfl
     go_quiet (fail)
     go_wp2_with fail
     go_ret
     exact ⟨by rw [HBD.out gf.out]; rfl, BY.out.drewN nq, fun h => by rw [HBD.out gf.out] at h; cases h⟩
    ·have e1 : decide (xi ≤ la) = false := decide_eq_false c1
     by_cases c2 : next ≤ xi
     ·have e2 : decide (next ≤ xi) = true := decide_eq_true c2
      have gf : Hid (goodAt next ns k = false) := by unfold Hid; rw [HGE.out, e1, e2, Bool.not_true, Bool.and_false] <;> rfl
      go_quiet (fail)
      go_wp2_with fail
      go_ret
      exact ⟨by rw [HBD.out gf.out]; rfl, BY.out.drewN nq, fun h => by rw [HBD.out gf.out] at h; cases h⟩
     ·have e2 : decide (next ≤ xi) = false := decide_eq_false c2
      by_cases c3 : xs < 0
      ·have e3 : decide (xs < 0) = true := decide_eq_true c3
       have gf : Hid (goodAt next ns k = false) := by unfold Hid; rw [HGE.out, e1, e2, e3, Bool.not_true, Bool.and_false] <;> rfl
       go_quiet (fail)
       go_wp2_with fail
       go_ret
       exact ⟨by rw [HBD.out gf.out]; rfl, BY.out.drewN nq, fun h => by rw [HBD.out gf.out] at h; cases h⟩
      ·have e3 : decide (xs < 0) = false := decide_eq_false c3
       by_cases c4 : (xd.size : Int) < xs
       ·have e4 : decide ((xd.size : Int) < xs) = true := decide_eq_true c4
        have gf : Hid (goodAt next ns k = false) := by unfold Hid; rw [HGE.out, e1, e2, e3, e4, Bool.not_true, Bool.and_false] <;> rfl
        go_quiet (fail)
        go_wp2_with fail
        go_ret
        exact ⟨by rw [HBD.out gf.out]; rfl, BY.out.drewN nq, fun h => by rw [HBD.out gf.out] at h; cases h⟩
       ·have e4 : decide ((xd.size : Int) < xs) = false := decide_eq_false c4
        have gf : Hid (goodAt next ns k = true) := by unfold Hid; rw [HGE.out, e1, e2, e3, e4]; rfl
        go_quiet (fail)
        go_wp2_with fail
        have HTT : Hid (∀ q ∈ prs (ns.take k) gs, q.1 < xi) := fun q hq => by
         obtain ⟨x, hx, e⟩ := prs_mem hq
         have := HLT.out x hx
         omega
        have kN := Blk.new (Y.drewN (nq + 1)) #[.int .i64 xi, .string xd, .int .i64 xs] 90
        have iN : IT ((Y.drewN (nq + 1)).alloc (.cells #[.int .i64 xi, .string xd, .int .i64 xs] 90)) bi (prs (ns.take k) gs) := IY.out.on (B := Y.heap.size) ⟨rfl, rfl, rfl, by simp, fun i hi => Below.heap_alloc _ _ i hi⟩ IY.out.lt
        have HN' : Hid (Held ((Y.drewN (nq + 1)).alloc (.cells #[.int .i64 xi, .string xd, .int .i64 xs] 90)) (ns.take k) gs) := HY.out.on (B := Y.heap.size) ⟨rfl, rfl, rfl, by simp, fun i hi => Below.heap_alloc _ _ i hi⟩ HY.out.lt
        have BN : Hid (But (fun i => i = bi) w ((Y.drewN (nq + 1)).alloc (.cells #[.int .i64 xi, .string xd, .int .i64 xs] 90))) := (BY.out.drewN (nq + 1)).alloc _
        obtain ⟨w2, r2, hI2, hB2, hS2⟩ := iN.put xi Y.heap.size ⟨by omega, by omega⟩ (by rw [prs_length HT.out.held.len, List.length_take]; unfold maxLen; omega) HTT.out
        have T2 : Hid (Taken w w2 bi (ns.take (k + 1)) (gs ++ [Y.heap.size])) := by
         have hbY : Y.heap.size ≠ bi := fun e => by have := IY.out.lt; omega
         rw [Hid, HTK.out]
         refine ⟨by rw [prs_snoc HT.out.held.len]; exact hI2, (HN'.out.snoc (x := ⟨xi, xd, xs⟩) kN).but hB2 ?_, ?_, ?_, BN.out.trans hB2 (fun _ _ e => e)⟩
         ·intro g hg e
          subst e
          rcases List.mem_append.1 hg with hg | hg
          ·have := HT.out.new g hg
           have := HI.out.lt
           omega
          ·rw [List.mem_singleton] at hg
           exact hbY hg.symm
         ·intro g hg
          rcases List.mem_append.1 hg with hg | hg
          ·exact HT.out.new g hg
          ·rw [List.mem_singleton] at hg
           subst hg
           have := HSY.out
           have := HWZ.out
           omega
         ·rw [List.pairwise_append]
          refine ⟨HT.out.rise, List.pairwise_singleton _ _, fun a ha b hb => ?_⟩
          rw [List.mem_singleton] at hb
          subst hb
          exact HY.out.lt a ha
        have HW1 : Hid (p < Y.heap.size) := by unfold Hid; have := HSY.out; omega
        have HW2 : Hid (pz < Y.heap.size) := by unfold Hid; have := HSY.out; omega
        have HPB : Hid (p ≠ bi) := HNE.out
        have S1 : Hid (((Y.drewN (nq + 1)).alloc (.cells #[.int .i64 xi, .string xd, .int .i64 xs] 90)).cell? ⟨p, 2, none⟩ = some (.map (some bi)) ∧ ((Y.drewN (nq + 1)).alloc (.cells #[.int .i64 xi, .string xd, .int .i64 xs] 90)).cell? ⟨pz, 0, none⟩ = some (.int .i64 xi) ∧ ((Y.drewN (nq + 1)).alloc (.cells #[.int .i64 xi, .string xd, .int .i64 xs] 90)).cell? ⟨pz, 1, none⟩ = some (.string xd) ∧ ((Y.drewN (nq + 1)).alloc (.cells #[.int .i64 xi, .string xd, .int .i64 xs] 90)).cell? ⟨pz, 2, none⟩ = some (.int .i64 xs)) := ⟨(World.cell?_alloc_lt _ _ _ HW1.out).trans b2, (World.cell?_alloc_lt _ _ _ HW2.out).trans z0, (World.cell?_alloc_lt _ _ _ HW2.out).trans z1, (World.cell?_alloc_lt _ _ _ HW2.out).trans z2⟩
        have hcp : ∀ o, w2.cell? ⟨p, o, none⟩ = ((Y.drewN (nq + 1)).alloc (.cells #[.int .i64 xi, .string xd, .int .i64 xs] 90)).cell? ⟨p, o, none⟩ := fun o => World.cell?_of_block (w := _) (hB2.block p (by have := HW1.out; simp; omega) HNE.out)
        have hcz : ∀ o, w2.cell? ⟨pz, o, none⟩ = ((Y.drewN (nq + 1)).alloc (.cells #[.int .i64 xi, .string xd, .int .i64 xs] 90)).cell? ⟨pz, o, none⟩ := fun o => World.cell?_of_block (w := _) (hB2.block pz (by have := HW2.out; simp; omega) (fun e => by omega))
        have S2 : Hid (w2.cell? ⟨p, 2, none⟩ = some (.map (some bi)) ∧ w2.cell? ⟨pz, 0, none⟩ = some (.int .i64 xi) ∧ w2.cell? ⟨pz, 1, none⟩ = some (.string xd) ∧ w2.cell? ⟨pz, 2, none⟩ = some (.int .i64 xs)) := ⟨(hcp 2).trans S1.out.1, (hcz 0).trans S1.out.2.1, (hcz 1).trans S1.out.2.2.1, (hcz 2).trans S1.out.2.2.2⟩
        clear kN iN hI2 hB2 hS2 hcp hcz
        have S0 : Hid ((Y.drewN (nq + 1)).cell? ⟨p, 2, none⟩ = some (.map (some bi)) ∧ (Y.drewN (nq + 1)).cell? ⟨pz, 0, none⟩ = some (.int .i64 xi) ∧ (Y.drewN (nq + 1)).cell? ⟨pz, 1, none⟩ = some (.string xd) ∧ (Y.drewN (nq + 1)).cell? ⟨pz, 2, none⟩ = some (.int .i64 xs)) := ⟨b2, z0, z1, z2⟩
        go_region_held3 (fun w' => w'.cell? ⟨p, 2, none⟩ = some (.map (some bi)) ∧ w'.cell? ⟨pz, 0, none⟩ = some (.int .i64 xi) ∧ w'.cell? ⟨pz, 1, none⟩ = some (.string xd) ∧ w'.cell? ⟨pz, 2, none⟩ = some (.int .i64 xs)) (first | exact S0.out | exact S1.out | exact S2.out) (fail)
        go_wp2_with fail
        go_roundw
        case rel => exact ⟨k + 1, by omega, by go_num, by rw [HLS.out], HGD.out gf.out, _, T2.out⟩
        case measure => simp [intOf]; omega
   ·obtain rfl : k = N := by omega
    have hT' : Taken w wr bi ns gs := by
     have := HT.out
     rw [← hN, List.take_length] at this
     exact this
    have HF : Hid (takeOk room next ns = decide ((bytesOf ns : Int) ≤ room)) := HE.out HG.out
    have HRi : Rising ns := by
     have := (take_rising (ns := ns) (k := k) (by omega) HG.out).1
     rw [← hN, List.take_length] at this
     exact this
    have cS := spareV room next v4 v5 v6 p bi ns gs wr hpr hT'.it hT'.held HRi h0 h1 HS.out
    have HTE : Hid (Taken w wr bi ns gs) := hT'
    clear hpr HRi hT'
    generalize bytesOf ns = bn' at *
    go_wp2_with fail
    refine cS.mono ?_
    rintro e w3 ⟨rfl, hb⟩
    have T3 : Hid (Taken w w3 bi ns gs) := ⟨HTE.out.it.on hb HTE.out.it.lt, HTE.out.held.on hb HTE.out.held.lt, HTE.out.new, HTE.out.rise, HTE.out.but.trans (But.of_below (fun _ => False) hb) (fun _ _ k => k.elim)⟩
    clear hb cS
    go_wp2_with fail
    go_ret
    exact ⟨by rw [HF.out]; rfl, T3.out.but, fun _ => ⟨gs, T3.out⟩⟩
 ·have q1 : (ns.length : Int) ≤ 1048576 := by omega
  have n1 : (10 : Int) < (ns.length : Int) := by omega
  have n1' : decide ((10 : Int) < (ns.length : Int)) = true := decide_eq_true n1
  have HF : Hid (takeOk room next ns = false) := takeOk_long hlen
  clear hlen hln
  generalize ns.length = N at *
  go_enter Tryz.func60, Tryz.ntmps60
  go_wp2_with fail
  go_ret
  exact ⟨by rw [HF.out]; rfl, But.refl _ _, fun h => by rw [HF.out] at h; cases h⟩
end Go.Proofs.YtdimaoloapbeoaaGreatDoor
namespace Go.Proofs
open Go.Shelf
def Tryz.cloneI_ren : Go.Shelf.Ren := ⟨fun | 5 => 61 | 7 => 92 | n => n, fun | 23 => 115 | 25 => 3 | 3 => 122 | 4 => 4 | 20 => 20 | n => n, fun | n => n⟩
theorem Tryz.cloneI : Go.Proofs.SlLaysW.n5 Tryz.prog Tryz.cloneI_ren := {
 mixed := by kernel_rfl
 f5 := ⟨Tryz.f61.name, by decide, Tryz.func61.trans (congrArg some (by kernel_rfl))⟩
 f7 := Tryz.func92.trans (congrArg some (by kernel_rfl))
 t4 := Tryz.underlying4
 a4 := Tryz.isAgg4
 z4 := Tryz.sizeOf4
 v4 := Tryz.zeroValue4
 t20 := Tryz.underlying20
 a20 := Tryz.isAgg20
 z20 := Tryz.sizeOf20
 v20 := Tryz.zeroValue20
 t23 := Tryz.underlying115
 a23 := Tryz.isAgg115
 z23 := Tryz.sizeOf115
 v23 := Tryz.zeroValue115 }
def Tryz.cloneN_ren : Go.Shelf.Ren := ⟨fun | 5 => 94 | 7 => 92 | n => n, fun | 23 => 117 | 25 => 9 | 3 => 3 | 4 => 4 | 20 => 20 | n => n, fun | n => n⟩
theorem Tryz.cloneN : Go.Proofs.SlLaysW.n5 Tryz.prog Tryz.cloneN_ren := {
 mixed := by kernel_rfl
 f5 := ⟨Tryz.f94.name, by decide, Tryz.func94.trans (congrArg some (by kernel_rfl))⟩
 f7 := Tryz.func92.trans (congrArg some (by kernel_rfl))
 t4 := Tryz.underlying4
 a4 := Tryz.isAgg4
 z4 := Tryz.sizeOf4
 v4 := Tryz.zeroValue4
 t20 := Tryz.underlying20
 a20 := Tryz.isAgg20
 z20 := Tryz.sizeOf20
 v20 := Tryz.zeroValue20
 t23 := Tryz.underlying117
 a23 := Tryz.isAgg117
 z23 := Tryz.sizeOf117
 v23 := Tryz.zeroValue117 }
end Go.Proofs
namespace Go.Proofs.YtdimaoloapbeoaaGreatDoor
open Go.RowKit Go.Maps
theorem cloneNV (w : World) (b : Nat) (l : List Lnk) (h : NT w b l) :
  Calls Tryz.prog 94 #[.map (some b)] w fun e w' => e = .returned (.map (some w.heap.size)) ∧ NT w' w.heap.size l ∧ Below w.heap.size w w' := by
 obtain ⟨n, h⟩ := h
 refine (AnyW.maps_Clone_owns Tryz.cloneN 9 intElem b n (linkD l) w h).mono ?_
 rintro e w' ⟨rfl, h1, _, hb⟩
 exact ⟨rfl, ⟨n, h1⟩, hb⟩
theorem cloneIV (w : World) (b : Nat) (l : List (Int × Nat)) (h : IT w b l) :
  Calls Tryz.prog 61 #[.map (some b)] w fun e w' => e = .returned (.map (some w.heap.size)) ∧ IT w' w.heap.size l ∧ Below w.heap.size w w' := by
 obtain ⟨n, h⟩ := h
 refine (AnyW.maps_Clone_owns Tryz.cloneI 3 ptrElem b n (ptrD l) w h).mono ?_
 rintro e w' ⟨rfl, h1, _, hb⟩
 exact ⟨rfl, ⟨n, h1⟩, hb⟩
end Go.Proofs.YtdimaoloapbeoaaGreatDoor
