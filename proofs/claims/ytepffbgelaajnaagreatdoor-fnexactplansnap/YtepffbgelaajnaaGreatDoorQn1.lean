/- DkMap DkSz DkBlk ImMap DkRead -/
import Derived.Test.YtepffbgelaajnaaGreatDoorQn0
import Derived.Maps.OwnSet
import Derived.Maps.Ext
import Derived.Maps.RangeWalk
import Derived.Test.YtepffbgelaajnaaGreatDoorRows
import Derived.WalkKit
import Derived.ProofKit
import Derived.OpenShut
import Derived.Below
import Derived.WalkSmall
import Derived.WalkLawsBesides
import Derived.Outline
import Derived.BigQuiet
import Derived.Deep.QuietTactic
import Derived.StringKeys
namespace Go.Proofs.YtepffbgelaajnaaGreatDoor
open Go.RowKit Go.PlainAid Go.Maps
def nameK (s : ByteArray) : Lit := .string s.data.toList
def linkD (l : List Lnk) : DataW Unit := .map (l.map fun x => (nameK x.name, .lit (.int .i64 x.id)))
def ptrD (l : List (Int × Nat)) : DataW Unit := .map (l.map fun p => (.int .i64 p.1, .lit (.int .i64 (p.2 : Int))))
theorem bytes_eq {a b : ByteArray} (h : a.data.toList = b.data.toList) : a = b := by
 apply ByteArray.ext
 exact Array.toList_inj.1 h
theorem nameK_same (a b : ByteArray) : (nameK a).sameKey (nameK b) = decide (a = b) := by
 unfold nameK Lit.sameKey
 by_cases h : a = b
 ·subst h; simp
 ·rw [decide_eq_false h]
  exact beq_eq_false_iff_ne.2 fun e => h (bytes_eq e)
theorem before_less : ∀ a b : List UInt8, bytesBefore a b = Op.bytesLess a b
 | [], [] => rfl
 | _ :: _, [] => rfl
 | [], _ :: _ => rfl
 | a :: x, b :: y => by
  unfold bytesBefore Op.bytesLess
  rw [before_less x y]
theorem nameK_before (a b : ByteArray) : (nameK a).before (nameK b) = ahead a b := by
 show bytesBefore a.data.toList b.data.toList = Op.bytesLess a.toList b.toList
 rw [before_less, Lib.toList_data, Lib.toList_data]
theorem ins_insert (x : Lnk) : ∀ l : List Lnk, (ins x l).map (fun y => ((nameK y.name, .lit (.int .i64 y.id)) : Lit × DataW Unit)) = DataW.insert (nameK x.name, .lit (.int .i64 x.id)) (l.map fun y => (nameK y.name, .lit (.int .i64 y.id)))
 | [] => rfl
 | y :: r => by
  unfold ins
  rw [List.map_cons]
  unfold DataW.insert
  rw [nameK_before]
  by_cases h : ahead x.name y.name = true
  ·rw [if_pos h, if_pos h]; rfl
  ·rw [if_neg h, if_neg h, List.map_cons, ins_insert x r]
theorem filter_links (l : List Lnk) (name : ByteArray) : (l.map fun y => ((nameK y.name, .lit (.int .i64 y.id)) : Lit × DataW Unit)).filter (fun p => !p.1.sameKey (nameK name)) = (without l name).map fun y => (nameK y.name, .lit (.int .i64 y.id)) := by
 unfold without
 rw [List.filter_map]
 congr 1
 apply List.filter_congr
 intro x _
 simp only [Function.comp, nameK_same]
 by_cases h : x.name = name <;> simp [h]
theorem linkD_put (l : List Lnk) (x : Lnk) : (linkD l).put (nameK x.name) (.lit (.int .i64 x.id)) = linkD (withL l x) := by
 unfold linkD DataW.put withL
 simp only
 rw [filter_links, ins_insert]
theorem linkD_del (l : List Lnk) (name : ByteArray) : (linkD l).del (nameK name) = linkD (without l name) := by
 unfold linkD DataW.del
 simp only
 rw [filter_links]
theorem linkD_has (l : List Lnk) (name : ByteArray) : has (linkD l) (nameK name) = (linkAt l name).isSome := by
 unfold linkD linkAt
 rw [has_eq, List.any_map, List.findIdx?_isSome]
 congr 1
 funext x
 simp only [Function.comp, nameK_same]
theorem linkD_at (l : List Lnk) (name : ByteArray) (i : Nat) (h : linkAt l name = some i) (z : DataW Unit) : (linkD l).atKey (nameK name) z = .lit (.int .i64 (l.getD i default).id) := by
 unfold linkAt at h
 rw [List.findIdx?_eq_some_iff_getElem] at h
 obtain ⟨hi, hp, hn⟩ := h
 have hf : l.find? (fun x => decide (x.name = name)) = some l[i] := by
  rw [List.find?_eq_some_iff_getElem]
  exact ⟨hp, i, hi, rfl, fun j hj => by simpa using hn j hj⟩
 unfold linkD DataW.atKey
 simp only
 rw [List.find?_map]
 have e : ((fun p : Lit × DataW Unit => p.1.sameKey (nameK name)) ∘ fun y : Lnk => (nameK y.name, .lit (.int .i64 y.id))) = fun x : Lnk => decide (x.name = name) := by
  funext x
  simp only [Function.comp, nameK_same]
 rw [e, hf, ← getD_at l i hi]
 rfl
theorem linkD_none (l : List Lnk) (name : ByteArray) (h : linkAt l name = none) (z : DataW Unit) : (linkD l).atKey (nameK name) z = z := by
 refine atKey_of_not_has ?_ z
 rw [linkD_has, h]
 rfl
theorem linkD_size (l : List Lnk) : Maps.size (linkD l) = l.length := by
 unfold linkD
 rw [size_eq, List.length_map]
def ptrAt (l : List (Int × Nat)) (id : Int) : Option Nat := (l.find? fun p => decide (p.1 = id)).map (·.2)
def ptrDel (l : List (Int × Nat)) (id : Int) : List (Int × Nat) := l.filter fun p => decide (p.1 ≠ id)
theorem intK_same (a b : Int) : (Lit.int .i64 a).sameKey (.int .i64 b) = decide (a = b) := by
 unfold Lit.sameKey
 simp
theorem ptrD_del (l : List (Int × Nat)) (id : Int) : (ptrD l).del (.int .i64 id) = ptrD (ptrDel l id) := by
 unfold ptrD DataW.del ptrDel
 simp only
 rw [List.filter_map]
 congr 2
 apply List.filter_congr
 intro x _
 simp only [Function.comp, intK_same]
 by_cases h : x.1 = id <;> simp [h]
theorem ptrD_has (l : List (Int × Nat)) (id : Int) : has (ptrD l) (.int .i64 id) = (ptrAt l id).isSome := by
 unfold ptrD ptrAt
 rw [has_eq, List.any_map, Option.isSome_map, Bool.eq_iff_iff, List.find?_isSome, List.any_eq_true]
 simp only [Function.comp, intK_same]
theorem ptrD_at (l : List (Int × Nat)) (id : Int) (z : DataW Unit) : (ptrD l).atKey (.int .i64 id) z = match ptrAt l id with | some g => .lit (.int .i64 (g : Int)) | none => z := by
 unfold ptrD DataW.atKey ptrAt
 simp only
 rw [List.find?_map]
 have e : ((fun p : Lit × DataW Unit => p.1.sameKey (.int .i64 id)) ∘ fun y : Int × Nat => ((.int .i64 y.1 : Lit), (.lit (.int .i64 (y.2 : Int)) : DataW Unit))) = fun x : Int × Nat => decide (x.1 = id) := by
  funext x
  simp only [Function.comp, intK_same]
 rw [e]
 cases l.find? fun p => decide (p.1 = id) <;> rfl
theorem ptrD_size (l : List (Int × Nat)) : Maps.size (ptrD l) = l.length := by
 unfold ptrD
 rw [size_eq, List.length_map]
theorem insert_last (k : Int) (d : DataW Unit) : ∀ l : List (Int × Nat), (∀ p ∈ l, p.1 < k) → DataW.insert (.int .i64 k, d) (l.map fun p => ((.int .i64 p.1 : Lit), (.lit (.int .i64 (p.2 : Int)) : DataW Unit))) = (l.map fun p => (.int .i64 p.1, .lit (.int .i64 (p.2 : Int)))) ++ [(.int .i64 k, d)]
 | [], _ => rfl
 | p :: r, h => by
  rw [List.map_cons]
  unfold DataW.insert
  have h1 := h p (by simp)
  have e : (Lit.int .i64 k).before (.int .i64 p.1) = false := by
   unfold Lit.before
   exact decide_eq_false (by omega)
  rw [e, insert_last k d r fun q hq => h q (by simp [hq])]
  rfl
theorem ptrD_put (l : List (Int × Nat)) (id : Int) (g : Nat) (h : ∀ p ∈ l, p.1 < id) : (ptrD l).put (.int .i64 id) (.lit (.int .i64 (g : Int))) = ptrD (l ++ [(id, g)]) := by
 unfold ptrD DataW.put
 simp only
 have e : (l.map fun p => ((.int .i64 p.1 : Lit), (.lit (.int .i64 (p.2 : Int)) : DataW Unit))).filter (fun p => !p.1.sameKey (.int .i64 id)) = l.map fun p => (.int .i64 p.1, .lit (.int .i64 (p.2 : Int))) := by
  apply List.filter_eq_self.2
  intro p hp
  obtain ⟨q, hq, rfl⟩ := List.mem_map.1 hp
  have := h q hq
  simp only [intK_same]
  rw [decide_eq_false (by omega)]
  rfl
 rw [e, insert_last id _ l h, List.map_append]
 rfl
def ptrElem : Value → Option (DataW Unit × List MemPlace)
 | .pointer none => some (.nil, [])
 | .pointer (some ⟨g, 0, none⟩) => some (.lit (.int .i64 (g : Int)), [])
 | _ => none
theorem ptrElem_mk (g : Nat) : ptrElem (.pointer (some ⟨g, 0, none⟩)) = some (.lit (.int .i64 (g : Int)), []) := rfl
theorem ptrElem_inv {v : Value} {g : Nat} {ps : List MemPlace} (h : ptrElem v = some (.lit (.int .i64 (g : Int)), ps)) : v = .pointer (some ⟨g, 0, none⟩) := by
 unfold ptrElem at h
 split at h
 ·cases h
 ·rename_i g' 
  cases h
  rfl
 ·cases h
theorem ptrElem_inv_nil {v : Value} {ps : List MemPlace} (h : ptrElem v = some (.nil, ps)) : v = .pointer none := by
 unfold ptrElem at h
 split at h
 ·rfl
 ·cases h
 ·cases h
end Go.Proofs.YtepffbgelaajnaaGreatDoor
namespace Go.Proofs.YtepffbgelaajnaaGreatDoor
open Go.ChangeShapes Go.WideShapes Go.ChangeAt Go.RowKit Go.PlainAid
set_option linter.unusedVariables false
def wtN1 (x : Nod) : Nat := x.data.size
def wtN : List Nod → Nat
 | [] => 0
 | x :: r => wtN1 x + wtN r
theorem wtN_snoc (l : List Nod) (k : Nat) (h : k < l.length) : wtN (l.take (k + 1)) = wtN (l.take k) + wtN1 (l.getD k default) := by
 rw [← getD_at l k h]
 induction l generalizing k with
 | nil => simp at h
 | cons x r ih =>
  cases k with
  | zero => simp [wtN]
  | succ k => simp only [List.take_succ_cons, wtN, List.getElem_cons_succ]; rw [ih k (by simpa using h)]; omega
def vNod (x : Nod) : Value := .agg #[.int .i64 x.id, .string x.data, .int .i64 x.sure]
set_option maxHeartbeats 400000 in
theorem szInode (x : Nod) (left : Int) (w : World) (h0 : 0 ≤ left) (h1 : left ≤ 1048576) (hx : x.data.size ≤ maxLen) :
  Calls Tryz.prog 52 #[vNod x, .int .i64 left] w fun e w' => (∃ r, e = .returned (.int .i64 r) ∧ Hid (r = -1 ∨ 0 ≤ r ∧ r + (wtN1 x : Int) = left)) ∧ Below w.heap.size w w' := by
 unfold maxLen at hx
 unfold vNod wtN1
 obtain ⟨xid, xdata, xsure⟩ := x
 simp only at hx ⊢
 generalize hn : xdata.size = n at *
 have q1 : (n : Int) ≤ 9223372036854775807 := by omega
 have w2 : wrap64 (left - (n : Int)) = left - (n : Int) := by unfold wrap64; omega
 by_cases hl : left < (n : Int)
 ·have HL : Hid (left < (n : Int)) := hl
  have q2 : left - (n : Int) < 0 := by omega
  go_enter Tryz.func52, Tryz.ntmps52
  go_wp2
  go_ret
  exact ⟨⟨_, rfl, .inl rfl⟩, (Below.refl _ _).alloc (Nat.le_refl _) _⟩
 ·have HL : Hid ((n : Int) ≤ left) := by unfold Hid; omega
  have q2 : 0 ≤ left - (n : Int) := by omega
  have q3 : decide (left - (n : Int) < 0) = false := decide_eq_false (by omega)
  go_enter Tryz.func52, Tryz.ntmps52
  go_wp2
  go_ret
  exact ⟨⟨_, rfl, .inr ⟨by have := HL.out; omega, by omega⟩⟩, (Below.refl _ _).alloc (Nat.le_refl _) _⟩
set_option maxHeartbeats 1000000 in
theorem szInodeS (l : List Nod) (v : Value) (left : Int) (w : World) (B : Nat) (hv : Lies w B 3 v (nodR l)) (hd : ∀ x ∈ l, x.data.size ≤ maxLen) (hn : l.length ≤ maxLen) (h0 : 0 ≤ left) (h1 : left ≤ 1048576) (hB : B ≤ w.heap.size) :
  Calls Tryz.prog 22 #[v, .int .i64 left] w fun e w' => ∃ r : Int, e = .returned (.int .i64 r) ∧ (r = -1 ∨ 0 ≤ r ∧ r + ((l.length + wtN l : Nat) : Int) = left) ∧ Below w.heap.size w w' := by
 unfold maxLen at hn
 obtain ⟨A, cap, rfl, hl⟩ := nod_look hv
 have HL : Hid (∀ j, j < l.length → ∃ g off, A = some ⟨g, off, none⟩ ∧ g < B ∧ _) := hl
 have HD : Hid (∀ x ∈ l, x.data.size ≤ maxLen) := hd
 have HB : Hid (B ≤ w.heap.size) := hB
 clear hl hd hB hv
 have q1 : (l.length : Int) ≤ 9223372036854775807 := by omega
 have w2 : wrap64 (left - (l.length : Int)) = left - (l.length : Int) := by unfold wrap64; omega
 by_cases hs : left < (l.length : Int)
 ·have q2 : left - (l.length : Int) < 0 := by omega
  go_enter Tryz.func22, Tryz.ntmps22
  go_wp2_with fail
  go_ret
  exact ⟨-1, rfl, .inl rfl, Below.refl _ _⟩
 ·have q2 : 0 ≤ left - (l.length : Int) := by omega
  have q3 : decide (left - (l.length : Int) < 0) = false := decide_eq_false (by omega)
  have HQ : Hid (0 ≤ left - (l.length : Int)) := q2
  generalize hN : l.length = n at *
  go_enter Tryz.func22, Tryz.ntmps22
  go_wp2_with fail
  clear q2 q3 w2
  go_loopw [1, 5] (fun v1 v5 wr => ∃ (k : Nat) (r : Int), k ≤ n ∧ v5 = .int .i64 (k : Int) ∧ v1 = .int .i64 r ∧ 0 ≤ r ∧ r + ((n + wtN (l.take k) : Nat) : Int) = left ∧ Below w.heap.size w wr) (fun _ i _ => n - (intOf i).toNat)
  case atStart => exact ⟨0, left - (n : Int), by omega, rfl, rfl, HQ.out, by simp [wtN], Below.refl _ _⟩
  case round =>
   obtain ⟨k, r, hk, rfl, rfl, hr0, hr, hb⟩ := hrel
   have HR : Hid (r + ((n + wtN (l.take k) : Nat) : Int) = left) := hr
   have HB1 : Hid (Below w.heap.size w wr) := hb
   have q9 : r ≤ 1048576 := by omega
   clear hr hb
   by_cases hlt : k < n
   ·have q4 : (k : Int) < (n : Int) := by omega
    obtain ⟨g, off, rfl, hg, hc0, hc1, hc2⟩ := HL.out k (by omega)
    have hgw : g < w.heap.size := Nat.lt_of_lt_of_le hg HB.out
    rw [← HB1.out.cell (p := ⟨_, _, none⟩) hgw] at hc0
    rw [← HB1.out.cell (p := ⟨_, _, none⟩) hgw] at hc1
    rw [← HB1.out.cell (p := ⟨_, _, none⟩) hgw] at hc2
    have c1 := fun wx => szInode (l.getD k default) r wx hr0 q9 (HD.out _ (getD_mem l k (by omega)))
    have HW : Hid (wtN (l.take (k + 1)) = wtN (l.take k) + wtN1 (l.getD k default)) := wtN_snoc l k (by omega)
    unfold vNod at c1
    generalize wtN1 (l.getD k default) = t at *
    generalize l.getD k default = x at *
    go_wp2_with fail
    refine (c1 _).mono ?_
    rintro e w2 ⟨⟨r2, rfl, hr2⟩, hb2⟩
    have HR2 : Hid (r2 = -1 ∨ 0 ≤ r2 ∧ r2 + (t : Int) = r) := hr2
    have HB2 : Hid (Below w.heap.size w w2) := HB1.out.trans (hb2.mono HB1.out.size)
    clear hr2 hb2
    rcases HR2.out with rfl | ⟨hp, hq⟩
    ·go_wp2_with fail
     go_ret
     exact ⟨-1, rfl, .inl rfl, HB2.out⟩
    ·have q5 : decide (r2 < 0) = false := decide_eq_false (by omega)
     have HQ2 : Hid (r2 + (t : Int) = r) := hq
     clear hq
     go_wp2_with fail
     go_roundw
     case rel => exact ⟨k + 1, r2, by omega, by go_num, rfl, hp, by have := HR.out; have := HQ2.out; rw [HW.out]; omega, HB2.out⟩
     case measure => simp [intOf]; omega
   ·obtain rfl : k = n := by omega
    go_wp2_with fail
    go_ret
    exact ⟨r, rfl, .inr ⟨hr0, by have := HR.out; rw [← hN, List.take_length] at this; rw [← hN]; exact this⟩, HB1.out⟩
def wtL1 (x : Lnk) : Nat := x.name.size
def wtL : List Lnk → Nat
 | [] => 0
 | x :: r => wtL1 x + wtL r
theorem wtL_snoc (l : List Lnk) (k : Nat) (h : k < l.length) : wtL (l.take (k + 1)) = wtL (l.take k) + wtL1 (l.getD k default) := by
 rw [← getD_at l k h]
 induction l generalizing k with
 | nil => simp at h
 | cons x r ih =>
  cases k with
  | zero => simp [wtL]
  | succ k => simp only [List.take_succ_cons, wtL, List.getElem_cons_succ]; rw [ih k (by simpa using h)]; omega
def vLnk (x : Lnk) : Value := .agg #[.string x.name, .int .i64 x.id]
set_option maxHeartbeats 400000 in
theorem szLink (x : Lnk) (left : Int) (w : World) (h0 : 0 ≤ left) (h1 : left ≤ 1048576) (hx : x.name.size ≤ maxLen) :
  Calls Tryz.prog 53 #[vLnk x, .int .i64 left] w fun e w' => (∃ r, e = .returned (.int .i64 r) ∧ Hid (r = -1 ∨ 0 ≤ r ∧ r + (wtL1 x : Int) = left)) ∧ Below w.heap.size w w' := by
 unfold maxLen at hx
 unfold vLnk wtL1
 obtain ⟨xname, xid⟩ := x
 simp only at hx ⊢
 generalize hn : xname.size = n at *
 have q1 : (n : Int) ≤ 9223372036854775807 := by omega
 have w2 : wrap64 (left - (n : Int)) = left - (n : Int) := by unfold wrap64; omega
 by_cases hl : left < (n : Int)
 ·have HL : Hid (left < (n : Int)) := hl
  have q2 : left - (n : Int) < 0 := by omega
  go_enter Tryz.func53, Tryz.ntmps53
  go_wp2
  go_ret
  exact ⟨⟨_, rfl, .inl rfl⟩, (Below.refl _ _).alloc (Nat.le_refl _) _⟩
 ·have HL : Hid ((n : Int) ≤ left) := by unfold Hid; omega
  have q2 : 0 ≤ left - (n : Int) := by omega
  have q3 : decide (left - (n : Int) < 0) = false := decide_eq_false (by omega)
  go_enter Tryz.func53, Tryz.ntmps53
  go_wp2
  go_ret
  exact ⟨⟨_, rfl, .inr ⟨by have := HL.out; omega, by omega⟩⟩, (Below.refl _ _).alloc (Nat.le_refl _) _⟩
set_option maxHeartbeats 1000000 in
theorem szLinkS (l : List Lnk) (v : Value) (left : Int) (w : World) (B : Nat) (hv : Lies w B 2 v (lnkR l)) (hd : ∀ x ∈ l, x.name.size ≤ maxLen) (hn : l.length ≤ maxLen) (h0 : 0 ≤ left) (h1 : left ≤ 1048576) (hB : B ≤ w.heap.size) :
  Calls Tryz.prog 23 #[v, .int .i64 left] w fun e w' => ∃ r : Int, e = .returned (.int .i64 r) ∧ (r = -1 ∨ 0 ≤ r ∧ r + ((l.length + wtL l : Nat) : Int) = left) ∧ Below w.heap.size w w' := by
 unfold maxLen at hn
 obtain ⟨A, cap, rfl, hl⟩ := lnk_look hv
 have HL : Hid (∀ j, j < l.length → ∃ g off, A = some ⟨g, off, none⟩ ∧ g < B ∧ _) := hl
 have HD : Hid (∀ x ∈ l, x.name.size ≤ maxLen) := hd
 have HB : Hid (B ≤ w.heap.size) := hB
 clear hl hd hB hv
 have q1 : (l.length : Int) ≤ 9223372036854775807 := by omega
 have w2 : wrap64 (left - (l.length : Int)) = left - (l.length : Int) := by unfold wrap64; omega
 by_cases hs : left < (l.length : Int)
 ·have q2 : left - (l.length : Int) < 0 := by omega
  go_enter Tryz.func23, Tryz.ntmps23
  go_wp2_with fail
  go_ret
  exact ⟨-1, rfl, .inl rfl, Below.refl _ _⟩
 ·have q2 : 0 ≤ left - (l.length : Int) := by omega
  have q3 : decide (left - (l.length : Int) < 0) = false := decide_eq_false (by omega)
  have HQ : Hid (0 ≤ left - (l.length : Int)) := q2
  generalize hN : l.length = n at *
  go_enter Tryz.func23, Tryz.ntmps23
  go_wp2_with fail
  clear q2 q3 w2
  go_loopw [1, 5] (fun v1 v5 wr => ∃ (k : Nat) (r : Int), k ≤ n ∧ v5 = .int .i64 (k : Int) ∧ v1 = .int .i64 r ∧ 0 ≤ r ∧ r + ((n + wtL (l.take k) : Nat) : Int) = left ∧ Below w.heap.size w wr) (fun _ i _ => n - (intOf i).toNat)
  case atStart => exact ⟨0, left - (n : Int), by omega, rfl, rfl, HQ.out, by simp [wtL], Below.refl _ _⟩
  case round =>
   obtain ⟨k, r, hk, rfl, rfl, hr0, hr, hb⟩ := hrel
   have HR : Hid (r + ((n + wtL (l.take k) : Nat) : Int) = left) := hr
   have HB1 : Hid (Below w.heap.size w wr) := hb
   have q9 : r ≤ 1048576 := by omega
   clear hr hb
   by_cases hlt : k < n
   ·have q4 : (k : Int) < (n : Int) := by omega
    obtain ⟨g, off, rfl, hg, hc0, hc1⟩ := HL.out k (by omega)
    have hgw : g < w.heap.size := Nat.lt_of_lt_of_le hg HB.out
    rw [← HB1.out.cell (p := ⟨_, _, none⟩) hgw] at hc0
    rw [← HB1.out.cell (p := ⟨_, _, none⟩) hgw] at hc1
    have c1 := fun wx => szLink (l.getD k default) r wx hr0 q9 (HD.out _ (getD_mem l k (by omega)))
    have HW : Hid (wtL (l.take (k + 1)) = wtL (l.take k) + wtL1 (l.getD k default)) := wtL_snoc l k (by omega)
    unfold vLnk at c1
    generalize wtL1 (l.getD k default) = t at *
    generalize l.getD k default = x at *
    go_wp2_with fail
    refine (c1 _).mono ?_
    rintro e w2 ⟨⟨r2, rfl, hr2⟩, hb2⟩
    have HR2 : Hid (r2 = -1 ∨ 0 ≤ r2 ∧ r2 + (t : Int) = r) := hr2
    have HB2 : Hid (Below w.heap.size w w2) := HB1.out.trans (hb2.mono HB1.out.size)
    clear hr2 hb2
    rcases HR2.out with rfl | ⟨hp, hq⟩
    ·go_wp2_with fail
     go_ret
     exact ⟨-1, rfl, .inl rfl, HB2.out⟩
    ·have q5 : decide (r2 < 0) = false := decide_eq_false (by omega)
     have HQ2 : Hid (r2 + (t : Int) = r) := hq
     clear hq
     go_wp2_with fail
     go_roundw
     case rel => exact ⟨k + 1, r2, by omega, by go_num, rfl, hp, by have := HR.out; have := HQ2.out; rw [HW.out]; omega, HB2.out⟩
     case measure => simp [intOf]; omega
   ·obtain rfl : k = n := by omega
    go_wp2_with fail
    go_ret
    exact ⟨r, rfl, .inr ⟨hr0, by have := HR.out; rw [← hN, List.take_length] at this; rw [← hN]; exact this⟩, HB1.out⟩
def wtM1 (x : Mov) : Nat := x.name.size + x.to.size
def wtM : List Mov → Nat
 | [] => 0
 | x :: r => wtM1 x + wtM r
theorem wtM_snoc (l : List Mov) (k : Nat) (h : k < l.length) : wtM (l.take (k + 1)) = wtM (l.take k) + wtM1 (l.getD k default) := by
 rw [← getD_at l k h]
 induction l generalizing k with
 | nil => simp at h
 | cons x r ih =>
  cases k with
  | zero => simp [wtM]
  | succ k => simp only [List.take_succ_cons, wtM, List.getElem_cons_succ]; rw [ih k (by simpa using h)]; omega
def vMov (x : Mov) : Value := .agg #[.int .i64 x.kind, .string x.name, .string x.to, .int .i64 x.id]
set_option maxHeartbeats 400000 in
theorem szMove (x : Mov) (left : Int) (w : World) (h0 : 0 ≤ left) (h1 : left ≤ 1048576) (hx : x.name.size ≤ maxLen ∧ x.to.size ≤ maxLen) :
  Calls Tryz.prog 54 #[vMov x, .int .i64 left] w fun e w' => (∃ r, e = .returned (.int .i64 r) ∧ Hid (r = -1 ∨ 0 ≤ r ∧ r + (wtM1 x : Int) = left)) ∧ Below w.heap.size w w' := by
 unfold maxLen at hx
 unfold vMov wtM1
 obtain ⟨xkind, xname, xto, xid⟩ := x
 simp only at hx ⊢
 obtain ⟨hx1, hx2⟩ := hx
 generalize hn : xname.size = n at *
 generalize hm : xto.size = m at *
 have q1 : (n : Int) ≤ 9223372036854775807 := by omega
 have q4 : (m : Int) ≤ 9223372036854775807 := by omega
 have w2 : wrap64 (left - (n : Int)) = left - (n : Int) := by unfold wrap64; omega
 by_cases hl : left < (n : Int)
 ·have HL : Hid (left < ((n + m : Nat) : Int)) := by unfold Hid; omega
  have q2 : left - (n : Int) < 0 := by omega
  go_enter Tryz.func54, Tryz.ntmps54
  go_wp2
  go_ret
  exact ⟨⟨_, rfl, .inl rfl⟩, (Below.refl _ _).alloc (Nat.le_refl _) _⟩
 ·have q2 : 0 ≤ left - (n : Int) := by omega
  have q3 : decide (left - (n : Int) < 0) = false := decide_eq_false (by omega)
  have w3 : wrap64 (left - (n : Int) - (m : Int)) = left - (n : Int) - (m : Int) := by unfold wrap64; omega
  by_cases hl2 : left - (n : Int) < (m : Int)
  ·have HL : Hid (left < ((n + m : Nat) : Int)) := by unfold Hid; omega
   have q5 : left - (n : Int) - (m : Int) < 0 := by omega
   go_enter Tryz.func54, Tryz.ntmps54
   go_wp2
   go_ret
   exact ⟨⟨_, rfl, .inl rfl⟩, (Below.refl _ _).alloc (Nat.le_refl _) _⟩
  ·have HL : Hid (((n + m : Nat) : Int) ≤ left) := by unfold Hid; omega
   have HE : Hid (left - (n : Int) - (m : Int) = left - ((n + m : Nat) : Int)) := by unfold Hid; omega
   have q5 : 0 ≤ left - (n : Int) - (m : Int) := by omega
   have q6 : decide (left - (n : Int) - (m : Int) < 0) = false := decide_eq_false (by omega)
   go_enter Tryz.func54, Tryz.ntmps54
   go_wp2
   go_ret
   exact ⟨⟨_, rfl, .inr ⟨by have := HL.out; omega, by omega⟩⟩, (Below.refl _ _).alloc (Nat.le_refl _) _⟩
set_option maxHeartbeats 1000000 in
theorem szMoveS (l : List Mov) (v : Value) (left : Int) (w : World) (B : Nat) (hv : Lies w B 4 v (movR l)) (hd : ∀ x ∈ l, x.name.size ≤ maxLen ∧ x.to.size ≤ maxLen) (hn : l.length ≤ maxLen) (h0 : 0 ≤ left) (h1 : left ≤ 1048576) (hB : B ≤ w.heap.size) :
  Calls Tryz.prog 24 #[v, .int .i64 left] w fun e w' => ∃ r : Int, e = .returned (.int .i64 r) ∧ (r = -1 ∨ 0 ≤ r ∧ r + ((l.length + wtM l : Nat) : Int) = left) ∧ Below w.heap.size w w' := by
 unfold maxLen at hn
 obtain ⟨A, cap, rfl, hl⟩ := mov_look hv
 have HL : Hid (∀ j, j < l.length → ∃ g off, A = some ⟨g, off, none⟩ ∧ g < B ∧ _) := hl
 have HD : Hid (∀ x ∈ l, x.name.size ≤ maxLen ∧ x.to.size ≤ maxLen) := hd
 have HB : Hid (B ≤ w.heap.size) := hB
 clear hl hd hB hv
 have q1 : (l.length : Int) ≤ 9223372036854775807 := by omega
 have w2 : wrap64 (left - (l.length : Int)) = left - (l.length : Int) := by unfold wrap64; omega
 by_cases hs : left < (l.length : Int)
 ·have q2 : left - (l.length : Int) < 0 := by omega
  go_enter Tryz.func24, Tryz.ntmps24
  go_wp2_with fail
  go_ret
  exact ⟨-1, rfl, .inl rfl, Below.refl _ _⟩
 ·have q2 : 0 ≤ left - (l.length : Int) := by omega
  have q3 : decide (left - (l.length : Int) < 0) = false := decide_eq_false (by omega)
  have HQ : Hid (0 ≤ left - (l.length : Int)) := q2
  generalize hN : l.length = n at *
  go_enter Tryz.func24, Tryz.ntmps24
  go_wp2_with fail
  clear q2 q3 w2
  go_loopw [1, 5] (fun v1 v5 wr => ∃ (k : Nat) (r : Int), k ≤ n ∧ v5 = .int .i64 (k : Int) ∧ v1 = .int .i64 r ∧ 0 ≤ r ∧ r + ((n + wtM (l.take k) : Nat) : Int) = left ∧ Below w.heap.size w wr) (fun _ i _ => n - (intOf i).toNat)
  case atStart => exact ⟨0, left - (n : Int), by omega, rfl, rfl, HQ.out, by simp [wtM], Below.refl _ _⟩
  case round =>
   obtain ⟨k, r, hk, rfl, rfl, hr0, hr, hb⟩ := hrel
   have HR : Hid (r + ((n + wtM (l.take k) : Nat) : Int) = left) := hr
   have HB1 : Hid (Below w.heap.size w wr) := hb
   have q9 : r ≤ 1048576 := by omega
   clear hr hb
   by_cases hlt : k < n
   ·have q4 : (k : Int) < (n : Int) := by omega
    obtain ⟨g, off, rfl, hg, hc0, hc1, hc2, hc3⟩ := HL.out k (by omega)
    have hgw : g < w.heap.size := Nat.lt_of_lt_of_le hg HB.out
    rw [← HB1.out.cell (p := ⟨_, _, none⟩) hgw] at hc0
    rw [← HB1.out.cell (p := ⟨_, _, none⟩) hgw] at hc1
    rw [← HB1.out.cell (p := ⟨_, _, none⟩) hgw] at hc2
    rw [← HB1.out.cell (p := ⟨_, _, none⟩) hgw] at hc3
    have c1 := fun wx => szMove (l.getD k default) r wx hr0 q9 (HD.out _ (getD_mem l k (by omega)))
    have HW : Hid (wtM (l.take (k + 1)) = wtM (l.take k) + wtM1 (l.getD k default)) := wtM_snoc l k (by omega)
    unfold vMov at c1
    generalize wtM1 (l.getD k default) = t at *
    generalize l.getD k default = x at *
    go_wp2_with fail
    refine (c1 _).mono ?_
    rintro e w2 ⟨⟨r2, rfl, hr2⟩, hb2⟩
    have HR2 : Hid (r2 = -1 ∨ 0 ≤ r2 ∧ r2 + (t : Int) = r) := hr2
    have HB2 : Hid (Below w.heap.size w w2) := HB1.out.trans (hb2.mono HB1.out.size)
    clear hr2 hb2
    rcases HR2.out with rfl | ⟨hp, hq⟩
    ·go_wp2_with fail
     go_ret
     exact ⟨-1, rfl, .inl rfl, HB2.out⟩
    ·have q5 : decide (r2 < 0) = false := decide_eq_false (by omega)
     have HQ2 : Hid (r2 + (t : Int) = r) := hq
     clear hq
     go_wp2_with fail
     go_roundw
     case rel => exact ⟨k + 1, r2, by omega, by go_num, rfl, hp, by have := HR.out; have := HQ2.out; rw [HW.out]; omega, HB2.out⟩
     case measure => simp [intOf]; omega
   ·obtain rfl : k = n := by omega
    go_wp2_with fail
    go_ret
    exact ⟨r, rfl, .inr ⟨hr0, by have := HR.out; rw [← hN, List.take_length] at this; rw [← hN]; exact this⟩, HB1.out⟩
structure Fits (d : Dsk) : Prop where
 n : d.nods.length ≤ maxLen
 l : d.dir.length ≤ maxLen
 m : d.movs.length ≤ maxLen
 nx : ∀ x ∈ d.nods, x.data.size ≤ maxLen
 lx : ∀ x ∈ d.dir, x.name.size ≤ maxLen
 mx : ∀ x ∈ d.movs, x.name.size ≤ maxLen ∧ x.to.size ≤ maxLen
def DiskV (w : World) (B : Nat) (v : Value) (d : Dsk) : Prop := ∃ v1 v2 v3, v = .agg #[.int .i64 d.room, .int .i64 d.next, v1, v2, v3] ∧ Lies w B 3 v1 (nodR d.nods) ∧ Lies w B 2 v2 (lnkR d.dir) ∧ Lies w B 4 v3 (movR d.movs)
theorem DiskV.on {w w' : World} {B : Nat} {v : Value} {d : Dsk} (h : DiskV w B v d) (hb : Below B w w') : DiskV w' B v d := by
 obtain ⟨v1, v2, v3, e, h1, h2, h3⟩ := h
 exact ⟨v1, v2, v3, e, h1.on hb, h2.on hb, h3.on hb⟩
theorem DiskV.mono {w : World} {B C : Nat} {v : Value} {d : Dsk} (h : DiskV w B v d) (hB : B ≤ C) : DiskV w C v d := by
 obtain ⟨v1, v2, v3, e, h1, h2, h3⟩ := h
 exact ⟨v1, v2, v3, e, h1.mono hB, h2.mono hB, h3.mono hB⟩
def wtD (d : Dsk) : Nat := d.nods.length + wtN d.nods + (d.dir.length + wtL d.dir) + (d.movs.length + wtM d.movs)
set_option maxHeartbeats 1000000 in
theorem szDisk (d : Dsk) (v : Value) (w : World) (B : Nat) (left : Int) (h0 : 0 ≤ left) (h1 : left ≤ 1048576) (hv : DiskV w B v d) (hf : Fits d) (hB : B ≤ w.heap.size) :
  Calls Tryz.prog 5 #[v, .int .i64 left] w fun e w' => ∃ r : Int, e = .returned (.int .i64 r) ∧ (r = -1 ∨ 0 ≤ r ∧ r + (wtD d : Int) = left) ∧ Below w.heap.size w w' := by
 obtain ⟨v1, v2, v3, rfl, hn, hl, hm⟩ := hv
 have HF : Hid (Fits d) := hf
 have HB : Hid (B ≤ w.heap.size) := hB
 have HN : Hid (Lies w B 3 v1 (nodR d.nods)) := hn
 have HL : Hid (Lies w B 2 v2 (lnkR d.dir)) := hl
 have HM : Hid (Lies w B 4 v3 (movR d.movs)) := hm
 have HW : Hid (wtD d = d.nods.length + wtN d.nods + (d.dir.length + wtL d.dir) + (d.movs.length + wtM d.movs)) := rfl
 clear hn hl hm hf hB
 go_enter Tryz.func5, Tryz.ntmps5
 go_wp2_with fail
 have B1 : Hid (Below w.heap.size w (w.alloc (.cells #[.int .i64 d.room, .int .i64 d.next, v1, v2, v3] 26))) := (Below.refl _ _).alloc (Nat.le_refl _) _
 have k1 : ∀ i x, #[Value.int .i64 d.room, .int .i64 d.next, v1, v2, v3][i]? = some x → (w.alloc (.cells #[.int .i64 d.room, .int .i64 d.next, v1, v2, v3] 26)).cell? ⟨w.heap.size, i, none⟩ = some x := fun i x hx => by rw [World.cell?_alloc_mark]; exact hx
 have K3 := k1 3 v2 rfl
 have K4 := k1 4 v3 rfl
 clear k1
 have Z1 : w.heap.size < (w.alloc (.cells #[.int .i64 d.room, .int .i64 d.next, v1, v2, v3] 26)).heap.size := by simp
 generalize hw1 : w.alloc (.cells #[.int .i64 d.room, .int .i64 d.next, v1, v2, v3] 26) = w1 at *
 have c1 := szInodeS d.nods v1 left w1 B (HN.out.on (B1.out.mono HB.out)) HF.out.nx HF.out.n h0 h1 (Nat.le_trans HB.out B1.out.size)
 have P0 : Hid (w.heap.size = w.heap.size) := rfl
 generalize hp : w.heap.size = p at *
 refine c1.mono ?_
 rintro e w2 ⟨r1, rfl, hr1, hb2⟩
 have R1 : Hid (r1 = -1 ∨ 0 ≤ r1 ∧ r1 + ((d.nods.length + wtN d.nods : Nat) : Int) = left) := hr1
 have B2 : Hid (Below p w w2) := B1.out.trans (hb2.mono (Nat.le_of_lt Z1))
 have C3 := (hb2.cell (p := ⟨p, 3, none⟩) Z1).trans K3
 have C4 := (hb2.cell (p := ⟨p, 4, none⟩) Z1).trans K4
 have Z2 : p < w2.heap.size := Nat.lt_of_lt_of_le Z1 hb2.size
 clear hr1 hb2 K3 K4 Z1 hw1
 rcases R1.out with rfl | ⟨hp1, hq1⟩
 ·go_wp2_with fail
  go_ret
  exact ⟨-1, rfl, .inl rfl, by rw [hp]; exact B2.out⟩
 have q1 : decide (r1 < 0) = false := decide_eq_false (by omega)
 have HQ1 : Hid (r1 + ((d.nods.length + wtN d.nods : Nat) : Int) = left) := hq1
 have q2 : r1 ≤ 1048576 := by omega
 clear hq1
 have c2 := szLinkS d.dir v2 r1 w2 B (HL.out.on (B2.out.mono HB.out)) HF.out.lx HF.out.l hp1 q2 (Nat.le_trans HB.out (by have := B2.out.size; rw [hp] at this; exact this))
 go_wp2_with fail
 refine c2.mono ?_
 rintro e w3 ⟨r2, rfl, hr2, hb3⟩
 have R2 : Hid (r2 = -1 ∨ 0 ≤ r2 ∧ r2 + ((d.dir.length + wtL d.dir : Nat) : Int) = r1) := hr2
 have B3 : Hid (Below p w w3) := B2.out.trans (hb3.mono (Nat.le_of_lt Z2))
 have D4 := (hb3.cell (p := ⟨p, 4, none⟩) Z2).trans C4
 clear hr2 hb3 C3 C4 Z2
 rcases R2.out with rfl | ⟨hp2, hq2⟩
 ·go_wp2_with fail
  go_ret
  exact ⟨-1, rfl, .inl rfl, by rw [hp]; exact B3.out⟩
 have q3 : decide (r2 < 0) = false := decide_eq_false (by omega)
 have HQ2 : Hid (r2 + ((d.dir.length + wtL d.dir : Nat) : Int) = r1) := hq2
 have q4 : r2 ≤ 1048576 := by omega
 clear hq2
 have c3 := szMoveS d.movs v3 r2 w3 B (HM.out.on (B3.out.mono HB.out)) HF.out.mx HF.out.m hp2 q4 (Nat.le_trans HB.out (by have := B3.out.size; rw [hp] at this; exact this))
 go_wp2_with fail
 refine c3.mono ?_
 rintro e w4 ⟨r3, rfl, hr3, hb4⟩
 have R3 : Hid (r3 = -1 ∨ 0 ≤ r3 ∧ r3 + ((d.movs.length + wtM d.movs : Nat) : Int) = r2) := hr3
 have B4 : Hid (Below p w w4) := B3.out.trans (hb4.mono (by have := B3.out.size; rw [hp] at this; exact this))
 clear hr3 hb4
 rcases R3.out with rfl | ⟨hp3, hq3⟩
 ·go_wp2_with fail
  go_ret
  exact ⟨-1, rfl, .inl rfl, by rw [hp]; exact B4.out⟩
 have q5 : decide (r3 < 0) = false := decide_eq_false (by omega)
 have HQ3 : Hid (r3 + ((d.movs.length + wtM d.movs : Nat) : Int) = r2) := hq3
 clear hq3
 go_wp2_with fail
 go_ret
 refine ⟨r3, rfl, .inr ⟨hp3, ?_⟩, by rw [hp]; exact B4.out⟩
 have := HQ1.out
 have := HQ2.out
 have := HQ3.out
 rw [HW.out]
 omega
end Go.Proofs.YtepffbgelaajnaaGreatDoor
namespace Go.Proofs.YtepffbgelaajnaaGreatDoor
open Go.RowKit Go.PlainAid
def Blk (w : World) (g : Nat) (cs : Array Value) (t : TypeId) : Prop := w.heap[g]? = some (.cells cs t (0, 0))
theorem Blk.lt {w : World} {g : Nat} {cs : Array Value} {t : TypeId} (h : Blk w g cs t) : g < w.heap.size := lt_of_block h
theorem Blk.cell {w : World} {g : Nat} {cs : Array Value} {t : TypeId} (h : Blk w g cs t) (i : Nat) (x : Value) (hx : cs[i]? = some x) : w.cell? ⟨g, i, none⟩ = some x := by
 rw [cell_of_row w g i cs t (0, 0) h]
 exact hx
theorem Blk.free {w : World} {g : Nat} {cs : Array Value} {t : TypeId} (h : Blk w g cs t) (i : Nat) : w.frozen? ⟨g, i, none⟩ = false := frozen_of_row w g i cs t h
theorem Blk.set {w : World} {g : Nat} {cs : Array Value} {t : TypeId} (h : Blk w g cs t) (i : Nat) (x : Value) : Blk (w.setCell ⟨g, i, none⟩ x) g (cs.setIfInBounds i x) t := heap_setCell_same w g i cs t x h
theorem Blk.other {w : World} {g g' : Nat} {cs : Array Value} {t : TypeId} (h : Blk w g cs t) (hne : g ≠ g') (i : Nat) (x : Value) : Blk (w.setCell ⟨g', i, none⟩ x) g cs t := by
 unfold Blk
 rw [Below.heap_setCell _ _ _ _ hne]
 exact h
theorem Blk.on {w w' : World} {B g : Nat} {cs : Array Value} {t : TypeId} (h : Blk w g cs t) (hb : Below B w w') (hg : g < B) : Blk w' g cs t := by
 unfold Blk
 rw [hb.block g hg]
 exact h
theorem Blk.new (w : World) (cs : Array Value) (t : TypeId) : Blk (w.alloc (.cells cs t)) w.heap.size cs t := heap_alloc_new w _
theorem Blk.alloc {w : World} {g : Nat} {cs : Array Value} {t : TypeId} (h : Blk w g cs t) (o : Obj) : Blk (w.alloc o) g cs t := by
 unfold Blk
 rw [Below.heap_alloc w o g h.lt]
 exact h
theorem Owns.other {w : World} {base : Nat} {e : TypeId} {sz : Nat} {v : Value} {rows : List (List Value)} (h : Owns w base e sz v rows) {g : Nat} (hne : v.ownBlock ≠ some g) (i : Nat) (x : Value) : Owns (w.setCell ⟨g, i, none⟩ x) base e sz v rows :=
 h.kept fun k _ hk => Below.heap_setCell _ _ _ _ (fun e => hne (by rw [hk]; exact congrArg some e))
theorem Owns.below {w : World} {base : Nat} {e : TypeId} {sz : Nat} {v : Value} {rows : List (List Value)} (h : Owns w base e sz v rows) {g : Nat} (hg : g < base) : v.ownBlock ≠ some g := fun e => by
 have := (h.lt g e).1
 omega
theorem Owns.shape {w : World} {base : Nat} {e : TypeId} {sz : Nat} {v : Value} {rows : List (List Value)} (h : Owns w base e sz v rows) : ∃ A m c, v = .slice A m c := by
 rcases h.2.2 with ⟨rfl, _⟩ | ⟨g, cap, cur, rfl, _⟩
 ·exact ⟨_, _, _, rfl⟩
 ·exact ⟨_, _, _, rfl⟩
def DiskO (w : World) (base : Nat) (v : Value) (d : Dsk) : Prop := ∃ v1 v2 v3, v = .agg #[.int .i64 d.room, .int .i64 d.next, v1, v2, v3] ∧ Owns w base 101 3 v1 (nodR d.nods) ∧ Owns w base 104 2 v2 (lnkR d.dir) ∧ Owns w base 106 4 v3 (movR d.movs)
theorem DiskO.on {w w' : World} {base : Nat} {v : Value} {d : Dsk} (h : DiskO w base v d) (hb : Below w.heap.size w w') : DiskO w' base v d := by
 obtain ⟨v1, v2, v3, e, h1, h2, h3⟩ := h
 exact ⟨v1, v2, v3, e, h1.on hb, h2.on hb, h3.on hb⟩
theorem DiskO.mono {w : World} {base base' : Nat} {v : Value} {d : Dsk} (h : DiskO w base v d) (hb : base' ≤ base) : DiskO w base' v d := by
 obtain ⟨v1, v2, v3, e, h1, h2, h3⟩ := h
 exact ⟨v1, v2, v3, e, h1.mono hb, h2.mono hb, h3.mono hb⟩
theorem DiskO.look {w : World} {base : Nat} {v : Value} {d : Dsk} (h : DiskO w base v d) : DiskV w w.heap.size v d := by
 obtain ⟨v1, v2, v3, e, h1, h2, h3⟩ := h
 exact ⟨v1, v2, v3, e, h1.lies, h2.lies, h3.lies⟩
end Go.Proofs.YtepffbgelaajnaaGreatDoor
namespace Go.Proofs.YtepffbgelaajnaaGreatDoor
open Go.RowKit Go.PlainAid Go.Maps Go.ChangeMaps Go.WideMaps
structure But (S : Nat → Prop) (w w' : World) : Prop where
 os : w'.os = w.os
 tape : w'.tape = w.tape
 output : w'.output = w.output
 size : w.heap.size ≤ w'.heap.size
 block : ∀ k, k < w.heap.size → ¬ S k → w'.heap[k]? = w.heap[k]?
theorem But.refl (S : Nat → Prop) (w : World) : But S w w := ⟨rfl, rfl, rfl, Nat.le_refl _, fun _ _ _ => rfl⟩
theorem But.trans {S T : Nat → Prop} {a b c : World} (h : But S a b) (k : But T b c) (hs : ∀ i, i < a.heap.size → T i → S i) : But S a c :=
 ⟨k.os.trans h.os, k.tape.trans h.tape, k.output.trans h.output, Nat.le_trans h.size k.size, fun i hi hn => (k.block i (Nat.lt_of_lt_of_le hi h.size) (fun ht => hn (hs i hi ht))).trans (h.block i hi hn)⟩
theorem But.below {S : Nat → Prop} {w w' : World} (h : But S w w') (B : Nat) (hB : B ≤ w.heap.size) (hs : ∀ i, i < B → ¬ S i) : Below B w w' :=
 ⟨h.os, h.tape, h.output, h.size, fun i hi => h.block i (Nat.lt_of_lt_of_le hi hB) (hs i hi)⟩
theorem But.mono {S T : Nat → Prop} {w w' : World} (h : But S w w') (hs : ∀ i, i < w.heap.size → S i → T i) : But T w w' :=
 ⟨h.os, h.tape, h.output, h.size, fun i hi hn => h.block i hi fun k => hn (hs i hi k)⟩
theorem But.of_below {w w' : World} (S : Nat → Prop) (h : Below w.heap.size w w') : But S w w' := ⟨h.os, h.tape, h.output, h.size, fun i hi _ => h.block i hi⟩
theorem But.of_grown {w w' : World} {b : Nat} (h : w.grownBy w' (some b)) : But (fun i => i = b) w w' := ⟨h.os, h.tape, h.output, h.size, fun i hi hn => h.block i hi fun e => hn (by cases e; rfl)⟩
theorem But.alloc {S : Nat → Prop} {a w : World} (h : But S a w) (o : Obj) : But S a (w.alloc o) := h.trans (But.of_below (fun _ => False) ((Below.refl _ w).alloc (Nat.le_refl _) o)) (fun _ _ k => k.elim)
theorem But.drew {S : Nat → Prop} {a w : World} (h : But S a w) : But S a w.drew := ⟨h.os, h.tape, h.output, h.size, h.block⟩
theorem But.drewN {S : Nat → Prop} {a w : World} (h : But S a w) (n : Nat) : But S a (w.drewN n) := ⟨h.os, h.tape, h.output, h.size, h.block⟩
theorem But.setCell {S : Nat → Prop} {a w : World} (h : But S a w) {p : Addr} (hp : p.block < a.heap.size → S p.block) (u : Value) : But S a (w.setCell p u) :=
 ⟨h.os, h.tape, h.output, by
  have : (w.setCell p u).heap.size = w.heap.size := by simp [World.setCell]
  rw [this]
  exact h.size, fun i hi hn => by
  rw [Below.heap_setCell _ _ _ _ (fun e : i = p.block => hn (by subst e; exact hp hi))]
  exact h.block i hi hn⟩
theorem But.blk {S : Nat → Prop} {w w' : World} {g : Nat} {cs : Array Value} {t : TypeId} (h : But S w w') (hb : Blk w g cs t) (hn : ¬ S g) : Blk w' g cs t := by
 unfold Blk
 rw [h.block g hb.lt hn]
 exact hb
theorem But.lies {S : Nat → Prop} {w w' : World} {B sz : Nat} {v : Value} {rows : List (List Value)} (h : But S w w') (hv : Lies w B sz v rows) (hB : B ≤ w.heap.size) (hs : ∀ i, i < B → ¬ S i) : Lies w' B sz v rows := hv.on (h.below B hB hs)
def intElem : Value → Option (DataW Unit × List MemPlace)
 | .int .i64 a => some (.lit (.int .i64 a), [])
 | _ => none
theorem intElem_inv {v : Value} {a : Int} {ps : List MemPlace} (h : intElem v = some (.lit (.int .i64 a), ps)) : v = .int .i64 a := by
 unfold intElem at h
 split at h
 ·cases h; rfl
 ·cases h
def NT (w : World) (b : Nat) (l : List Lnk) : Prop := ∃ n, w.ownsMap Tryz.prog 9 intElem b n (linkD l)
theorem NT.lt {w : World} {b : Nat} {l : List Lnk} (h : NT w b l) : b < w.heap.size := let ⟨_, h⟩ := h; h.lt
theorem NT.kept {w w' : World} {b : Nat} {l : List Lnk} (h : NT w b l) (hb : w'.heap[b]? = w.heap[b]?) : NT w' b l := by
 obtain ⟨n, es, clock, h1, h2⟩ := h
 exact ⟨n, es, clock, hb.trans h1, h2⟩
theorem NT.on {w w' : World} {b B : Nat} {l : List Lnk} (h : NT w b l) (hb : Below B w w') (hB : b < B) : NT w' b l := h.kept (hb.block b hB)
theorem NT.but {S : Nat → Prop} {w w' : World} {b : Nat} {l : List Lnk} (h : NT w b l) (hb : But S w w') (hn : ¬ S b) : NT w' b l := h.kept (hb.block b h.lt hn)
theorem NT.tight {w : World} {b : Nat} {l : List Lnk} (h : NT w b l) : w.ownsMap Tryz.prog 9 intElem b l.length (linkD l) := by
 obtain ⟨n, es, clock, hb, F, hs, hD⟩ := h
 refine ⟨es, clock, hb, F, ?_, hD⟩
 have := congrArg Maps.size hD
 rw [linkD_size] at this
 rw [this]
 simp [Maps.size, length_sorted]
theorem NT.made (w : World) : NT (w.alloc (.map #[] 0)) w.heap.size [] := ⟨0, World.ownsMap_made w _ _ _⟩
theorem nameK_of {s : ByteArray} (hs : s.size ≤ maxLen) : keyOf Tryz.prog 9 (.string s) = some (nameK s) := keyOf_string_mk Tryz.underlying9 hs
theorem zero_int (w : World) : (zeroValue 3).run Tryz.prog w = .ok (.int .i64 0) w := by simp [Tryz.zeroValue3]
theorem NT.look {w : World} {b : Nat} {l : List Lnk} (h : NT w b l) (s : ByteArray) (hs : s.size ≤ maxLen) :
  (linkAt l s = none → (Instr.lookup 123 (.map (some b)) (.string s) true).run Tryz.prog w = .ok (.tuple #[.int .i64 0, .bool false]) w) ∧
  (∀ i, linkAt l s = some i → (Instr.lookup 123 (.map (some b)) (.string s) true).run Tryz.prog w = .ok (.tuple #[.int .i64 (l.getD i default).id, .bool true]) w) := by
 obtain ⟨n, h⟩ := h
 obtain ⟨v, ps, hrun, hv⟩ := h.look_ok (string_keyed Tryz.underlying9) Tryz.underlying123 (zero_int w) (zd := .lit (.int .i64 0)) (zp := []) rfl (nameK_of hs)
 rw [linkD_has] at hrun
 constructor
 ·intro e
  rw [linkD_none l s e] at hv
  rw [hrun, e, intElem_inv hv]
  rfl
 ·intro i e
  rw [linkD_at l s i e] at hv
  rw [hrun, e, intElem_inv hv]
  rfl
theorem NT.val {w : World} {b : Nat} {l : List Lnk} (h : NT w b l) (s : ByteArray) (hs : s.size ≤ maxLen) (i : Nat) (hi : linkAt l s = some i) :
  (Instr.lookup 123 (.map (some b)) (.string s) false).run Tryz.prog w = .ok (.int .i64 (l.getD i default).id) w := by
 obtain ⟨n, h⟩ := h
 obtain ⟨v, ps, hrun, hv⟩ := h.lookup (string_keyed Tryz.underlying9) Tryz.underlying123 (zero_int w) (zd := .lit (.int .i64 0)) (zp := []) rfl (nameK_of hs)
 rw [linkD_at l s i hi] at hv
 rw [hrun, intElem_inv hv]
theorem NT.put {w : World} {b : Nat} {l : List Lnk} (h : NT w b l) (s : ByteArray) (id : Int) (hs : s.size ≤ maxLen) (hl : l.length < maxLen) :
  ∃ w', (Instr.mapUpdate 123 (.map (some b)) (.string s) (.int .i64 id)).run Tryz.prog w = .ok () w' ∧ NT w' b (withL l ⟨s, id⟩) ∧ But (fun i => i = b) w w' ∧ w'.heap.size = w.heap.size := by
 obtain ⟨w', hrun, h1, h2⟩ := h.tight.store (string_keyed Tryz.underlying9) Tryz.underlying123 hl (nameK_of hs) (show intElem (.int .i64 id) = some (.lit (.int .i64 id), []) from rfl)
 rw [linkD_put l ⟨s, id⟩] at h1
 refine ⟨w', hrun, ⟨_, h1⟩, But.of_grown h2.grown, ?_⟩
 obtain ⟨_, _, _, _, _, rfl⟩ := h2
 simp [setBlock]
theorem NT.del {w : World} {b : Nat} {l : List Lnk} (h : NT w b l) (s : ByteArray) (hs : s.size ≤ maxLen) (ty : TypeId) :
  ∃ w', (Builtin.delete_ #[123, 9] ty #[.map (some b), .string s]).run Tryz.prog w = .ok (.tuple #[]) w' ∧ NT w' b (without l s) ∧ But (fun i => i = b) w w' ∧ w'.heap.size = w.heap.size := by
 obtain ⟨n, h⟩ := h
 obtain ⟨w', hrun, h1, h2⟩ := h.drop (string_keyed Tryz.underlying9) Tryz.underlying123 (nameK_of hs) ty
 rw [linkD_del l s] at h1
 refine ⟨w', hrun, ⟨_, h1⟩, But.of_grown h2.grown, ?_⟩
 obtain ⟨_, _, _, _, _, rfl⟩ := h2
 simp [setBlock]
def IT (w : World) (b : Nat) (l : List (Int × Nat)) : Prop := ∃ n, w.ownsMap Tryz.prog 3 ptrElem b n (ptrD l)
theorem IT.lt {w : World} {b : Nat} {l : List (Int × Nat)} (h : IT w b l) : b < w.heap.size := let ⟨_, h⟩ := h; h.lt
theorem IT.kept {w w' : World} {b : Nat} {l : List (Int × Nat)} (h : IT w b l) (hb : w'.heap[b]? = w.heap[b]?) : IT w' b l := by
 obtain ⟨n, es, clock, h1, h2⟩ := h
 exact ⟨n, es, clock, hb.trans h1, h2⟩
theorem IT.on {w w' : World} {b B : Nat} {l : List (Int × Nat)} (h : IT w b l) (hb : Below B w w') (hB : b < B) : IT w' b l := h.kept (hb.block b hB)
theorem IT.but {S : Nat → Prop} {w w' : World} {b : Nat} {l : List (Int × Nat)} (h : IT w b l) (hb : But S w w') (hn : ¬ S b) : IT w' b l := h.kept (hb.block b h.lt hn)
theorem IT.tight {w : World} {b : Nat} {l : List (Int × Nat)} (h : IT w b l) : w.ownsMap Tryz.prog 3 ptrElem b l.length (ptrD l) := by
 obtain ⟨n, es, clock, hb, F, hs, hD⟩ := h
 refine ⟨es, clock, hb, F, ?_, hD⟩
 have := congrArg Maps.size hD
 rw [ptrD_size] at this
 rw [this]
 simp [Maps.size, length_sorted]
theorem IT.made (w : World) : IT (w.alloc (.map #[] 0)) w.heap.size [] := ⟨0, World.ownsMap_made w _ _ _⟩
def IntOk (a : Int) : Prop := -9223372036854775808 ≤ a ∧ a ≤ 9223372036854775807
theorem wf_int {a : Int} (h : IntOk a) : (Lit.int .i64 a).wf = true := by
 exact WalkArith.wf_i64 h
theorem intK_of {a : Int} (h : IntOk a) : keyOf Tryz.prog 3 (.int .i64 a) = some (.int .i64 a) := keyOf_int_mk Tryz.underlying3 (wf_int h)
theorem zero_ptr (w : World) : (zeroValue 128).run Tryz.prog w = .ok (.pointer none) w := by simp [Tryz.zeroValue128]
theorem IT.val {w : World} {b : Nat} {l : List (Int × Nat)} (h : IT w b l) (id : Int) (hs : IntOk id) :
  (ptrAt l id = none → (Instr.lookup 121 (.map (some b)) (.int .i64 id) false).run Tryz.prog w = .ok (.pointer none) w) ∧
  (∀ g, ptrAt l id = some g → (Instr.lookup 121 (.map (some b)) (.int .i64 id) false).run Tryz.prog w = .ok (.pointer (some ⟨g, 0, none⟩)) w) := by
 obtain ⟨n, h⟩ := h
 obtain ⟨v, ps, hrun, hv⟩ := h.lookup (int_keyed Tryz.underlying3) Tryz.underlying121 (zero_ptr w) (zd := .nil) (zp := []) rfl (intK_of hs)
 rw [ptrD_at] at hv
 constructor
 ·intro e
  rw [e] at hv
  rw [hrun, ptrElem_inv_nil hv]
 ·intro g e
  rw [e] at hv
  rw [hrun, ptrElem_inv hv]
theorem IT.put {w : World} {b : Nat} {l : List (Int × Nat)} (h : IT w b l) (id : Int) (g : Nat) (hs : IntOk id) (hl : l.length < maxLen) (hlast : ∀ p ∈ l, p.1 < id) :
  ∃ w', (Instr.mapUpdate 121 (.map (some b)) (.int .i64 id) (.pointer (some ⟨g, 0, none⟩))).run Tryz.prog w = .ok () w' ∧ IT w' b (l ++ [(id, g)]) ∧ But (fun i => i = b) w w' ∧ w'.heap.size = w.heap.size := by
 obtain ⟨w', hrun, h1, h2⟩ := h.tight.store (int_keyed Tryz.underlying3) Tryz.underlying121 hl (intK_of hs) (ptrElem_mk g)
 rw [ptrD_put l id g hlast] at h1
 refine ⟨w', hrun, ⟨_, h1⟩, But.of_grown h2.grown, ?_⟩
 obtain ⟨_, _, _, _, _, rfl⟩ := h2
 simp [setBlock]
theorem IT.del {w : World} {b : Nat} {l : List (Int × Nat)} (h : IT w b l) (id : Int) (hs : IntOk id) (ty : TypeId) :
  ∃ w', (Builtin.delete_ #[121, 3] ty #[.map (some b), .int .i64 id]).run Tryz.prog w = .ok (.tuple #[]) w' ∧ IT w' b (ptrDel l id) ∧ But (fun i => i = b) w w' ∧ w'.heap.size = w.heap.size := by
 obtain ⟨n, h⟩ := h
 obtain ⟨w', hrun, h1, h2⟩ := h.drop (int_keyed Tryz.underlying3) Tryz.underlying121 (intK_of hs) ty
 rw [ptrD_del l id] at h1
 refine ⟨w', hrun, ⟨_, h1⟩, But.of_grown h2.grown, ?_⟩
 obtain ⟨_, _, _, _, _, rfl⟩ := h2
 simp [setBlock]
theorem IT.len {w : World} {b : Nat} {l : List (Int × Nat)} (h : IT w b l) (ty : TypeId) : (Builtin.len_ #[121] ty #[.map (some b)]).run Tryz.prog w = .ok (.int .i64 (l.length : Int)) w := by
 obtain ⟨n, h⟩ := h
 have := h.len Tryz.underlying121 ty
 rw [ptrD_size] at this
 exact this
end Go.Proofs.YtepffbgelaajnaaGreatDoor
namespace Go.Proofs.YtepffbgelaajnaaGreatDoor
open Go.ChangeShapes Go.WideShapes Go.ChangeAt Go.RowKit Go.PlainAid
set_option linter.unusedVariables false
theorem find_some {α : Type} [Inhabited α] (p : α → Bool) (l : List α) (k : Nat) (hk : k < l.length) (h : ∀ j, j < k → p (l.getD j default) = false) (hp : p (l.getD k default) = true) : l.findIdx? p = some k := by
 rw [List.findIdx?_eq_some_iff_getElem]
 refine ⟨hk, by rw [getD_at l k hk]; exact hp, fun j hj => ?_⟩
 rw [getD_at l j (by omega), h j hj]
 exact Bool.false_ne_true
theorem find_none {α : Type} [Inhabited α] (p : α → Bool) (l : List α) (h : ∀ j, j < l.length → p (l.getD j default) = false) : l.findIdx? p = none := by
 rw [List.findIdx?_eq_none_iff]
 intro x hx
 obtain ⟨j, hj, rfl⟩ := List.getElem_of_mem hx
 rw [getD_at l j hj]
 exact h j hj
theorem any_yes {α : Type} [Inhabited α] (p : α → Bool) (l : List α) (k : Nat) (hk : k < l.length) (hp : p (l.getD k default) = true) : l.any p = true := List.any_eq_true.2 ⟨_, getD_mem l k hk, hp⟩
theorem any_no {α : Type} [Inhabited α] (p : α → Bool) (l : List α) (h : ∀ j, j < l.length → p (l.getD j default) = false) : l.any p = false := by
 rw [List.any_eq_false]
 intro x hx
 obtain ⟨j, hj, rfl⟩ := List.getElem_of_mem hx
 rw [getD_at l j hj, h j hj]
 exact Bool.false_ne_true
theorem toList_beq (a b : ByteArray) : (a.toList == b.toList) = decide (a = b) := by
 rw [Lib.toList_data, Lib.toList_data]
 by_cases h : a = b
 ·subst h
  simp
 ·rw [decide_eq_false h, beq_eq_false_iff_ne]
  intro e
  exact h (ByteArray.ext (Array.toList_inj.1 e))
theorem less_succ {p : Nat → Prop} {k : Nat} (h : ∀ j, j < k → p j) (hk : p k) : ∀ j, j < k + 1 → p j := fun j hj => by
 rcases Nat.lt_succ_iff_lt_or_eq.1 hj with h' | rfl
 ·exact h j h'
 ·exact hk
def idxV : Option Nat → Int
 | some i => (i : Int)
 | none => -1
set_option maxHeartbeats 400000 in
theorem inB (x lo hi : Int) (w : World) : Calls Tryz.prog 56 #[.int .i64 x, .int .i64 lo, .int .i64 hi] w fun e w' => e = .returned (.bool (decide (lo ≤ x) && decide (x ≤ hi))) ∧ w = w' := by
 by_cases h1 : lo ≤ x
 ·go_enter Tryz.func56, Tryz.ntmps56
  go_wp2
  go_ret
  exact ⟨by simp [h1], rfl⟩
 ·have z : decide (lo ≤ x) = false := decide_eq_false h1
  have z2 : x < lo := by omega
  go_enter Tryz.func56, Tryz.ntmps56
  go_wp2
  go_ret
  exact ⟨rfl, rfl⟩
set_option maxHeartbeats 400000 in
theorem linkedV (l : List Lnk) (v : Value) (id : Int) (w : World) (B : Nat) (hv : Lies w B 2 v (lnkR l)) (hn : l.length ≤ 1048576) :
  Calls Tryz.prog 58 #[v, .int .i64 id] w fun e w' => e = .returned (.bool (linked l id)) ∧ w = w' := by
 obtain ⟨A, cap, rfl, hl⟩ := lnk_look hv
 have HL : Hid (∀ j, j < l.length → ∃ g off, A = some ⟨g, off, none⟩ ∧ g < B ∧ _) := hl
 clear hl hv
 have q1 : (l.length : Int) ≤ 1048576 := by omega
 generalize hN : l.length = n at *
 go_enter Tryz.func58, Tryz.ntmps58
 go_wp2
 go_loop [5] (fun v5 => ∃ k : Nat, k ≤ n ∧ v5 = .int .i64 (k : Int) ∧ ∀ j, j < k → ¬ (l.getD j default).id = id) (fun i => n - (intOf i).toNat)
 case atStart => exact ⟨0, by omega, rfl, fun j hj => by omega⟩
 case round =>
  obtain ⟨k, hk, rfl, hno⟩ := hrel
  have HN : Hid (∀ j, j < k → ¬ (l.getD j default).id = id) := hno
  clear hno
  by_cases hlt : k < n
  ·have q4 : (k : Int) < (n : Int) := by omega
   obtain ⟨g, off, rfl, hg, hc0, hc1⟩ := HL.out k hlt
   by_cases he : (l.getD k default).id = id
   ·have HY : Hid (linked l id = true) := any_yes _ _ k (by omega) (decide_eq_true he)
    rw [he] at hc1
    go_wp2
    go_ret
    exact ⟨by rw [HY.out]; rfl, rfl⟩
   ·have z : ((l.getD k default).id == id) = false := by simpa using he
    have HE : Hid (∀ j, j < k + 1 → ¬ (l.getD j default).id = id) := less_succ HN.out he
    clear he
    generalize (l.getD k default).id = x at *
    go_wp2
    go_round
    case rel => exact ⟨k + 1, by omega, by go_num, HE.out⟩
    case measure => simp [intOf]; omega
  ·obtain rfl : k = n := by omega
   have HY : Hid (linked l id = false) := any_no _ _ fun j hj => decide_eq_false (HN.out j (by omega))
   go_wp2
   go_ret
   exact ⟨by rw [HY.out]; rfl, rfl⟩
set_option maxHeartbeats 400000 in
theorem madeV (l : List Mov) (v : Value) (id : Int) (w : World) (B : Nat) (hv : Lies w B 4 v (movR l)) (hn : l.length ≤ 1048576) :
  Calls Tryz.prog 59 #[v, .int .i64 id] w fun e w' => e = .returned (.bool (made l id)) ∧ w = w' := by
 obtain ⟨A, cap, rfl, hl⟩ := mov_look hv
 have HL : Hid (∀ j, j < l.length → ∃ g off, A = some ⟨g, off, none⟩ ∧ g < B ∧ _) := hl
 clear hl hv
 have q1 : (l.length : Int) ≤ 1048576 := by omega
 generalize hN : l.length = n at *
 go_enter Tryz.func59, Tryz.ntmps59
 go_wp2
 go_loop [5] (fun v5 => ∃ k : Nat, k ≤ n ∧ v5 = .int .i64 (k : Int) ∧ ∀ j, j < k → ¬ ((l.getD j default).kind = 1 ∧ (l.getD j default).id = id)) (fun i => n - (intOf i).toNat)
 case atStart => exact ⟨0, by omega, rfl, fun j hj => by omega⟩
 case round =>
  obtain ⟨k, hk, rfl, hno⟩ := hrel
  have HN : Hid (∀ j, j < k → ¬ ((l.getD j default).kind = 1 ∧ (l.getD j default).id = id)) := hno
  clear hno
  by_cases hlt : k < n
  ·have q4 : (k : Int) < (n : Int) := by omega
   obtain ⟨g, off, rfl, hg, hc0, hc1, hc2, hc3⟩ := HL.out k hlt
   by_cases h1 : (l.getD k default).kind = 1
   ·by_cases he : (l.getD k default).id = id
    ·have HY : Hid (made l id = true) := any_yes _ _ k (by omega) (by rw [decide_eq_true h1, decide_eq_true he]; rfl)
     rw [he] at hc3
     rw [h1] at hc0
     go_wp2
     go_ret
     exact ⟨by rw [HY.out]; rfl, rfl⟩
    ·have z : ((l.getD k default).id == id) = false := by simpa using he
     have HE : Hid (∀ j, j < k + 1 → ¬ ((l.getD j default).kind = 1 ∧ (l.getD j default).id = id)) := less_succ HN.out fun h => he h.2
     rw [h1] at hc0
     clear he h1
     generalize (l.getD k default).id = x at *
     go_wp2
     go_round
     case rel => exact ⟨k + 1, by omega, by go_num, HE.out⟩
     case measure => simp [intOf]; omega
   ·have z : ((l.getD k default).kind == 1) = false := by simpa using h1
    have HE : Hid (∀ j, j < k + 1 → ¬ ((l.getD j default).kind = 1 ∧ (l.getD j default).id = id)) := less_succ HN.out fun h => h1 h.1
    clear h1
    generalize (l.getD k default).kind = y at *
    generalize (l.getD k default).id = x at *
    go_wp2
    go_round
    case rel => exact ⟨k + 1, by omega, by go_num, HE.out⟩
    case measure => simp [intOf]; omega
  ·obtain rfl : k = n := by omega
   have HY : Hid (made l id = false) := any_no _ _ fun j hj => by
    have := HN.out j (by omega)
    by_cases h1 : (l.getD j default).kind = 1
    ·rw [decide_eq_true h1, decide_eq_false (fun h => this ⟨h1, h⟩)]; rfl
    ·rw [decide_eq_false h1]; rfl
   go_wp2
   go_ret
   exact ⟨by rw [HY.out]; rfl, rfl⟩
set_option maxHeartbeats 400000 in
theorem atV4 (l : List Lnk) (v : Value) (name : ByteArray) (w : World) (B : Nat) (hv : Lies w B 2 v (lnkR l)) (hn : l.length ≤ 1048576) :
  Calls Tryz.prog 92 #[v, .string name] w fun e w' => e = .returned (.int .i64 (idxV (linkAt l name))) ∧ w = w' := by
 obtain ⟨A, cap, rfl, hl⟩ := lnk_look hv
 have HL : Hid (∀ j, j < l.length → ∃ g off, A = some ⟨g, off, none⟩ ∧ g < B ∧ _) := hl
 clear hl hv
 have q1 : (l.length : Int) ≤ 1048576 := by omega
 generalize hN : l.length = n at *
 go_enter Tryz.func92, Tryz.ntmps92
 go_wp2
 go_loop [5] (fun v5 => ∃ k : Nat, k ≤ n ∧ v5 = .int .i64 (k : Int) ∧ ∀ j, j < k → ¬ (l.getD j default).name = name) (fun i => n - (intOf i).toNat)
 case atStart => exact ⟨0, by omega, rfl, fun j hj => by omega⟩
 case round =>
  obtain ⟨k, hk, rfl, hno⟩ := hrel
  have HN : Hid (∀ j, j < k → ¬ (l.getD j default).name = name) := hno
  clear hno
  by_cases hlt : k < n
  ·have q4 : (k : Int) < (n : Int) := by omega
   obtain ⟨g, off, rfl, hg, hc0, hc1⟩ := HL.out k hlt
   have hb := toList_beq (l.getD k default).name name
   by_cases he : (l.getD k default).name = name
   ·have HY : Hid (linkAt l name = some k) := find_some _ _ k (by omega) (fun j hj => decide_eq_false (HN.out j hj)) (decide_eq_true he)
    rw [decide_eq_true he] at hb
    clear he
    generalize (l.getD k default).name = x at *
    go_wp2
    go_ret
    exact ⟨by rw [HY.out]; rfl, rfl⟩
   ·rw [decide_eq_false he] at hb
    have HE : Hid (∀ j, j < k + 1 → ¬ (l.getD j default).name = name) := less_succ HN.out he
    clear he
    generalize (l.getD k default).name = x at *
    go_wp2
    go_round
    case rel => exact ⟨k + 1, by omega, by go_num, HE.out⟩
    case measure => simp [intOf]; omega
  ·obtain rfl : k = n := by omega
   have HY : Hid (linkAt l name = none) := find_none _ _ fun j hj => decide_eq_false (HN.out j (by omega))
   go_wp2
   go_ret
   exact ⟨by rw [HY.out]; rfl, rfl⟩
set_option maxHeartbeats 1000000 in
theorem inodeV (d : Dsk) (v : Value) (id : Int) (w : World) (B : Nat) (hv : DiskV w B v d) (hn : d.nods.length ≤ 1048576) (hB : B ≤ w.heap.size) :
  Calls Tryz.prog 61 #[v, .int .i64 id] w fun e w' => e = .returned (.int .i64 (idxV (nodAt d.nods id))) ∧ Below w.heap.size w w' := by
 obtain ⟨v1, v2, v3, rfl, h1, h2, h3⟩ := hv
 obtain ⟨A, cap, rfl, hl⟩ := nod_look h1
 have HL : Hid (∀ j, j < d.nods.length → ∃ g off, A = some ⟨g, off, none⟩ ∧ g < B ∧ _) := hl
 have HB : Hid (B ≤ w.heap.size) := hB
 clear hl h1 h2 h3 hB
 have q1 : (d.nods.length : Int) ≤ 1048576 := by omega
 generalize hll : d.nods = l at *
 generalize hN : l.length = n at *
 go_enter Tryz.func61, Tryz.ntmps61
 go_wp2
 have hb0 : Below w.heap.size w (w.alloc (.cells #[.int .i64 d.room, .int .i64 d.next, .slice A n cap, v2, v3] 38)) := (Below.refl _ _).alloc (Nat.le_refl _) _
 have e0 := (Blk.new w #[.int .i64 d.room, .int .i64 d.next, .slice A n cap, v2, v3] 38).cell 2 _ rfl
 generalize w.alloc (.cells #[.int .i64 d.room, .int .i64 d.next, .slice A n cap, v2, v3] 38) = W at *
 have B0 : Hid (Below w.heap.size w W) := hb0
 clear hb0
 have e1 : W.cell? ⟨w.heap.size, 2, none⟩ = some (.slice A n cap) := e0
 clear e0
 go_loop [5] (fun v5 => ∃ k : Nat, k ≤ n ∧ v5 = .int .i64 (k : Int) ∧ ∀ j, j < k → ¬ (l.getD j default).id = id) (fun i => n - (intOf i).toNat)
 case atStart => exact ⟨0, by omega, rfl, fun j hj => by omega⟩
 case round =>
  obtain ⟨k, hk, rfl, hno⟩ := hrel
  have HN : Hid (∀ j, j < k → ¬ (l.getD j default).id = id) := hno
  clear hno
  by_cases hlt : k < n
  ·have q4 : (k : Int) < (n : Int) := by omega
   obtain ⟨g, off, rfl, hg, hc0, hc1, hc2⟩ := HL.out k hlt
   have hgw : g < w.heap.size := Nat.lt_of_lt_of_le hg HB.out
   rw [← B0.out.cell (p := ⟨_, _, none⟩) hgw] at hc0
   clear hc1 hc2
   by_cases he : (l.getD k default).id = id
   ·have HY : Hid (nodAt l id = some k) := find_some _ _ k (by omega) (fun j hj => decide_eq_false (HN.out j hj)) (decide_eq_true he)
    rw [he] at hc0
    go_wp2
    go_ret
    exact ⟨by rw [HY.out]; rfl, B0.out⟩
   ·have z : ((l.getD k default).id == id) = false := by simpa using he
    have HE : Hid (∀ j, j < k + 1 → ¬ (l.getD j default).id = id) := less_succ HN.out he
    clear he
    generalize (l.getD k default).id = x at *
    go_wp2
    go_round
    case rel => exact ⟨k + 1, by omega, by go_num, HE.out⟩
    case measure => simp [intOf]; omega
  ·obtain rfl : k = n := by omega
   have HY : Hid (nodAt l id = none) := find_none _ _ fun j hj => decide_eq_false (HN.out j (by omega))
   go_wp2
   go_ret
   exact ⟨by rw [HY.out]; rfl, B0.out⟩
end Go.Proofs.YtepffbgelaajnaaGreatDoor
