/- ImName DkOrd ImTakeD ImApply -/
import Derived.Test.YtdimaoloapbeoaaGreatDoorRows
import Derived.Test.YtdimaoloapbeoaaGreatDoorQv2
import Derived.Test.YtdimaoloapbeoaaGreatDoorQv1
import Derived.Lib.QuoteBits
import Derived.Test.YtdimaoloapbeoaaGreatDoorQv7
import Derived.Test.YtdimaoloapbeoaaGreatDoorQv4
namespace Go.Proofs.YtdimaoloapbeoaaGreatDoor
open Go.ChangeShapes Go.WideShapes Go.ChangeAt Go.RowKit Go.PlainAid
set_option linter.unusedVariables false
set_option maxHeartbeats 1000000 in
theorem isNameV (s : ByteArray) (w : World) (hs : s.size ≤ 9223372036854775807) :
  Calls Tryz.prog 93 #[.string s] w fun e w' => e = .returned (.bool (nameOk s)) ∧ w = w' := by
 have hbt := get_bn s
 by_cases h0 : s.size = 0
 ·obtain rfl : s = ⟨#[]⟩ := by
   apply ByteArray.ext
   exact Array.eq_empty_of_size_eq_zero h0
  clear hbt h0 hs
  go_enter Tryz.func93, Tryz.ntmps93
  go_wp2_with fail
  go_ret
  exact ⟨rfl, rfl⟩
 ·have t1 : s.toList.isEmpty = false := by
   rw [Lib.toList_data]
   rcases e : s.data.toList with _ | ⟨x, l⟩
   ·exact absurd (by rw [Lib.size_eq, e]; rfl) h0
   ·rfl
  have t2 : ¬ s.toList = [] := fun h => by rw [h] at t1; cases t1
  by_cases h : 12 < s.size
  ·have HY : Hid (nameOk s = false) := name_out s (.inr h)
   have z : (12 : Int) < (s.size : Int) := by omega
   have hz : decide ((12 : Int) < (s.size : Int)) = true := decide_eq_true z
   have q1 : (s.size : Int) ≤ 9223372036854775807 := by omega
   clear h hbt h0 hs
   go_enter Tryz.func93, Tryz.ntmps93
   go_wp2_with fail
   go_ret
   exact ⟨by rw [HY.out]; rfl, rfl⟩
  ·have hz : decide ((12 : Int) < (s.size : Int)) = false := decide_eq_false (by omega)
   have q1 : (s.size : Int) ≤ 12 := by omega
   have HS1 : Hid (1 ≤ s.size) := by unfold Hid; omega
   have HS2 : Hid (s.size ≤ 12) := by unfold Hid; omega
   clear h hs h0
   go_enter Tryz.func93, Tryz.ntmps93
   go_wp2_with fail
   go_loop [14] (fun v3 => ∃ k : Nat, k ≤ s.size ∧ v3 = .int .i64 (k : Int) ∧ ∀ j, j < k → nameB (bn s j) = true) (fun i => s.size - (intOf i).toNat)
   case atStart => exact ⟨0, by omega, rfl, fun j hj => by omega⟩
   case round =>
    obtain ⟨k, hk, rfl, hno⟩ := hrel
    have HN : Hid (∀ j, j < k → nameB (bn s j) = true) := hno
    clear hno t1 t2 hz
    by_cases hlt : k < s.size
    ·have q4 : (k : Int) < (s.size : Int) := by omega
     have hb := bn_lt s k
     have hbk := hbt k hlt
     clear hbt
     by_cases hok : nameB (bn s k) = true
     ·have HE : Hid (∀ j, j < k + 1 → nameB (bn s j) = true) := less_succ HN.out hok
      generalize bn s k = b at *
      have hc : (97 ≤ b ∧ b ≤ 122) ∨ (48 ≤ b ∧ b ≤ 57) ∨ b = 46 := by
       unfold nameB at hok
       simp at hok
       omega
      clear hok
      rcases hc with hc | hc | hc
      ·have z1 : decide ((b : Int) < 97) = false := decide_eq_false (by omega)
       have z2 : decide ((122 : Int) < (b : Int)) = false := decide_eq_false (by omega)
       clear hc
       go_wp2_with fail
       go_round
       case rel => exact ⟨k + 1, by omega, by go_num, HE.out⟩
       case measure => simp [intOf]; omega
      ·have z1 : decide ((b : Int) < 97) = true := decide_eq_true (by omega)
       have z3 : decide ((b : Int) < 48) = false := decide_eq_false (by omega)
       have z4 : decide ((57 : Int) < (b : Int)) = false := decide_eq_false (by omega)
       clear hc
       go_wp2_with fail
       go_round
       case rel => exact ⟨k + 1, by omega, by go_num, HE.out⟩
       case measure => simp [intOf]; omega
      ·subst hc
       go_wp2_with fail
       go_round
       case rel => exact ⟨k + 1, by omega, by go_num, HE.out⟩
       case measure => simp [intOf]; omega
     ·have hok2 : nameB (bn s k) = false := by simpa using hok
      have HY : Hid (nameOk s = false) := name_no s k hlt hok2
      generalize bn s k = b at *
      have hc : 122 < b ∨ (b < 97 ∧ 57 < b) ∨ (b < 48 ∧ b ≠ 46) := by
       unfold nameB at hok2
       simp at hok2
       omega
      clear hok hok2
      rcases hc with hc | hc | hc
      ·have z1 : decide ((b : Int) < 97) = false := decide_eq_false (by omega)
       have z2 : decide ((122 : Int) < (b : Int)) = true := decide_eq_true (by omega)
       have z3 : decide ((b : Int) < 48) = false := decide_eq_false (by omega)
       have z4 : decide ((57 : Int) < (b : Int)) = true := decide_eq_true (by omega)
       have z5 : ((b : Int) == 46) = false := by simp only [beq_eq_false_iff_ne, ne_eq]; omega
       have z6 : ((b : Int) != 46) = true := by simp only [bne_iff_ne, ne_eq]; omega
       clear hc
       go_wp2_with fail
       go_ret
       exact ⟨by rw [HY.out]; rfl, rfl⟩
      ·have z1 : decide ((b : Int) < 97) = true := decide_eq_true (by omega)
       have z3 : decide ((b : Int) < 48) = false := decide_eq_false (by omega)
       have z4 : decide ((57 : Int) < (b : Int)) = true := decide_eq_true (by omega)
       have z5 : ((b : Int) == 46) = false := by simp only [beq_eq_false_iff_ne, ne_eq]; omega
       have z6 : ((b : Int) != 46) = true := by simp only [bne_iff_ne, ne_eq]; omega
       clear hc
       go_wp2_with fail
       go_ret
       exact ⟨by rw [HY.out]; rfl, rfl⟩
      ·have z1 : decide ((b : Int) < 97) = true := decide_eq_true (by omega)
       have z3 : decide ((b : Int) < 48) = true := decide_eq_true (by omega)
       have z5 : ((b : Int) == 46) = false := by simp only [beq_eq_false_iff_ne, ne_eq]; omega
       have z6 : ((b : Int) != 46) = true := by simp only [bne_iff_ne, ne_eq]; omega
       clear hc
       go_wp2_with fail
       go_ret
       exact ⟨by rw [HY.out]; rfl, rfl⟩
    ·obtain rfl : k = s.size := by omega
     have HY : Hid (nameOk s = true) := name_yes s HS1.out HS2.out HN.out
     go_wp2_with fail
     go_ret
     exact ⟨by rw [HY.out]; rfl, rfl⟩
end Go.Proofs.YtdimaoloapbeoaaGreatDoor
namespace Go.Proofs.YtdimaoloapbeoaaGreatDoor
open Go.RowKit Go.PlainAid
theorem less_irrefl : ∀ a : List UInt8, Op.bytesLess a a = false
 | [] => rfl
 | a :: x => by
  unfold Op.bytesLess
  rw [less_irrefl x]
  simp
theorem less_cons (a b : UInt8) (x y : List UInt8) : Op.bytesLess (a :: x) (b :: y) = true ↔ a < b ∨ (a = b ∧ Op.bytesLess x y = true) := by
 rw [Op.bytesLess]
 simp
theorem less_trans : ∀ {a b c : List UInt8}, Op.bytesLess a b = true → Op.bytesLess b c = true → Op.bytesLess a c = true
 | _, _, [], _, h => by
  unfold Op.bytesLess at h
  cases h
 | [], _, _ :: _, _, _ => rfl
 | _ :: _, [], _ :: _, h, _ => by
  unfold Op.bytesLess at h
  cases h
 | a :: x, b :: y, c :: z, h, k => by
  rw [less_cons] at h k ⊢
  rcases h with h | ⟨rfl, h⟩
  ·rcases k with k | ⟨rfl, k⟩
   ·exact .inl (UInt8.lt_trans h k)
   ·exact .inl h
  ·rcases k with k | ⟨rfl, k⟩
   ·exact .inl k
   ·exact .inr ⟨rfl, less_trans h k⟩
theorem less_tri : ∀ {a b : List UInt8}, Op.bytesLess a b = false → Op.bytesLess b a = false → a = b
 | [], [], _, _ => rfl
 | [], _ :: _, h, _ => by
  unfold Op.bytesLess at h
  cases h
 | _ :: _, [], _, h => by
  unfold Op.bytesLess at h
  cases h
 | a :: x, b :: y, h, k => by
  have h' : ¬ (a < b ∨ (a = b ∧ Op.bytesLess x y = true)) := fun e => by
   rw [← less_cons, h] at e
   cases e
  have k' : ¬ (b < a ∨ (b = a ∧ Op.bytesLess y x = true)) := fun e => by
   rw [← less_cons, k] at e
   cases e
  have hab : a = b := by
   rcases Nat.lt_trichotomy a.toNat b.toNat with e | e | e
   ·exact absurd (.inl (UInt8.lt_iff_toNat_lt.2 e)) h'
   ·exact UInt8.toNat_inj.1 e
   ·exact absurd (.inl (UInt8.lt_iff_toNat_lt.2 e)) k'
  subst hab
  have h1 : Op.bytesLess x y = false := by
   cases e : Op.bytesLess x y with
   | false => rfl
   | true => exact absurd (.inr ⟨rfl, e⟩) h'
  have k1 : Op.bytesLess y x = false := by
   cases e : Op.bytesLess y x with
   | false => rfl
   | true => exact absurd (.inr ⟨rfl, e⟩) k'
  rw [less_tri h1 k1]
theorem ahead_irrefl (a : ByteArray) : ahead a a = false := less_irrefl _
theorem ahead_trans {a b c : ByteArray} (h : ahead a b = true) (k : ahead b c = true) : ahead a c = true := less_trans h k
theorem ahead_asymm {a b : ByteArray} (h : ahead a b = true) : ahead b a = false := by
 cases e : ahead b a with
 | false => rfl
 | true =>
  have := ahead_trans h e
  rw [ahead_irrefl] at this
  cases this
theorem ahead_ne {a b : ByteArray} (h : ahead a b = true) : a ≠ b := fun e => by
 subst e
 rw [ahead_irrefl] at h
 cases h
theorem toList_inj' {a b : ByteArray} (h : a.toList = b.toList) : a = b := by
 rw [Lib.toList_data, Lib.toList_data] at h
 apply ByteArray.ext
 exact Array.toList_inj.1 h
theorem ahead_tri {a b : ByteArray} (h : ahead a b = false) (k : a ≠ b) : ahead b a = true := by
 cases e : ahead b a with
 | true => rfl
 | false => exact absurd (toList_inj' (less_tri h e)) k
theorem ahead_empty {a : ByteArray} (h : ahead ⟨#[]⟩ a = false) : a.size = 0 := by
 unfold ahead at h
 rw [Lib.toList_data, Lib.toList_data] at h
 rcases e : a.data.toList with _ | ⟨x, r⟩
 ·rw [Lib.size_eq, e]
  rfl
 ·rw [e] at h
  unfold Op.bytesLess at h
  cases h
def Sorted (l : List Lnk) : Prop := l.Pairwise fun x y => ahead x.name y.name = true
theorem Sorted.without {l : List Lnk} (h : Sorted l) (s : ByteArray) : Sorted (without l s) := h.filter _
theorem without_none {l : List Lnk} {s : ByteArray} (h : ∀ x ∈ l, x.name ≠ s) : without l s = l := by
 unfold Go.Proofs.YtdimaoloapbeoaaGreatDoor.without
 apply List.filter_eq_self.2
 intro x hx
 exact decide_eq_true (h x hx)
theorem ins_last {x : Lnk} : ∀ {l : List Lnk}, (∀ y ∈ l, ahead y.name x.name = true) → ins x l = l ++ [x]
 | [], _ => rfl
 | y :: r, h => by
  unfold ins
  rw [ahead_asymm (h y (by simp)), if_neg Bool.false_ne_true, ins_last fun z hz => h z (by simp [hz])]
  rfl
theorem withL_last {l : List Lnk} {x : Lnk} (h : ∀ y ∈ l, ahead y.name x.name = true) : withL l x = l ++ [x] := by
 unfold withL
 rw [without_none fun y hy => ahead_ne (h y hy), ins_last h]
theorem ins_mem' {x y : Lnk} : ∀ {l : List Lnk}, y ∈ ins x l → y = x ∨ y ∈ l
 | [], h => by
  rw [ins, List.mem_singleton] at h
  exact .inl h
 | z :: r, h => by
  unfold ins at h
  split at h
  ·rcases List.mem_cons.1 h with h | h
   ·exact .inl h
   ·exact .inr h
  ·rcases List.mem_cons.1 h with h | h
   ·exact .inr (h ▸ List.mem_cons_self)
   ·rcases ins_mem' h with h | h
    ·exact .inl h
    ·exact .inr (List.mem_cons_of_mem _ h)
theorem Sorted.ins {x : Lnk} : ∀ {l : List Lnk}, Sorted l → (∀ y ∈ l, y.name ≠ x.name) → Sorted (ins x l)
 | [], _, _ => by
  unfold Go.Proofs.YtdimaoloapbeoaaGreatDoor.ins
  exact List.pairwise_singleton _ _
 | y :: r, h, hn => by
  have hp := List.pairwise_cons.1 h
  unfold Go.Proofs.YtdimaoloapbeoaaGreatDoor.ins
  split
  ·rename_i e
   refine List.pairwise_cons.2 ⟨fun z hz => ?_, h⟩
   rcases List.mem_cons.1 hz with rfl | hz
   ·exact e
   ·exact ahead_trans e (hp.1 z hz)
  ·rename_i e
   have e' : ahead y.name x.name = true := ahead_tri (by simpa using e) fun k => hn y (by simp) k.symm
   refine List.pairwise_cons.2 ⟨fun z hz => ?_, Sorted.ins hp.2 fun z hz => hn z (by simp [hz])⟩
   rcases ins_mem' hz with rfl | hz
   ·exact e'
   ·exact hp.1 z hz
theorem Sorted.withL {l : List Lnk} (h : Sorted l) (x : Lnk) : Sorted (withL l x) :=
 Sorted.ins (h.without x.name) fun _ hy => of_decide_eq_true (List.mem_filter.1 hy).2
end Go.Proofs.YtdimaoloapbeoaaGreatDoor
namespace Go.Proofs.YtdimaoloapbeoaaGreatDoor
open Go.ChangeShapes Go.WideShapes Go.ChangeAt Go.RowKit Go.PlainAid Go.Maps
set_option linter.unusedVariables false
def lastName (dl : List Lnk) : Nat → ByteArray
 | 0 => ⟨#[]⟩
 | k + 1 => (dl.getD k default).name
def delAll (l : List (Int × Nat)) (dl : List Lnk) : List (Int × Nat) := dl.foldl (fun l x => ptrDel l x.id) l
theorem delAll_snoc (l : List (Int × Nat)) (dl : List Lnk) (x : Lnk) : delAll l (dl ++ [x]) = ptrDel (delAll l dl) x.id := by
 unfold delAll
 rw [List.foldl_append]
 rfl
def dirGood (l0 : List (Int × Nat)) (dl : List Lnk) (k : Nat) : Bool :=
 nameOk (dl.getD k default).name && !(ahead (dl.getD k default).name (lastName dl k) || decide ((dl.getD k default).name = lastName dl k)) && (ptrAt (delAll l0 (dl.take k)) (dl.getD k default).id).isSome
def dirOk (l0 : List (Int × Nat)) (dl : List Lnk) : Bool := (List.range dl.length).all (dirGood l0 dl)
theorem dirGood_gt {l0 : List (Int × Nat)} {dl : List Lnk} {k : Nat} (h : dirGood l0 dl k = true) : ahead (lastName dl k) (dl.getD k default).name = true := by
 unfold dirGood at h
 simp only [Bool.and_eq_true, Bool.not_eq_true', Bool.or_eq_false_iff, decide_eq_false_iff_not] at h
 exact ahead_tri h.1.2.1 h.1.2.2
theorem dir_rising {l0 : List (Int × Nat)} {dl : List Lnk} {k : Nat} (hk : k ≤ dl.length) (h : ∀ j, j < k → dirGood l0 dl j = true) : Sorted (dl.take k) ∧ ∀ x ∈ dl.take k, x.name = lastName dl k ∨ ahead x.name (lastName dl k) = true := by
 induction k with
 | zero => exact ⟨by rw [List.take_zero]; exact List.Pairwise.nil, fun x hx => by rw [List.take_zero] at hx; cases hx⟩
 | succ k ih =>
  obtain ⟨h1, h2⟩ := ih (by omega) fun j hj => h j (by omega)
  have hg := dirGood_gt (h k (by omega))
  have h3 : ∀ x ∈ dl.take k, ahead x.name (dl.getD k default).name = true := fun x hx => by
   rcases h2 x hx with e | e
   ·rw [e]; exact hg
   ·exact ahead_trans e hg
  rw [take_getD dl k (by omega)]
  refine ⟨?_, fun x hx => ?_⟩
  ·unfold Sorted
   rw [List.pairwise_append]
   refine ⟨h1, List.pairwise_singleton _ _, fun a ha b hb => ?_⟩
   rw [List.mem_singleton] at hb
   subst hb
   exact h3 a ha
  ·rcases List.mem_append.1 hx with hx | hx
   ·exact .inr (h3 x hx)
   ·rw [List.mem_singleton] at hx
    subst hx
    exact .inl rfl
theorem dir_put {l0 : List (Int × Nat)} {dl : List Lnk} {k : Nat} (hk : k < dl.length) (h : ∀ j, j < k + 1 → dirGood l0 dl j = true) : withL (dl.take k) (dl.getD k default) = dl.take (k + 1) := by
 have hg := dirGood_gt (h k (by omega))
 rw [take_getD dl k hk]
 refine withL_last fun x hx => ?_
 rcases (dir_rising (by omega) fun j hj => h j (by omega)).2 x hx with e | e
 ·rw [e]; exact hg
 ·exact ahead_trans e hg
set_option maxRecDepth 20000 in
set_option maxHeartbeats 4000000 in
theorem takeDirV (room next : Int) (v2 v3 v5 v6 : Value) (p bd bn B : Nat) (l0 : List (Int × Nat)) (dl : List Lnk) (w : World) (hp : Blk w p #[.int .i64 room, .int .i64 next, v3, .map (some bd), v5, v6] 119) (hD : NT w bd []) (hI : IT w bn l0) (hv : Lies w B 2 v2 (lnkR dl)) (hB : B ≤ w.heap.size) (hbd : B ≤ bd) (hbn : B ≤ bn) (hpd : p ≠ bd) (hpn : p ≠ bn) (hdn : bd ≠ bn)
  (hln : dl.length ≤ 1048576) (hid : ∀ x ∈ dl, IntOk x.id) (hnm : ∀ x ∈ dl, x.name.size ≤ maxLen) :
  Calls Tryz.prog 62 #[.pointer (some ⟨p, 0, none⟩), v2, .map (some bn)] w fun e w' => e = .returned (.bool (dirOk l0 dl)) ∧ But (fun i => i = bd ∨ i = bn ∨ i = p) w w' ∧
   (dirOk l0 dl = true → ∃ bw, w.heap.size ≤ bw ∧ Blk w' p #[.int .i64 room, .int .i64 next, v3, .map (some bd), v5, .map (some bw)] 119 ∧ NT w' bd dl ∧ NT w' bw dl ∧ IT w' bn (delAll l0 dl)) := by
 obtain ⟨A, cap, rfl, hl⟩ := lnk_look hv
 have HL : Hid (∀ j, j < dl.length → ∃ g off, A = some ⟨g, off, none⟩ ∧ g < B ∧ _) := hl
 have HB : Hid (B ≤ w.heap.size) := hB
 have HBD : Hid (B ≤ bd) := hbd
 have HBN : Hid (B ≤ bn) := hbn
 have HP : Hid (Blk w p #[.int .i64 room, .int .i64 next, v3, .map (some bd), v5, v6] 119) := hp
 have HPD : Hid (p ≠ bd) := hpd
 have HPN : Hid (p ≠ bn) := hpn
 have HDN : Hid (bd ≠ bn) := hdn
 have HD : Hid (NT w bd []) := hD
 have HI : Hid (IT w bn l0) := hI
 have HID : Hid (∀ x ∈ dl, IntOk x.id) := hid
 have HNM : Hid (∀ x ∈ dl, x.name.size ≤ maxLen) := hnm
 have q1 : (dl.length : Int) ≤ 1048576 := by omega
 have HE : Hid ((∀ j, j < dl.length → dirGood l0 dl j = true) → dirOk l0 dl = true) := fun h => all_yes h
 have HNO : Hid (∀ k, k < dl.length → dirGood l0 dl k = false → dirOk l0 dl = false) := fun k hk h => all_no hk h
 clear hl hv hB hbd hbn hp hpd hpn hdn hD hI hid hnm hln
 generalize hN : dl.length = N at *
 go_enter Tryz.func62, Tryz.ntmps62
 go_wp2_with fail
 go_loopw [7, 12] (fun v7 v12 wr => ∃ k : Nat, k ≤ N ∧ v12 = .int .i64 (k : Int) ∧ v7 = .string (lastName dl k) ∧ (∀ j, j < k → dirGood l0 dl j = true) ∧ NT wr bd (dl.take k) ∧ IT wr bn (delAll l0 (dl.take k)) ∧ But (fun i => i = bd ∨ i = bn) w wr) (fun _ i _ => N - (intOf i).toNat)
 case atStart => exact ⟨0, by omega, rfl, rfl, fun j hj => by omega, by rw [List.take_zero]; exact HD.out, by rw [List.take_zero]; exact HI.out, But.refl _ _⟩
 case round =>
  obtain ⟨k, hk, rfl, rfl, hgd, hNT, hIT, hbt⟩ := hrel
  have HG : Hid (∀ j, j < k → dirGood l0 dl j = true) := hgd
  have HNT : Hid (NT wr bd (dl.take k)) := hNT
  have HIT : Hid (IT wr bn (delAll l0 (dl.take k))) := hIT
  have HBT : Hid (But (fun i => i = bd ∨ i = bn) w wr) := hbt
  have hpr : Blk wr p #[.int .i64 room, .int .i64 next, v3, .map (some bd), v5, v6] 119 := hbt.blk HP.out (fun e => e.elim HPD.out HPN.out)
  clear hgd hNT hIT hbt
  by_cases hlt : k < N
  ·have q4 : (k : Int) < (N : Int) := by omega
   obtain ⟨g, off, rfl, hg, hc0, hc1⟩ := HL.out k hlt
   have hgw : g < w.heap.size := Nat.lt_of_lt_of_le hg HB.out
   have hgb : wr.heap[g]? = w.heap[g]? := HBT.out.block g hgw (fun e => by have := HBD.out; have := HBN.out; omega)
   have hcc : ∀ o, wr.cell? ⟨g, o, none⟩ = w.cell? ⟨g, o, none⟩ := fun o => World.cell?_of_block (w := w) hgb
   rw [← hcc] at hc0 hc1
   have hmem := getD_mem dl k (by omega)
   have hio := HID.out _ hmem
   have hns := HNM.out _ hmem
   have HGE : Hid (dirGood l0 dl k = (nameOk (dl.getD k default).name && !(ahead (dl.getD k default).name (lastName dl k) || decide ((dl.getD k default).name = lastName dl k)) && (ptrAt (delAll l0 (dl.take k)) (dl.getD k default).id).isSome)) := rfl
   have HBAD : Hid (dirGood l0 dl k = false → dirOk l0 dl = false) := fun h => HNO.out k (by omega) h
   have HGD : Hid (dirGood l0 dl k = true → ∀ j, j < k + 1 → dirGood l0 dl j = true) := fun h => less_succ HG.out h
   have HPUT : Hid ((∀ j, j < k + 1 → dirGood l0 dl j = true) → withL (dl.take k) (dl.getD k default) = dl.take (k + 1)) := dir_put (by omega)
   have HDA : Hid (delAll l0 (dl.take (k + 1)) = ptrDel (delAll l0 (dl.take k)) (dl.getD k default).id) := by unfold Hid; rw [take_getD dl k (by omega), delAll_snoc]
   have HLS : Hid (lastName dl (k + 1) = (dl.getD k default).name) := rfl
   have hbq := toList_beq (dl.getD k default).name (lastName dl k)
   have hah : Op.bytesLess (dl.getD k default).name.toList (lastName dl k).toList = ahead (dl.getD k default).name (lastName dl k) := rfl
   have hpl : p < wr.heap.size := hpr.lt
   have hbl : bd < wr.heap.size := HNT.out.lt
   have hbl2 : bn < wr.heap.size := HIT.out.lt
   have hlk : Hid ((dl.take k).length < maxLen) := by unfold Hid; rw [List.length_take]; unfold maxLen; omega
   clear hgb hgw hcc hg hmem
   generalize hxx : dl.getD k default = xx at *
   obtain ⟨xn, xi⟩ := xx
   simp only at *
   generalize hla : lastName dl k = la at *
   have c1 := fun wx => isNameV xn wx (by unfold maxLen at hns; omega)
   have HIO : Hid (IntOk xi) := hio
   have HNS : Hid (xn.size ≤ maxLen) := hns
   clear hio hns
   go_wp2_with fail
   have KP : Blk (wr.alloc (.cells #[.string xn, .int .i64 xi] 93)) p #[.int .i64 room, .int .i64 next, v3, .map (some bd), v5, v6] 119 := hpr.alloc _
   have KZ := Blk.new wr #[.string xn, .int .i64 xi] 93
   have BY : Hid (But (fun i => i = bd ∨ i = bn) w (wr.alloc (.cells #[.string xn, .int .i64 xi] 93))) := HBT.out.alloc _
   have NY : Hid (NT (wr.alloc (.cells #[.string xn, .int .i64 xi] 93)) bd (dl.take k)) := HNT.out.on ((Below.refl _ wr).alloc (Nat.le_refl _) _) hbl
   have IY : Hid (IT (wr.alloc (.cells #[.string xn, .int .i64 xi] 93)) bn (delAll l0 (dl.take k))) := HIT.out.on ((Below.refl _ wr).alloc (Nat.le_refl _) _) hbl2
   generalize wr.alloc (.cells #[.string xn, .int .i64 xi] 93) = Y at *
   have z0 : Y.cell? ⟨wr.heap.size, 0, none⟩ = some (.string xn) := KZ.cell 0 _ rfl
   have z1 : Y.cell? ⟨wr.heap.size, 1, none⟩ = some (.int .i64 xi) := KZ.cell 1 _ rfl
   have b3 : Y.cell? ⟨p, 3, none⟩ = some (.map (some bd)) := KP.cell 3 _ rfl
   have HW1 : Hid (p < Y.heap.size) := KP.lt
   have HW2 : Hid (wr.heap.size < Y.heap.size) := KZ.lt
   clear KP KZ hpr hc0 hc1
   generalize wr.heap.size = pz at *
   refine (c1 Y).mono ?_
   rintro e w1 ⟨rfl, rfl⟩
   clear c1
   cases hno : nameOk xn with
   | false =>
    have gf : Hid (dirGood l0 dl k = false) := by unfold Hid; rw [HGE.out, hno] <;> rfl
    clear hbq hah
    go_wp2_with fail
    go_ret
    exact ⟨by rw [HBAD.out gf.out]; rfl, BY.out.mono (fun i _ h => h.elim .inl (fun e => .inr (.inl e))), fun h => by rw [HBAD.out gf.out] at h; cases h⟩
   | true =>
    cases ha : ahead xn la with
    | true =>
     rw [ha] at hah
     have gf : Hid (dirGood l0 dl k = false) := by unfold Hid; rw [HGE.out, hno, ha] <;> rfl
     clear hbq
     go_wp2_with fail
     go_ret
     exact ⟨by rw [HBAD.out gf.out]; rfl, BY.out.mono (fun i _ h => h.elim .inl (fun e => .inr (.inl e))), fun h => by rw [HBAD.out gf.out] at h; cases h⟩
    | false =>
     rw [ha] at hah
     by_cases heq : xn = la
     ·rw [decide_eq_true heq] at hbq
      have gf : Hid (dirGood l0 dl k = false) := by unfold Hid; rw [HGE.out, hno, ha, decide_eq_true heq] <;> rfl
      clear heq
      go_wp2_with fail
      go_ret
      exact ⟨by rw [HBAD.out gf.out]; rfl, BY.out.mono (fun i _ h => h.elim .inl (fun e => .inr (.inl e))), fun h => by rw [HBAD.out gf.out] at h; cases h⟩
     ·rw [decide_eq_false heq] at hbq
      rcases hat : ptrAt (delAll l0 (dl.take k)) xi with _ | gq
      ·have gf : Hid (dirGood l0 dl k = false) := by unfold Hid; rw [HGE.out, hno, ha, decide_eq_false heq, hat] <;> rfl
       have r1 := (IY.out.val xi HIO.out).1 hat
       clear heq hat
       go_wp2_with fail
       go_ret
       exact ⟨by rw [HBAD.out gf.out]; rfl, BY.out.mono (fun i _ h => h.elim .inl (fun e => .inr (.inl e))), fun h => by rw [HBAD.out gf.out] at h; cases h⟩
      ·have gf : Hid (dirGood l0 dl k = true) := by unfold Hid; rw [HGE.out, hno, ha, decide_eq_false heq, hat] <;> rfl
       have r1 := (IY.out.val xi HIO.out).2 gq hat
       clear heq hat
       have NYd : NT Y.drew bd (dl.take k) := NY.out.kept rfl
       obtain ⟨w2, r2, hN2, hB2, hS2⟩ := NYd.put xn xi HNS.out hlk.out
       have IY2 : IT w2 bn (delAll l0 (dl.take k)) := (IY.out.kept (w' := Y.drew) rfl).but hB2 (fun e => HDN.out e.symm)
       have hr3 := fun ty => IY2.del xi HIO.out ty
       obtain ⟨w3, r3, hI3, hB3, hS3⟩ := hr3 0
       have N3 : Hid (NT w3 bd (dl.take (k + 1))) := by
        unfold Hid
        rw [← HPUT.out (HGD.out gf.out)]
        exact hN2.but hB3 HDN.out
       have I3 : Hid (IT w3 bn (delAll l0 (dl.take (k + 1)))) := by unfold Hid; rw [HDA.out]; exact hI3
       have B3 : Hid (But (fun i => i = bd ∨ i = bn) w w3) := (BY.out.drew.trans hB2 (fun _ _ e => .inl e)).trans hB3 (fun _ _ e => .inr e)
       have hcp : ∀ o, w2.cell? ⟨p, o, none⟩ = Y.cell? ⟨p, o, none⟩ := fun o => World.cell?_of_block (w := Y) (hB2.block p HW1.out HPD.out)
       have hcz : ∀ o, w2.cell? ⟨pz, o, none⟩ = Y.cell? ⟨pz, o, none⟩ := fun o => World.cell?_of_block (w := Y) (hB2.block pz HW2.out (fun e => by omega))
       have S0 : Hid (Y.drew.cell? ⟨p, 3, none⟩ = some (.map (some bd)) ∧ Y.drew.cell? ⟨pz, 0, none⟩ = some (.string xn) ∧ Y.drew.cell? ⟨pz, 1, none⟩ = some (.int .i64 xi)) := ⟨b3, z0, z1⟩
       have S2 : Hid (w2.cell? ⟨p, 3, none⟩ = some (.map (some bd)) ∧ w2.cell? ⟨pz, 0, none⟩ = some (.string xn) ∧ w2.cell? ⟨pz, 1, none⟩ = some (.int .i64 xi)) := ⟨(hcp 3).trans b3, (hcz 0).trans z0, (hcz 1).trans z1⟩
       have y1 : w2.cell? ⟨pz, 1, none⟩ = some (.int .i64 xi) := S2.out.2.2
       clear NYd hN2 hB2 hS2 IY2 hr3 hI3 hB3 hS3 hcp hcz
       go_wp2_with fail
       go_region_held3 (fun w' => w'.cell? ⟨p, 3, none⟩ = some (.map (some bd)) ∧ w'.cell? ⟨pz, 0, none⟩ = some (.string xn) ∧ w'.cell? ⟨pz, 1, none⟩ = some (.int .i64 xi)) (first | exact S0.out | exact S2.out) (fail)
       go_wp2_with fail
       go_roundw
       case rel => exact ⟨k + 1, by omega, by go_num, by rw [HLS.out], HGD.out gf.out, N3.out, I3.out, B3.out⟩
       case measure => simp [intOf]; omega
  ·obtain rfl : k = N := by omega
   have hNd : NT wr bd dl := by
    have := HNT.out
    rw [← hN, List.take_length] at this
    exact this
   have HId : Hid (IT wr bn (delAll l0 dl)) := by
    have := HIT.out
    rw [← hN, List.take_length] at this
    exact this
   have HF : Hid (dirOk l0 dl = true) := HE.out HG.out
   have cC := cloneNV wr bd dl hNd
   have HNd : Hid (NT wr bd dl) := hNd
   have HPR : Hid (Blk wr p #[.int .i64 room, .int .i64 next, v3, .map (some bd), v5, v6] 119) := hpr
   have x3 := hpr.cell 3 _ rfl
   clear hpr hNd
   go_wp2_with fail
   refine cC.mono ?_
   rintro e w3 ⟨rfl, hNw, hb⟩
   have P3 : Hid (Blk w3 p #[.int .i64 room, .int .i64 next, v3, .map (some bd), v5, v6] 119) := HPR.out.on hb HPR.out.lt
   have N3 : Hid (NT w3 bd dl) := HNd.out.on hb HNd.out.lt
   have I3 : Hid (IT w3 bn (delAll l0 dl)) := HId.out.on hb HId.out.lt
   have W3 : Hid (NT w3 wr.heap.size dl) := hNw
   have B3 : Hid (But (fun i => i = bd ∨ i = bn) w w3) := HBT.out.trans (But.of_below (fun _ => False) hb) (fun _ _ e => e.elim)
   have HZ : Hid (p < wr.heap.size) := HPR.out.lt
   have HZ2 : Hid (w.heap.size ≤ wr.heap.size) := HBT.out.size
   have x5 := P3.out.cell 5 _ rfl
   have f5 := P3.out.free 5
   clear hNw hb cC x3
   generalize wr.heap.size = bw at *
   go_wp2_with fail
   go_ret
   refine ⟨by rw [HF.out]; rfl, (B3.out.mono (fun i _ h => h.elim .inl (fun e => .inr (.inl e)))).setCell (fun _ => .inr (.inr rfl)) _, fun _ => ⟨bw, HZ2.out, ?_, ?_, ?_, ?_⟩⟩
   ·exact P3.out.set 5 _
   ·exact N3.out.kept (Below.heap_setCell _ _ _ _ HPD.out.symm)
   ·exact W3.out.kept (Below.heap_setCell _ _ _ _ (by have := HZ.out; show bw ≠ p; omega))
   ·exact I3.out.kept (Below.heap_setCell _ _ _ _ HPN.out.symm)
end Go.Proofs.YtdimaoloapbeoaaGreatDoor
namespace Go.Proofs.YtdimaoloapbeoaaGreatDoor
open Go.ChangeShapes Go.WideShapes Go.ChangeAt Go.RowKit Go.PlainAid
set_option linter.unusedVariables false
def NamesOk (l : List Lnk) : Prop := ∀ x ∈ l, nameOk x.name = true
theorem linkAt_name {l : List Lnk} {s : ByteArray} {i : Nat} (h : linkAt l s = some i) : (l.getD i default).name = s ∧ l.getD i default ∈ l := by
 unfold linkAt at h
 rw [List.findIdx?_eq_some_iff_getElem] at h
 obtain ⟨hi, hp, _⟩ := h
 rw [← getD_at l i hi]
 exact ⟨of_decide_eq_true hp, List.getElem_mem hi⟩
theorem NamesOk.at {l : List Lnk} (h : NamesOk l) {s : ByteArray} {i : Nat} (hi : linkAt l s = some i) : nameOk s = true := by
 obtain ⟨e, hm⟩ := linkAt_name hi
 rw [← e]
 exact h _ hm
theorem ins_mem {x y : Lnk} : ∀ {l : List Lnk}, y ∈ ins x l → y = x ∨ y ∈ l
 | [], h => by
  rw [ins, List.mem_singleton] at h
  exact .inl h
 | z :: r, h => by
  unfold ins at h
  split at h
  ·rcases List.mem_cons.1 h with h | h
   ·exact .inl h
   ·exact .inr h
  ·rcases List.mem_cons.1 h with h | h
   ·exact .inr (h ▸ List.mem_cons_self)
   ·rcases ins_mem h with h | h
    ·exact .inl h
    ·exact .inr (List.mem_cons_of_mem _ h)
theorem NamesOk.without {l : List Lnk} (h : NamesOk l) (s : ByteArray) : NamesOk (without l s) := fun x hx => h x (List.mem_filter.1 hx).1
theorem NamesOk.withL {l : List Lnk} (h : NamesOk l) (x : Lnk) (hx : nameOk x.name = true) : NamesOk (withL l x) := fun y hy => by
 rcases ins_mem hy with rfl | hy
 ·exact hx
 ·exact h.without x.name y hy
theorem apply_make {l : List Lnk} {n t : ByteArray} {i : Int} (hn : nameOk n = true) (ht : t.size = 0) (hat : linkAt l n = none) : apply l ⟨1, n, t, i⟩ = some (withL l ⟨n, i⟩) := by
 unfold apply
 rw [if_neg (by simp [hn]), if_pos ⟨rfl, ht, hat⟩]
theorem apply_bad {l : List Lnk} {m : Mov} (hn : nameOk m.name = false) : apply l m = none := by
 unfold apply
 rw [if_pos hn]
theorem apply_none {l : List Lnk} {m : Mov} (hat : linkAt l m.name = none) (h : ¬ (m.kind = 1 ∧ m.to.size = 0)) : apply l m = none := by
 unfold apply
 by_cases hn : nameOk m.name = false
 ·rw [if_pos hn]
 ·rw [if_neg hn, if_neg (fun k => h ⟨k.1, k.2.1⟩), hat]
theorem apply_some {l : List Lnk} {m : Mov} {j : Nat} (hat : linkAt l m.name = some j) (h2 : ¬ (m.kind = 2 ∧ m.id = 0 ∧ nameOk m.to = true ∧ m.to ≠ m.name)) (h3 : ¬ (m.kind = 3 ∧ m.id = 0 ∧ m.to.size = 0)) : apply l m = none := by
 unfold apply
 by_cases hn : nameOk m.name = false
 ·rw [if_pos hn]
 ·rw [if_neg hn, if_neg (fun k => by rw [hat] at k; exact absurd k.2.2 (by simp)), hat]
  simp only
  rw [if_neg h2, if_neg h3]
theorem apply_name {l : List Lnk} {n t : ByteArray} {j : Nat} (hn : nameOk n = true) (hat : linkAt l n = some j) (ht : nameOk t = true) (hne : t ≠ n) : apply l ⟨2, n, t, 0⟩ = some (withL (without l n) ⟨t, (l.getD j default).id⟩) := by
 unfold apply
 rw [if_neg (by simp [hn]), if_neg (fun k => absurd k.1 (by simp)), hat]
 simp [ht, hne]
theorem apply_drop {l : List Lnk} {n t : ByteArray} {j : Nat} (hn : nameOk n = true) (hat : linkAt l n = some j) (ht : t.size = 0) : apply l ⟨3, n, t, 0⟩ = some (without l n) := by
 unfold apply
 rw [if_neg (by simp [hn]), if_neg (fun k => absurd k.1 (by simp)), hat]
 simp [ht]
theorem NamesOk.apply {l : List Lnk} (h : NamesOk l) {m : Mov} {r : List Lnk} (he : apply l m = some r) : NamesOk r := by
 by_cases hn : nameOk m.name = false
 ·rw [apply_bad hn] at he; cases he
 ·have hn' : nameOk m.name = true := by simpa using hn
  rcases hat : linkAt l m.name with _ | j
  ·by_cases h1 : m.kind = 1 ∧ m.to.size = 0
   ·obtain ⟨k, n, t, i⟩ := m
    simp only at h1 hn' hat
    obtain ⟨rfl, h1⟩ := h1
    rw [apply_make hn' h1 hat] at he
    cases he
    exact h.withL _ hn'
   ·rw [apply_none hat h1] at he; cases he
  ·by_cases h2 : m.kind = 2 ∧ m.id = 0 ∧ nameOk m.to = true ∧ m.to ≠ m.name
   ·obtain ⟨k, n, t, i⟩ := m
    simp only at h2 hn' hat
    obtain ⟨rfl, rfl, h2, h3⟩ := h2
    rw [apply_name hn' hat h2 h3] at he
    cases he
    exact (h.without _).withL _ h2
   ·by_cases h3 : m.kind = 3 ∧ m.id = 0 ∧ m.to.size = 0
    ·obtain ⟨k, n, t, i⟩ := m
     simp only at h3 hn' hat
     obtain ⟨rfl, rfl, h3⟩ := h3
     rw [apply_drop hn' hat h3] at he
     cases he
     exact h.without _
    ·rw [apply_some hat h2 h3] at he; cases he
set_option maxRecDepth 20000 in
set_option maxHeartbeats 1000000 in
theorem iap_1a (l : List Lnk) (b : Nat) (mn mt : ByteArray) (mi : Int) (w : World) (h : NT w b l) (hl : l.length ≤ 1000) (hs : mn.size ≤ maxLen) (ht : mt.size ≤ maxLen) (j : Nat) (hat : linkAt l mn = some j) :
  Calls Tryz.prog 95 #[.map (some b), .agg #[.int .i64 1, .string mn, .string mt, .int .i64 mi]] w fun e w' => e = .returned (.bool false) ∧ NT w' b l ∧ But (fun i => i = b) w w' := by
 have HH : Hid (NT w b l) := h
 have hW : NT (w.alloc (.cells #[.int .i64 1, .string mn, .string mt, .int .i64 mi] 94)) b l := h.on ((Below.refl _ w).alloc (Nat.le_refl _) _) h.lt
 have B0 : Hid (But (fun i => i = b) w (w.alloc (.cells #[.int .i64 1, .string mn, .string mt, .int .i64 mi] 94))) := (But.refl _ w).alloc _
 have r1 := (hW.look mn hs).2 j hat
 have HW : Hid (NT (w.alloc (.cells #[.int .i64 1, .string mn, .string mt, .int .i64 mi] 94)) b l) := hW
 clear h hW
 clear hs ht hl hat
 go_enter Tryz.func95, Tryz.ntmps95
 go_wp2_with fail
 go_ret
 exact ⟨rfl, HW.out, B0.out⟩
set_option maxRecDepth 20000 in
set_option maxHeartbeats 1000000 in
theorem iap_1b (l : List Lnk) (b : Nat) (mn mt : ByteArray) (mi : Int) (w : World) (h : NT w b l) (hl : l.length ≤ 1000) (hs : mn.size ≤ maxLen) (ht : mt.size ≤ maxLen) (hat : linkAt l mn = none) (hno : nameOk mn = false) :
  Calls Tryz.prog 95 #[.map (some b), .agg #[.int .i64 1, .string mn, .string mt, .int .i64 mi]] w fun e w' => e = .returned (.bool false) ∧ NT w' b l ∧ But (fun i => i = b) w w' := by
 have HH : Hid (NT w b l) := h
 have hW : NT (w.alloc (.cells #[.int .i64 1, .string mn, .string mt, .int .i64 mi] 94)) b l := h.on ((Below.refl _ w).alloc (Nat.le_refl _) _) h.lt
 have B0 : Hid (But (fun i => i = b) w (w.alloc (.cells #[.int .i64 1, .string mn, .string mt, .int .i64 mi] 94))) := (But.refl _ w).alloc _
 have r1 := (hW.look mn hs).1 hat
 have c1 := fun wx => isNameV mn wx (by unfold maxLen at hs; omega)
 rw [hno] at c1
 have HW : Hid (NT (w.alloc (.cells #[.int .i64 1, .string mn, .string mt, .int .i64 mi] 94)) b l) := hW
 clear h hW
 clear hs ht hl hat hno
 go_enter Tryz.func95, Tryz.ntmps95
 go_wp2_with fail
 refine (c1 _).mono ?_
 rintro e w1 ⟨rfl, rfl⟩
 go_wp2_with fail
 go_ret
 exact ⟨rfl, HW.out, B0.out⟩
set_option maxRecDepth 20000 in
set_option maxHeartbeats 1000000 in
theorem iap_1c (l : List Lnk) (b : Nat) (mn mt : ByteArray) (mi : Int) (w : World) (h : NT w b l) (hl : l.length ≤ 1000) (hs : mn.size ≤ maxLen) (ht : mt.size ≤ maxLen) (hat : linkAt l mn = none) (hno : nameOk mn = true) (hto : ¬ mt.size = 0) :
  Calls Tryz.prog 95 #[.map (some b), .agg #[.int .i64 1, .string mn, .string mt, .int .i64 mi]] w fun e w' => e = .returned (.bool false) ∧ NT w' b l ∧ But (fun i => i = b) w w' := by
 have HH : Hid (NT w b l) := h
 have hW : NT (w.alloc (.cells #[.int .i64 1, .string mn, .string mt, .int .i64 mi] 94)) b l := h.on ((Below.refl _ w).alloc (Nat.le_refl _) _) h.lt
 have B0 : Hid (But (fun i => i = b) w (w.alloc (.cells #[.int .i64 1, .string mn, .string mt, .int .i64 mi] 94))) := (But.refl _ w).alloc _
 have r1 := (hW.look mn hs).1 hat
 have c1 := fun wx => isNameV mn wx (by unfold maxLen at hs; omega)
 rw [hno] at c1
 have t1 := isEmpty_no mt hto
 have t2 : ¬ mt.toList = [] := fun h => by rw [h] at t1; cases t1
 have HW : Hid (NT (w.alloc (.cells #[.int .i64 1, .string mn, .string mt, .int .i64 mi] 94)) b l) := hW
 clear h hW
 clear hs ht hl hat hno hto
 go_enter Tryz.func95, Tryz.ntmps95
 go_wp2_with fail
 refine (c1 _).mono ?_
 rintro e w1 ⟨rfl, rfl⟩
 go_wp2_with fail
 go_ret
 exact ⟨rfl, HW.out, B0.out⟩
set_option maxRecDepth 20000 in
set_option maxHeartbeats 1000000 in
theorem iap_1d (l : List Lnk) (b : Nat) (mn : ByteArray) (mi : Int) (w : World) (h : NT w b l) (hl : l.length ≤ 1000) (hs : mn.size ≤ maxLen) (hat : linkAt l mn = none) (hno : nameOk mn = true) :
  Calls Tryz.prog 95 #[.map (some b), .agg #[.int .i64 1, .string mn, .string ⟨#[]⟩, .int .i64 mi]] w fun e w' => e = .returned (.bool true) ∧ NT w' b (withL l ⟨mn, mi⟩) ∧ But (fun i => i = b) w w' := by
 have HH : Hid (NT w b l) := h
 have hW : NT (w.alloc (.cells #[.int .i64 1, .string mn, .string ⟨#[]⟩, .int .i64 mi] 94)) b l := h.on ((Below.refl _ w).alloc (Nat.le_refl _) _) h.lt
 have B0 : Hid (But (fun i => i = b) w (w.alloc (.cells #[.int .i64 1, .string mn, .string ⟨#[]⟩, .int .i64 mi] 94))) := (But.refl _ w).alloc _
 have r1 := (hW.look mn hs).1 hat
 have c1 := fun wx => isNameV mn wx (by unfold maxLen at hs; omega)
 rw [hno] at c1
 obtain ⟨w2, r2, hN, hB, _⟩ := hW.put mn mi hs (by unfold maxLen; omega)
 have B1 : Hid (But (fun i => i = b) w w2) := B0.out.trans hB (fun _ _ k => k)
 have N1 : Hid (NT w2 b (withL l ⟨mn, mi⟩)) := hN
 clear h hW hB hN hs hl hat hno
 go_enter Tryz.func95, Tryz.ntmps95
 go_wp2_with fail
 refine (c1 _).mono ?_
 rintro e w1 ⟨rfl, rfl⟩
 go_wp2_with fail
 go_ret
 exact ⟨rfl, N1.out, B1.out⟩
set_option maxRecDepth 20000 in
set_option maxHeartbeats 1000000 in
theorem iap_2a (l : List Lnk) (b : Nat) (mn mt : ByteArray) (mi : Int) (w : World) (h : NT w b l) (hl : l.length ≤ 1000) (hs : mn.size ≤ maxLen) (ht : mt.size ≤ maxLen) (hat : linkAt l mn = none) :
  Calls Tryz.prog 95 #[.map (some b), .agg #[.int .i64 2, .string mn, .string mt, .int .i64 mi]] w fun e w' => e = .returned (.bool false) ∧ NT w' b l ∧ But (fun i => i = b) w w' := by
 have HH : Hid (NT w b l) := h
 have hW : NT (w.alloc (.cells #[.int .i64 2, .string mn, .string mt, .int .i64 mi] 94)) b l := h.on ((Below.refl _ w).alloc (Nat.le_refl _) _) h.lt
 have B0 : Hid (But (fun i => i = b) w (w.alloc (.cells #[.int .i64 2, .string mn, .string mt, .int .i64 mi] 94))) := (But.refl _ w).alloc _
 have r1 := (hW.look mn hs).1 hat
 have HW : Hid (NT (w.alloc (.cells #[.int .i64 2, .string mn, .string mt, .int .i64 mi] 94)) b l) := hW
 clear h hW
 clear hs ht hl hat
 go_enter Tryz.func95, Tryz.ntmps95
 go_wp2_with fail
 go_ret
 exact ⟨rfl, HW.out, B0.out⟩
set_option maxRecDepth 20000 in
set_option maxHeartbeats 1000000 in
theorem iap_2b (l : List Lnk) (b : Nat) (mn mt : ByteArray) (mi : Int) (w : World) (h : NT w b l) (hl : l.length ≤ 1000) (hs : mn.size ≤ maxLen) (ht : mt.size ≤ maxLen) (j : Nat) (hat : linkAt l mn = some j) (hno : nameOk mt = false) :
  Calls Tryz.prog 95 #[.map (some b), .agg #[.int .i64 2, .string mn, .string mt, .int .i64 mi]] w fun e w' => e = .returned (.bool false) ∧ NT w' b l ∧ But (fun i => i = b) w w' := by
 have HH : Hid (NT w b l) := h
 have hW : NT (w.alloc (.cells #[.int .i64 2, .string mn, .string mt, .int .i64 mi] 94)) b l := h.on ((Below.refl _ w).alloc (Nat.le_refl _) _) h.lt
 have B0 : Hid (But (fun i => i = b) w (w.alloc (.cells #[.int .i64 2, .string mn, .string mt, .int .i64 mi] 94))) := (But.refl _ w).alloc _
 have r1 := (hW.look mn hs).2 j hat
 have c1 := fun wx => isNameV mt wx (by unfold maxLen at ht; omega)
 rw [hno] at c1
 have HW : Hid (NT (w.alloc (.cells #[.int .i64 2, .string mn, .string mt, .int .i64 mi] 94)) b l) := hW
 clear h hW
 clear hs ht hl hat hno
 go_enter Tryz.func95, Tryz.ntmps95
 go_wp2_with fail
 refine (c1 _).mono ?_
 rintro e w1 ⟨rfl, rfl⟩
 go_wp2_with fail
 go_ret
 exact ⟨rfl, HW.out, B0.out⟩
set_option maxRecDepth 20000 in
set_option maxHeartbeats 1000000 in
theorem iap_2c (l : List Lnk) (b : Nat) (mn mt : ByteArray) (mi : Int) (w : World) (h : NT w b l) (hl : l.length ≤ 1000) (hs : mn.size ≤ maxLen) (ht : mt.size ≤ maxLen) (j : Nat) (hat : linkAt l mn = some j) (hno : nameOk mt = true) (heq : mt = mn) :
  Calls Tryz.prog 95 #[.map (some b), .agg #[.int .i64 2, .string mn, .string mt, .int .i64 mi]] w fun e w' => e = .returned (.bool false) ∧ NT w' b l ∧ But (fun i => i = b) w w' := by
 have HH : Hid (NT w b l) := h
 have hW : NT (w.alloc (.cells #[.int .i64 2, .string mn, .string mt, .int .i64 mi] 94)) b l := h.on ((Below.refl _ w).alloc (Nat.le_refl _) _) h.lt
 have B0 : Hid (But (fun i => i = b) w (w.alloc (.cells #[.int .i64 2, .string mn, .string mt, .int .i64 mi] 94))) := (But.refl _ w).alloc _
 have r1 := (hW.look mn hs).2 j hat
 have c1 := fun wx => isNameV mt wx (by unfold maxLen at ht; omega)
 rw [hno] at c1
 have hbq := toList_beq mt mn
 rw [decide_eq_true heq] at hbq
 have HW : Hid (NT (w.alloc (.cells #[.int .i64 2, .string mn, .string mt, .int .i64 mi] 94)) b l) := hW
 clear h hW
 clear hs ht hl hat hno heq
 go_enter Tryz.func95, Tryz.ntmps95
 go_wp2_with fail
 refine (c1 _).mono ?_
 rintro e w1 ⟨rfl, rfl⟩
 go_wp2_with fail
 go_ret
 exact ⟨rfl, HW.out, B0.out⟩
set_option maxRecDepth 20000 in
set_option maxHeartbeats 1000000 in
theorem iap_2d (l : List Lnk) (b : Nat) (mn mt : ByteArray) (mi : Int) (w : World) (h : NT w b l) (hl : l.length ≤ 1000) (hs : mn.size ≤ maxLen) (ht : mt.size ≤ maxLen) (j : Nat) (hat : linkAt l mn = some j) (hno : nameOk mt = true) (hne : ¬ mt = mn) (hi : ¬ mi = 0) :
  Calls Tryz.prog 95 #[.map (some b), .agg #[.int .i64 2, .string mn, .string mt, .int .i64 mi]] w fun e w' => e = .returned (.bool false) ∧ NT w' b l ∧ But (fun i => i = b) w w' := by
 have HH : Hid (NT w b l) := h
 have hW : NT (w.alloc (.cells #[.int .i64 2, .string mn, .string mt, .int .i64 mi] 94)) b l := h.on ((Below.refl _ w).alloc (Nat.le_refl _) _) h.lt
 have B0 : Hid (But (fun i => i = b) w (w.alloc (.cells #[.int .i64 2, .string mn, .string mt, .int .i64 mi] 94))) := (But.refl _ w).alloc _
 have r1 := (hW.look mn hs).2 j hat
 have c1 := fun wx => isNameV mt wx (by unfold maxLen at ht; omega)
 rw [hno] at c1
 have hbq := toList_beq mt mn
 rw [decide_eq_false hne] at hbq
 have z6 : (mi != 0) = true := by simp only [bne_iff_ne, ne_eq]; exact hi
 have z5 : (mi == 0) = false := by simp only [beq_eq_false_iff_ne, ne_eq]; exact hi
 have HW : Hid (NT (w.alloc (.cells #[.int .i64 2, .string mn, .string mt, .int .i64 mi] 94)) b l) := hW
 clear h hW
 clear hs ht hl hat hno hne hi
 go_enter Tryz.func95, Tryz.ntmps95
 go_wp2_with fail
 refine (c1 _).mono ?_
 rintro e w1 ⟨rfl, rfl⟩
 go_wp2_with fail
 go_ret
 exact ⟨rfl, HW.out, B0.out⟩
set_option maxRecDepth 20000 in
set_option maxHeartbeats 1000000 in
theorem iap_2e (l : List Lnk) (b : Nat) (mn mt : ByteArray) (w : World) (h : NT w b l) (hl : l.length ≤ 1000) (hs : mn.size ≤ maxLen) (ht : mt.size ≤ maxLen) (j : Nat) (hat : linkAt l mn = some j) (hno : nameOk mt = true) (hne : ¬ mt = mn) :
  Calls Tryz.prog 95 #[.map (some b), .agg #[.int .i64 2, .string mn, .string mt, .int .i64 0]] w fun e w' => e = .returned (.bool true) ∧ NT w' b (withL (without l mn) ⟨mt, (l.getD j default).id⟩) ∧ But (fun i => i = b) w w' := by
 have HH : Hid (NT w b l) := h
 have hW : NT (w.alloc (.cells #[.int .i64 2, .string mn, .string mt, .int .i64 0] 94)) b l := h.on ((Below.refl _ w).alloc (Nat.le_refl _) _) h.lt
 have B0 : Hid (But (fun i => i = b) w (w.alloc (.cells #[.int .i64 2, .string mn, .string mt, .int .i64 0] 94))) := (But.refl _ w).alloc _
 have r1 := (hW.look mn hs).2 j hat
 have c1 := fun wx => isNameV mt wx (by unfold maxLen at ht; omega)
 rw [hno] at c1
 have hbq := toList_beq mt mn
 rw [decide_eq_false hne] at hbq
 have r2 := fun ty => hW.del mn hs ty
 have hwl := without_len l mn
 have XX : Hid (∀ w3, NT w3 b (without l mn) → ∃ w4, (Instr.mapUpdate 117 (.map (some b)) (.string mt) (.int .i64 (l.getD j default).id)).run Tryz.prog w3 = .ok () w4 ∧ NT w4 b (withL (without l mn) ⟨mt, (l.getD j default).id⟩) ∧ But (fun i => i = b) w3 w4 ∧ w4.heap.size = w3.heap.size) := fun w3 h3 => h3.put mt _ ht (by unfold maxLen; omega)
 have kb := (Blk.new w #[.int .i64 2, .string mn, .string mt, .int .i64 0] 94)
 have hne2 : w.heap.size ≠ b := fun e => by have := HH.out.lt; omega
 generalize (l.getD j default).id = li at *
 clear h hs ht hl hat hno hne hwl
 obtain ⟨w3, r3, hN, hB, _⟩ := r2 0
 obtain ⟨w4, r4, hN4, hB4, _⟩ := XX.out w3 hN
 have k3 := hB.blk kb hne2
 have x2 := k3.cell 2 _ rfl
 have B1 : Hid (But (fun i => i = b) w w4) := (B0.out.trans hB (fun _ _ k => k)).trans hB4 (fun _ _ k => k)
 have N1 : Hid (NT w4 b (withL (without l mn) ⟨mt, li⟩)) := hN4
 clear r2 hB hN hB4 hN4 k3 kb hne2 XX HH hW
 go_enter Tryz.func95, Tryz.ntmps95
 go_wp2_with fail
 refine (c1 _).mono ?_
 rintro e w1 ⟨rfl, rfl⟩
 go_wp2_with fail
 go_ret
 exact ⟨rfl, N1.out, B1.out⟩
set_option maxRecDepth 20000 in
set_option maxHeartbeats 1000000 in
theorem iap_3a (l : List Lnk) (b : Nat) (mn mt : ByteArray) (mi : Int) (w : World) (h : NT w b l) (hl : l.length ≤ 1000) (hs : mn.size ≤ maxLen) (ht : mt.size ≤ maxLen) (hat : linkAt l mn = none) :
  Calls Tryz.prog 95 #[.map (some b), .agg #[.int .i64 3, .string mn, .string mt, .int .i64 mi]] w fun e w' => e = .returned (.bool false) ∧ NT w' b l ∧ But (fun i => i = b) w w' := by
 have HH : Hid (NT w b l) := h
 have hW : NT (w.alloc (.cells #[.int .i64 3, .string mn, .string mt, .int .i64 mi] 94)) b l := h.on ((Below.refl _ w).alloc (Nat.le_refl _) _) h.lt
 have B0 : Hid (But (fun i => i = b) w (w.alloc (.cells #[.int .i64 3, .string mn, .string mt, .int .i64 mi] 94))) := (But.refl _ w).alloc _
 have r1 := (hW.look mn hs).1 hat
 have HW : Hid (NT (w.alloc (.cells #[.int .i64 3, .string mn, .string mt, .int .i64 mi] 94)) b l) := hW
 clear h hW
 clear hs ht hl hat
 go_enter Tryz.func95, Tryz.ntmps95
 go_wp2_with fail
 go_ret
 exact ⟨rfl, HW.out, B0.out⟩
set_option maxRecDepth 20000 in
set_option maxHeartbeats 1000000 in
theorem iap_3b (l : List Lnk) (b : Nat) (mn mt : ByteArray) (mi : Int) (w : World) (h : NT w b l) (hl : l.length ≤ 1000) (hs : mn.size ≤ maxLen) (ht : mt.size ≤ maxLen) (j : Nat) (hat : linkAt l mn = some j) (hto : ¬ mt.size = 0) :
  Calls Tryz.prog 95 #[.map (some b), .agg #[.int .i64 3, .string mn, .string mt, .int .i64 mi]] w fun e w' => e = .returned (.bool false) ∧ NT w' b l ∧ But (fun i => i = b) w w' := by
 have HH : Hid (NT w b l) := h
 have hW : NT (w.alloc (.cells #[.int .i64 3, .string mn, .string mt, .int .i64 mi] 94)) b l := h.on ((Below.refl _ w).alloc (Nat.le_refl _) _) h.lt
 have B0 : Hid (But (fun i => i = b) w (w.alloc (.cells #[.int .i64 3, .string mn, .string mt, .int .i64 mi] 94))) := (But.refl _ w).alloc _
 have r1 := (hW.look mn hs).2 j hat
 have t1 := isEmpty_no mt hto
 have t2 : ¬ mt.toList = [] := fun h => by rw [h] at t1; cases t1
 have HW : Hid (NT (w.alloc (.cells #[.int .i64 3, .string mn, .string mt, .int .i64 mi] 94)) b l) := hW
 clear h hW
 clear hs ht hl hat hto
 go_enter Tryz.func95, Tryz.ntmps95
 go_wp2_with fail
 go_ret
 exact ⟨rfl, HW.out, B0.out⟩
set_option maxRecDepth 20000 in
set_option maxHeartbeats 1000000 in
theorem iap_3c (l : List Lnk) (b : Nat) (mn : ByteArray) (mi : Int) (w : World) (h : NT w b l) (hl : l.length ≤ 1000) (hs : mn.size ≤ maxLen) (j : Nat) (hat : linkAt l mn = some j) (hi : ¬ mi = 0) :
  Calls Tryz.prog 95 #[.map (some b), .agg #[.int .i64 3, .string mn, .string ⟨#[]⟩, .int .i64 mi]] w fun e w' => e = .returned (.bool false) ∧ NT w' b l ∧ But (fun i => i = b) w w' := by
 have HH : Hid (NT w b l) := h
 have hW : NT (w.alloc (.cells #[.int .i64 3, .string mn, .string ⟨#[]⟩, .int .i64 mi] 94)) b l := h.on ((Below.refl _ w).alloc (Nat.le_refl _) _) h.lt
 have B0 : Hid (But (fun i => i = b) w (w.alloc (.cells #[.int .i64 3, .string mn, .string ⟨#[]⟩, .int .i64 mi] 94))) := (But.refl _ w).alloc _
 have r1 := (hW.look mn hs).2 j hat
 have z6 : (mi != 0) = true := by simp only [bne_iff_ne, ne_eq]; exact hi
 have z5 : (mi == 0) = false := by simp only [beq_eq_false_iff_ne, ne_eq]; exact hi
 have HW : Hid (NT (w.alloc (.cells #[.int .i64 3, .string mn, .string ⟨#[]⟩, .int .i64 mi] 94)) b l) := hW
 clear h hW
 clear hs hl hat hi
 go_enter Tryz.func95, Tryz.ntmps95
 go_wp2_with fail
 go_ret
 exact ⟨rfl, HW.out, B0.out⟩
set_option maxRecDepth 20000 in
set_option maxHeartbeats 1000000 in
theorem iap_3d (l : List Lnk) (b : Nat) (mn : ByteArray) (w : World) (h : NT w b l) (hl : l.length ≤ 1000) (hs : mn.size ≤ maxLen) (j : Nat) (hat : linkAt l mn = some j) :
  Calls Tryz.prog 95 #[.map (some b), .agg #[.int .i64 3, .string mn, .string ⟨#[]⟩, .int .i64 0]] w fun e w' => e = .returned (.bool true) ∧ NT w' b (without l mn) ∧ But (fun i => i = b) w w' := by
 have HH : Hid (NT w b l) := h
 have hW : NT (w.alloc (.cells #[.int .i64 3, .string mn, .string ⟨#[]⟩, .int .i64 0] 94)) b l := h.on ((Below.refl _ w).alloc (Nat.le_refl _) _) h.lt
 have B0 : Hid (But (fun i => i = b) w (w.alloc (.cells #[.int .i64 3, .string mn, .string ⟨#[]⟩, .int .i64 0] 94))) := (But.refl _ w).alloc _
 have r1 := (hW.look mn hs).2 j hat
 obtain ⟨w3, r3, hN, hB, _⟩ := hW.del mn hs 0
 have B1 : Hid (But (fun i => i = b) w w3) := B0.out.trans hB (fun _ _ k => k)
 have N1 : Hid (NT w3 b (without l mn)) := hN
 clear h hW hB hN hs hl hat
 go_enter Tryz.func95, Tryz.ntmps95
 go_wp2_with fail
 go_ret
 exact ⟨rfl, N1.out, B1.out⟩
set_option maxRecDepth 20000 in
set_option maxHeartbeats 1000000 in
theorem iap_0 (l : List Lnk) (b : Nat) (mn mt : ByteArray) (mk : Int) (mi : Int) (w : World) (h : NT w b l) (hl : l.length ≤ 1000) (hs : mn.size ≤ maxLen) (ht : mt.size ≤ maxLen) (h1 : ¬ mk = 1) (h2 : ¬ mk = 2) (h3 : ¬ mk = 3) :
  Calls Tryz.prog 95 #[.map (some b), .agg #[.int .i64 mk, .string mn, .string mt, .int .i64 mi]] w fun e w' => e = .returned (.bool false) ∧ NT w' b l ∧ But (fun i => i = b) w w' := by
 have HH : Hid (NT w b l) := h
 have hW : NT (w.alloc (.cells #[.int .i64 mk, .string mn, .string mt, .int .i64 mi] 94)) b l := h.on ((Below.refl _ w).alloc (Nat.le_refl _) _) h.lt
 have B0 : Hid (But (fun i => i = b) w (w.alloc (.cells #[.int .i64 mk, .string mn, .string mt, .int .i64 mi] 94))) := (But.refl _ w).alloc _
 have r0 : ∃ c q, (Instr.lookup 117 (.map (some b)) (.string mn) true).run Tryz.prog (w.alloc (.cells #[.int .i64 mk, .string mn, .string mt, .int .i64 mi] 94)) = .ok (.tuple #[.int .i64 c, .bool q]) (w.alloc (.cells #[.int .i64 mk, .string mn, .string mt, .int .i64 mi] 94)) := by
  rcases hat : linkAt l mn with _ | j
  ·exact ⟨_, _, (hW.look mn hs).1 hat⟩
  ·exact ⟨_, _, (hW.look mn hs).2 j hat⟩
 obtain ⟨c, q, r1⟩ := r0
 have z1 : (mk == 1) = false := by simp only [beq_eq_false_iff_ne, ne_eq]; exact h1
 have z2 : (mk == 2) = false := by simp only [beq_eq_false_iff_ne, ne_eq]; exact h2
 have z3 : (mk == 3) = false := by simp only [beq_eq_false_iff_ne, ne_eq]; exact h3
 have HW : Hid (NT (w.alloc (.cells #[.int .i64 mk, .string mn, .string mt, .int .i64 mi] 94)) b l) := hW
 clear h hW
 clear hs ht hl h1 h2 h3
 go_enter Tryz.func95, Tryz.ntmps95
 go_wp2_with fail
 go_ret
 exact ⟨rfl, HW.out, B0.out⟩
theorem applyI (l : List Lnk) (b : Nat) (m : Mov) (w : World) (h : NT w b l) (hl : l.length ≤ 1000) (hok : NamesOk l) (hs : m.name.size ≤ maxLen) (ht : m.to.size ≤ maxLen) :
  Calls Tryz.prog 95 #[.map (some b), movV m] w fun e w' => e = .returned (.bool (apply l m).isSome) ∧ NT w' b ((apply l m).getD l) ∧ But (fun i => i = b) w w' := by
 obtain ⟨mk, mn, mt, mi⟩ := m
 simp only at hs ht
 unfold movV
 simp only
 by_cases h1 : mk = 1
 ·subst h1
  rcases hat : linkAt l mn with _ | j
  ·cases hno : nameOk mn with
   | false => rw [apply_bad (m := ⟨1, mn, mt, mi⟩) hno]; exact iap_1b l b mn mt mi w h hl hs ht hat hno
   | true =>
    by_cases hto : mt.size = 0
    ·rw [apply_make hno hto hat]
     obtain rfl := empty_of mt hto
     exact iap_1d l b mn mi w h hl hs hat hno
    ·rw [apply_none (m := ⟨1, mn, mt, mi⟩) hat (fun k => hto k.2)]; exact iap_1c l b mn mt mi w h hl hs ht hat hno hto
  ·rw [apply_some (m := ⟨1, mn, mt, mi⟩) hat (fun k => absurd k.1 (by simp)) (fun k => absurd k.1 (by simp))]; exact iap_1a l b mn mt mi w h hl hs ht j hat
 ·by_cases h2 : mk = 2
  ·subst h2
   rcases hat : linkAt l mn with _ | j
   ·rw [apply_none (m := ⟨2, mn, mt, mi⟩) hat (fun k => absurd k.1 (by simp))]; exact iap_2a l b mn mt mi w h hl hs ht hat
   ·have hnm := hok.at hat
    cases hno : nameOk mt with
    | false => rw [apply_some (m := ⟨2, mn, mt, mi⟩) hat (fun k => by rw [hno] at k; exact absurd k.2.2.1 (by simp)) (fun k => absurd k.1 (by simp))]; exact iap_2b l b mn mt mi w h hl hs ht j hat hno
    | true =>
     by_cases heq : mt = mn
     ·rw [apply_some (m := ⟨2, mn, mt, mi⟩) hat (fun k => k.2.2.2 heq) (fun k => absurd k.1 (by simp))]; exact iap_2c l b mn mt mi w h hl hs ht j hat hno heq
     ·by_cases hi : mi = 0
      ·subst hi
       rw [apply_name hnm hat hno heq]
       exact iap_2e l b mn mt w h hl hs ht j hat hno heq
      ·rw [apply_some (m := ⟨2, mn, mt, mi⟩) hat (fun k => hi k.2.1) (fun k => absurd k.1 (by simp))]; exact iap_2d l b mn mt mi w h hl hs ht j hat hno heq hi
  ·by_cases h3 : mk = 3
   ·subst h3
    rcases hat : linkAt l mn with _ | j
    ·rw [apply_none (m := ⟨3, mn, mt, mi⟩) hat (fun k => absurd k.1 (by simp))]; exact iap_3a l b mn mt mi w h hl hs ht hat
    ·have hnm := hok.at hat
     by_cases hto : mt.size = 0
     ·by_cases hi : mi = 0
      ·subst hi
       rw [apply_drop hnm hat hto]
       obtain rfl := empty_of mt hto
       exact iap_3d l b mn w h hl hs j hat
      ·rw [apply_some (m := ⟨3, mn, mt, mi⟩) hat (fun k => absurd k.1 (by simp)) (fun k => hi k.2.1)]
       obtain rfl := empty_of mt hto
       exact iap_3c l b mn mi w h hl hs j hat hi
     ·rw [apply_some (m := ⟨3, mn, mt, mi⟩) hat (fun k => absurd k.1 (by simp)) (fun k => hto k.2.2)]; exact iap_3b l b mn mt mi w h hl hs ht j hat hto
   ·rcases hat : linkAt l mn with _ | j
    ·rw [apply_none (m := ⟨mk, mn, mt, mi⟩) hat (fun k => h1 k.1)]; exact iap_0 l b mn mt mk mi w h hl hs ht h1 h2 h3
    ·rw [apply_some (m := ⟨mk, mn, mt, mi⟩) hat (fun k => h2 k.1) (fun k => h3 k.1)]; exact iap_0 l b mn mt mk mi w h hl hs ht h1 h2 h3
end Go.Proofs.YtdimaoloapbeoaaGreatDoor
