/- DkName ImSpare DkPut DkTo -/
import Derived.Test.YtepffbgelaajnaaGreatDoorRows
import Derived.Test.YtepffbgelaajnaaGreatDoorQn1
import Derived.Test.YtepffbgelaajnaaGreatDoorQn0
namespace Go.Proofs.YtepffbgelaajnaaGreatDoor
open Go.ChangeShapes Go.WideShapes Go.ChangeAt Go.RowKit Go.PlainAid
set_option linter.unusedVariables false
theorem name_yes (s : ByteArray) (h1 : 1 ≤ s.size) (h2 : s.size ≤ 12) (h : ∀ j, j < s.size → nameB (bn s j) = true) : nameOk s = true := by
 unfold nameOk
 rw [decide_eq_true h1, decide_eq_true h2]
 simp only [Bool.true_and, List.all_eq_true, List.mem_range]
 exact h
theorem name_no (s : ByteArray) (k : Nat) (hk : k < s.size) (h : nameB (bn s k) = false) : nameOk s = false := by
 unfold nameOk
 have : ((List.range s.size).all fun j => nameB (bn s j)) = false := by
  rw [List.all_eq_false]
  exact ⟨k, List.mem_range.2 hk, by rw [h]; exact Bool.false_ne_true⟩
 rw [this, Bool.and_false]
theorem name_out (s : ByteArray) (h : s.size < 1 ∨ 12 < s.size) : nameOk s = false := by
 unfold nameOk
 rcases h with h | h
 ·rw [decide_eq_false (show ¬ 1 ≤ s.size by omega)]; rfl
 ·rw [decide_eq_false (show ¬ s.size ≤ 12 by omega), Bool.and_false]; rfl
set_option maxHeartbeats 1000000 in
theorem nameV (s : ByteArray) (w : World) (hs : s.size ≤ 9223372036854775807) :
  Calls Tryz.prog 60 #[.string s] w fun e w' => e = .returned (.bool (nameOk s)) ∧ w = w' := by
 have hbt := get_bn s
 have c1 := inB (s.size : Int) 1 12 w
 by_cases h : s.size < 1 ∨ 12 < s.size
 ·have HY : Hid (nameOk s = false) := name_out s h
  have hz : (decide ((1 : Int) ≤ (s.size : Int)) && decide ((s.size : Int) ≤ 12)) = false := by
   rcases h with h | h
   ·rw [decide_eq_false (by omega)]; rfl
   ·rw [decide_eq_false (show ¬ (s.size : Int) ≤ 12 by omega), Bool.and_false]
  rw [hz] at c1
  clear h hz
  go_enter Tryz.func60, Tryz.ntmps60
  go_wp2_with fail
  refine c1.mono ?_
  rintro e w1 ⟨rfl, rfl⟩
  go_wp2_with fail
  go_ret
  exact ⟨by rw [HY.out]; rfl, rfl⟩
 ·have hz : (decide ((1 : Int) ≤ (s.size : Int)) && decide ((s.size : Int) ≤ 12)) = true := by rw [decide_eq_true (by omega), decide_eq_true (by omega)]; rfl
  rw [hz] at c1
  have q1 : (s.size : Int) ≤ 12 := by omega
  have HS1 : Hid (1 ≤ s.size) := by unfold Hid; omega
  have HS2 : Hid (s.size ≤ 12) := by unfold Hid; omega
  clear h hz hs
  go_enter Tryz.func60, Tryz.ntmps60
  go_wp2_with fail
  refine c1.mono ?_
  rintro e w1 ⟨rfl, rfl⟩
  go_wp2_with fail
  go_loop [3] (fun v3 => ∃ k : Nat, k ≤ s.size ∧ v3 = .int .i64 (k : Int) ∧ ∀ j, j < k → nameB (bn s j) = true) (fun i => s.size - (intOf i).toNat)
  case atStart => exact ⟨0, by omega, rfl, fun j hj => by omega⟩
  case round =>
   obtain ⟨k, hk, rfl, hno⟩ := hrel
   have HN : Hid (∀ j, j < k → nameB (bn s j) = true) := hno
   clear hno
   by_cases hlt : k < s.size
   ·have q4 : (k : Int) < (s.size : Int) := by omega
    have hb := bn_lt s k
    have hbk := hbt k hlt
    clear hbt
    by_cases hok : nameB (bn s k) = true
    ·have HE : Hid (∀ j, j < k + 1 → nameB (bn s j) = true) := less_succ HN.out hok
     generalize bn s k = b at *
     have hc : (97 ≤ b ∧ b ≤ 122) ∨ (48 ≤ b ∧ b ≤ 57) ∨ b = 46 := by
      unfold nameB at hok
      simp at hok
      omega
     clear hok
     rcases hc with hc | hc | hc
     ·have z1 : decide ((97 : Int) ≤ (b : Int)) = true := decide_eq_true (by omega)
      have z2 : decide ((b : Int) ≤ 122) = true := decide_eq_true (by omega)
      have y1 : (97 : Int) ≤ (b : Int) := by omega
      have y2 : (b : Int) ≤ 122 := by omega
      clear hc
      go_wp2_with fail
      go_round
      case rel => exact ⟨k + 1, by omega, by go_num, HE.out⟩
      case measure => simp [intOf]; omega
     ·have z1 : decide ((97 : Int) ≤ (b : Int)) = false := decide_eq_false (by omega)
      have z3 : decide ((48 : Int) ≤ (b : Int)) = true := decide_eq_true (by omega)
      have z4 : decide ((b : Int) ≤ 57) = true := decide_eq_true (by omega)
      have y1 : (b : Int) < 97 := by omega
      have y2 : (48 : Int) ≤ (b : Int) := by omega
      have y3 : (b : Int) ≤ 57 := by omega
      clear hc
      go_wp2_with fail
      go_round
      case rel => exact ⟨k + 1, by omega, by go_num, HE.out⟩
      case measure => simp [intOf]; omega
     ·subst hc
      go_wp2_with fail
      go_round
      case rel => exact ⟨k + 1, by omega, by go_num, HE.out⟩
      case measure => simp [intOf]; omega
    ·have hok2 : nameB (bn s k) = false := by simpa using hok
     have HY : Hid (nameOk s = false) := name_no s k hlt hok2
     generalize bn s k = b at *
     have hc : 122 < b ∨ (b < 97 ∧ 57 < b) ∨ (b < 48 ∧ b ≠ 46) := by
      unfold nameB at hok2
      simp at hok2
      omega
     clear hok hok2
     rcases hc with hc | hc | hc
     ·have z1 : decide ((97 : Int) ≤ (b : Int)) = true := decide_eq_true (by omega)
      have z2 : decide ((b : Int) ≤ 122) = false := decide_eq_false (by omega)
      have z3 : decide ((48 : Int) ≤ (b : Int)) = true := decide_eq_true (by omega)
      have z4 : decide ((b : Int) ≤ 57) = false := decide_eq_false (by omega)
      have z5 : ((b : Int) == 46) = false := by simp only [beq_eq_false_iff_ne, ne_eq]; omega
      have y1 : (122 : Int) < (b : Int) := by omega
      clear hc
      go_wp2_with fail
      go_ret
      exact ⟨by rw [HY.out]; rfl, rfl⟩
     ·have z1 : decide ((97 : Int) ≤ (b : Int)) = false := decide_eq_false (by omega)
      have z3 : decide ((48 : Int) ≤ (b : Int)) = true := decide_eq_true (by omega)
      have z4 : decide ((b : Int) ≤ 57) = false := decide_eq_false (by omega)
      have z5 : ((b : Int) == 46) = false := by simp only [beq_eq_false_iff_ne, ne_eq]; omega
      have y1 : (b : Int) < 97 := by omega
      have y2 : (57 : Int) < (b : Int) := by omega
      clear hc
      go_wp2_with fail
      go_ret
      exact ⟨by rw [HY.out]; rfl, rfl⟩
     ·have z1 : decide ((97 : Int) ≤ (b : Int)) = false := decide_eq_false (by omega)
      have z3 : decide ((48 : Int) ≤ (b : Int)) = false := decide_eq_false (by omega)
      have z5 : ((b : Int) == 46) = false := by simp only [beq_eq_false_iff_ne, ne_eq]; omega
      have y1 : (b : Int) < 48 := by omega
      have y2 : ¬ (b : Int) = 46 := by omega
      clear hc
      go_wp2_with fail
      go_ret
      exact ⟨by rw [HY.out]; rfl, rfl⟩
   ·obtain rfl : k = s.size := by omega
    have HY : Hid (nameOk s = true) := name_yes s HS1.out HS2.out HN.out
    go_wp2_with fail
    go_ret
    exact ⟨by rw [HY.out]; rfl, rfl⟩
theorem bytesOf_snoc (l : List Nod) (k : Nat) (h : k < l.length) : bytesOf (l.take (k + 1)) = bytesOf (l.take k) + (l.getD k default).data.size := by
 rw [← getD_at l k h]
 induction l generalizing k with
 | nil => simp at h
 | cons x r ih =>
  cases k with
  | zero => simp [bytesOf]
  | succ k => simp only [List.take_succ_cons, bytesOf, List.getElem_cons_succ]; rw [ih k (by simpa using h)]; omega
theorem bytesOf_le (l : List Nod) (k : Nat) : bytesOf (l.take k) ≤ bytesOf l := by
 induction l generalizing k with
 | nil => simp [bytesOf]
 | cons x r ih =>
  cases k with
  | zero => simp [bytesOf]
  | succ k => simp only [List.take_succ_cons, bytesOf]; have := ih k; omega
set_option maxHeartbeats 1000000 in
theorem bytesV (d : Dsk) (v : Value) (w : World) (B : Nat) (hv : DiskV w B v d) (hn : d.nods.length ≤ 1048576) (hs : bytesOf d.nods ≤ 4194304) (hB : B ≤ w.heap.size) :
  Calls Tryz.prog 57 #[v] w fun e w' => e = .returned (.int .i64 (bytesOf d.nods : Int)) ∧ Below w.heap.size w w' := by
 obtain ⟨v1, v2, v3, rfl, h1, h2, h3⟩ := hv
 obtain ⟨A, cap, rfl, hl⟩ := nod_look h1
 have HL : Hid (∀ j, j < d.nods.length → ∃ g off, A = some ⟨g, off, none⟩ ∧ g < B ∧ _) := hl
 have HB : Hid (B ≤ w.heap.size) := hB
 have HS : Hid (bytesOf d.nods ≤ 4194304) := hs
 clear hl h1 h2 h3 hB hs
 have q1 : (d.nods.length : Int) ≤ 1048576 := by omega
 generalize hll : d.nods = l at *
 generalize hN : l.length = n at *
 go_enter Tryz.func57, Tryz.ntmps57
 go_wp2
 have hb0 : Below w.heap.size w (w.alloc (.cells #[.int .i64 d.room, .int .i64 d.next, .slice A n cap, v2, v3] 38)) := (Below.refl _ _).alloc (Nat.le_refl _) _
 have e0 := (Blk.new w #[.int .i64 d.room, .int .i64 d.next, .slice A n cap, v2, v3] 38).cell 2 _ rfl
 generalize w.alloc (.cells #[.int .i64 d.room, .int .i64 d.next, .slice A n cap, v2, v3] 38) = W at *
 have B0 : Hid (Below w.heap.size w W) := hb0
 clear hb0
 have e1 : W.cell? ⟨w.heap.size, 2, none⟩ = some (.slice A n cap) := e0
 clear e0
 go_loop [3, 4] (fun v3 v4 => ∃ k : Nat, k ≤ n ∧ v4 = .int .i64 (k : Int) ∧ v3 = .int .i64 (bytesOf (l.take k) : Int)) (fun _ i => n - (intOf i).toNat)
 case atStart => exact ⟨0, by omega, rfl, rfl⟩
 case round =>
  obtain ⟨k, hk, rfl, rfl⟩ := hrel
  have q5 : (bytesOf (l.take k) : Int) ≤ 4194304 := by have := bytesOf_le l k; have := HS.out; omega
  by_cases hlt : k < n
  ·have q4 : (k : Int) < (n : Int) := by omega
   obtain ⟨g, off, rfl, hg, hc0, hc1, hc2⟩ := HL.out k hlt
   have hgw : g < w.heap.size := Nat.lt_of_lt_of_le hg HB.out
   rw [← B0.out.cell (p := ⟨_, _, none⟩) hgw] at hc1
   have EB := bytesOf_snoc l k (by omega)
   have q6 : ((l.getD k default).data.size : Int) ≤ 4194304 := by have := bytesOf_le l (k + 1); have := HS.out; omega
   have EI : Hid ((bytesOf (l.take (k + 1)) : Int) = (bytesOf (l.take k) : Int) + ((l.getD k default).data.size : Int)) := by unfold Hid; rw [EB]; omega
   clear hc0 hc2 EB
   generalize (l.getD k default).data = x at *
   generalize bytesOf (l.take k) = y at *
   go_wp2
   go_round
   case rel => exact ⟨k + 1, by omega, by go_num, by rw [EI.out]⟩
   case measure => simp [intOf]; omega
  ·obtain rfl : k = n := by omega
   go_wp2
   go_ret
   exact ⟨by rw [← hN, List.take_length]; rfl, B0.out⟩
end Go.Proofs.YtepffbgelaajnaaGreatDoor
namespace Go.Proofs.YtepffbgelaajnaaGreatDoor
open Go.ChangeShapes Go.WideShapes Go.ChangeAt Go.RowKit Go.PlainAid Go.Maps
set_option linter.unusedVariables false
theorem ret_int {k : IntKind} {a b : Int} (h : a = b) : Ending.returned (.int k a) = .returned (.int k b) := by rw [h]
def prs (ns : List Nod) (gs : List Nat) : List (Int × Nat) := (ns.map (·.id)).zip gs
structure Held (w : World) (ns : List Nod) (gs : List Nat) : Prop where
 len : gs.length = ns.length
 blk : ∀ j, j < ns.length → Blk w (gs.getD j 0) #[.int .i64 (ns.getD j default).id, .string (ns.getD j default).data, .int .i64 (ns.getD j default).sure] 101
theorem Held.kept {w w' : World} {ns : List Nod} {gs : List Nat} (h : Held w ns gs) (hk : ∀ g ∈ gs, w'.heap[g]? = w.heap[g]?) : Held w' ns gs :=
 ⟨h.len, fun j hj => by
  unfold Blk
  rw [hk _ (by
   have hj' : j < gs.length := by rw [h.len]; exact hj
   rw [List.getD_eq_getElem?_getD, List.getElem?_eq_getElem hj']
   exact List.getElem_mem hj')]
  exact h.blk j hj⟩
theorem Held.lt {w : World} {ns : List Nod} {gs : List Nat} (h : Held w ns gs) : ∀ g ∈ gs, g < w.heap.size := fun g hg => by
 obtain ⟨j, hj, rfl⟩ := List.getElem_of_mem hg
 have := (h.blk j (by rw [← h.len]; exact hj)).lt
 rw [List.getD_eq_getElem?_getD, List.getElem?_eq_getElem hj] at this
 exact this
theorem Held.but {S : Nat → Prop} {w w' : World} {ns : List Nod} {gs : List Nat} (h : Held w ns gs) (hb : But S w w') (hn : ∀ g ∈ gs, ¬ S g) : Held w' ns gs := h.kept fun g hg => hb.block g (h.lt g hg) (hn g hg)
theorem Held.on {B : Nat} {w w' : World} {ns : List Nod} {gs : List Nat} (h : Held w ns gs) (hb : Below B w w') (hn : ∀ g ∈ gs, g < B) : Held w' ns gs := h.kept fun g hg => hb.block g (hn g hg)
def Rising (ns : List Nod) : Prop := ns.Pairwise fun a b => a.id < b.id
theorem prs_at {ns : List Nod} {gs : List Nat} {x : Int} {g : Nat} (h : ptrAt (prs ns gs) x = some g) : ∃ j, j < ns.length ∧ (ns.getD j default).id = x ∧ gs.getD j 0 = g := by
 unfold ptrAt prs at h
 rw [Option.map_eq_some_iff] at h
 obtain ⟨p, hp, rfl⟩ := h
 have h1 := List.find?_some hp
 have h2 := List.mem_of_find?_eq_some hp
 obtain ⟨j, hj, rfl⟩ := List.getElem_of_mem h2
 have hl : j < ns.length ∧ j < gs.length := by
  rw [List.length_zip, List.length_map] at hj
  omega
 refine ⟨j, hl.1, ?_, ?_⟩
 ·rw [← getD_at ns j hl.1]
  have := of_decide_eq_true h1
  rw [List.getElem_zip, List.getElem_map] at this
  exact this
 ·rw [List.getD_eq_getElem?_getD, List.getElem?_eq_getElem hl.2]
  rw [List.getElem_zip]
  rfl
def rem (left : Lit → Bool) : List Nod → Nat
 | [] => 0
 | x :: r => (if left (.int .i64 x.id) = true then x.data.size else 0) + rem left r
theorem rem_all {left : Lit → Bool} {ns : List Nod} (h : ∀ x ∈ ns, left (.int .i64 x.id) = true) : rem left ns = bytesOf ns := by
 induction ns with
 | nil => rfl
 | cons x r ih =>
  unfold rem bytesOf
  rw [if_pos (h x (by simp)), ih fun y hy => h y (by simp [hy])]
theorem rem_no {left : Lit → Bool} {ns : List Nod} (h : ∀ kl, left kl = false) : rem left ns = 0 := by
 induction ns with
 | nil => rfl
 | cons x r ih =>
  unfold rem
  rw [ih, if_neg (by rw [h]; exact Bool.false_ne_true)]
theorem rem_congr {p q : Lit → Bool} {ns : List Nod} (h : ∀ x ∈ ns, p (.int .i64 x.id) = q (.int .i64 x.id)) : rem p ns = rem q ns := by
 induction ns with
 | nil => rfl
 | cons x r ih =>
  unfold rem
  rw [h x (by simp), ih fun y hy => h y (by simp [hy])]
theorem rem_strike {left : Lit → Bool} : ∀ {ns : List Nod}, Rising ns → ∀ {j : Nat}, j < ns.length → left (.int .i64 (ns.getD j default).id) = true → rem left ns = rem (fun z => left z && !z.sameKey (.int .i64 (ns.getD j default).id)) ns + (ns.getD j default).data.size
 | [], _, j, hj, _ => by simp at hj
 | x :: r, hr, 0, _, hl => by
  have h1 := List.pairwise_cons.1 hr
  have e : (List.getD (x :: r) 0 default) = x := rfl
  rw [e] at hl ⊢
  unfold rem
  rw [if_pos hl, intK_same, decide_eq_true rfl, Bool.not_true, Bool.and_false, if_neg Bool.false_ne_true]
  have : rem left r = rem (fun z => left z && !z.sameKey (.int .i64 x.id)) r := rem_congr fun y hy => by
   rw [intK_same, decide_eq_false (by have := h1.1 y hy; omega)]
   simp
  omega
 | x :: r, hr, j + 1, hj, hl => by
  have h1 := List.pairwise_cons.1 hr
  have e : (List.getD (x :: r) (j + 1) default) = r.getD j default := rfl
  rw [e] at hl ⊢
  have ih := rem_strike h1.2 (show j < r.length by simpa using hj) hl
  unfold rem
  have hm := getD_mem r j (by simpa using hj)
  rw [intK_same, decide_eq_false (by have := h1.1 _ hm; omega), Bool.not_false, Bool.and_true]
  omega
theorem rem_le (left : Lit → Bool) : ∀ ns : List Nod, rem left ns ≤ bytesOf ns
 | [] => Nat.le_refl _
 | x :: r => by
  have := rem_le left r
  unfold rem bytesOf
  split <;> omega
theorem prs_has {ns : List Nod} {gs : List Nat} (hl : gs.length = ns.length) {x : Nod} (hx : x ∈ ns) : has (ptrD (prs ns gs)) (.int .i64 x.id) = true := by
 rw [ptrD_has]
 unfold ptrAt
 rw [Option.isSome_map, List.find?_isSome]
 obtain ⟨j, hj, rfl⟩ := List.getElem_of_mem hx
 refine ⟨(ns[j].id, gs[j]'(by omega)), ?_, by simp⟩
 unfold prs
 rw [List.mem_iff_getElem]
 exact ⟨j, by rw [List.length_zip, List.length_map]; omega, by rw [List.getElem_zip, List.getElem_map]⟩
theorem wpList_next_it {P : Program} (w : World) {ops : Array Oper} {rest : List Oper} {o : Oper} {a : Act} {Q : Exit → Act → World → Prop} (hg : o.guard = none) (it : Operand) (hop : o.op = Op.next it false) (k : TypeId) (hk : P.underlying k = some (.int .i64)) (b r n : Nat) (l : List (Int × Nat)) (left : Lit → Bool) (cnt : Nat)
  (hit : a.eval it = .pointer (some ⟨r, 0, none⟩)) (h : w.ranges P k ptrElem b r n (ptrD l) left cnt)
  (hDone : cnt = 0 → (∀ kl, left kl = false) → wpList P ops Q rest (a.put o.dst (.tuple #[.bool false])) w)
  (hMore : ∀ (x : Int) (g : Nat) (w' : World) (cnt' : Nat), left (.int .i64 x) = true → ptrAt l x = some g → w'.ranges P k ptrElem b r n (ptrD l) (fun z => left z && !z.sameKey (.int .i64 x)) cnt' → cnt' < cnt →
   w.grownBy w' (some r) → w'.heap.size = w.heap.size → (Instr.entry (.pointer (some ⟨r, 0, none⟩))).run P w' = .ok (.tuple #[.int .i64 x, .pointer (some ⟨g, 0, none⟩)]) w' → wpList P ops Q rest (a.put o.dst (.tuple #[.bool true, .int .i64 x, .pointer (some ⟨g, 0, none⟩)])) w') :
  wpList P ops Q (o :: rest) a w := by
 refine wpList_plain hg fun K' hK' => ?_
 unfold Oper.wp
 rcases h.next (int_keyed hk) o.type with ⟨h0, hl, hrun⟩ | ⟨key, v, kl, y, w', cnt', hkey, hlk, hv, hat, hrun, hrg, hlt, hgr, hsz, hen⟩
 ·simp [execOp, hop, hit, hrun, Result.andThen]
  exact hK' _ _ (hDone h0 hl)
 ·obtain ⟨x, rfl, rfl, _⟩ := Maps.keyOf_int_inv hk hkey
  obtain ⟨g, hg', rfl⟩ : ∃ g, ptrAt l x = some g ∧ v = .pointer (some ⟨g, 0, none⟩) := by
   have h1 := hat .nil
   have h2 := hat (.map [])
   rw [ptrD_at] at h1 h2
   rcases e : ptrAt l x with _ | g
   ·rw [e] at h1 h2
    rw [← h1] at h2
    cases h2
   ·rw [e] at h1
    refine ⟨g, rfl, ptrElem_inv (ps := y.2) ?_⟩
    rw [hv]
    exact congrArg some (Prod.ext h1.symm rfl)
  simp [execOp, hop, hit, hrun, Result.andThen]
  exact hK' _ _ (hMore x g w' cnt' hlk hg' hrg hlt hgr hsz hen)
set_option maxRecDepth 20000 in
set_option maxHeartbeats 1000000 in
theorem spareV (room next : Int) (v4 v5 v6 : Value) (p bi : Nat) (ns : List Nod) (gs : List Nat) (w : World) (hp : Blk w p #[.int .i64 room, .int .i64 next, .map (some bi), v4, v5, v6] 125) (hI : IT w bi (prs ns gs)) (hH : Held w ns gs) (hr : Rising ns)
  (h0 : 0 ≤ room) (h1 : room ≤ 1048576) (hs : bytesOf ns ≤ 4194304) :
  Calls Tryz.prog 98 #[.pointer (some ⟨p, 0, none⟩)] w fun e w' => e = .returned (.int .i64 (room - (bytesOf ns : Int))) ∧ Below w.heap.size w w' := by
 have HI := hI.tight
 have HH : Hid (Held w ns gs) := hH
 have HR : Hid (Rising ns) := hr
 have HS : Hid (bytesOf ns ≤ 4194304) := hs
 have HA : Hid (rem (has (ptrD (prs ns gs))) ns = bytesOf ns) := rem_all fun x hx => prs_has hH.len hx
 have hbl := hI.lt
 have y0 := hp.cell 0 _ rfl
 have y2 := hp.cell 2 _ rfl
 have q0 : (bytesOf ns : Int) ≤ 4194304 := by omega
 clear hp hI hH hr hs
 go_enter Tryz.func98, Tryz.ntmps98
 go_wp2_with (at_range; refine wpList_range_own _ rfl _ 121 rfl 3 128 (int_keyed Tryz.underlying3) Tryz.underlying121 _ bi _ _ rfl HI ?_; intro w0 hrg0 hg0 hs0)
 go_frame
 have B0 : Hid (Below w.heap.size w w0) := (Below.refl _ w).grown hg0 (Nat.le_refl _) (fun j hj => by cases hj)
 have RG : Hid (w0.ranges Tryz.prog 3 ptrElem bi w.heap.size (prs ns gs).length (ptrD (prs ns gs)) (has (ptrD (prs ns gs))) (Maps.size (ptrD (prs ns gs)))) := hrg0
 clear hrg0 hg0 hs0 y0 y2 HI
 go_loopw [3] (fun v3 wr => ∃ (left : Lit → Bool) (cnt : Nat), wr.ranges Tryz.prog 3 ptrElem bi w.heap.size (prs ns gs).length (ptrD (prs ns gs)) left cnt ∧ v3 = .int .i64 (room - (bytesOf ns : Int) + (rem left ns : Int)) ∧ Below w.heap.size w wr)
  (fun _ wr => wr.rangeLeft bi w.heap.size)
 case atStart => exact ⟨_, _, RG.out, by rw [HA.out]; congr 1; omega, B0.out⟩
 case round =>
  obtain ⟨left, cnt, hrg, rfl, hb⟩ := hrel
  have HB : Hid (Below w.heap.size w wr) := hb
  have hle := rem_le left ns
  have q1 : (rem left ns : Int) ≤ 4194304 := by omega
  clear hb hle
  go_wp2_with (at_next; refine wpList_next_it _ rfl _ rfl 3 Tryz.underlying3 bi w.heap.size _ _ _ _ rfl hrg ?_ ?_)
  ·intro hc0 hl0
   have HZ : Hid (rem left ns = 0) := rem_no hl0
   clear hl0 hc0
   go_wp2_with fail
   go_ret
   exact ⟨ret_int (by rw [HZ.out]; omega), HB.out⟩
  ·intro x g w1 cnt1 hlx hat hrg1 hlt hg1 hs1 hen
   obtain ⟨j, hj, hx, hgj⟩ := prs_at hat
   have HE : Hid (rem left ns = rem (fun z => left z && !z.sameKey (.int .i64 x)) ns + (ns.getD j default).data.size) := by
    unfold Hid
    rw [← hx]
    exact rem_strike HR.out hj (by rw [hx]; exact hlx)
   have B1 : Hid (Below w.heap.size w w1) := HB.out.grown hg1 HB.out.size (fun i hi => by cases hi; exact Nat.le_refl _)
   have hk := HH.out.blk j hj
   rw [hgj] at hk
   have hk1 := hk.on B1.out hk.lt
   have x1 := hk1.cell 1 _ rfl
   have R1 : Hid (w1.ranges Tryz.prog 3 ptrElem bi w.heap.size (prs ns gs).length (ptrD (prs ns gs)) (fun z => left z && !z.sameKey (.int .i64 x)) cnt1) := hrg1
   have R0 : Hid (wr.ranges Tryz.prog 3 ptrElem bi w.heap.size (prs ns gs).length (ptrD (prs ns gs)) left cnt) := hrg
   have hsz : ((ns.getD j default).data.size : Int) ≤ 4194304 := by have := HE.out; omega
   have HLT : Hid (cnt1 < cnt) := hlt
   have EI : Hid ((rem left ns : Int) = (rem (fun z => left z && !z.sameKey (.int .i64 x)) ns : Int) + ((ns.getD j default).data.size : Int)) := by unfold Hid; rw [HE.out]; omega
   clear hrg1 hrg hlt hg1 hs1 hk hk1 hlx hat hx hgj HE hj
   generalize (ns.getD j default).data = dt at *
   generalize hre : rem left ns = re at *
   generalize hrf : rem (fun z => left z && !z.sameKey (.int .i64 x)) ns = rf at *
   go_wp2_with fail
   go_roundw
   case rel => exact ⟨_, cnt1, R1.out, by rw [hrf]; congr 1; have := EI.out; omega, B1.out⟩
   case measure => rw [R1.out.left_eq, R0.out.left_eq]; exact HLT.out
end Go.Proofs.YtepffbgelaajnaaGreatDoor
namespace Go.Proofs.YtepffbgelaajnaaGreatDoor
open Go.RowKit Go.PlainAid
theorem flat_parts (sz : Nat) (rows : List (List Value)) (hs : ∀ r ∈ rows, r.length = sz) (k : Nat) (hk : k < rows.length) :
  ∃ F1 F2 : List Value, F1.length = k * sz ∧ rows.flatten = F1 ++ (rows[k] ++ F2) ∧ ∀ r, (rows.set k r).flatten = F1 ++ (r ++ F2) := by
 refine ⟨(rows.take k).flatten, (rows.drop (k + 1)).flatten, ?_, ?_, ?_⟩
 ·rw [flat_length sz _ (fun r hr => hs r (List.mem_of_mem_take hr)), List.length_take, Nat.min_eq_left (by omega)]
 ·conv => lhs; rw [← List.take_append_drop k rows, List.drop_eq_getElem_cons hk]
  rw [List.flatten_append, List.flatten_cons]
 ·intro r
  rw [List.set_eq_take_append_cons_drop, if_pos hk, List.flatten_append, List.flatten_cons]
theorem set_len {rows : List (List Value)} {sz k : Nat} {r : List Value} (hs : ∀ r ∈ rows, r.length = sz) (hr : r.length = sz) : ∀ x ∈ rows.set k r, x.length = sz := by
 intro x hx
 rcases List.mem_or_eq_of_mem_set hx with h | rfl
 ·exact hs x h
 ·exact hr
section
variable {w : World} {base : Nat} {e : TypeId} {sz g cap : Nat} {rows : List (List Value)}
theorem Owns.cellX (h : Owns w base e sz (.slice (some ⟨g, 0, none⟩) rows.length cap) rows) (k f : Nat) (hk : k < rows.length) (hf : f < sz) : ∃ y, w.cell? ⟨g, k * sz + f, none⟩ = some y := by
 have hlt : k * sz + f < rows.length * sz := by
  have : (k + 1) * sz ≤ rows.length * sz := Nat.mul_le_mul_right sz hk
  rw [Nat.succ_mul] at this
  omega
 rw [World.ownsRow.cellAt h.2 (k * sz + f) hlt]
 exact ⟨_, List.getElem?_eq_getElem (by rw [h.2.1]; exact hlt)⟩
theorem Owns.free (h : Owns w base e sz (.slice (some ⟨g, 0, none⟩) rows.length cap) rows) (j : Nat) : w.frozen? ⟨g, j, none⟩ = false := World.ownsRow.frozenAt h.2 j
theorem Owns.put2 (h : Owns w base e 2 (.slice (some ⟨g, 0, none⟩) rows.length cap) rows) (k : Nat) (hk : k < rows.length) (a b : Value) :
  Owns ((w.setCell ⟨g, k * 2, none⟩ a).setCell ⟨g, k * 2 + 1, none⟩ b) base e 2 (.slice (some ⟨g, 0, none⟩) rows.length cap) (rows.set k [a, b]) := by
 have h1 := (World.ownsRow.stored h.2 (k * 2) a).1
 have h2 := (World.ownsRow.stored h1 (k * 2 + 1) b).1
 refine ⟨set_len h.1 rfl, ?_⟩
 rw [List.length_set]
 obtain ⟨F1, F2, l1, e1, e2⟩ := flat_parts 2 rows h.1 k hk
 have hr := h.1 rows[k] (List.getElem_mem hk)
 obtain ⟨x, y, hxy⟩ : ∃ x y, rows[k] = [x, y] := by
  match hh : rows[k], hr with
  | [x, y], _ => exact ⟨x, y, rfl⟩
 rw [e2]
 rw [e1, hxy] at h2
 have : ((F1 ++ ([x, y] ++ F2)).set (k * 2) a).set (k * 2 + 1) b = F1 ++ ([a, b] ++ F2) := by
  rw [← l1, List.set_append_right _ _ (by omega), List.set_append_right _ _ (by omega)]
  simp
 rw [this] at h2
 exact h2
theorem Owns.put3 (h : Owns w base e 3 (.slice (some ⟨g, 0, none⟩) rows.length cap) rows) (k : Nat) (hk : k < rows.length) (a b c : Value) :
  Owns (((w.setCell ⟨g, k * 3, none⟩ a).setCell ⟨g, k * 3 + 1, none⟩ b).setCell ⟨g, k * 3 + 2, none⟩ c) base e 3 (.slice (some ⟨g, 0, none⟩) rows.length cap) (rows.set k [a, b, c]) := by
 have h1 := (World.ownsRow.stored h.2 (k * 3) a).1
 have h2 := (World.ownsRow.stored h1 (k * 3 + 1) b).1
 have h3 := (World.ownsRow.stored h2 (k * 3 + 2) c).1
 refine ⟨set_len h.1 rfl, ?_⟩
 rw [List.length_set]
 obtain ⟨F1, F2, l1, e1, e2⟩ := flat_parts 3 rows h.1 k hk
 have hr := h.1 rows[k] (List.getElem_mem hk)
 obtain ⟨x, y, z, hxy⟩ : ∃ x y z, rows[k] = [x, y, z] := by
  match hh : rows[k], hr with
  | [x, y, z], _ => exact ⟨x, y, z, rfl⟩
 rw [e2]
 rw [e1, hxy] at h3
 have : (((F1 ++ ([x, y, z] ++ F2)).set (k * 3) a).set (k * 3 + 1) b).set (k * 3 + 2) c = F1 ++ ([a, b, c] ++ F2) := by
  rw [← l1, List.set_append_right _ _ (by omega), List.set_append_right _ _ (by omega), List.set_append_right _ _ (by omega)]
  simp
 rw [this] at h3
 exact h3
theorem Owns.put4 (h : Owns w base e 4 (.slice (some ⟨g, 0, none⟩) rows.length cap) rows) (k : Nat) (hk : k < rows.length) (a b c d : Value) :
  Owns ((((w.setCell ⟨g, k * 4, none⟩ a).setCell ⟨g, k * 4 + 1, none⟩ b).setCell ⟨g, k * 4 + 2, none⟩ c).setCell ⟨g, k * 4 + 3, none⟩ d) base e 4 (.slice (some ⟨g, 0, none⟩) rows.length cap) (rows.set k [a, b, c, d]) := by
 have h1 := (World.ownsRow.stored h.2 (k * 4) a).1
 have h2 := (World.ownsRow.stored h1 (k * 4 + 1) b).1
 have h3 := (World.ownsRow.stored h2 (k * 4 + 2) c).1
 have h4 := (World.ownsRow.stored h3 (k * 4 + 3) d).1
 refine ⟨set_len h.1 rfl, ?_⟩
 rw [List.length_set]
 obtain ⟨F1, F2, l1, e1, e2⟩ := flat_parts 4 rows h.1 k hk
 have hr := h.1 rows[k] (List.getElem_mem hk)
 obtain ⟨x, y, z, t, hxy⟩ : ∃ x y z t, rows[k] = [x, y, z, t] := by
  match hh : rows[k], hr with
  | [x, y, z, t], _ => exact ⟨x, y, z, t, rfl⟩
 rw [e2]
 rw [e1, hxy] at h4
 have : ((((F1 ++ ([x, y, z, t] ++ F2)).set (k * 4) a).set (k * 4 + 1) b).set (k * 4 + 2) c).set (k * 4 + 3) d = F1 ++ ([a, b, c, d] ++ F2) := by
  rw [← l1, List.set_append_right _ _ (by omega), List.set_append_right _ _ (by omega), List.set_append_right _ _ (by omega), List.set_append_right _ _ (by omega)]
  simp
 rw [this] at h4
 exact h4
end
theorem set_self {R : List (List Value)} (j : Nat) (hj : j < R.length) : R.set j R[j] = R := List.set_getElem_self hj
section
variable {w : World} {base : Nat} {e : TypeId} {sz g cap n j : Nat} {R : List (List Value)} {r : List Value}
theorem Owns.pokeAt (h : Owns w base e sz (.slice (some ⟨g, 0, none⟩) n cap) (R.set j r)) (hn : R.length = n) (hj : j < n) (f : Nat) (hf : f < sz) (x : Value) :
  Owns (w.setCell ⟨g, j * sz + f, none⟩ x) base e sz (.slice (some ⟨g, 0, none⟩) n cap) (R.set j (r.set f x)) := by
 subst hn
 have hl : (R.set j r).length = R.length := List.length_set
 have h2 := h.2
 rw [hl] at h2
 have h1 := (World.ownsRow.stored h2 (j * sz + f) x).1
 obtain ⟨F1, F2, l1, e1, e2⟩ := flat_parts sz (R.set j r) h.1 j (by rw [hl]; exact hj)
 have hrr : (R.set j r)[j]'(by rw [hl]; exact hj) = r := by simp
 have hr : r.length = sz := by rw [← hrr]; exact h.1 _ (List.getElem_mem _)
 have e3 := e2 (r.set f x)
 rw [List.set_set] at e3
 refine ⟨?_, ?_⟩
 ·intro y hy
  obtain ⟨i, hi, rfl⟩ := List.getElem_of_mem hy
  have hi2 : i < R.length := by simpa using hi
  by_cases hij : i = j
  ·subst hij
   rw [List.getElem_set_self, List.length_set]
   exact hr
  ·have : (R.set j (r.set f x))[i]'hi = (R.set j r)[i]'(by rw [hl]; exact hi2) := by rw [List.getElem_set_ne (Ne.symm hij), List.getElem_set_ne (Ne.symm hij)]
   rw [this]
   exact h.1 _ (List.getElem_mem _)
 ·rw [List.length_set, e3]
  rw [e1, hrr] at h1
  have : (F1 ++ (r ++ F2)).set (j * sz + f) x = F1 ++ (r.set f x ++ F2) := by
   rw [← l1, List.set_append_right _ _ (by omega), List.set_append_left _ _ (by omega)]
   simp
  rw [this] at h1
  exact h1
theorem Owns.cellAt2 (h : Owns w base e sz (.slice (some ⟨g, 0, none⟩) n cap) (R.set j r)) (hn : R.length = n) (hj : j < n) (f : Nat) (hf : f < sz) : ∃ y, w.cell? ⟨g, j * sz + f, none⟩ = some y := by
 subst hn
 have hl : (R.set j r).length = R.length := List.length_set
 have h2 := h
 rw [← hl] at h2
 exact h2.cellX j f (by rw [hl]; exact hj) hf
theorem Owns.free2 (h : Owns w base e sz (.slice (some ⟨g, 0, none⟩) n cap) (R.set j r)) (hn : R.length = n) (k : Nat) : w.frozen? ⟨g, k, none⟩ = false := by
 subst hn
 have hl : (R.set j r).length = R.length := List.length_set
 have h2 := h
 rw [← hl] at h2
 exact h2.free k
end
def newR (f : Nat → List Value) (j : Nat) : List (List Value) := (List.range j).map f
theorem newR_length (f : Nat → List Value) (j : Nat) : (newR f j).length = j := by simp [newR]
def partR (f : Nat → List Value) (R : List (List Value)) (j : Nat) : List (List Value) := newR f j ++ R.drop j
theorem partR_zero (f : Nat → List Value) (R : List (List Value)) : partR f R 0 = R := by simp [partR, newR]
theorem partR_all (f : Nat → List Value) (R : List (List Value)) : partR f R R.length = newR f R.length := by simp [partR]
theorem partR_length (f : Nat → List Value) (R : List (List Value)) (j : Nat) (h : j ≤ R.length) : (partR f R j).length = R.length := by
 simp [partR, newR]
 omega
theorem partR_set (f : Nat → List Value) (R : List (List Value)) (j : Nat) (h : j < R.length) : (partR f R j).set j (f j) = partR f R (j + 1) := by
 unfold partR
 rw [List.set_append_right _ _ (by rw [newR_length]; omega), newR_length, Nat.sub_self, List.drop_eq_getElem_cons h, List.set_cons_zero]
 unfold newR
 rw [List.range_succ, List.map_append]
 simp
theorem fill_step (Z : List Value) (done : List (List Value)) (r : List Value) (n k : Nat) (hk : done.length = k) (hn : k < n) :
  (done ++ List.replicate (n - k) Z).set k r = (done ++ [r]) ++ List.replicate (n - (k + 1)) Z := by
 obtain ⟨m, rfl⟩ : ∃ m, n = k + 1 + m := ⟨n - (k + 1), by omega⟩
 rw [show k + 1 + m - k = m + 1 by omega, show k + 1 + m - (k + 1) = m by omega, List.set_append_right _ _ (by omega), hk, Nat.sub_self, List.replicate_succ, List.set_cons_zero]
 simp
end Go.Proofs.YtepffbgelaajnaaGreatDoor
namespace Go.Proofs.YtepffbgelaajnaaGreatDoor
open Go.ChangeShapes Go.WideShapes Go.ChangeAt Go.RowKit Go.PlainAid
set_option linter.unusedVariables false
theorem below_alloc3 (w : World) (a b c : Obj) : Below w.heap.size w (((w.alloc a).alloc b).alloc c) := (((Below.refl _ w).alloc (Nat.le_refl _) a).alloc (by simp) b).alloc (by simp; omega) c
set_option maxHeartbeats 400000 in
theorem toInode (x : Nod) (w : World) : Calls Tryz.prog 67 #[vNod x] w fun e w' => e = .returned (vNod x) ∧ Below w.heap.size w w' := by
 unfold vNod
 go_enter Tryz.func67, Tryz.ntmps67
 go_wp2
 exact bodyPost_ret (v := .agg #[.int .i64 x.id, .string x.data, .int .i64 x.sure]) (by simp [results, go_sem]) rfl ⟨rfl, below_alloc3 _ _ _ _⟩
theorem Tryz.infoNod : (Tryz.prog.info? 101).map (fun i => (i.zero, i.size, i.bytes)) = some (some (.agg #[.int .i64 0, .string ⟨#[]⟩, .int .i64 0]), 3, 32) := by kernel_rfl
def nodZ : List Value := [.int .i64 0, .string ⟨#[]⟩, .int .i64 0]
theorem nod_made (n : Nat) : madeCells #[.int .i64 0, .string ⟨#[]⟩, .int .i64 0] (n * 3) = (List.replicate n nodZ).flatten.toArray := by
 apply Array.ext'
 rw [List.toList_toArray]
 apply List.ext_getElem?
 intro k
 have hz : ∀ r ∈ List.replicate n nodZ, r.length = 3 := fun r hr => by rw [List.eq_of_mem_replicate hr]; rfl
 by_cases hk : k < n * 3
 ·have e : k = k / 3 * 3 + k % 3 := by omega
  have hf : k % 3 < 3 := Nat.mod_lt _ (by omega)
  have hj : k / 3 < n := Nat.div_lt_of_lt_mul (by omega)
  have := flat_at 3 (List.replicate n nodZ) hz (k / 3) (k % 3) (by simpa using hj) hf
  rw [← e] at this
  have hr : (List.replicate n nodZ)[k / 3]'(by simpa using hj) = nodZ := by simp
  rw [this, hr]
  have hs : (madeCells #[.int .i64 0, .string ⟨#[]⟩, .int .i64 0] (n * 3)).toList[k]? = some (#[.int .i64 0, .string ⟨#[]⟩, .int .i64 0].getD (k % 3) default) := by simp [madeCells, hk]
  rw [hs]
  have : k % 3 = 0 ∨ k % 3 = 1 ∨ k % 3 = 2 := by omega
  rcases this with h | h | h <;> rw [h] <;> rfl
 ·have hl : (List.replicate n nodZ).flatten.length = n * 3 := by rw [flat_length 3 _ hz]; simp
  have hr : (List.replicate n nodZ).flatten[k]? = none := List.getElem?_eq_none (by omega)
  rw [hr]
  apply List.getElem?_eq_none
  rw [Array.length_toList, size_madeCells]
  omega
set_option maxHeartbeats 1000000 in
theorem toInodeS (l : List Nod) (v : Value) (w : World) (B : Nat) (hv : Lies w B 3 v (nodR l)) (hn : l.length ≤ 1048576) (hB : B ≤ w.heap.size) :
  Calls Tryz.prog 30 #[v] w fun e w' => ∃ u, e = .returned u ∧ Owns w' w.heap.size 101 3 u (nodR l) ∧ Below w.heap.size w w' := by
 obtain ⟨A, cap, rfl, hl⟩ := nod_look hv
 have HL : Hid (∀ j, j < l.length → ∃ g off, A = some ⟨g, off, none⟩ ∧ g < B ∧ _) := hl
 have HB : Hid (B ≤ w.heap.size) := hB
 clear hl hB hv
 have q1 : (l.length : Int) ≤ 1048576 := by omega
 generalize hN : l.length = n at *
 obtain ⟨i0, hi, hz0, hz1, hz2⟩ := info_parts Tryz.infoNod
 have hmk : ∀ wx : World, (Instr.makeSlice 34 (.int .i64 (n : Int)) (.int .i64 (n : Int))).run Tryz.prog wx = .ok (.slice (some ⟨wx.heap.size, 0, none⟩) n n) (wx.alloc (.cells (List.replicate n nodZ).flatten.toArray 101)) := fun wx => by
  have h := run_make (P := Tryz.prog) wx 34 101 i0 _ Tryz.underlying34 hi hz0 .i64 .i64 (n : Int) (n : Int) (by omega) (by omega) (by rw [hz2]; omega) (by omega)
  rw [hz1] at h
  have e : (Value.agg #[.int .i64 0, .string ⟨#[]⟩, .int .i64 0]).cells = #[.int .i64 0, .string ⟨#[]⟩, .int .i64 0] := rfl
  rw [e, Int.toNat_natCast, nod_made] at h
  exact h
 clear hi hz0 hz1 hz2
 go_enter Tryz.func30, Tryz.ntmps30
 go_wp2_with fail
 go_loopw [4] (fun v4 wr => ∃ k : Nat, k ≤ n ∧ v4 = .int .i64 (k : Int) ∧ Owns wr w.heap.size 101 3 (.slice (some ⟨w.heap.size, 0, none⟩) n n) (nodR (l.take k) ++ List.replicate (n - k) nodZ) ∧ Below w.heap.size w wr) (fun i _ => n - (intOf i).toNat)
 case atStart =>
  refine ⟨0, by omega, rfl, ?_, (Below.refl _ _).alloc (Nat.le_refl _) _⟩
  rw [List.take_zero, Nat.sub_zero, show nodR [] = [] from rfl, List.nil_append]
  refine ⟨fun r hr => by rw [List.eq_of_mem_replicate hr]; rfl, ?_⟩
  have hz : ∀ r ∈ List.replicate n nodZ, r.length = 3 := fun r hr => by rw [List.eq_of_mem_replicate hr]; rfl
  have hl := flat_length 3 (List.replicate n nodZ) hz
  rw [List.length_replicate] at hl ⊢
  exact World.ownsRow_lit w (List.replicate n nodZ).flatten.toArray n (Nat.le_refl _) (by unfold maxLen; omega) (by simpa using hl)
 case round =>
  obtain ⟨k, hk, rfl, hO, hb⟩ := hrel
  have HO : Hid (Owns wr w.heap.size 101 3 (.slice (some ⟨w.heap.size, 0, none⟩) n n) (nodR (l.take k) ++ List.replicate (n - k) nodZ)) := hO
  have HB1 : Hid (Below w.heap.size w wr) := hb
  clear hO hb
  by_cases hlt : k < n
  ·have q4 : (k : Int) < (n : Int) := by omega
   obtain ⟨g, off, rfl, hg, hc0, hc1, hc2⟩ := HL.out k (by omega)
   have hgw : g < w.heap.size := Nat.lt_of_lt_of_le hg HB.out
   rw [← HB1.out.cell (p := ⟨_, _, none⟩) hgw] at hc0
   rw [← HB1.out.cell (p := ⟨_, _, none⟩) hgw] at hc1
   rw [← HB1.out.cell (p := ⟨_, _, none⟩) hgw] at hc2
   have c1 := fun wx => toInode (l.getD k default) wx
   unfold vNod at c1
   generalize hx : l.getD k default = x at *
   have HX : Hid (l.getD k default = x) := hx
   clear hx
   go_wp2_with fail
   refine (c1 _).mono ?_
   rintro e w2 ⟨rfl, hb2⟩
   have hlen : (nodR (l.take k) ++ List.replicate (n - k) nodZ).length = n := by rw [List.length_append, List.length_replicate]; simp [nodR]; omega
   have hdl : (nodR (l.take k)).length = k := by simp [nodR]; omega
   have hO2 := HO.out.on hb2
   have hO3 := hO2
   rw [show (Value.slice (some ⟨w.heap.size, 0, none⟩) n n) = .slice (some ⟨w.heap.size, 0, none⟩) (nodR (l.take k) ++ List.replicate (n - k) nodZ).length n by rw [hlen]] at hO2
   obtain ⟨y0, d0⟩ := hO2.cellX k 0 (by rw [hlen]; exact hlt) (by omega)
   have f0 := hO2.free (k * 3)
   obtain ⟨y1, d1⟩ := hO2.cellX k 1 (by rw [hlen]; exact hlt) (by omega)
   have f1 := hO2.free (k * 3 + 1)
   obtain ⟨y2, d2⟩ := hO2.cellX k 2 (by rw [hlen]; exact hlt) (by omega)
   have f2 := hO2.free (k * 3 + 2)
   rw [Nat.add_zero] at d0
   have hP := hO2.put3 k (by rw [hlen]; exact hlt) (.int .i64 x.id) (.string x.data) (.int .i64 x.sure)
   rw [hlen, fill_step _ _ _ n k hdl hlt, show nodR (l.take k) ++ [[.int .i64 x.id, .string x.data, .int .i64 x.sure]] = nodR (l.take (k + 1)) by rw [nodR_snoc l k (by omega), HX.out]; rfl] at hP
   have HP : Hid (Owns ((((w2).setCell ⟨w.heap.size, k * 3, none⟩ (.int .i64 x.id)).setCell ⟨w.heap.size, k * 3 + 1, none⟩ (.string x.data)).setCell ⟨w.heap.size, k * 3 + 2, none⟩ (.int .i64 x.sure)) w.heap.size 101 3 (.slice (some ⟨w.heap.size, 0, none⟩) n n) (nodR (l.take (k + 1)) ++ List.replicate (n - (k + 1)) nodZ)) := hP
   have HB2 : Hid (Below w.heap.size w w2) := HB1.out.trans (hb2.mono HB1.out.size)
   clear hO2 hO3 hP hb2 hlen hdl
   go_wp2_with fail
   go_roundw
   case rel => exact ⟨k + 1, by omega, by go_num, HP.out, (((HB2.out).setCell (Nat.le_refl _) _).setCell (Nat.le_refl _) _).setCell (Nat.le_refl _) _⟩
   case measure => simp [intOf]; omega
  ·obtain rfl : k = n := by omega
   go_wp2_with fail
   go_ret
   refine ⟨_, rfl, ?_, HB1.out⟩
   have := HO.out
   rw [← hN, List.take_length, Nat.sub_self, List.replicate_zero, List.append_nil] at this
   rw [← hN]
   exact this
set_option maxHeartbeats 400000 in
theorem toLink (x : Lnk) (w : World) : Calls Tryz.prog 68 #[vLnk x] w fun e w' => e = .returned (vLnk x) ∧ Below w.heap.size w w' := by
 unfold vLnk
 go_enter Tryz.func68, Tryz.ntmps68
 go_wp2
 exact bodyPost_ret (v := .agg #[.string x.name, .int .i64 x.id]) (by simp [results, go_sem]) rfl ⟨rfl, below_alloc3 _ _ _ _⟩
theorem Tryz.infoLnk : (Tryz.prog.info? 104).map (fun i => (i.zero, i.size, i.bytes)) = some (some (.agg #[.string ⟨#[]⟩, .int .i64 0]), 2, 24) := by kernel_rfl
def lnkZ : List Value := [.string ⟨#[]⟩, .int .i64 0]
theorem lnk_made (n : Nat) : madeCells #[.string ⟨#[]⟩, .int .i64 0] (n * 2) = (List.replicate n lnkZ).flatten.toArray := by
 apply Array.ext'
 rw [List.toList_toArray]
 apply List.ext_getElem?
 intro k
 have hz : ∀ r ∈ List.replicate n lnkZ, r.length = 2 := fun r hr => by rw [List.eq_of_mem_replicate hr]; rfl
 by_cases hk : k < n * 2
 ·have e : k = k / 2 * 2 + k % 2 := by omega
  have hf : k % 2 < 2 := Nat.mod_lt _ (by omega)
  have hj : k / 2 < n := Nat.div_lt_of_lt_mul (by omega)
  have := flat_at 2 (List.replicate n lnkZ) hz (k / 2) (k % 2) (by simpa using hj) hf
  rw [← e] at this
  have hr : (List.replicate n lnkZ)[k / 2]'(by simpa using hj) = lnkZ := by simp
  rw [this, hr]
  have hs : (madeCells #[.string ⟨#[]⟩, .int .i64 0] (n * 2)).toList[k]? = some (#[.string ⟨#[]⟩, .int .i64 0].getD (k % 2) default) := by simp [madeCells, hk]
  rw [hs]
  have : k % 2 = 0 ∨ k % 2 = 1 := by omega
  rcases this with h | h <;> rw [h] <;> rfl
 ·have hl : (List.replicate n lnkZ).flatten.length = n * 2 := by rw [flat_length 2 _ hz]; simp
  have hr : (List.replicate n lnkZ).flatten[k]? = none := List.getElem?_eq_none (by omega)
  rw [hr]
  apply List.getElem?_eq_none
  rw [Array.length_toList, size_madeCells]
  omega
set_option maxHeartbeats 1000000 in
theorem toLinkS (l : List Lnk) (v : Value) (w : World) (B : Nat) (hv : Lies w B 2 v (lnkR l)) (hn : l.length ≤ 1048576) (hB : B ≤ w.heap.size) :
  Calls Tryz.prog 31 #[v] w fun e w' => ∃ u, e = .returned u ∧ Owns w' w.heap.size 104 2 u (lnkR l) ∧ Below w.heap.size w w' := by
 obtain ⟨A, cap, rfl, hl⟩ := lnk_look hv
 have HL : Hid (∀ j, j < l.length → ∃ g off, A = some ⟨g, off, none⟩ ∧ g < B ∧ _) := hl
 have HB : Hid (B ≤ w.heap.size) := hB
 clear hl hB hv
 have q1 : (l.length : Int) ≤ 1048576 := by omega
 generalize hN : l.length = n at *
 obtain ⟨i0, hi, hz0, hz1, hz2⟩ := info_parts Tryz.infoLnk
 have hmk : ∀ wx : World, (Instr.makeSlice 35 (.int .i64 (n : Int)) (.int .i64 (n : Int))).run Tryz.prog wx = .ok (.slice (some ⟨wx.heap.size, 0, none⟩) n n) (wx.alloc (.cells (List.replicate n lnkZ).flatten.toArray 104)) := fun wx => by
  have h := run_make (P := Tryz.prog) wx 35 104 i0 _ Tryz.underlying35 hi hz0 .i64 .i64 (n : Int) (n : Int) (by omega) (by omega) (by rw [hz2]; omega) (by omega)
  rw [hz1] at h
  have e : (Value.agg #[.string ⟨#[]⟩, .int .i64 0]).cells = #[.string ⟨#[]⟩, .int .i64 0] := rfl
  rw [e, Int.toNat_natCast, lnk_made] at h
  exact h
 clear hi hz0 hz1 hz2
 go_enter Tryz.func31, Tryz.ntmps31
 go_wp2_with fail
 go_loopw [4] (fun v4 wr => ∃ k : Nat, k ≤ n ∧ v4 = .int .i64 (k : Int) ∧ Owns wr w.heap.size 104 2 (.slice (some ⟨w.heap.size, 0, none⟩) n n) (lnkR (l.take k) ++ List.replicate (n - k) lnkZ) ∧ Below w.heap.size w wr) (fun i _ => n - (intOf i).toNat)
 case atStart =>
  refine ⟨0, by omega, rfl, ?_, (Below.refl _ _).alloc (Nat.le_refl _) _⟩
  rw [List.take_zero, Nat.sub_zero, show lnkR [] = [] from rfl, List.nil_append]
  refine ⟨fun r hr => by rw [List.eq_of_mem_replicate hr]; rfl, ?_⟩
  have hz : ∀ r ∈ List.replicate n lnkZ, r.length = 2 := fun r hr => by rw [List.eq_of_mem_replicate hr]; rfl
  have hl := flat_length 2 (List.replicate n lnkZ) hz
  rw [List.length_replicate] at hl ⊢
  exact World.ownsRow_lit w (List.replicate n lnkZ).flatten.toArray n (Nat.le_refl _) (by unfold maxLen; omega) (by simpa using hl)
 case round =>
  obtain ⟨k, hk, rfl, hO, hb⟩ := hrel
  have HO : Hid (Owns wr w.heap.size 104 2 (.slice (some ⟨w.heap.size, 0, none⟩) n n) (lnkR (l.take k) ++ List.replicate (n - k) lnkZ)) := hO
  have HB1 : Hid (Below w.heap.size w wr) := hb
  clear hO hb
  by_cases hlt : k < n
  ·have q4 : (k : Int) < (n : Int) := by omega
   obtain ⟨g, off, rfl, hg, hc0, hc1⟩ := HL.out k (by omega)
   have hgw : g < w.heap.size := Nat.lt_of_lt_of_le hg HB.out
   rw [← HB1.out.cell (p := ⟨_, _, none⟩) hgw] at hc0
   rw [← HB1.out.cell (p := ⟨_, _, none⟩) hgw] at hc1
   have c1 := fun wx => toLink (l.getD k default) wx
   unfold vLnk at c1
   generalize hx : l.getD k default = x at *
   have HX : Hid (l.getD k default = x) := hx
   clear hx
   go_wp2_with fail
   refine (c1 _).mono ?_
   rintro e w2 ⟨rfl, hb2⟩
   have hlen : (lnkR (l.take k) ++ List.replicate (n - k) lnkZ).length = n := by rw [List.length_append, List.length_replicate]; simp [lnkR]; omega
   have hdl : (lnkR (l.take k)).length = k := by simp [lnkR]; omega
   have hO2 := HO.out.on hb2
   have hO3 := hO2
   rw [show (Value.slice (some ⟨w.heap.size, 0, none⟩) n n) = .slice (some ⟨w.heap.size, 0, none⟩) (lnkR (l.take k) ++ List.replicate (n - k) lnkZ).length n by rw [hlen]] at hO2
   obtain ⟨y0, d0⟩ := hO2.cellX k 0 (by rw [hlen]; exact hlt) (by omega)
   have f0 := hO2.free (k * 2)
   obtain ⟨y1, d1⟩ := hO2.cellX k 1 (by rw [hlen]; exact hlt) (by omega)
   have f1 := hO2.free (k * 2 + 1)
   rw [Nat.add_zero] at d0
   have hP := hO2.put2 k (by rw [hlen]; exact hlt) (.string x.name) (.int .i64 x.id)
   rw [hlen, fill_step _ _ _ n k hdl hlt, show lnkR (l.take k) ++ [[.string x.name, .int .i64 x.id]] = lnkR (l.take (k + 1)) by rw [lnkR_snoc l k (by omega), HX.out]; rfl] at hP
   have HP : Hid (Owns (((w2).setCell ⟨w.heap.size, k * 2, none⟩ (.string x.name)).setCell ⟨w.heap.size, k * 2 + 1, none⟩ (.int .i64 x.id)) w.heap.size 104 2 (.slice (some ⟨w.heap.size, 0, none⟩) n n) (lnkR (l.take (k + 1)) ++ List.replicate (n - (k + 1)) lnkZ)) := hP
   have HB2 : Hid (Below w.heap.size w w2) := HB1.out.trans (hb2.mono HB1.out.size)
   clear hO2 hO3 hP hb2 hlen hdl
   go_wp2_with fail
   go_roundw
   case rel => exact ⟨k + 1, by omega, by go_num, HP.out, ((HB2.out).setCell (Nat.le_refl _) _).setCell (Nat.le_refl _) _⟩
   case measure => simp [intOf]; omega
  ·obtain rfl : k = n := by omega
   go_wp2_with fail
   go_ret
   refine ⟨_, rfl, ?_, HB1.out⟩
   have := HO.out
   rw [← hN, List.take_length, Nat.sub_self, List.replicate_zero, List.append_nil] at this
   rw [← hN]
   exact this
set_option maxHeartbeats 400000 in
theorem toMove (x : Mov) (w : World) : Calls Tryz.prog 69 #[vMov x] w fun e w' => e = .returned (vMov x) ∧ Below w.heap.size w w' := by
 unfold vMov
 go_enter Tryz.func69, Tryz.ntmps69
 go_wp2
 exact bodyPost_ret (v := .agg #[.int .i64 x.kind, .string x.name, .string x.to, .int .i64 x.id]) (by simp [results, go_sem]) rfl ⟨rfl, below_alloc3 _ _ _ _⟩
theorem Tryz.infoMov : (Tryz.prog.info? 106).map (fun i => (i.zero, i.size, i.bytes)) = some (some (.agg #[.int .i64 0, .string ⟨#[]⟩, .string ⟨#[]⟩, .int .i64 0]), 4, 48) := by kernel_rfl
def movZ : List Value := [.int .i64 0, .string ⟨#[]⟩, .string ⟨#[]⟩, .int .i64 0]
theorem mov_made (n : Nat) : madeCells #[.int .i64 0, .string ⟨#[]⟩, .string ⟨#[]⟩, .int .i64 0] (n * 4) = (List.replicate n movZ).flatten.toArray := by
 apply Array.ext'
 rw [List.toList_toArray]
 apply List.ext_getElem?
 intro k
 have hz : ∀ r ∈ List.replicate n movZ, r.length = 4 := fun r hr => by rw [List.eq_of_mem_replicate hr]; rfl
 by_cases hk : k < n * 4
 ·have e : k = k / 4 * 4 + k % 4 := by omega
  have hf : k % 4 < 4 := Nat.mod_lt _ (by omega)
  have hj : k / 4 < n := Nat.div_lt_of_lt_mul (by omega)
  have := flat_at 4 (List.replicate n movZ) hz (k / 4) (k % 4) (by simpa using hj) hf
  rw [← e] at this
  have hr : (List.replicate n movZ)[k / 4]'(by simpa using hj) = movZ := by simp
  rw [this, hr]
  have hs : (madeCells #[.int .i64 0, .string ⟨#[]⟩, .string ⟨#[]⟩, .int .i64 0] (n * 4)).toList[k]? = some (#[.int .i64 0, .string ⟨#[]⟩, .string ⟨#[]⟩, .int .i64 0].getD (k % 4) default) := by simp [madeCells, hk]
  rw [hs]
  have : k % 4 = 0 ∨ k % 4 = 1 ∨ k % 4 = 2 ∨ k % 4 = 3 := by omega
  rcases this with h | h | h | h <;> rw [h] <;> rfl
 ·have hl : (List.replicate n movZ).flatten.length = n * 4 := by rw [flat_length 4 _ hz]; simp
  have hr : (List.replicate n movZ).flatten[k]? = none := List.getElem?_eq_none (by omega)
  rw [hr]
  apply List.getElem?_eq_none
  rw [Array.length_toList, size_madeCells]
  omega
set_option maxHeartbeats 1000000 in
theorem toMoveS (l : List Mov) (v : Value) (w : World) (B : Nat) (hv : Lies w B 4 v (movR l)) (hn : l.length ≤ 1048576) (hB : B ≤ w.heap.size) :
  Calls Tryz.prog 32 #[v] w fun e w' => ∃ u, e = .returned u ∧ Owns w' w.heap.size 106 4 u (movR l) ∧ Below w.heap.size w w' := by
 obtain ⟨A, cap, rfl, hl⟩ := mov_look hv
 have HL : Hid (∀ j, j < l.length → ∃ g off, A = some ⟨g, off, none⟩ ∧ g < B ∧ _) := hl
 have HB : Hid (B ≤ w.heap.size) := hB
 clear hl hB hv
 have q1 : (l.length : Int) ≤ 1048576 := by omega
 generalize hN : l.length = n at *
 obtain ⟨i0, hi, hz0, hz1, hz2⟩ := info_parts Tryz.infoMov
 have hmk : ∀ wx : World, (Instr.makeSlice 36 (.int .i64 (n : Int)) (.int .i64 (n : Int))).run Tryz.prog wx = .ok (.slice (some ⟨wx.heap.size, 0, none⟩) n n) (wx.alloc (.cells (List.replicate n movZ).flatten.toArray 106)) := fun wx => by
  have h := run_make (P := Tryz.prog) wx 36 106 i0 _ Tryz.underlying36 hi hz0 .i64 .i64 (n : Int) (n : Int) (by omega) (by omega) (by rw [hz2]; omega) (by omega)
  rw [hz1] at h
  have e : (Value.agg #[.int .i64 0, .string ⟨#[]⟩, .string ⟨#[]⟩, .int .i64 0]).cells = #[.int .i64 0, .string ⟨#[]⟩, .string ⟨#[]⟩, .int .i64 0] := rfl
  rw [e, Int.toNat_natCast, mov_made] at h
  exact h
 clear hi hz0 hz1 hz2
 go_enter Tryz.func32, Tryz.ntmps32
 go_wp2_with fail
 go_loopw [4] (fun v4 wr => ∃ k : Nat, k ≤ n ∧ v4 = .int .i64 (k : Int) ∧ Owns wr w.heap.size 106 4 (.slice (some ⟨w.heap.size, 0, none⟩) n n) (movR (l.take k) ++ List.replicate (n - k) movZ) ∧ Below w.heap.size w wr) (fun i _ => n - (intOf i).toNat)
 case atStart =>
  refine ⟨0, by omega, rfl, ?_, (Below.refl _ _).alloc (Nat.le_refl _) _⟩
  rw [List.take_zero, Nat.sub_zero, show movR [] = [] from rfl, List.nil_append]
  refine ⟨fun r hr => by rw [List.eq_of_mem_replicate hr]; rfl, ?_⟩
  have hz : ∀ r ∈ List.replicate n movZ, r.length = 4 := fun r hr => by rw [List.eq_of_mem_replicate hr]; rfl
  have hl := flat_length 4 (List.replicate n movZ) hz
  rw [List.length_replicate] at hl ⊢
  exact World.ownsRow_lit w (List.replicate n movZ).flatten.toArray n (Nat.le_refl _) (by unfold maxLen; omega) (by simpa using hl)
 case round =>
  obtain ⟨k, hk, rfl, hO, hb⟩ := hrel
  have HO : Hid (Owns wr w.heap.size 106 4 (.slice (some ⟨w.heap.size, 0, none⟩) n n) (movR (l.take k) ++ List.replicate (n - k) movZ)) := hO
  have HB1 : Hid (Below w.heap.size w wr) := hb
  clear hO hb
  by_cases hlt : k < n
  ·have q4 : (k : Int) < (n : Int) := by omega
   obtain ⟨g, off, rfl, hg, hc0, hc1, hc2, hc3⟩ := HL.out k (by omega)
   have hgw : g < w.heap.size := Nat.lt_of_lt_of_le hg HB.out
   rw [← HB1.out.cell (p := ⟨_, _, none⟩) hgw] at hc0
   rw [← HB1.out.cell (p := ⟨_, _, none⟩) hgw] at hc1
   rw [← HB1.out.cell (p := ⟨_, _, none⟩) hgw] at hc2
   rw [← HB1.out.cell (p := ⟨_, _, none⟩) hgw] at hc3
   have c1 := fun wx => toMove (l.getD k default) wx
   unfold vMov at c1
   generalize hx : l.getD k default = x at *
   have HX : Hid (l.getD k default = x) := hx
   clear hx
   go_wp2_with fail
   refine (c1 _).mono ?_
   rintro e w2 ⟨rfl, hb2⟩
   have hlen : (movR (l.take k) ++ List.replicate (n - k) movZ).length = n := by rw [List.length_append, List.length_replicate]; simp [movR]; omega
   have hdl : (movR (l.take k)).length = k := by simp [movR]; omega
   have hO2 := HO.out.on hb2
   have hO3 := hO2
   rw [show (Value.slice (some ⟨w.heap.size, 0, none⟩) n n) = .slice (some ⟨w.heap.size, 0, none⟩) (movR (l.take k) ++ List.replicate (n - k) movZ).length n by rw [hlen]] at hO2
   obtain ⟨y0, d0⟩ := hO2.cellX k 0 (by rw [hlen]; exact hlt) (by omega)
   have f0 := hO2.free (k * 4)
   obtain ⟨y1, d1⟩ := hO2.cellX k 1 (by rw [hlen]; exact hlt) (by omega)
   have f1 := hO2.free (k * 4 + 1)
   obtain ⟨y2, d2⟩ := hO2.cellX k 2 (by rw [hlen]; exact hlt) (by omega)
   have f2 := hO2.free (k * 4 + 2)
   obtain ⟨y3, d3⟩ := hO2.cellX k 3 (by rw [hlen]; exact hlt) (by omega)
   have f3 := hO2.free (k * 4 + 3)
   rw [Nat.add_zero] at d0
   have hP := hO2.put4 k (by rw [hlen]; exact hlt) (.int .i64 x.kind) (.string x.name) (.string x.to) (.int .i64 x.id)
   rw [hlen, fill_step _ _ _ n k hdl hlt, show movR (l.take k) ++ [[.int .i64 x.kind, .string x.name, .string x.to, .int .i64 x.id]] = movR (l.take (k + 1)) by rw [movR_snoc l k (by omega), HX.out]; rfl] at hP
   have HP : Hid (Owns (((((w2).setCell ⟨w.heap.size, k * 4, none⟩ (.int .i64 x.kind)).setCell ⟨w.heap.size, k * 4 + 1, none⟩ (.string x.name)).setCell ⟨w.heap.size, k * 4 + 2, none⟩ (.string x.to)).setCell ⟨w.heap.size, k * 4 + 3, none⟩ (.int .i64 x.id)) w.heap.size 106 4 (.slice (some ⟨w.heap.size, 0, none⟩) n n) (movR (l.take (k + 1)) ++ List.replicate (n - (k + 1)) movZ)) := hP
   have HB2 : Hid (Below w.heap.size w w2) := HB1.out.trans (hb2.mono HB1.out.size)
   clear hO2 hO3 hP hb2 hlen hdl
   go_wp2_with fail
   go_roundw
   case rel => exact ⟨k + 1, by omega, by go_num, HP.out, ((((HB2.out).setCell (Nat.le_refl _) _).setCell (Nat.le_refl _) _).setCell (Nat.le_refl _) _).setCell (Nat.le_refl _) _⟩
   case measure => simp [intOf]; omega
  ·obtain rfl : k = n := by omega
   go_wp2_with fail
   go_ret
   refine ⟨_, rfl, ?_, HB1.out⟩
   have := HO.out
   rw [← hN, List.take_length, Nat.sub_self, List.replicate_zero, List.append_nil] at this
   rw [← hN]
   exact this
end Go.Proofs.YtepffbgelaajnaaGreatDoor
