/- DkApp DkWith -/
import Derived.Test.YtdimaoloapbeoaaGreatDoorQv2
import Derived.OwnWalk
import Derived.Test.YtdimaoloapbeoaaGreatDoorRows
namespace Go.Proofs.YtdimaoloapbeoaaGreatDoor
open Go.RowKit Go.PlainAid
theorem Owns.empty (w : World) (base : Nat) (e : TypeId) (sz : Nat) (hb : base ≤ w.heap.size) : Owns (w.alloc (.cells #[] e)) base e sz (.slice (some ⟨w.heap.size, 0, none⟩) 0 0) [] :=
 ⟨fun r hr => by simp at hr, World.ownsRow_lit w #[] 0 hb (by unfold maxLen; omega) (by simp)⟩
theorem Owns.nil (w : World) (base : Nat) (e : TypeId) (sz : Nat) : Owns w base e sz (.slice none 0 0) [] := ⟨fun r hr => by simp at hr, World.ownsRow_nil w base e sz⟩
theorem Owns.alloc {w : World} {base : Nat} {e : TypeId} {sz : Nat} {v : Value} {rows : List (List Value)} (h : Owns w base e sz v rows) (o : Obj) : Owns (w.alloc o) base e sz v rows := ⟨h.1, World.ownsRow.alloc h.2 o⟩
theorem run_append_where {P : Program} (w : World) (base : Nat) (t ty e : TypeId) (i : TypeInfo) (z : Value) (size bytes : Nat) (ht : P.underlying t = some (.slice e)) (hi : P.info? e = some i) (hz : i.zero = some z)
  (hsize : i.size = size) (hby : i.bytes = bytes)
  (v : Value) (n : Nat) (xs : List Value) (hown : w.ownsRow base e size v n xs)
  (a : Addr) (m c : Nat) (news : List Value) (hl : news.length = m * size) (hnews : ∀ j u, news[j]? = some u → w.cell? (a.add j) = some u) (h1 : ∀ u ∈ news, u.oneCell' = true)
  (h63 : n + m ≤ maxLen) (hbytes : (n + m) * bytes ≤ 140737488355328) (v' : Value) (w' : World)
  (h : (Builtin.append_ #[t, t] ty #[v, .slice (some a) m c]).run P w = .ok v' w') : v'.ownBlock = v.ownBlock ∨ v'.ownBlock = some w.heap.size := by
 subst hsize
 subst hby
 have hsmall : n + m ≤ 9223372036854775807 := by simp only [maxLen] at h63; omega
 rcases hown.2 with ⟨rfl, rfl⟩ | ⟨g, cap, cur, rfl, hbg, hg, hnc, hcm, hcs, htake⟩
 ·by_cases hm : m = 0
  ·subst hm
   have hn : news = [] := List.eq_nil_of_length_eq_zero (by simpa using hl)
   subst hn
   have hr : (Builtin.append_ #[t, t] ty #[.slice none 0 0, .slice (some a) 0 c]).run P w = .ok (.slice none 0 0) w := by
    simp [Builtin.append_, run_underlying ht, sizeOf, typeInfo, hi, Builtin.lenOf, Builtin.firstCells, loadCells, loadCellsFrom]
   rw [hr] at h
   cases h
   exact .inl rfl
  ·have hr := run_append_nil (P := P) w t ty e i z ht hi hz a m c news hl hnews (by omega) (by omega) (by have hb := hbytes; simp only [Nat.zero_add] at hb; omega)
   rw [hr] at h
   cases h
   exact .inr rfl
 ·by_cases hroom : n + m ≤ cap
  ·have hfit : n * i.size + news.length ≤ cur.size := by rw [hl, hcs, ← Nat.add_mul]; exact Nat.mul_le_mul_right _ hroom
   have hr := run_append_room (P := P) w t ty e i ht hi g n cap cur hg a m c news hl hnews h1 hroom hfit
   rw [hr] at h
   cases h
   exact .inl rfl
  ·have holds : ∀ j u, xs[j]? = some u → w.cell? ((⟨g, 0, none⟩ : Addr).add j) = some u := hown.cells (g := g) rfl
   have hr := run_append_grow (P := P) w t ty e i z ht hi hz ⟨g, 0, none⟩ n cap xs hown.1 holds a m c news hl hnews (by omega) (by omega) (growslice_fits (by omega) hbytes)
   rw [hr] at h
   cases h
   exact .inr rfl
theorem wpList_append_own2 {P : Program} {w : World} {ops : Array Oper} {rest : List Oper} {o : Oper} {a : Act} {Q : Exit → Act → World → Prop} (hgd : o.guard = none) (s x : Operand) (t : TypeId)
  (ho : o.op = .call { callee := .builtin .append, args := #[s, x], argTypes := #[t, t] })
  (base : Nat) (e : TypeId) (i : TypeInfo) (z : Value) (size bytes : Nat) (ht : P.underlying t = some (.slice e)) (hi : P.info? e = some i) (hz : i.zero = some z)
  (hsize : i.size = size) (hby : i.bytes = bytes) (hzs : z.cells.size = size) (hsz : 0 < size)
  (v : Value) (n : Nat) (xs : List Value) (hs : a.eval s = v) (hown : w.ownsRow base e size v n xs)
  (ad : Addr) (m c : Nat) (news : List Value) (hx : a.eval x = .slice (some ad) m c) (hl : news.length = m * size) (hnews : ∀ j u, news[j]? = some u → w.cell? (ad.add j) = some u) (h1 : ∀ u ∈ news, u.oneCell' = true)
  (h63 : n + m ≤ maxLen) (hbytes : (n + m) * bytes ≤ 140737488355328) (hbase : base ≤ w.heap.size)
  (h : ∀ v' w', w'.ownsRow base e size v' (n + m) (xs ++ news) → w.grownBy w' v.ownBlock → (v'.ownBlock = v.ownBlock ∨ v'.ownBlock = some w.heap.size) → wpList P ops Q rest (a.put o.dst v') w') : wpList P ops Q (o :: rest) a w := by
 obtain ⟨v', w', hr, h2, h3, _⟩ := run_append_own (P := P) w base t o.type e i z size bytes ht hi hz hsize hby hzs hsz v n xs hown ad m c news hl hnews h1 h63 hbytes hbase
 have h5 := run_append_where (P := P) w base t o.type e i z size bytes ht hi hz hsize hby v n xs hown ad m c news hl hnews h1 h63 hbytes v' w' hr
 refine wpList_plain hgd fun K hK => ?_
 unfold Oper.wp execOp
 simp only [ho, resolve, invoke, builtin, Sem.run_bind, Sem.run_pure, Result.andThen_ok, List.map_toArray, List.map_cons, List.map_nil, hs, hx, hr]
 exact hK _ _ (h v' w' h2 h3 h5)
theorem wpList_append_row {P : Program} {w : World} {ops : Array Oper} {rest : List Oper} {o : Oper} {a : Act} {Q : Exit → Act → World → Prop} (hgd : o.guard = none) (s x : Operand) (t e : TypeId) (z : Value) (sz bytes : Nat)
  (ho : o.op = .call { callee := .builtin .append, args := #[s, x], argTypes := #[t, t] })
  (ht : P.underlying t = some (.slice e)) (hinfo : (P.info? e).map (fun i => (i.zero, i.size, i.bytes)) = some (some z, sz, bytes)) (hzs : z.cells.size = sz) (hsz : 0 < sz)
  (base : Nat) (v : Value) (rows : List (List Value)) (hs : a.eval s = v) (hown : Owns w base e sz v rows) (r : List Value) (hr : r.length = sz) (h1 : ∀ u ∈ r, u.oneCell' = true)
  (hx : a.eval x = .slice (some ⟨w.heap.size, 0, none⟩) 1 1) (hlen : rows.length ≤ 2097152) (hby : bytes ≤ 1000) (hbase : base ≤ w.heap.size)
  (h : ∀ v' w', Owns w' base e sz v' (rows ++ [r]) → Below base w w' → (∀ g, g < w.heap.size → v.ownBlock ≠ some g → w'.heap[g]? = w.heap[g]?) → (v'.ownBlock = v.ownBlock ∨ ∀ g, v'.ownBlock = some g → w.heap.size ≤ g) → wpList P ops Q rest (a.put o.dst v') w') : wpList P ops Q (o :: rest) a (w.alloc (.cells r.toArray e)) := by
 obtain ⟨i0, hi, hz0, hz1, hz2⟩ := info_parts hinfo
 have hb1 : (rows.length + 1) * bytes ≤ 140737488355328 := Nat.le_trans (Nat.mul_le_mul (show rows.length + 1 ≤ 2097153 by omega) hby) (by omega)
 refine wpList_append_own2 (w := w.alloc (.cells r.toArray e)) hgd s x t ho base e i0 z sz bytes ht hi hz0 hz1 hz2 hzs hsz v rows.length rows.flatten hs (World.ownsRow.alloc hown.2 _) ⟨w.heap.size, 0, none⟩ 1 1 r hx (by rw [hr]; omega) ?_ h1 (by unfold maxLen; omega) hb1 (by simp; omega) ?_
 ·intro j u hj
  have e1 : (⟨w.heap.size, 0, none⟩ : Addr).add j = ⟨w.heap.size, j, none⟩ := by cases j <;> simp [Addr.add]
  rw [e1, World.cell?_alloc_mark]
  simpa using hj
 ·intro v' w' h2 h3 h5
  have hb0 : ∀ k, v.ownBlock = some k → base ≤ k := fun k hk => (hown.lt k hk).1
  refine h v' w' ⟨?_, ?_⟩ ?_ ?_ (h5.imp id fun e g hg => by rw [e] at hg; cases hg; simp)
  ·intro y hy
   rcases List.mem_append.1 hy with hy | hy
   ·exact hown.1 y hy
   ·rw [List.mem_singleton.1 hy]; exact hr
  ·rw [List.length_append, List.flatten_append]
   simpa using h2
  ·exact ((Below.refl base w).alloc hbase _).grown h3 (by simp; omega) hb0
  ·intro g hg hne
   rw [h3.block g (by simp; omega) (fun e => hne e.symm)]
   exact Below.heap_alloc w _ g hg
theorem wpList_append_all {P : Program} {w : World} {ops : Array Oper} {rest : List Oper} {o : Oper} {a : Act} {Q : Exit → Act → World → Prop} (hgd : o.guard = none) (s x : Operand) (t e : TypeId) (z : Value) (sz bytes : Nat)
  (ho : o.op = .call { callee := .builtin .append, args := #[s, x], argTypes := #[t, t] })
  (ht : P.underlying t = some (.slice e)) (hinfo : (P.info? e).map (fun i => (i.zero, i.size, i.bytes)) = some (some z, sz, bytes)) (hzs : z.cells.size = sz) (hsz : 0 < sz)
  (base : Nat) (v u : Value) (rows more : List (List Value)) (B : Nat) (hs : a.eval s = v) (hown : Owns w base e sz v rows) (hu : Lies w B sz u more) (h1 : ∀ r ∈ more, ∀ y ∈ r, y.oneCell' = true)
  (hx : a.eval x = u) (hlen : rows.length + more.length ≤ 2097152) (hby : bytes ≤ 1000) (hbase : base ≤ w.heap.size)
  (h : ∀ v' w', Owns w' base e sz v' (rows ++ more) → Below base w w' → (∀ g, g < w.heap.size → v.ownBlock ≠ some g → w'.heap[g]? = w.heap[g]?) → (v'.ownBlock = v.ownBlock ∨ ∀ g, v'.ownBlock = some g → w.heap.size ≤ g) → wpList P ops Q rest (a.put o.dst v') w') : wpList P ops Q (o :: rest) a w := by
 obtain ⟨i0, hi, hz0, hz1, hz2⟩ := info_parts hinfo
 have hb1 : (rows.length + more.length) * bytes ≤ 140737488355328 := Nat.le_trans (Nat.mul_le_mul hlen hby) (by omega)
 obtain ⟨A, cap, rfl, hz, hms, hm⟩ := hu
 have fin : ∀ v' w', w'.ownsRow base e sz v' (rows.length + more.length) (rows.flatten ++ more.flatten) → w.grownBy w' v.ownBlock → (v'.ownBlock = v.ownBlock ∨ v'.ownBlock = some w.heap.size) → wpList P ops Q rest (a.put o.dst v') w' := by
  intro v' w' h2 h3 h5
  have hb0 : ∀ k, v.ownBlock = some k → base ≤ k := fun k hk => (hown.lt k hk).1
  refine h v' w' ⟨?_, ?_⟩ ?_ ?_ (h5.imp id fun e g hg => by rw [e] at hg; cases hg; exact Nat.le_refl _)
  ·intro y hy
   rcases List.mem_append.1 hy with hy | hy
   ·exact hown.1 y hy
   ·exact hms y hy
  ·rw [List.length_append, List.flatten_append]
   exact h2
  ·exact (Below.refl base w).grown h3 hbase hb0
  ·intro g hg hne
   exact h3.block g hg (fun e => hne e.symm)
 match A, hz, hx, hm with
 | none, hz, hx, hm =>
  have h0 : more.length = 0 := by
   rcases hm with h0 | ⟨g, off, e, _⟩
   ·exact h0
   ·cases e
  have hc0 := hz.1 rfl
  subst hc0
  have hnil : more = [] := List.eq_nil_of_length_eq_zero h0
  subst hnil
  refine wpList_plain hgd fun K hK => ?_
  have hr := run_append_owned_none (P := P) w base t o.type e i0 sz ht hi v rows.length rows.flatten hown.2
  unfold Oper.wp
  simp [execOp, ho, resolve, invoke, builtin, hs, hx, hr, Result.andThen]
  refine hK _ _ (fin v w ?_ ⟨rfl, rfl, rfl, Nat.le_refl _, fun _ _ _ => rfl⟩ (.inl rfl))
  simpa using hown.2
 | some ad, hz, hx, hm =>
  refine wpList_append_own2 (w := w) hgd s x t ho base e i0 z sz bytes ht hi hz0 hz1 hz2 hzs hsz v rows.length rows.flatten hs hown.2 ad more.length cap more.flatten hx (flat_length sz more hms) ?_ ?_ (by unfold maxLen; omega) hb1 hbase ?_
  ·intro j y hj
   rcases hm with h0 | ⟨g, off, e, hg, hc⟩
   ·rw [List.eq_nil_of_length_eq_zero h0] at hj
    simp at hj
   ·cases e
    have e1 : (⟨g, off, none⟩ : Addr).add j = ⟨g, off + j, none⟩ := by cases j <;> simp [Addr.add]
    rw [e1]
    exact hc j y hj
  ·intro y hy
   obtain ⟨r, hr, hyr⟩ := List.mem_flatten.1 hy
   exact h1 r hr y hyr
  ·intro v' w' h2 h3 h5
   exact fin v' w' h2 h3 h5
theorem lnk_one (l : List Lnk) : ∀ r ∈ lnkR l, ∀ y ∈ r, y.oneCell' = true := by
 intro r hr y hy
 obtain ⟨x, _, rfl⟩ := List.mem_map.1 hr
 simp [lnkC] at hy
 rcases hy with rfl | rfl <;> rfl
end Go.Proofs.YtdimaoloapbeoaaGreatDoor
namespace Go.Proofs.YtdimaoloapbeoaaGreatDoor
open Go.ChangeShapes Go.WideShapes Go.ChangeAt Go.RowKit Go.PlainAid
set_option linter.unusedVariables false
theorem filter_take_yes {α : Type} [Inhabited α] (p : α → Bool) (l : List α) (k : Nat) (h : k < l.length) (hp : p (l.getD k default) = true) : (l.take (k + 1)).filter p = (l.take k).filter p ++ [l.getD k default] := by
 rw [take_getD l k h, List.filter_append]
 simp only [List.filter_cons, hp, if_true, List.filter_nil]
theorem filter_take_no {α : Type} [Inhabited α] (p : α → Bool) (l : List α) (k : Nat) (h : k < l.length) (hp : p (l.getD k default) = false) : (l.take (k + 1)).filter p = (l.take k).filter p := by
 rw [take_getD l k h, List.filter_append]
 simp only [List.filter_cons, hp, Bool.false_eq_true, if_false, List.filter_nil, List.append_nil]
theorem filter_len {α : Type} (p : α → Bool) (l : List α) (k : Nat) : ((l.take k).filter p).length ≤ l.length := Nat.le_trans (List.length_filter_le _ _) (by rw [List.length_take]; omega)
theorem below_drewN' (w : World) (n : Nat) : Below w.heap.size w (w.drewN n) := ⟨rfl, rfl, rfl, Nat.le_refl _, fun _ _ => rfl⟩
theorem below_alloc2' (w : World) (a b : Obj) : Below w.heap.size w ((w.alloc a).alloc b) := ((Below.refl _ w).alloc (Nat.le_refl _) a).alloc (by simp) b
set_option maxHeartbeats 1000000 in
theorem withoutV (l : List Lnk) (v : Value) (name : ByteArray) (w : World) (B : Nat) (hv : Lies w B 2 v (lnkR l)) (hn : l.length ≤ 1048576) (hB : B ≤ w.heap.size) :
  Calls Tryz.prog 79 #[v, .string name] w fun e w' => ∃ u, e = .returned u ∧ Owns w' w.heap.size 93 2 u (lnkR (without l name)) ∧ Below w.heap.size w w' := by
 obtain ⟨A, cap, rfl, hl⟩ := lnk_look hv
 have HL : Hid (∀ j, j < l.length → ∃ g off, A = some ⟨g, off, none⟩ ∧ g < B ∧ _) := hl
 have HB : Hid (B ≤ w.heap.size) := hB
 clear hl hv hB
 have q1 : (l.length : Int) ≤ 1048576 := by omega
 have HW : Hid (∀ k, without (l.take k) name = (l.take k).filter fun x => decide (x.name ≠ name)) := fun k => rfl
 have HF : Hid (∀ k, (without (l.take k) name).length ≤ l.length) := fun k => filter_len _ l k
 generalize hN : l.length = n at *
 go_enter Tryz.func79, Tryz.ntmps79
 go_wp2_with fail
 go_loopw [5, 6] (fun v5 v6 wr => ∃ k : Nat, k ≤ n ∧ v6 = .int .i64 (k : Int) ∧ Owns wr w.heap.size 93 2 v5 (lnkR (without (l.take k) name)) ∧ Below w.heap.size w wr) (fun _ i _ => n - (intOf i).toNat)
 case atStart => exact ⟨0, by omega, rfl, by rw [List.take_zero]; exact Owns.empty w _ _ _ (Nat.le_refl _), (Below.refl _ _).alloc (Nat.le_refl _) _⟩
 case round =>
  obtain ⟨k, hk, rfl, hO, hb⟩ := hrel
  have HO : Hid (Owns wr w.heap.size 93 2 u5 (lnkR (without (l.take k) name))) := hO
  have HB1 : Hid (Below w.heap.size w wr) := hb
  have hsz := hb.size
  clear hb
  by_cases hlt : k < n
  ·have q4 : (k : Int) < (n : Int) := by omega
   obtain ⟨g, off, rfl, hg, hc0, hc1⟩ := HL.out k hlt
   have hgw : g < w.heap.size := Nat.lt_of_lt_of_le hg HB.out
   rw [← HB1.out.cell (p := ⟨_, _, none⟩) hgw] at hc0 hc1
   have hbq := toList_beq (l.getD k default).name name
   by_cases he : (l.getD k default).name = name
   ·rw [decide_eq_true he] at hbq
    have HE : Hid (without (l.take (k + 1)) name = without (l.take k) name) := filter_take_no _ l k (by omega) (decide_eq_false (fun h => h he))
    clear he
    generalize (l.getD k default).name = x at *
    generalize (l.getD k default).id = y at *
    go_wp2_with fail
    go_roundw
    case rel => exact ⟨k + 1, by omega, by go_num, by rw [HE.out]; exact HO.out, HB1.out⟩
    case measure => simp [intOf]; omega
   ·rw [decide_eq_false he] at hbq
    have HE : Hid (lnkR (without (l.take (k + 1)) name) = lnkR (without (l.take k) name) ++ [[.string (l.getD k default).name, .int .i64 (l.getD k default).id]]) := by
     unfold Hid
     rw [show without (l.take (k + 1)) name = without (l.take k) name ++ [l.getD k default] from filter_take_yes _ l k (by omega) (decide_eq_true he), lnkR_append]
     rfl
    have hlen : (lnkR (without (l.take k) name)).length ≤ 2097152 := by rw [lnkR_length]; have := HF.out k; omega
    clear he
    generalize (l.getD k default).name = x at *
    generalize (l.getD k default).id = y at *
    generalize lnkR (without (l.take k) name) = R at *
    go_wp2_with (at_builtin; refine wpList_append_row rfl (.tmp 21) (.tmp 26) 38 93 (.agg #[.string ⟨#[]⟩, .int .i64 0]) 2 24 rfl Tryz.underlying38 Tryz.infoLnk rfl (by omega) w.heap.size _ R rfl hO [.string x, .int .i64 y] rfl (by intro u hu; simp at hu; rcases hu with rfl | rfl <;> rfl) rfl hlen (by omega) hsz ?_; intro v' w2 hO2 hb2 _ _)
    go_roundw
    case rel => exact ⟨k + 1, by omega, by go_num, by rw [HE.out]; exact hO2, HB1.out.trans hb2⟩
    case measure => simp [intOf]; omega
  ·obtain rfl : k = n := by omega
   go_wp2_with fail
   go_ret
   refine ⟨_, rfl, ?_, HB1.out⟩
   have := HO.out
   rw [← hN, List.take_length] at this
   exact this
theorem ins_put (x : Lnk) (l r : List Lnk) (h : (l.any fun y => ahead x.name y.name) = true) : ins x (l ++ r) = ins x l ++ r := by
 induction l with
 | nil => simp at h
 | cons y l ih =>
  rw [List.cons_append, ins, ins]
  by_cases hy : ahead x.name y.name = true
  ·rw [if_pos hy, if_pos hy]
   simp
  ·rw [if_neg hy, if_neg hy, ih (by simpa [hy] using h)]
   simp
theorem ins_past (x : Lnk) (l r : List Lnk) (h : (l.any fun y => ahead x.name y.name) = false) : ins x (l ++ r) = l ++ ins x r := by
 induction l with
 | nil => rfl
 | cons y l ih =>
  have hy : ¬ ahead x.name y.name = true := by
   intro e
   simp [e] at h
  rw [List.cons_append, ins, if_neg hy, ih (by simpa [hy] using h)]
  rfl
theorem ins_length (x : Lnk) (l : List Lnk) : (ins x l).length = l.length + 1 := by
 induction l with
 | nil => rfl
 | cons y l ih =>
  rw [ins]
  split
  ·rfl
  ·rw [List.length_cons, ih]; rfl
def laidK (x : Lnk) (m : List Lnk) (k : Nat) (p : Bool) : List Lnk := if p then ins x (m.take k) else m.take k
theorem any_take (f : Lnk → Bool) (m : List Lnk) (k : Nat) (h : k < m.length) : ((m.take (k + 1)).any f) = ((m.take k).any f || f (m.getD k default)) := by
 rw [take_getD m k h, List.any_append]
 simp
theorem laidK_length (x : Lnk) (m : List Lnk) (k : Nat) (p : Bool) : (laidK x m k p).length ≤ m.length + 1 := by
 unfold laidK
 split
 ·rw [ins_length, List.length_take]; omega
 ·rw [List.length_take]; omega
set_option maxRecDepth 20000 in
set_option maxHeartbeats 1000000 in
theorem withV (l : List Lnk) (v : Value) (x : Lnk) (w : World) (B : Nat) (hv : Lies w B 2 v (lnkR l)) (hn : l.length ≤ 1048575) (hB : B ≤ w.heap.size) :
  Calls Tryz.prog 78 #[v, vLnk x] w fun e w' => ∃ u, e = .returned u ∧ Owns w' w.heap.size 93 2 u (lnkR (withL l x)) ∧ Below w.heap.size w w' := by
 have HV : Hid (Lies w B 2 v (lnkR l)) := hv
 have HB : Hid (B ≤ w.heap.size) := hB
 have HM : Hid ((without l x.name).length ≤ 1048575) := by
  unfold Hid without
  exact Nat.le_trans (List.length_filter_le _ _) hn
 have HN : Hid (l.length ≤ 1048575) := hn
 clear hv hB hn
 unfold vLnk
 obtain ⟨A0, c0, hv0⟩ : ∃ A c, v = .slice A l.length c := by
  obtain ⟨A, c, e, _⟩ := HV.out
  exact ⟨A, c, by rw [e, lnkR_length]⟩
 subst hv0
 generalize hll : l.length = n0 at *
 have HW : Hid (withL l x = ins x (without l x.name)) := by
  unfold Hid withL
  rfl
 go_enter Tryz.func78, Tryz.ntmps78
 go_wp2_with fail
 have hb0 := below_alloc2' w (.cells #[.string x.name, .int .i64 x.id] 93) (.cells #[] 93)
 have kX := (Blk.new w #[.string x.name, .int .i64 x.id] 93).alloc (.cells #[] 93)
 have hE := Owns.empty (w.alloc (.cells #[.string x.name, .int .i64 x.id] 93)) (w.heap.size + 1) 93 2 (by simp)
 simp only [World.size_alloc] at hE
 generalize (w.alloc (.cells #[.string x.name, .int .i64 x.id] 93)).alloc (.cells #[] 93) = W at *
 have B0 : Hid (Below w.heap.size w W) := hb0
 have hWs : Hid (w.heap.size + 1 < W.heap.size) := (hE.lt _ rfl).2
 have HN1 : l.length ≤ 1048576 := by have := HN.out; omega
 refine (withoutV l (.slice A0 n0 c0) x.name W B (HV.out.on (B0.out.mono HB.out)) HN1 (Nat.le_trans HB.out B0.out.size)).mono ?_
 rintro e w2 ⟨u, rfl, hO2, hb2⟩
 have B2 : Hid (Below w.heap.size w w2) := B0.out.trans (hb2.mono B0.out.size)
 have K2 : Hid (Blk w2 w.heap.size #[.string x.name, .int .i64 x.id] 93) := kX.on hb2 kX.lt
 have E2 : Hid (Owns w2 (w.heap.size + 1) 93 2 (.slice (some ⟨w.heap.size + 1, 0, none⟩) 0 0) []) := hE.on hb2
 have O2 : Hid (Owns w2 W.heap.size 93 2 u (lnkR (without l x.name))) := hO2
 clear hb0 kX hE hb2 hO2
 generalize hm : without l x.name = m at *
 obtain ⟨A1, cA, hu1, _⟩ := lnk_look O2.out.lies
 have P0 : Hid (∀ g, (Value.slice (some ⟨w.heap.size + 1, 0, none⟩) 0 0).ownBlock = some g → u.ownBlock ≠ some g) := fun g hg hu => by
  have h1 := (O2.out.lt g hu).1
  have h2 := hWs.out
  have h3 : w.heap.size + 1 = g := by simpa [Value.ownBlock] using hg
  omega
 subst hu1
 have q1 : (m.length : Int) ≤ 1048575 := by have := HM.out; omega
 generalize hmn : m.length = n at *
 go_wp2_with fail
 go_loopw [5, 6, 7] (fun v5 v6 v7 wr => ∃ (k : Nat) (p : Bool), k ≤ n ∧ v7 = .int .i64 (k : Int) ∧ v6 = .bool p ∧ p = ((m.take k).any fun y => ahead x.name y.name) ∧ Owns wr (w.heap.size + 1) 93 2 v5 (lnkR (laidK x m k p)) ∧
  Owns wr W.heap.size 93 2 (.slice A1 n cA) (lnkR m) ∧ Blk wr w.heap.size #[.string x.name, .int .i64 x.id] 93 ∧ Below w.heap.size w wr ∧ (∀ g, v5.ownBlock = some g → (Value.slice A1 n cA).ownBlock ≠ some g)) (fun _ _ i _ => n - (intOf i).toNat)
 case atStart => exact ⟨0, false, by omega, rfl, rfl, by simp, by simpa [laidK, lnkR] using E2.out, O2.out, K2.out, B2.out, P0.out⟩
 case round =>
  obtain ⟨k, p, hk, rfl, rfl, hp, hO, hU, hX, hB, hP⟩ := hrel
  have HO : Hid (Owns wr (w.heap.size + 1) 93 2 u5 (lnkR (laidK x m k p))) := hO
  have HU : Hid (Owns wr W.heap.size 93 2 (.slice A1 n cA) (lnkR m)) := hU
  have HX : Hid (Blk wr w.heap.size #[.string x.name, .int .i64 x.id] 93) := hX
  have HBB : Hid (Below w.heap.size w wr) := hB
  have HP : Hid (∀ g, u5.ownBlock = some g → (Value.slice A1 n cA).ownBlock ≠ some g) := hP
  have HPP : Hid (p = ((m.take k).any fun y => ahead x.name y.name)) := hp
  clear hp hU hX hB hP
  have x0 := HX.out.cell 0 _ rfl
  have x1 := HX.out.cell 1 _ rfl
  by_cases hlt : k < n
  ·have q4 : (k : Int) < (n : Int) := by omega
   obtain ⟨A2, c2, e2, hlk⟩ := lnk_look HU.out.lies
   injection e2 with h1 h2 h3
   subst h1
   obtain ⟨g, off, rfl, hg, hc0, hc1⟩ := hlk k (by omega)
   clear h2 h3
   clear hlk
   have HY : Hid (m.getD k default = ⟨(m.getD k default).name, (m.getD k default).id⟩) := rfl
   have HA : Hid (((m.take (k + 1)).any fun y => ahead x.name y.name) = (((m.take k).any fun y => ahead x.name y.name) || ahead x.name (m.getD k default).name)) := any_take _ m k (by omega)
   have HT : Hid (m.take (k + 1) = m.take k ++ [m.getD k default]) := take_getD m k (by omega)
   have HLn : Hid (∀ p, (lnkR (laidK x m k p)).length ≤ 1048577) := fun p => by rw [lnkR_length]; have := laidK_length x m k p; have := HM.out; omega
   have hsz : w.heap.size + 1 ≤ wr.heap.size := Nat.succ_le_of_lt HX.out.lt
   have AP : Hid (∀ (v' : Value) (S : Nat), (v'.ownBlock = u5.ownBlock ∨ ∀ b, v'.ownBlock = some b → S ≤ b) → g < S → ∀ b, v'.ownBlock = some b → (Value.slice (some ⟨g, off, none⟩) n cA).ownBlock ≠ some b) := fun v' S h hS b hb hu => by
    rcases h with h | h
    ·rw [h] at hb
     exact HP.out b hb hu
    ·have h4 := h b hb
     have h5 : g = b := by simpa [Value.ownBlock] using hu
     omega
   generalize hyn : (m.getD k default).name = yn at *
   generalize hyi : (m.getD k default).id = yi at *
   generalize hxn : x.name = xn at *
   generalize hxi : x.id = xi at *
   cases p with
   | true =>
    have HQ : Hid (lnkR (laidK x m (k + 1) true) = lnkR (laidK x m k true) ++ [[.string yn, .int .i64 yi]]) := by
     unfold Hid
     rw [show laidK x m (k + 1) true = laidK x m k true ++ [m.getD k default] by
      show ins x (m.take (k + 1)) = ins x (m.take k) ++ _
      rw [HT.out]
      exact ins_put x _ _ (by rw [hxn]; exact HPP.out.symm), lnkR_append, HY.out]
     rfl
    have HQ2 : Hid (true = ((m.take (k + 1)).any fun y => ahead xn y.name)) := by unfold Hid; rw [HA.out, ← HPP.out]; rfl
    have hlen := HLn.out true
    generalize lnkR (laidK x m k true) = R at *
    go_wp2_with fail
    go_quiet (fail)
    have hOd : Owns (wr.drewN nq) (w.heap.size + 1) 93 2 u5 R := hO
    have s1 : R.length ≤ 2097152 := by omega
    have s2 : w.heap.size + 1 ≤ (wr.drewN nq).heap.size := hsz
    have s3 : ∀ u ∈ [Value.string yn, Value.int .i64 yi], u.oneCell' = true := by intro u hu; simp at hu; rcases hu with rfl | rfl <;> rfl
    go_wp2_with (at_builtin; refine wpList_append_row (w := wr.drewN nq) rfl (.tmp 35) (.tmp 40) 38 93 (.agg #[.string ⟨#[]⟩, .int .i64 0]) 2 24 rfl Tryz.underlying38 Tryz.infoLnk rfl (by omega) (w.heap.size + 1) u5 R rfl hOd [.string yn, .int .i64 yi] rfl s3 rfl s1 (by omega) s2 ?_; intro v' w3 hO3 hb3 hk3 hw3)
    have U3 := HU.out.kept (w' := w3) fun b hb hu => hk3 b hb fun e => HP.out b e hu
    have X0 : Blk (wr.drewN nq) w.heap.size #[.string xn, .int .i64 xi] 93 := HX.out
    have X3 := X0.on hb3 (Nat.lt_succ_self _)
    have B3 := HBB.out.trans (((below_drewN' wr nq).mono HBB.out.size).trans (hb3.mono (by omega)))
    exact ⟨⟨k + 1, true, by omega, by go_num, rfl, HQ2.out, by rw [HQ.out]; exact hO3, U3, X3, B3, AP.out _ _ hw3 hg⟩, by simp [intOf]; omega⟩
   | false =>
    by_cases ha : ahead xn yn = true
    ·have hle : Op.bytesLess xn.toList yn.toList = true := ha
     have HQ : Hid (lnkR (laidK x m (k + 1) true) = lnkR (laidK x m k false) ++ [[.string xn, .int .i64 xi]] ++ [[.string yn, .int .i64 yi]]) := by
      unfold Hid
      rw [show laidK x m (k + 1) true = laidK x m k false ++ [x] ++ [m.getD k default] by
       show ins x (m.take (k + 1)) = m.take k ++ [x] ++ _
       rw [HT.out, ins_past x _ _ (by rw [hxn]; exact HPP.out.symm), ins, if_pos (by rw [hxn, hyn]; exact ha)]
       simp, lnkR_append, lnkR_append, HY.out]
      rw [← hxn, ← hxi]
      rfl
     have HQ2 : Hid (true = ((m.take (k + 1)).any fun y => ahead xn y.name)) := by unfold Hid; rw [HA.out, ← HPP.out, ha]; rfl
     have hlen := HLn.out false
     clear ha
     generalize lnkR (laidK x m k false) = R at *
     go_wp2_with fail
     go_quiet (fail)
     have hOd : Owns (wr.drewN nq) (w.heap.size + 1) 93 2 u5 R := hO
     have s1 : R.length ≤ 2097152 := by omega
     have s1' : (R ++ [[Value.string xn, Value.int .i64 xi]]).length ≤ 2097152 := by rw [List.length_append]; simp; omega
     have s2 : w.heap.size + 1 ≤ (wr.drewN nq).heap.size := hsz
     have s3 : ∀ u ∈ [Value.string xn, Value.int .i64 xi], u.oneCell' = true := by intro u hu; simp at hu; rcases hu with rfl | rfl <;> rfl
     have s4 : ∀ u ∈ [Value.string yn, Value.int .i64 yi], u.oneCell' = true := by intro u hu; simp at hu; rcases hu with rfl | rfl <;> rfl
     have d0 : wr.cell? ⟨w.heap.size, 0, none⟩ = some (.string xn) := x0
     have d1 : wr.cell? ⟨w.heap.size, 1, none⟩ = some (.int .i64 xi) := x1
     have hg' : Hid (g < wr.heap.size) := hg
     have hc0' := hc0
     have hc1' := hc1
     clear x0 x1
     go_wp2_with (first
      | (at_builtin; refine wpList_append_row (w := wr.drewN nq) rfl (.tmp 31) (.tmp 33) 38 93 (.agg #[.string ⟨#[]⟩, .int .i64 0]) 2 24 rfl Tryz.underlying38 Tryz.infoLnk rfl (by omega) (w.heap.size + 1) u5 R rfl hOd [.string xn, .int .i64 xi] rfl s3 rfl s1 (by omega) s2 ?_; intro v' w3 hO3 hb3 hk3 hw3; have E0 := (World.cell?_of_block (a := ⟨g, off + k * 2, none⟩) (hk3 g hg'.out fun e => HP.out g e rfl)).trans hc0'; have E1 := (World.cell?_of_block (a := ⟨g, off + k * 2 + 1, none⟩) (hk3 g hg'.out fun e => HP.out g e rfl)).trans hc1'; have t2 : w.heap.size + 1 ≤ w3.heap.size := Nat.le_trans s2 hb3.size)
      | (at_builtin; refine wpList_append_row (w := w3) rfl (.tmp 35) (.tmp 40) 38 93 (.agg #[.string ⟨#[]⟩, .int .i64 0]) 2 24 rfl Tryz.underlying38 Tryz.infoLnk rfl (by omega) (w.heap.size + 1) v' (R ++ [[Value.string xn, Value.int .i64 xi]]) rfl hO3 [.string yn, .int .i64 yi] rfl s4 rfl s1' (by omega) t2 ?_; intro v2 w4 hO4 hb4 hk4 hw4))
     have N3 := AP.out _ _ hw3 hg
     have U4 := HU.out.kept (w' := w4) fun b hb hu => (hk4 b (Nat.lt_of_lt_of_le hb hb3.size) fun e => N3 b e hu).trans (hk3 b hb fun e => HP.out b e hu)
     have X0 : Blk (wr.drewN nq) w.heap.size #[.string xn, .int .i64 xi] 93 := HX.out
     have X4 := (X0.on hb3 (Nat.lt_succ_self _)).on hb4 (Nat.lt_succ_self _)
     have B4 := HBB.out.trans ((((below_drewN' wr nq).mono HBB.out.size).trans (hb3.mono (by omega))).trans (hb4.mono (by omega)))
     have N4 : ∀ b, v2.ownBlock = some b → (Value.slice (some ⟨g, off, none⟩) n cA).ownBlock ≠ some b := fun b hb hu => by
      rcases hw4 with h | h
      ·rw [h] at hb
       exact N3 b hb hu
      ·have h4 := h b hb
       have h5 : g = b := by simpa [Value.ownBlock] using hu
       have h6 := hb3.size
       have h7 : g < (wr.drewN nq).heap.size := hg
       omega
     exact ⟨⟨k + 1, true, by omega, by go_num, rfl, HQ2.out, by rw [HQ.out]; exact hO4, U4, X4, B4, N4⟩, by simp [intOf]; omega⟩
    ·have hle : Op.bytesLess xn.toList yn.toList = false := by simpa [ahead] using ha
     have HQ : Hid (lnkR (laidK x m (k + 1) false) = lnkR (laidK x m k false) ++ [[.string yn, .int .i64 yi]]) := by
      unfold Hid
      rw [show laidK x m (k + 1) false = laidK x m k false ++ [m.getD k default] from HT.out, lnkR_append, HY.out]
      rfl
     have HQ2 : Hid (false = ((m.take (k + 1)).any fun y => ahead xn y.name)) := by unfold Hid; rw [HA.out, ← HPP.out]; simpa using ha
     have hlen := HLn.out false
     clear ha
     generalize lnkR (laidK x m k false) = R at *
     go_wp2_with fail
     go_quiet (fail)
     have hOd : Owns (wr.drewN nq) (w.heap.size + 1) 93 2 u5 R := hO
     have s1 : R.length ≤ 2097152 := by omega
     have s2 : w.heap.size + 1 ≤ (wr.drewN nq).heap.size := hsz
     have s3 : ∀ u ∈ [Value.string yn, Value.int .i64 yi], u.oneCell' = true := by intro u hu; simp at hu; rcases hu with rfl | rfl <;> rfl
     go_wp2_with (at_builtin; refine wpList_append_row (w := wr.drewN nq) rfl (.tmp 35) (.tmp 40) 38 93 (.agg #[.string ⟨#[]⟩, .int .i64 0]) 2 24 rfl Tryz.underlying38 Tryz.infoLnk rfl (by omega) (w.heap.size + 1) u5 R rfl hOd [.string yn, .int .i64 yi] rfl s3 rfl s1 (by omega) s2 ?_; intro v' w3 hO3 hb3 hk3 hw3)
     have U3 := HU.out.kept (w' := w3) fun b hb hu => hk3 b hb fun e => HP.out b e hu
     have X0 : Blk (wr.drewN nq) w.heap.size #[.string xn, .int .i64 xi] 93 := HX.out
     have X3 := X0.on hb3 (Nat.lt_succ_self _)
     have B3 := HBB.out.trans (((below_drewN' wr nq).mono HBB.out.size).trans (hb3.mono (by omega)))
     exact ⟨⟨k + 1, false, by omega, by go_num, rfl, HQ2.out, by rw [HQ.out]; exact hO3, U3, X3, B3, AP.out _ _ hw3 hg⟩, by simp [intOf]; omega⟩
  ·obtain rfl : k = n := by omega
   have HLn : Hid (∀ p, (lnkR (laidK x m k p)).length ≤ 1048577) := fun p => by rw [lnkR_length]; have := laidK_length x m k p; have := HM.out; omega
   have hsz : w.heap.size + 1 ≤ wr.heap.size := Nat.succ_le_of_lt HX.out.lt
   have HTT : Hid (m.take k = m) := by unfold Hid; rw [← hmn, List.take_length]
   cases p with
   | true =>
    go_wp2_with fail
    go_ret
    refine ⟨_, rfl, ?_, HBB.out⟩
    have h3 := HO.out
    rw [show laidK x m k true = ins x m by unfold laidK; rw [HTT.out]; rfl, ← HW.out] at h3
    exact h3.mono (Nat.le_succ _)
   | false =>
    have HQ : Hid (lnkR (withL l x) = lnkR (laidK x m k false) ++ [[.string x.name, .int .i64 x.id]]) := by
     unfold Hid
     have h4 := ins_past x m [] (by have := HPP.out; rw [HTT.out] at this; exact this.symm)
     rw [List.append_nil] at h4
     rw [HW.out, h4, show laidK x m k false = m by unfold laidK; rw [HTT.out]; rfl, lnkR_append]
     rfl
    have hlen := HLn.out false
    have s1 : (lnkR (laidK x m k false)).length ≤ 2097152 := by omega
    have s3 : ∀ u ∈ [Value.string x.name, Value.int .i64 x.id], u.oneCell' = true := by intro u hu; simp at hu; rcases hu with rfl | rfl <;> rfl
    have d0 : wr.cell? ⟨w.heap.size, 0, none⟩ = some (.string x.name) := x0
    have d1 : wr.cell? ⟨w.heap.size, 1, none⟩ = some (.int .i64 x.id) := x1
    clear x0 x1
    generalize lnkR (laidK x m k false) = R at *
    generalize hxn : x.name = xn at *
    generalize hxi : x.id = xi at *
    go_wp2_with (at_builtin; refine wpList_append_row (w := wr) rfl (.tmp 44) (.tmp 46) 38 93 (.agg #[.string ⟨#[]⟩, .int .i64 0]) 2 24 rfl Tryz.underlying38 Tryz.infoLnk rfl (by omega) (w.heap.size + 1) u5 R rfl hO [.string xn, .int .i64 xi] rfl s3 rfl s1 (by omega) hsz ?_; intro v' w3 hO3 hb3 hk3 hw3)
    go_ret
    refine ⟨_, rfl, ?_, HBB.out.trans (hb3.mono (Nat.le_succ _))⟩
    rw [HQ.out]
    exact hO3.mono (Nat.le_succ _)
end Go.Proofs.YtdimaoloapbeoaaGreatDoor
