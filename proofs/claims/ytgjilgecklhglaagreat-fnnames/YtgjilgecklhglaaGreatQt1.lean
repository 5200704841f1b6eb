/- ImSpare DkTo DkApp DkWith ImTakeI ImLaid ImClone ImName DkOrd ImTakeD -/
import Derived.Test.YtgjilgecklhglaaGreatRows
import Derived.Test.YtgjilgecklhglaaGreatQt0
import Derived.OwnWalk
import Derived.Deep.RegionHeld3
import Derived.Deep.QuietTactic
import Derived.BigQuiet
import Derived.Shelf.SlGeneric
import Derived.Ground.SlmcProg
import Derived.Shelf.SlMaps.Clone
import Derived.Test.YtgjilgecklhglaaGreatProg
import Derived.Lib.QuoteBits
namespace Go.Proofs.YtgjilgecklhglaaGreat
open Go.ChangeShapes Go.WideShapes Go.ChangeAt Go.RowKit Go.PlainAid Go.Maps
set_option linter.unusedVariables false
theorem ret_int {k : IntKind} {a b : Int} (h : a = b) : Ending.returned (.int k a) = .returned (.int k b) := by rw [h]
def prs (ns : List Nod) (gs : List Nat) : List (Int × Nat) := (ns.map (·.id)).zip gs
structure Held (w : World) (ns : List Nod) (gs : List Nat) : Prop where
 len : gs.length = ns.length
 blk : ∀ j, j < ns.length → Blk w (gs.getD j 0) #[.int .i64 (ns.getD j default).id, .string (ns.getD j default).data, .int .i64 (ns.getD j default).sure] 47
theorem Held.kept {w w' : World} {ns : List Nod} {gs : List Nat} (h : Held w ns gs) (hk : ∀ g ∈ gs, w'.heap[g]? = w.heap[g]?) : Held w' ns gs :=
 ⟨h.len, fun j hj => by
  unfold Blk
  rw [hk _ (by
   have hj' : j < gs.length := by rw [h.len]; exact hj
   rw [List.getD_eq_getElem?_getD, List.getElem?_eq_getElem hj']
   exact List.getElem_mem hj')]
  exact h.blk j hj⟩
theorem Held.lt {w : World} {ns : List Nod} {gs : List Nat} (h : Held w ns gs) : ∀ g ∈ gs, g < w.heap.size := fun g hg => by
 obtain ⟨j, hj, rfl⟩ := List.getElem_of_mem hg
 have := (h.blk j (by rw [← h.len]; exact hj)).lt
 rw [List.getD_eq_getElem?_getD, List.getElem?_eq_getElem hj] at this
 exact this
theorem Held.but {S : Nat → Prop} {w w' : World} {ns : List Nod} {gs : List Nat} (h : Held w ns gs) (hb : But S w w') (hn : ∀ g ∈ gs, ¬ S g) : Held w' ns gs := h.kept fun g hg => hb.block g (h.lt g hg) (hn g hg)
theorem Held.on {B : Nat} {w w' : World} {ns : List Nod} {gs : List Nat} (h : Held w ns gs) (hb : Below B w w') (hn : ∀ g ∈ gs, g < B) : Held w' ns gs := h.kept fun g hg => hb.block g (hn g hg)
def Rising (ns : List Nod) : Prop := ns.Pairwise fun a b => a.id < b.id
theorem prs_at {ns : List Nod} {gs : List Nat} {x : Int} {g : Nat} (h : ptrAt (prs ns gs) x = some g) : ∃ j, j < ns.length ∧ (ns.getD j default).id = x ∧ gs.getD j 0 = g := by
 unfold ptrAt prs at h
 rw [Option.map_eq_some_iff] at h
 obtain ⟨p, hp, rfl⟩ := h
 have h1 := List.find?_some hp
 have h2 := List.mem_of_find?_eq_some hp
 obtain ⟨j, hj, rfl⟩ := List.getElem_of_mem h2
 have hl : j < ns.length ∧ j < gs.length := by
  rw [List.length_zip, List.length_map] at hj
  omega
 refine ⟨j, hl.1, ?_, ?_⟩
 ·rw [← getD_at ns j hl.1]
  have := of_decide_eq_true h1
  rw [List.getElem_zip, List.getElem_map] at this
  exact this
 ·rw [List.getD_eq_getElem?_getD, List.getElem?_eq_getElem hl.2]
  rw [List.getElem_zip]
  rfl
def rem (left : Lit → Bool) : List Nod → Nat
 | [] => 0
 | x :: r => (if left (.int .i64 x.id) = true then x.data.size else 0) + rem left r
theorem rem_all {left : Lit → Bool} {ns : List Nod} (h : ∀ x ∈ ns, left (.int .i64 x.id) = true) : rem left ns = bytesOf ns := by
 induction ns with
 | nil => rfl
 | cons x r ih =>
  unfold rem bytesOf
  rw [if_pos (h x (by simp)), ih fun y hy => h y (by simp [hy])]
theorem rem_no {left : Lit → Bool} {ns : List Nod} (h : ∀ kl, left kl = false) : rem left ns = 0 := by
 induction ns with
 | nil => rfl
 | cons x r ih =>
  unfold rem
  rw [ih, if_neg (by rw [h]; exact Bool.false_ne_true)]
theorem rem_congr {p q : Lit → Bool} {ns : List Nod} (h : ∀ x ∈ ns, p (.int .i64 x.id) = q (.int .i64 x.id)) : rem p ns = rem q ns := by
 induction ns with
 | nil => rfl
 | cons x r ih =>
  unfold rem
  rw [h x (by simp), ih fun y hy => h y (by simp [hy])]
theorem rem_strike {left : Lit → Bool} : ∀ {ns : List Nod}, Rising ns → ∀ {j : Nat}, j < ns.length → left (.int .i64 (ns.getD j default).id) = true → rem left ns = rem (fun z => left z && !z.sameKey (.int .i64 (ns.getD j default).id)) ns + (ns.getD j default).data.size
 | [], _, j, hj, _ => by simp at hj
 | x :: r, hr, 0, _, hl => by
  have h1 := List.pairwise_cons.1 hr
  have e : (List.getD (x :: r) 0 default) = x := rfl
  rw [e] at hl ⊢
  unfold rem
  rw [if_pos hl, intK_same, decide_eq_true rfl, Bool.not_true, Bool.and_false, if_neg Bool.false_ne_true]
  have : rem left r = rem (fun z => left z && !z.sameKey (.int .i64 x.id)) r := rem_congr fun y hy => by
   rw [intK_same, decide_eq_false (by have := h1.1 y hy; omega)]
   simp
  omega
 | x :: r, hr, j + 1, hj, hl => by
  have h1 := List.pairwise_cons.1 hr
  have e : (List.getD (x :: r) (j + 1) default) = r.getD j default := rfl
  rw [e] at hl ⊢
  have ih := rem_strike h1.2 (show j < r.length by simpa using hj) hl
  unfold rem
  have hm := getD_mem r j (by simpa using hj)
  rw [intK_same, decide_eq_false (by have := h1.1 _ hm; omega), Bool.not_false, Bool.and_true]
  omega
theorem rem_le (left : Lit → Bool) : ∀ ns : List Nod, rem left ns ≤ bytesOf ns
 | [] => Nat.le_refl _
 | x :: r => by
  have := rem_le left r
  unfold rem bytesOf
  split <;> omega
theorem prs_has {ns : List Nod} {gs : List Nat} (hl : gs.length = ns.length) {x : Nod} (hx : x ∈ ns) : has (ptrD (prs ns gs)) (.int .i64 x.id) = true := by
 rw [ptrD_has]
 unfold ptrAt
 rw [Option.isSome_map, List.find?_isSome]
 obtain ⟨j, hj, rfl⟩ := List.getElem_of_mem hx
 refine ⟨(ns[j].id, gs[j]'(by omega)), ?_, by simp⟩
 unfold prs
 rw [List.mem_iff_getElem]
 exact ⟨j, by rw [List.length_zip, List.length_map]; omega, by rw [List.getElem_zip, List.getElem_map]⟩
theorem wpList_next_it {P : Program} (w : World) {ops : Array Oper} {rest : List Oper} {o : Oper} {a : Act} {Q : Exit → Act → World → Prop} (hg : o.guard = none) (it : Operand) (hop : o.op = Op.next it false) (k : TypeId) (hk : P.underlying k = some (.int .i64)) (b r n : Nat) (l : List (Int × Nat)) (left : Lit → Bool) (cnt : Nat)
  (hit : a.eval it = .pointer (some ⟨r, 0, none⟩)) (h : w.ranges P k ptrElem b r n (ptrD l) left cnt)
  (hDone : cnt = 0 → (∀ kl, left kl = false) → wpList P ops Q rest (a.put o.dst (.tuple #[.bool false])) w)
  (hMore : ∀ (x : Int) (g : Nat) (w' : World) (cnt' : Nat), left (.int .i64 x) = true → ptrAt l x = some g → w'.ranges P k ptrElem b r n (ptrD l) (fun z => left z && !z.sameKey (.int .i64 x)) cnt' → cnt' < cnt →
   w.grownBy w' (some r) → w'.heap.size = w.heap.size → (Instr.entry (.pointer (some ⟨r, 0, none⟩))).run P w' = .ok (.tuple #[.int .i64 x, .pointer (some ⟨g, 0, none⟩)]) w' → wpList P ops Q rest (a.put o.dst (.tuple #[.bool true, .int .i64 x, .pointer (some ⟨g, 0, none⟩)])) w') :
  wpList P ops Q (o :: rest) a w := by
 refine wpList_plain hg fun K' hK' => ?_
 unfold Oper.wp
 rcases h.next (int_keyed hk) o.type with ⟨h0, hl, hrun⟩ | ⟨key, v, kl, y, w', cnt', hkey, hlk, hv, hat, hrun, hrg, hlt, hgr, hsz, hen⟩
 ·simp [execOp, hop, hit, hrun, Result.andThen]
  exact hK' _ _ (hDone h0 hl)
 ·obtain ⟨x, rfl, rfl, _⟩ := Maps.keyOf_int_inv hk hkey
  obtain ⟨g, hg', rfl⟩ : ∃ g, ptrAt l x = some g ∧ v = .pointer (some ⟨g, 0, none⟩) := by
   have h1 := hat .nil
   have h2 := hat (.map [])
   rw [ptrD_at] at h1 h2
   rcases e : ptrAt l x with _ | g
   ·rw [e] at h1 h2
    rw [← h1] at h2
    cases h2
   ·rw [e] at h1
    refine ⟨g, rfl, ptrElem_inv (ps := y.2) ?_⟩
    rw [hv]
    exact congrArg some (Prod.ext h1.symm rfl)
  simp [execOp, hop, hit, hrun, Result.andThen]
  exact hK' _ _ (hMore x g w' cnt' hlk hg' hrg hlt hgr hsz hen)
set_option maxRecDepth 20000 in
set_option maxHeartbeats 1000000 in
theorem spareV (room next : Int) (v4 v5 v6 : Value) (p bi : Nat) (ns : List Nod) (gs : List Nat) (w : World) (hp : Blk w p #[.int .i64 room, .int .i64 next, .map (some bi), v4, v5, v6] 86) (hI : IT w bi (prs ns gs)) (hH : Held w ns gs) (hr : Rising ns)
  (h0 : 0 ≤ room) (h1 : room ≤ 1048576) (hs : bytesOf ns ≤ 4194304) :
  Calls Tryz.prog 64 #[.pointer (some ⟨p, 0, none⟩)] w fun e w' => e = .returned (.int .i64 (room - (bytesOf ns : Int))) ∧ Below w.heap.size w w' := by
 have HI := hI.tight
 have HH : Hid (Held w ns gs) := hH
 have HR : Hid (Rising ns) := hr
 have HS : Hid (bytesOf ns ≤ 4194304) := hs
 have HA : Hid (rem (has (ptrD (prs ns gs))) ns = bytesOf ns) := rem_all fun x hx => prs_has hH.len hx
 have hbl := hI.lt
 have y0 := hp.cell 0 _ rfl
 have y2 := hp.cell 2 _ rfl
 have q0 : (bytesOf ns : Int) ≤ 4194304 := by omega
 clear hp hI hH hr hs
 go_enter Tryz.func64, Tryz.ntmps64
 go_wp2_with (at_range; refine wpList_range_own _ rfl _ 82 rfl 3 81 (int_keyed Tryz.underlying3) Tryz.underlying82 _ bi _ _ rfl HI ?_; intro w0 hrg0 hg0 hs0)
 go_frame
 have B0 : Hid (Below w.heap.size w w0) := (Below.refl _ w).grown hg0 (Nat.le_refl _) (fun j hj => by cases hj)
 have RG : Hid (w0.ranges Tryz.prog 3 ptrElem bi w.heap.size (prs ns gs).length (ptrD (prs ns gs)) (has (ptrD (prs ns gs))) (Maps.size (ptrD (prs ns gs)))) := hrg0
 clear hrg0 hg0 hs0 y0 y2 HI
 go_loopw [3] (fun v3 wr => ∃ (left : Lit → Bool) (cnt : Nat), wr.ranges Tryz.prog 3 ptrElem bi w.heap.size (prs ns gs).length (ptrD (prs ns gs)) left cnt ∧ v3 = .int .i64 (room - (bytesOf ns : Int) + (rem left ns : Int)) ∧ Below w.heap.size w wr)
  (fun _ wr => wr.rangeLeft bi w.heap.size)
 case atStart => exact ⟨_, _, RG.out, by rw [HA.out]; congr 1; omega, B0.out⟩
 case round =>
  obtain ⟨left, cnt, hrg, rfl, hb⟩ := hrel
  have HB : Hid (Below w.heap.size w wr) := hb
  have hle := rem_le left ns
  have q1 : (rem left ns : Int) ≤ 4194304 := by omega
  clear hb hle
  go_wp2_with (at_next; refine wpList_next_it _ rfl _ rfl 3 Tryz.underlying3 bi w.heap.size _ _ _ _ rfl hrg ?_ ?_)
  ·intro hc0 hl0
   have HZ : Hid (rem left ns = 0) := rem_no hl0
   clear hl0 hc0
   go_wp2_with fail
   go_ret
   exact ⟨ret_int (by rw [HZ.out]; omega), HB.out⟩
  ·intro x g w1 cnt1 hlx hat hrg1 hlt hg1 hs1 hen
   obtain ⟨j, hj, hx, hgj⟩ := prs_at hat
   have HE : Hid (rem left ns = rem (fun z => left z && !z.sameKey (.int .i64 x)) ns + (ns.getD j default).data.size) := by
    unfold Hid
    rw [← hx]
    exact rem_strike HR.out hj (by rw [hx]; exact hlx)
   have B1 : Hid (Below w.heap.size w w1) := HB.out.grown hg1 HB.out.size (fun i hi => by cases hi; exact Nat.le_refl _)
   have hk := HH.out.blk j hj
   rw [hgj] at hk
   have hk1 := hk.on B1.out hk.lt
   have x1 := hk1.cell 1 _ rfl
   have R1 : Hid (w1.ranges Tryz.prog 3 ptrElem bi w.heap.size (prs ns gs).length (ptrD (prs ns gs)) (fun z => left z && !z.sameKey (.int .i64 x)) cnt1) := hrg1
   have R0 : Hid (wr.ranges Tryz.prog 3 ptrElem bi w.heap.size (prs ns gs).length (ptrD (prs ns gs)) left cnt) := hrg
   have hsz : ((ns.getD j default).data.size : Int) ≤ 4194304 := by have := HE.out; omega
   have HLT : Hid (cnt1 < cnt) := hlt
   have EI : Hid ((rem left ns : Int) = (rem (fun z => left z && !z.sameKey (.int .i64 x)) ns : Int) + ((ns.getD j default).data.size : Int)) := by unfold Hid; rw [HE.out]; omega
   clear hrg1 hrg hlt hg1 hs1 hk hk1 hlx hat hx hgj HE hj
   generalize (ns.getD j default).data = dt at *
   generalize hre : rem left ns = re at *
   generalize hrf : rem (fun z => left z && !z.sameKey (.int .i64 x)) ns = rf at *
   go_wp2_with fail
   go_roundw
   case rel => exact ⟨_, cnt1, R1.out, by rw [hrf]; congr 1; have := EI.out; omega, B1.out⟩
   case measure => rw [R1.out.left_eq, R0.out.left_eq]; exact HLT.out
end Go.Proofs.YtgjilgecklhglaaGreat
namespace Go.Proofs.YtgjilgecklhglaaGreat
open Go.ChangeShapes Go.WideShapes Go.ChangeAt Go.RowKit Go.PlainAid
set_option linter.unusedVariables false
theorem Tryz.infoNod : (Tryz.prog.info? 47).map (fun i => (i.zero, i.size, i.bytes)) = some (some (.agg #[.int .i64 0, .string ⟨#[]⟩, .int .i64 0]), 3, 32) := by kernel_rfl
theorem Tryz.infoLnk : (Tryz.prog.info? 49).map (fun i => (i.zero, i.size, i.bytes)) = some (some (.agg #[.string ⟨#[]⟩, .int .i64 0]), 2, 24) := by kernel_rfl
theorem Tryz.infoMov : (Tryz.prog.info? 51).map (fun i => (i.zero, i.size, i.bytes)) = some (some (.agg #[.int .i64 0, .string ⟨#[]⟩, .string ⟨#[]⟩, .int .i64 0]), 4, 48) := by kernel_rfl
end Go.Proofs.YtgjilgecklhglaaGreat
namespace Go.Proofs.YtgjilgecklhglaaGreat
open Go.RowKit Go.PlainAid
theorem Owns.empty (w : World) (base : Nat) (e : TypeId) (sz : Nat) (hb : base ≤ w.heap.size) : Owns (w.alloc (.cells #[] e)) base e sz (.slice (some ⟨w.heap.size, 0, none⟩) 0 0) [] :=
 ⟨fun r hr => by simp at hr, World.ownsRow_lit w #[] 0 hb (by unfold maxLen; omega) (by simp)⟩
theorem Owns.nil (w : World) (base : Nat) (e : TypeId) (sz : Nat) : Owns w base e sz (.slice none 0 0) [] := ⟨fun r hr => by simp at hr, World.ownsRow_nil w base e sz⟩
theorem Owns.alloc {w : World} {base : Nat} {e : TypeId} {sz : Nat} {v : Value} {rows : List (List Value)} (h : Owns w base e sz v rows) (o : Obj) : Owns (w.alloc o) base e sz v rows := ⟨h.1, World.ownsRow.alloc h.2 o⟩
theorem run_append_where {P : Program} (w : World) (base : Nat) (t ty e : TypeId) (i : TypeInfo) (z : Value) (size bytes : Nat) (ht : P.underlying t = some (.slice e)) (hi : P.info? e = some i) (hz : i.zero = some z)
  (hsize : i.size = size) (hby : i.bytes = bytes)
  (v : Value) (n : Nat) (xs : List Value) (hown : w.ownsRow base e size v n xs)
  (a : Addr) (m c : Nat) (news : List Value) (hl : news.length = m * size) (hnews : ∀ j u, news[j]? = some u → w.cell? (a.add j) = some u) (h1 : ∀ u ∈ news, u.oneCell' = true)
  (h63 : n + m ≤ maxLen) (hbytes : (n + m) * bytes ≤ 140737488355328) (v' : Value) (w' : World)
  (h : (Builtin.append_ #[t, t] ty #[v, .slice (some a) m c]).run P w = .ok v' w') : v'.ownBlock = v.ownBlock ∨ v'.ownBlock = some w.heap.size := by
 subst hsize
 subst hby
 have hsmall : n + m ≤ 9223372036854775807 := by simp only [maxLen] at h63; omega
 rcases hown.2 with ⟨rfl, rfl⟩ | ⟨g, cap, cur, rfl, hbg, hg, hnc, hcm, hcs, htake⟩
 ·by_cases hm : m = 0
  ·subst hm
   have hn : news = [] := List.eq_nil_of_length_eq_zero (by simpa using hl)
   subst hn
   have hr : (Builtin.append_ #[t, t] ty #[.slice none 0 0, .slice (some a) 0 c]).run P w = .ok (.slice none 0 0) w := by
    simp [Builtin.append_, run_underlying ht, sizeOf, typeInfo, hi, Builtin.lenOf, Builtin.firstCells, loadCells, loadCellsFrom]
   rw [hr] at h
   cases h
   exact .inl rfl
  ·have hr := run_append_nil (P := P) w t ty e i z ht hi hz a m c news hl hnews (by omega) (by omega) (by have hb := hbytes; simp only [Nat.zero_add] at hb; omega)
   rw [hr] at h
   cases h
   exact .inr rfl
 ·by_cases hroom : n + m ≤ cap
  ·have hfit : n * i.size + news.length ≤ cur.size := by rw [hl, hcs, ← Nat.add_mul]; exact Nat.mul_le_mul_right _ hroom
   have hr := run_append_room (P := P) w t ty e i ht hi g n cap cur hg a m c news hl hnews h1 hroom hfit
   rw [hr] at h
   cases h
   exact .inl rfl
  ·have holds : ∀ j u, xs[j]? = some u → w.cell? ((⟨g, 0, none⟩ : Addr).add j) = some u := hown.cells (g := g) rfl
   have hr := run_append_grow (P := P) w t ty e i z ht hi hz ⟨g, 0, none⟩ n cap xs hown.1 holds a m c news hl hnews (by omega) (by omega) (growslice_fits (by omega) hbytes)
   rw [hr] at h
   cases h
   exact .inr rfl
theorem wpList_append_own2 {P : Program} {w : World} {ops : Array Oper} {rest : List Oper} {o : Oper} {a : Act} {Q : Exit → Act → World → Prop} (hgd : o.guard = none) (s x : Operand) (t : TypeId)
  (ho : o.op = .call { callee := .builtin .append, args := #[s, x], argTypes := #[t, t] })
  (base : Nat) (e : TypeId) (i : TypeInfo) (z : Value) (size bytes : Nat) (ht : P.underlying t = some (.slice e)) (hi : P.info? e = some i) (hz : i.zero = some z)
  (hsize : i.size = size) (hby : i.bytes = bytes) (hzs : z.cells.size = size) (hsz : 0 < size)
  (v : Value) (n : Nat) (xs : List Value) (hs : a.eval s = v) (hown : w.ownsRow base e size v n xs)
  (ad : Addr) (m c : Nat) (news : List Value) (hx : a.eval x = .slice (some ad) m c) (hl : news.length = m * size) (hnews : ∀ j u, news[j]? = some u → w.cell? (ad.add j) = some u) (h1 : ∀ u ∈ news, u.oneCell' = true)
  (h63 : n + m ≤ maxLen) (hbytes : (n + m) * bytes ≤ 140737488355328) (hbase : base ≤ w.heap.size)
  (h : ∀ v' w', w'.ownsRow base e size v' (n + m) (xs ++ news) → w.grownBy w' v.ownBlock → (v'.ownBlock = v.ownBlock ∨ v'.ownBlock = some w.heap.size) → wpList P ops Q rest (a.put o.dst v') w') : wpList P ops Q (o :: rest) a w := by
 obtain ⟨v', w', hr, h2, h3, _⟩ := run_append_own (P := P) w base t o.type e i z size bytes ht hi hz hsize hby hzs hsz v n xs hown ad m c news hl hnews h1 h63 hbytes hbase
 have h5 := run_append_where (P := P) w base t o.type e i z size bytes ht hi hz hsize hby v n xs hown ad m c news hl hnews h1 h63 hbytes v' w' hr
 refine wpList_plain hgd fun K hK => ?_
 unfold Oper.wp execOp
 simp only [ho, resolve, invoke, builtin, Sem.run_bind, Sem.run_pure, Result.andThen_ok, List.map_toArray, List.map_cons, List.map_nil, hs, hx, hr]
 exact hK _ _ (h v' w' h2 h3 h5)
theorem wpList_append_row {P : Program} {w : World} {ops : Array Oper} {rest : List Oper} {o : Oper} {a : Act} {Q : Exit → Act → World → Prop} (hgd : o.guard = none) (s x : Operand) (t e : TypeId) (z : Value) (sz bytes : Nat)
  (ho : o.op = .call { callee := .builtin .append, args := #[s, x], argTypes := #[t, t] })
  (ht : P.underlying t = some (.slice e)) (hinfo : (P.info? e).map (fun i => (i.zero, i.size, i.bytes)) = some (some z, sz, bytes)) (hzs : z.cells.size = sz) (hsz : 0 < sz)
  (base : Nat) (v : Value) (rows : List (List Value)) (hs : a.eval s = v) (hown : Owns w base e sz v rows) (r : List Value) (hr : r.length = sz) (h1 : ∀ u ∈ r, u.oneCell' = true)
  (hx : a.eval x = .slice (some ⟨w.heap.size, 0, none⟩) 1 1) (hlen : rows.length ≤ 2097152) (hby : bytes ≤ 1000) (hbase : base ≤ w.heap.size)
  (h : ∀ v' w', Owns w' base e sz v' (rows ++ [r]) → Below base w w' → (∀ g, g < w.heap.size → v.ownBlock ≠ some g → w'.heap[g]? = w.heap[g]?) → (v'.ownBlock = v.ownBlock ∨ ∀ g, v'.ownBlock = some g → w.heap.size ≤ g) → wpList P ops Q rest (a.put o.dst v') w') : wpList P ops Q (o :: rest) a (w.alloc (.cells r.toArray e)) := by
 obtain ⟨i0, hi, hz0, hz1, hz2⟩ := info_parts hinfo
 have hb1 : (rows.length + 1) * bytes ≤ 140737488355328 := Nat.le_trans (Nat.mul_le_mul (show rows.length + 1 ≤ 2097153 by omega) hby) (by omega)
 refine wpList_append_own2 (w := w.alloc (.cells r.toArray e)) hgd s x t ho base e i0 z sz bytes ht hi hz0 hz1 hz2 hzs hsz v rows.length rows.flatten hs (World.ownsRow.alloc hown.2 _) ⟨w.heap.size, 0, none⟩ 1 1 r hx (by rw [hr]; omega) ?_ h1 (by unfold maxLen; omega) hb1 (by simp; omega) ?_
 ·intro j u hj
  have e1 : (⟨w.heap.size, 0, none⟩ : Addr).add j = ⟨w.heap.size, j, none⟩ := by cases j <;> simp [Addr.add]
  rw [e1, World.cell?_alloc_mark]
  simpa using hj
 ·intro v' w' h2 h3 h5
  have hb0 : ∀ k, v.ownBlock = some k → base ≤ k := fun k hk => (hown.lt k hk).1
  refine h v' w' ⟨?_, ?_⟩ ?_ ?_ (h5.imp id fun e g hg => by rw [e] at hg; cases hg; simp)
  ·intro y hy
   rcases List.mem_append.1 hy with hy | hy
   ·exact hown.1 y hy
   ·rw [List.mem_singleton.1 hy]; exact hr
  ·rw [List.length_append, List.flatten_append]
   simpa using h2
  ·exact ((Below.refl base w).alloc hbase _).grown h3 (by simp; omega) hb0
  ·intro g hg hne
   rw [h3.block g (by simp; omega) (fun e => hne e.symm)]
   exact Below.heap_alloc w _ g hg
theorem wpList_append_all {P : Program} {w : World} {ops : Array Oper} {rest : List Oper} {o : Oper} {a : Act} {Q : Exit → Act → World → Prop} (hgd : o.guard = none) (s x : Operand) (t e : TypeId) (z : Value) (sz bytes : Nat)
  (ho : o.op = .call { callee := .builtin .append, args := #[s, x], argTypes := #[t, t] })
  (ht : P.underlying t = some (.slice e)) (hinfo : (P.info? e).map (fun i => (i.zero, i.size, i.bytes)) = some (some z, sz, bytes)) (hzs : z.cells.size = sz) (hsz : 0 < sz)
  (base : Nat) (v u : Value) (rows more : List (List Value)) (B : Nat) (hs : a.eval s = v) (hown : Owns w base e sz v rows) (hu : Lies w B sz u more) (h1 : ∀ r ∈ more, ∀ y ∈ r, y.oneCell' = true)
  (hx : a.eval x = u) (hlen : rows.length + more.length ≤ 2097152) (hby : bytes ≤ 1000) (hbase : base ≤ w.heap.size)
  (h : ∀ v' w', Owns w' base e sz v' (rows ++ more) → Below base w w' → (∀ g, g < w.heap.size → v.ownBlock ≠ some g → w'.heap[g]? = w.heap[g]?) → (v'.ownBlock = v.ownBlock ∨ ∀ g, v'.ownBlock = some g → w.heap.size ≤ g) → wpList P ops Q rest (a.put o.dst v') w') : wpList P ops Q (o :: rest) a w := by
 obtain ⟨i0, hi, hz0, hz1, hz2⟩ := info_parts hinfo
 have hb1 : (rows.length + more.length) * bytes ≤ 140737488355328 := Nat.le_trans (Nat.mul_le_mul hlen hby) (by omega)
 obtain ⟨A, cap, rfl, hz, hms, hm⟩ := hu
 have fin : ∀ v' w', w'.ownsRow base e sz v' (rows.length + more.length) (rows.flatten ++ more.flatten) → w.grownBy w' v.ownBlock → (v'.ownBlock = v.ownBlock ∨ v'.ownBlock = some w.heap.size) → wpList P ops Q rest (a.put o.dst v') w' := by
  intro v' w' h2 h3 h5
  have hb0 : ∀ k, v.ownBlock = some k → base ≤ k := fun k hk => (hown.lt k hk).1
  refine h v' w' ⟨?_, ?_⟩ ?_ ?_ (h5.imp id fun e g hg => by rw [e] at hg; cases hg; exact Nat.le_refl _)
  ·intro y hy
   rcases List.mem_append.1 hy with hy | hy
   ·exact hown.1 y hy
   ·exact hms y hy
  ·rw [List.length_append, List.flatten_append]
   exact h2
  ·exact (Below.refl base w).grown h3 hbase hb0
  ·intro g hg hne
   exact h3.block g hg (fun e => hne e.symm)
 match A, hz, hx, hm with
 | none, hz, hx, hm =>
  have h0 : more.length = 0 := by
   rcases hm with h0 | ⟨g, off, e, _⟩
   ·exact h0
   ·cases e
  have hc0 := hz.1 rfl
  subst hc0
  have hnil : more = [] := List.eq_nil_of_length_eq_zero h0
  subst hnil
  refine wpList_plain hgd fun K hK => ?_
  have hr := run_append_owned_none (P := P) w base t o.type e i0 sz ht hi v rows.length rows.flatten hown.2
  unfold Oper.wp
  simp [execOp, ho, resolve, invoke, builtin, hs, hx, hr, Result.andThen]
  refine hK _ _ (fin v w ?_ ⟨rfl, rfl, rfl, Nat.le_refl _, fun _ _ _ => rfl⟩ (.inl rfl))
  simpa using hown.2
 | some ad, hz, hx, hm =>
  refine wpList_append_own2 (w := w) hgd s x t ho base e i0 z sz bytes ht hi hz0 hz1 hz2 hzs hsz v rows.length rows.flatten hs hown.2 ad more.length cap more.flatten hx (flat_length sz more hms) ?_ ?_ (by unfold maxLen; omega) hb1 hbase ?_
  ·intro j y hj
   rcases hm with h0 | ⟨g, off, e, hg, hc⟩
   ·rw [List.eq_nil_of_length_eq_zero h0] at hj
    simp at hj
   ·cases e
    have e1 : (⟨g, off, none⟩ : Addr).add j = ⟨g, off + j, none⟩ := by cases j <;> simp [Addr.add]
    rw [e1]
    exact hc j y hj
  ·intro y hy
   obtain ⟨r, hr, hyr⟩ := List.mem_flatten.1 hy
   exact h1 r hr y hyr
  ·intro v' w' h2 h3 h5
   exact fin v' w' h2 h3 h5
theorem nod_one (l : List Nod) : ∀ r ∈ nodR l, ∀ y ∈ r, y.oneCell' = true := by
 intro r hr y hy
 obtain ⟨x, _, rfl⟩ := List.mem_map.1 hr
 simp [nodC] at hy
 rcases hy with rfl | rfl | rfl <;> rfl
theorem lnk_one (l : List Lnk) : ∀ r ∈ lnkR l, ∀ y ∈ r, y.oneCell' = true := by
 intro r hr y hy
 obtain ⟨x, _, rfl⟩ := List.mem_map.1 hr
 simp [lnkC] at hy
 rcases hy with rfl | rfl <;> rfl
theorem mov_one (l : List Mov) : ∀ r ∈ movR l, ∀ y ∈ r, y.oneCell' = true := by
 intro r hr y hy
 obtain ⟨x, _, rfl⟩ := List.mem_map.1 hr
 simp [movC] at hy
 rcases hy with rfl | rfl | rfl | rfl <;> rfl
end Go.Proofs.YtgjilgecklhglaaGreat
namespace Go.Proofs.YtgjilgecklhglaaGreat
open Go.ChangeShapes Go.WideShapes Go.ChangeAt Go.RowKit Go.PlainAid
set_option linter.unusedVariables false
theorem filter_take_yes {α : Type} [Inhabited α] (p : α → Bool) (l : List α) (k : Nat) (h : k < l.length) (hp : p (l.getD k default) = true) : (l.take (k + 1)).filter p = (l.take k).filter p ++ [l.getD k default] := by
 rw [take_getD l k h, List.filter_append]
 simp only [List.filter_cons, hp, if_true, List.filter_nil]
theorem filter_take_no {α : Type} [Inhabited α] (p : α → Bool) (l : List α) (k : Nat) (h : k < l.length) (hp : p (l.getD k default) = false) : (l.take (k + 1)).filter p = (l.take k).filter p := by
 rw [take_getD l k h, List.filter_append]
 simp only [List.filter_cons, hp, Bool.false_eq_true, if_false, List.filter_nil, List.append_nil]
theorem filter_len {α : Type} (p : α → Bool) (l : List α) (k : Nat) : ((l.take k).filter p).length ≤ l.length := Nat.le_trans (List.length_filter_le _ _) (by rw [List.length_take]; omega)
theorem below_drewN' (w : World) (n : Nat) : Below w.heap.size w (w.drewN n) := ⟨rfl, rfl, rfl, Nat.le_refl _, fun _ _ => rfl⟩
theorem below_alloc2' (w : World) (a b : Obj) : Below w.heap.size w ((w.alloc a).alloc b) := ((Below.refl _ w).alloc (Nat.le_refl _) a).alloc (by simp) b
set_option maxHeartbeats 1000000 in
theorem withoutV (l : List Lnk) (v : Value) (name : ByteArray) (w : World) (B : Nat) (hv : Lies w B 2 v (lnkR l)) (hn : l.length ≤ 1048576) (hB : B ≤ w.heap.size) :
  Calls Tryz.prog 83 #[v, .string name] w fun e w' => ∃ u, e = .returned u ∧ Owns w' w.heap.size 49 2 u (lnkR (without l name)) ∧ Below w.heap.size w w' := by
 obtain ⟨A, cap, rfl, hl⟩ := lnk_look hv
 have HL : Hid (∀ j, j < l.length → ∃ g off, A = some ⟨g, off, none⟩ ∧ g < B ∧ _) := hl
 have HB : Hid (B ≤ w.heap.size) := hB
 clear hl hv hB
 have q1 : (l.length : Int) ≤ 1048576 := by omega
 have HW : Hid (∀ k, without (l.take k) name = (l.take k).filter fun x => decide (x.name ≠ name)) := fun k => rfl
 have HF : Hid (∀ k, (without (l.take k) name).length ≤ l.length) := fun k => filter_len _ l k
 generalize hN : l.length = n at *
 go_enter Tryz.func83, Tryz.ntmps83
 go_wp2_with fail
 go_loopw [5, 6] (fun v5 v6 wr => ∃ k : Nat, k ≤ n ∧ v6 = .int .i64 (k : Int) ∧ Owns wr w.heap.size 49 2 v5 (lnkR (without (l.take k) name)) ∧ Below w.heap.size w wr) (fun _ i _ => n - (intOf i).toNat)
 case atStart => exact ⟨0, by omega, rfl, by rw [List.take_zero]; exact Owns.empty w _ _ _ (Nat.le_refl _), (Below.refl _ _).alloc (Nat.le_refl _) _⟩
 case round =>
  obtain ⟨k, hk, rfl, hO, hb⟩ := hrel
  have HO : Hid (Owns wr w.heap.size 49 2 u5 (lnkR (without (l.take k) name))) := hO
  have HB1 : Hid (Below w.heap.size w wr) := hb
  have hsz := hb.size
  clear hb
  by_cases hlt : k < n
  ·have q4 : (k : Int) < (n : Int) := by omega
   obtain ⟨g, off, rfl, hg, hc0, hc1⟩ := HL.out k hlt
   have hgw : g < w.heap.size := Nat.lt_of_lt_of_le hg HB.out
   rw [← HB1.out.cell (p := ⟨_, _, none⟩) hgw] at hc0 hc1
   have hbq := toList_beq (l.getD k default).name name
   by_cases he : (l.getD k default).name = name
   ·rw [decide_eq_true he] at hbq
    have HE : Hid (without (l.take (k + 1)) name = without (l.take k) name) := filter_take_no _ l k (by omega) (decide_eq_false (fun h => h he))
    clear he
    generalize (l.getD k default).name = x at *
    generalize (l.getD k default).id = y at *
    go_wp2_with fail
    go_roundw
    case rel => exact ⟨k + 1, by omega, by go_num, by rw [HE.out]; exact HO.out, HB1.out⟩
    case measure => simp [intOf]; omega
   ·rw [decide_eq_false he] at hbq
    have HE : Hid (lnkR (without (l.take (k + 1)) name) = lnkR (without (l.take k) name) ++ [[.string (l.getD k default).name, .int .i64 (l.getD k default).id]]) := by
     unfold Hid
     rw [show without (l.take (k + 1)) name = without (l.take k) name ++ [l.getD k default] from filter_take_yes _ l k (by omega) (decide_eq_true he), lnkR_append]
     rfl
    have hlen : (lnkR (without (l.take k) name)).length ≤ 2097152 := by rw [lnkR_length]; have := HF.out k; omega
    clear he
    generalize (l.getD k default).name = x at *
    generalize (l.getD k default).id = y at *
    generalize lnkR (without (l.take k) name) = R at *
    go_wp2_with (at_builtin; refine wpList_append_row rfl (.tmp 21) (.tmp 26) 25 49 (.agg #[.string ⟨#[]⟩, .int .i64 0]) 2 24 rfl Tryz.underlying25 Tryz.infoLnk rfl (by omega) w.heap.size _ R rfl hO [.string x, .int .i64 y] rfl (by intro u hu; simp at hu; rcases hu with rfl | rfl <;> rfl) rfl hlen (by omega) hsz ?_; intro v' w2 hO2 hb2 _ _)
    go_roundw
    case rel => exact ⟨k + 1, by omega, by go_num, by rw [HE.out]; exact hO2, HB1.out.trans hb2⟩
    case measure => simp [intOf]; omega
  ·obtain rfl : k = n := by omega
   go_wp2_with fail
   go_ret
   refine ⟨_, rfl, ?_, HB1.out⟩
   have := HO.out
   rw [← hN, List.take_length] at this
   exact this
theorem ins_put (x : Lnk) (l r : List Lnk) (h : (l.any fun y => ahead x.name y.name) = true) : ins x (l ++ r) = ins x l ++ r := by
 induction l with
 | nil => simp at h
 | cons y l ih =>
  rw [List.cons_append, ins, ins]
  by_cases hy : ahead x.name y.name = true
  ·rw [if_pos hy, if_pos hy]
   simp
  ·rw [if_neg hy, if_neg hy, ih (by simpa [hy] using h)]
   simp
theorem ins_past (x : Lnk) (l r : List Lnk) (h : (l.any fun y => ahead x.name y.name) = false) : ins x (l ++ r) = l ++ ins x r := by
 induction l with
 | nil => rfl
 | cons y l ih =>
  have hy : ¬ ahead x.name y.name = true := by
   intro e
   simp [e] at h
  rw [List.cons_append, ins, if_neg hy, ih (by simpa [hy] using h)]
  rfl
theorem ins_length (x : Lnk) (l : List Lnk) : (ins x l).length = l.length + 1 := by
 induction l with
 | nil => rfl
 | cons y l ih =>
  rw [ins]
  split
  ·rfl
  ·rw [List.length_cons, ih]; rfl
def laidK (x : Lnk) (m : List Lnk) (k : Nat) (p : Bool) : List Lnk := if p then ins x (m.take k) else m.take k
theorem any_take (f : Lnk → Bool) (m : List Lnk) (k : Nat) (h : k < m.length) : ((m.take (k + 1)).any f) = ((m.take k).any f || f (m.getD k default)) := by
 rw [take_getD m k h, List.any_append]
 simp
theorem laidK_length (x : Lnk) (m : List Lnk) (k : Nat) (p : Bool) : (laidK x m k p).length ≤ m.length + 1 := by
 unfold laidK
 split
 ·rw [ins_length, List.length_take]; omega
 ·rw [List.length_take]; omega
set_option maxRecDepth 20000 in
set_option maxHeartbeats 1000000 in
theorem withV (l : List Lnk) (v : Value) (x : Lnk) (w : World) (B : Nat) (hv : Lies w B 2 v (lnkR l)) (hn : l.length ≤ 1048575) (hB : B ≤ w.heap.size) :
  Calls Tryz.prog 82 #[v, vLnk x] w fun e w' => ∃ u, e = .returned u ∧ Owns w' w.heap.size 49 2 u (lnkR (withL l x)) ∧ Below w.heap.size w w' := by
 have HV : Hid (Lies w B 2 v (lnkR l)) := hv
 have HB : Hid (B ≤ w.heap.size) := hB
 have HM : Hid ((without l x.name).length ≤ 1048575) := by
  unfold Hid without
  exact Nat.le_trans (List.length_filter_le _ _) hn
 have HN : Hid (l.length ≤ 1048575) := hn
 clear hv hB hn
 unfold vLnk
 obtain ⟨A0, c0, hv0⟩ : ∃ A c, v = .slice A l.length c := by
  obtain ⟨A, c, e, _⟩ := HV.out
  exact ⟨A, c, by rw [e, lnkR_length]⟩
 subst hv0
 generalize hll : l.length = n0 at *
 have HW : Hid (withL l x = ins x (without l x.name)) := by
  unfold Hid withL
  rfl
 go_enter Tryz.func82, Tryz.ntmps82
 go_wp2_with fail
 have hb0 := below_alloc2' w (.cells #[.string x.name, .int .i64 x.id] 49) (.cells #[] 49)
 have kX := (Blk.new w #[.string x.name, .int .i64 x.id] 49).alloc (.cells #[] 49)
 have hE := Owns.empty (w.alloc (.cells #[.string x.name, .int .i64 x.id] 49)) (w.heap.size + 1) 49 2 (by simp)
 simp only [World.size_alloc] at hE
 generalize (w.alloc (.cells #[.string x.name, .int .i64 x.id] 49)).alloc (.cells #[] 49) = W at *
 have B0 : Hid (Below w.heap.size w W) := hb0
 have hWs : Hid (w.heap.size + 1 < W.heap.size) := (hE.lt _ rfl).2
 have HN1 : l.length ≤ 1048576 := by have := HN.out; omega
 refine (withoutV l (.slice A0 n0 c0) x.name W B (HV.out.on (B0.out.mono HB.out)) HN1 (Nat.le_trans HB.out B0.out.size)).mono ?_
 rintro e w2 ⟨u, rfl, hO2, hb2⟩
 have B2 : Hid (Below w.heap.size w w2) := B0.out.trans (hb2.mono B0.out.size)
 have K2 : Hid (Blk w2 w.heap.size #[.string x.name, .int .i64 x.id] 49) := kX.on hb2 kX.lt
 have E2 : Hid (Owns w2 (w.heap.size + 1) 49 2 (.slice (some ⟨w.heap.size + 1, 0, none⟩) 0 0) []) := hE.on hb2
 have O2 : Hid (Owns w2 W.heap.size 49 2 u (lnkR (without l x.name))) := hO2
 clear hb0 kX hE hb2 hO2
 generalize hm : without l x.name = m at *
 obtain ⟨A1, cA, hu1, _⟩ := lnk_look O2.out.lies
 have P0 : Hid (∀ g, (Value.slice (some ⟨w.heap.size + 1, 0, none⟩) 0 0).ownBlock = some g → u.ownBlock ≠ some g) := fun g hg hu => by
  have h1 := (O2.out.lt g hu).1
  have h2 := hWs.out
  have h3 : w.heap.size + 1 = g := by simpa [Value.ownBlock] using hg
  omega
 subst hu1
 have q1 : (m.length : Int) ≤ 1048575 := by have := HM.out; omega
 generalize hmn : m.length = n at *
 go_wp2_with fail
 go_loopw [5, 6, 7] (fun v5 v6 v7 wr => ∃ (k : Nat) (p : Bool), k ≤ n ∧ v7 = .int .i64 (k : Int) ∧ v6 = .bool p ∧ p = ((m.take k).any fun y => ahead x.name y.name) ∧ Owns wr (w.heap.size + 1) 49 2 v5 (lnkR (laidK x m k p)) ∧
  Owns wr W.heap.size 49 2 (.slice A1 n cA) (lnkR m) ∧ Blk wr w.heap.size #[.string x.name, .int .i64 x.id] 49 ∧ Below w.heap.size w wr ∧ (∀ g, v5.ownBlock = some g → (Value.slice A1 n cA).ownBlock ≠ some g)) (fun _ _ i _ => n - (intOf i).toNat)
 case atStart => exact ⟨0, false, by omega, rfl, rfl, by simp, by simpa [laidK, lnkR] using E2.out, O2.out, K2.out, B2.out, P0.out⟩
 case round =>
  obtain ⟨k, p, hk, rfl, rfl, hp, hO, hU, hX, hB, hP⟩ := hrel
  have HO : Hid (Owns wr (w.heap.size + 1) 49 2 u5 (lnkR (laidK x m k p))) := hO
  have HU : Hid (Owns wr W.heap.size 49 2 (.slice A1 n cA) (lnkR m)) := hU
  have HX : Hid (Blk wr w.heap.size #[.string x.name, .int .i64 x.id] 49) := hX
  have HBB : Hid (Below w.heap.size w wr) := hB
  have HP : Hid (∀ g, u5.ownBlock = some g → (Value.slice A1 n cA).ownBlock ≠ some g) := hP
  have HPP : Hid (p = ((m.take k).any fun y => ahead x.name y.name)) := hp
  clear hp hU hX hB hP
  have x0 := HX.out.cell 0 _ rfl
  have x1 := HX.out.cell 1 _ rfl
  by_cases hlt : k < n
  ·have q4 : (k : Int) < (n : Int) := by omega
   obtain ⟨A2, c2, e2, hlk⟩ := lnk_look HU.out.lies
   injection e2 with h1 h2 h3
   subst h1
   obtain ⟨g, off, rfl, hg, hc0, hc1⟩ := hlk k (by omega)
   clear h2 h3
   clear hlk
   have HY : Hid (m.getD k default = ⟨(m.getD k default).name, (m.getD k default).id⟩) := rfl
   have HA : Hid (((m.take (k + 1)).any fun y => ahead x.name y.name) = (((m.take k).any fun y => ahead x.name y.name) || ahead x.name (m.getD k default).name)) := any_take _ m k (by omega)
   have HT : Hid (m.take (k + 1) = m.take k ++ [m.getD k default]) := take_getD m k (by omega)
   have HLn : Hid (∀ p, (lnkR (laidK x m k p)).length ≤ 1048577) := fun p => by rw [lnkR_length]; have := laidK_length x m k p; have := HM.out; omega
   have hsz : w.heap.size + 1 ≤ wr.heap.size := Nat.succ_le_of_lt HX.out.lt
   have AP : Hid (∀ (v' : Value) (S : Nat), (v'.ownBlock = u5.ownBlock ∨ ∀ b, v'.ownBlock = some b → S ≤ b) → g < S → ∀ b, v'.ownBlock = some b → (Value.slice (some ⟨g, off, none⟩) n cA).ownBlock ≠ some b) := fun v' S h hS b hb hu => by
    rcases h with h | h
    ·rw [h] at hb
     exact HP.out b hb hu
    ·have h4 := h b hb
     have h5 : g = b := by simpa [Value.ownBlock] using hu
     omega
   generalize hyn : (m.getD k default).name = yn at *
   generalize hyi : (m.getD k default).id = yi at *
   generalize hxn : x.name = xn at *
   generalize hxi : x.id = xi at *
   cases p with
   | true =>
    have HQ : Hid (lnkR (laidK x m (k + 1) true) = lnkR (laidK x m k true) ++ [[.string yn, .int .i64 yi]]) := by
     unfold Hid
     rw [show laidK x m (k + 1) true = laidK x m k true ++ [m.getD k default] by
      show ins x (m.take (k + 1)) = ins x (m.take k) ++ _
      rw [HT.out]
      exact ins_put x _ _ (by rw [hxn]; exact HPP.out.symm), lnkR_append, HY.out]
     rfl
    have HQ2 : Hid (true = ((m.take (k + 1)).any fun y => ahead xn y.name)) := by unfold Hid; rw [HA.out, ← HPP.out]; rfl
    have hlen := HLn.out true
    generalize lnkR (laidK x m k true) = R at *
    go_wp2_with fail
    go_quiet (fail)
    have hOd : Owns (wr.drewN nq) (w.heap.size + 1) 49 2 u5 R := hO
    have s1 : R.length ≤ 2097152 := by omega
    have s2 : w.heap.size + 1 ≤ (wr.drewN nq).heap.size := hsz
    have s3 : ∀ u ∈ [Value.string yn, Value.int .i64 yi], u.oneCell' = true := by intro u hu; simp at hu; rcases hu with rfl | rfl <;> rfl
    go_wp2_with (at_builtin; refine wpList_append_row (w := wr.drewN nq) rfl (.tmp 35) (.tmp 40) 25 49 (.agg #[.string ⟨#[]⟩, .int .i64 0]) 2 24 rfl Tryz.underlying25 Tryz.infoLnk rfl (by omega) (w.heap.size + 1) u5 R rfl hOd [.string yn, .int .i64 yi] rfl s3 rfl s1 (by omega) s2 ?_; intro v' w3 hO3 hb3 hk3 hw3)
    have U3 := HU.out.kept (w' := w3) fun b hb hu => hk3 b hb fun e => HP.out b e hu
    have X0 : Blk (wr.drewN nq) w.heap.size #[.string xn, .int .i64 xi] 49 := HX.out
    have X3 := X0.on hb3 (Nat.lt_succ_self _)
    have B3 := HBB.out.trans (((below_drewN' wr nq).mono HBB.out.size).trans (hb3.mono (by omega)))
    exact ⟨⟨k + 1, true, by omega, by go_num, rfl, HQ2.out, by rw [HQ.out]; exact hO3, U3, X3, B3, AP.out _ _ hw3 hg⟩, by simp [intOf]; omega⟩
   | false =>
    by_cases ha : ahead xn yn = true
    ·have hle : Op.bytesLess xn.toList yn.toList = true := ha
     have HQ : Hid (lnkR (laidK x m (k + 1) true) = lnkR (laidK x m k false) ++ [[.string xn, .int .i64 xi]] ++ [[.string yn, .int .i64 yi]]) := by
      unfold Hid
      rw [show laidK x m (k + 1) true = laidK x m k false ++ [x] ++ [m.getD k default] by
       show ins x (m.take (k + 1)) = m.take k ++ [x] ++ _
       rw [HT.out, ins_past x _ _ (by rw [hxn]; exact HPP.out.symm), ins, if_pos (by rw [hxn, hyn]; exact ha)]
       simp, lnkR_append, lnkR_append, HY.out]
      rw [← hxn, ← hxi]
      rfl
     have HQ2 : Hid (true = ((m.take (k + 1)).any fun y => ahead xn y.name)) := by unfold Hid; rw [HA.out, ← HPP.out, ha]; rfl
     have hlen := HLn.out false
     clear ha
     generalize lnkR (laidK x m k false) = R at *
     go_wp2_with fail
     go_quiet (fail)
     have hOd : Owns (wr.drewN nq) (w.heap.size + 1) 49 2 u5 R := hO
     have s1 : R.length ≤ 2097152 := by omega
     have s1' : (R ++ [[Value.string xn, Value.int .i64 xi]]).length ≤ 2097152 := by rw [List.length_append]; simp; omega
     have s2 : w.heap.size + 1 ≤ (wr.drewN nq).heap.size := hsz
     have s3 : ∀ u ∈ [Value.string xn, Value.int .i64 xi], u.oneCell' = true := by intro u hu; simp at hu; rcases hu with rfl | rfl <;> rfl
     have s4 : ∀ u ∈ [Value.string yn, Value.int .i64 yi], u.oneCell' = true := by intro u hu; simp at hu; rcases hu with rfl | rfl <;> rfl
     have d0 : wr.cell? ⟨w.heap.size, 0, none⟩ = some (.string xn) := x0
     have d1 : wr.cell? ⟨w.heap.size, 1, none⟩ = some (.int .i64 xi) := x1
     have hg' : Hid (g < wr.heap.size) := hg
     have hc0' := hc0
     have hc1' := hc1
     clear x0 x1
     go_wp2_with (first
      | (at_builtin; refine wpList_append_row (w := wr.drewN nq) rfl (.tmp 31) (.tmp 33) 25 49 (.agg #[.string ⟨#[]⟩, .int .i64 0]) 2 24 rfl Tryz.underlying25 Tryz.infoLnk rfl (by omega) (w.heap.size + 1) u5 R rfl hOd [.string xn, .int .i64 xi] rfl s3 rfl s1 (by omega) s2 ?_; intro v' w3 hO3 hb3 hk3 hw3; have E0 := (World.cell?_of_block (a := ⟨g, off + k * 2, none⟩) (hk3 g hg'.out fun e => HP.out g e rfl)).trans hc0'; have E1 := (World.cell?_of_block (a := ⟨g, off + k * 2 + 1, none⟩) (hk3 g hg'.out fun e => HP.out g e rfl)).trans hc1'; have t2 : w.heap.size + 1 ≤ w3.heap.size := Nat.le_trans s2 hb3.size)
      | (at_builtin; refine wpList_append_row (w := w3) rfl (.tmp 35) (.tmp 40) 25 49 (.agg #[.string ⟨#[]⟩, .int .i64 0]) 2 24 rfl Tryz.underlying25 Tryz.infoLnk rfl (by omega) (w.heap.size + 1) v' (R ++ [[Value.string xn, Value.int .i64 xi]]) rfl hO3 [.string yn, .int .i64 yi] rfl s4 rfl s1' (by omega) t2 ?_; intro v2 w4 hO4 hb4 hk4 hw4))
     have N3 := AP.out _ _ hw3 hg
     have U4 := HU.out.kept (w' := w4) fun b hb hu => (hk4 b (Nat.lt_of_lt_of_le hb hb3.size) fun e => N3 b e hu).trans (hk3 b hb fun e => HP.out b e hu)
     have X0 : Blk (wr.drewN nq) w.heap.size #[.string xn, .int .i64 xi] 49 := HX.out
     have X4 := (X0.on hb3 (Nat.lt_succ_self _)).on hb4 (Nat.lt_succ_self _)
     have B4 := HBB.out.trans ((((below_drewN' wr nq).mono HBB.out.size).trans (hb3.mono (by omega))).trans (hb4.mono (by omega)))
     have N4 : ∀ b, v2.ownBlock = some b → (Value.slice (some ⟨g, off, none⟩) n cA).ownBlock ≠ some b := fun b hb hu => by
      rcases hw4 with h | h
      ·rw [h] at hb
       exact N3 b hb hu
      ·have h4 := h b hb
       have h5 : g = b := by simpa [Value.ownBlock] using hu
       have h6 := hb3.size
       have h7 : g < (wr.drewN nq).heap.size := hg
       omega
     exact ⟨⟨k + 1, true, by omega, by go_num, rfl, HQ2.out, by rw [HQ.out]; exact hO4, U4, X4, B4, N4⟩, by simp [intOf]; omega⟩
    ·have hle : Op.bytesLess xn.toList yn.toList = false := by simpa [ahead] using ha
     have HQ : Hid (lnkR (laidK x m (k + 1) false) = lnkR (laidK x m k false) ++ [[.string yn, .int .i64 yi]]) := by
      unfold Hid
      rw [show laidK x m (k + 1) false = laidK x m k false ++ [m.getD k default] from HT.out, lnkR_append, HY.out]
      rfl
     have HQ2 : Hid (false = ((m.take (k + 1)).any fun y => ahead xn y.name)) := by unfold Hid; rw [HA.out, ← HPP.out]; simpa using ha
     have hlen := HLn.out false
     clear ha
     generalize lnkR (laidK x m k false) = R at *
     go_wp2_with fail
     go_quiet (fail)
     have hOd : Owns (wr.drewN nq) (w.heap.size + 1) 49 2 u5 R := hO
     have s1 : R.length ≤ 2097152 := by omega
     have s2 : w.heap.size + 1 ≤ (wr.drewN nq).heap.size := hsz
     have s3 : ∀ u ∈ [Value.string yn, Value.int .i64 yi], u.oneCell' = true := by intro u hu; simp at hu; rcases hu with rfl | rfl <;> rfl
     go_wp2_with (at_builtin; refine wpList_append_row (w := wr.drewN nq) rfl (.tmp 35) (.tmp 40) 25 49 (.agg #[.string ⟨#[]⟩, .int .i64 0]) 2 24 rfl Tryz.underlying25 Tryz.infoLnk rfl (by omega) (w.heap.size + 1) u5 R rfl hOd [.string yn, .int .i64 yi] rfl s3 rfl s1 (by omega) s2 ?_; intro v' w3 hO3 hb3 hk3 hw3)
     have U3 := HU.out.kept (w' := w3) fun b hb hu => hk3 b hb fun e => HP.out b e hu
     have X0 : Blk (wr.drewN nq) w.heap.size #[.string xn, .int .i64 xi] 49 := HX.out
     have X3 := X0.on hb3 (Nat.lt_succ_self _)
     have B3 := HBB.out.trans (((below_drewN' wr nq).mono HBB.out.size).trans (hb3.mono (by omega)))
     exact ⟨⟨k + 1, false, by omega, by go_num, rfl, HQ2.out, by rw [HQ.out]; exact hO3, U3, X3, B3, AP.out _ _ hw3 hg⟩, by simp [intOf]; omega⟩
  ·obtain rfl : k = n := by omega
   have HLn : Hid (∀ p, (lnkR (laidK x m k p)).length ≤ 1048577) := fun p => by rw [lnkR_length]; have := laidK_length x m k p; have := HM.out; omega
   have hsz : w.heap.size + 1 ≤ wr.heap.size := Nat.succ_le_of_lt HX.out.lt
   have HTT : Hid (m.take k = m) := by unfold Hid; rw [← hmn, List.take_length]
   cases p with
   | true =>
    go_wp2_with fail
    go_ret
    refine ⟨_, rfl, ?_, HBB.out⟩
    have h3 := HO.out
    rw [show laidK x m k true = ins x m by unfold laidK; rw [HTT.out]; rfl, ← HW.out] at h3
    exact h3.mono (Nat.le_succ _)
   | false =>
    have HQ : Hid (lnkR (withL l x) = lnkR (laidK x m k false) ++ [[.string x.name, .int .i64 x.id]]) := by
     unfold Hid
     have h4 := ins_past x m [] (by have := HPP.out; rw [HTT.out] at this; exact this.symm)
     rw [List.append_nil] at h4
     rw [HW.out, h4, show laidK x m k false = m by unfold laidK; rw [HTT.out]; rfl, lnkR_append]
     rfl
    have hlen := HLn.out false
    have s1 : (lnkR (laidK x m k false)).length ≤ 2097152 := by omega
    have s3 : ∀ u ∈ [Value.string x.name, Value.int .i64 x.id], u.oneCell' = true := by intro u hu; simp at hu; rcases hu with rfl | rfl <;> rfl
    have d0 : wr.cell? ⟨w.heap.size, 0, none⟩ = some (.string x.name) := x0
    have d1 : wr.cell? ⟨w.heap.size, 1, none⟩ = some (.int .i64 x.id) := x1
    clear x0 x1
    generalize lnkR (laidK x m k false) = R at *
    generalize hxn : x.name = xn at *
    generalize hxi : x.id = xi at *
    go_wp2_with (at_builtin; refine wpList_append_row (w := wr) rfl (.tmp 44) (.tmp 46) 25 49 (.agg #[.string ⟨#[]⟩, .int .i64 0]) 2 24 rfl Tryz.underlying25 Tryz.infoLnk rfl (by omega) (w.heap.size + 1) u5 R rfl hO [.string xn, .int .i64 xi] rfl s3 rfl s1 (by omega) hsz ?_; intro v' w3 hO3 hb3 hk3 hw3)
    go_ret
    refine ⟨_, rfl, ?_, HBB.out.trans (hb3.mono (Nat.le_succ _))⟩
    rw [HQ.out]
    exact hO3.mono (Nat.le_succ _)
end Go.Proofs.YtgjilgecklhglaaGreat
namespace Go.Proofs.YtgjilgecklhglaaGreat
open Go.ChangeShapes Go.WideShapes Go.ChangeAt Go.RowKit Go.PlainAid Go.Maps
set_option linter.unusedVariables false
def lastId (ns : List Nod) : Nat → Int
 | 0 => 0
 | k + 1 => (ns.getD k default).id
def goodAt (next : Int) (ns : List Nod) (k : Nat) : Bool :=
 !decide ((ns.getD k default).id ≤ lastId ns k) && !decide (next ≤ (ns.getD k default).id) && !decide ((ns.getD k default).sure < 0) && !decide (((ns.getD k default).data.size : Int) < (ns.getD k default).sure)
def takeOk (room next : Int) (ns : List Nod) : Bool := decide (ns.length ≤ 10) && (List.range ns.length).all (goodAt next ns) && decide ((bytesOf ns : Int) ≤ room)
theorem all_no {n k : Nat} {p : Nat → Bool} (hk : k < n) (h : p k = false) : (List.range n).all p = false := by
 rw [List.all_eq_false]
 exact ⟨k, List.mem_range.2 hk, by rw [h]; exact Bool.false_ne_true⟩
theorem all_yes {n : Nat} {p : Nat → Bool} (h : ∀ j, j < n → p j = true) : (List.range n).all p = true := by
 rw [List.all_eq_true]
 exact fun j hj => h j (List.mem_range.1 hj)
theorem takeOk_long {room next : Int} {ns : List Nod} (h : ¬ ns.length ≤ 10) : takeOk room next ns = false := by
 unfold takeOk
 rw [decide_eq_false h]
 rfl
theorem takeOk_no {room next : Int} {ns : List Nod} {k : Nat} (hk : k < ns.length) (h : goodAt next ns k = false) : takeOk room next ns = false := by
 unfold takeOk
 rw [all_no hk h, Bool.and_false]
 rfl
theorem takeOk_end {room next : Int} {ns : List Nod} (hl : ns.length ≤ 10) (h : ∀ j, j < ns.length → goodAt next ns j = true) : takeOk room next ns = decide ((bytesOf ns : Int) ≤ room) := by
 unfold takeOk
 rw [all_yes h, decide_eq_true hl, Bool.true_and, Bool.true_and]
theorem goodAt_gt {next : Int} {ns : List Nod} {k : Nat} (h : goodAt next ns k = true) : lastId ns k < (ns.getD k default).id := by
 unfold goodAt at h
 simp only [Bool.and_eq_true, Bool.not_eq_true', decide_eq_false_iff_not] at h
 omega
theorem lastId_nonneg {next : Int} {ns : List Nod} {k : Nat} (h : ∀ j, j < k → goodAt next ns j = true) : 0 ≤ lastId ns k := by
 induction k with
 | zero => exact Int.le_refl _
 | succ k ih =>
  have h1 := ih fun j hj => h j (by omega)
  have h2 := goodAt_gt (h k (by omega))
  show 0 ≤ (ns.getD k default).id
  omega
theorem take_rising {next : Int} {ns : List Nod} {k : Nat} (hk : k ≤ ns.length) (h : ∀ j, j < k → goodAt next ns j = true) : Rising (ns.take k) ∧ ∀ x ∈ ns.take k, x.id ≤ lastId ns k := by
 induction k with
 | zero => exact ⟨by rw [List.take_zero]; exact List.Pairwise.nil, fun x hx => by rw [List.take_zero] at hx; cases hx⟩
 | succ k ih =>
  obtain ⟨h1, h2⟩ := ih (by omega) fun j hj => h j (by omega)
  have hg := goodAt_gt (h k (by omega))
  rw [take_getD ns k (by omega)]
  refine ⟨?_, fun x hx => ?_⟩
  ·unfold Rising
   rw [List.pairwise_append]
   refine ⟨h1, List.pairwise_singleton _ _, fun a ha b hb => ?_⟩
   rw [List.mem_singleton] at hb
   subst hb
   have := h2 a ha
   omega
  ·rcases List.mem_append.1 hx with hx | hx
   ·have := h2 x hx
    show x.id ≤ (ns.getD k default).id
    omega
   ·rw [List.mem_singleton] at hx
    subst hx
    exact Int.le_refl _
theorem prs_snoc {ns : List Nod} {gs : List Nat} {x : Nod} {g : Nat} (h : gs.length = ns.length) : prs (ns ++ [x]) (gs ++ [g]) = prs ns gs ++ [(x.id, g)] := by
 unfold prs
 rw [List.map_append, List.zip_append (by rw [List.length_map, h])]
 rfl
theorem prs_mem {ns : List Nod} {gs : List Nat} {p : Int × Nat} (h : p ∈ prs ns gs) : ∃ x ∈ ns, x.id = p.1 := by
 have h1 := (List.of_mem_zip h).1
 obtain ⟨x, hx, e⟩ := List.mem_map.1 h1
 exact ⟨x, hx, e⟩
theorem prs_length {ns : List Nod} {gs : List Nat} (h : gs.length = ns.length) : (prs ns gs).length = ns.length := by
 unfold prs
 rw [List.length_zip, List.length_map]
 omega
theorem getD_snoc_lt {α : Type} (l : List α) (x d : α) (j : Nat) (h : j < l.length) : (l ++ [x]).getD j d = l.getD j d := by
 rw [List.getD_eq_getElem?_getD, List.getElem?_append_left h, ← List.getD_eq_getElem?_getD]
theorem getD_snoc_last {α : Type} (l : List α) (x d : α) : (l ++ [x]).getD l.length d = x := by
 rw [List.getD_eq_getElem?_getD, List.getElem?_append_right (Nat.le_refl _)]
 simp
theorem Held.snoc {w : World} {ns : List Nod} {gs : List Nat} {x : Nod} {g : Nat} (h : Held w ns gs) (hg : Blk w g #[.int .i64 x.id, .string x.data, .int .i64 x.sure] 47) : Held w (ns ++ [x]) (gs ++ [g]) :=
 ⟨by rw [List.length_append, List.length_append, h.len]; rfl, fun j hj => by
  rw [List.length_append, List.length_singleton] at hj
  by_cases hlt : j < ns.length
  ·rw [getD_snoc_lt ns x default j hlt, getD_snoc_lt gs g 0 j (by rw [h.len]; exact hlt)]
   exact h.blk j hlt
  ·obtain rfl : j = ns.length := by omega
   rw [getD_snoc_last]
   have := getD_snoc_last gs g 0
   rw [h.len] at this
   rw [this]
   exact hg⟩
structure Taken (w wr : World) (bi : Nat) (ns : List Nod) (gs : List Nat) : Prop where
 it : IT wr bi (prs ns gs)
 held : Held wr ns gs
 new : ∀ g ∈ gs, w.heap.size ≤ g
 rise : gs.Pairwise (· < ·)
 but : But (fun i => i = bi) w wr
set_option maxRecDepth 20000 in
set_option maxHeartbeats 4000000 in
theorem takeInodesV (room next : Int) (v1 v4 v5 v6 : Value) (p bi B : Nat) (ns : List Nod) (w : World) (hp : Blk w p #[.int .i64 room, .int .i64 next, .map (some bi), v4, v5, v6] 86) (hI : IT w bi []) (hv : Lies w B 3 v1 (nodR ns)) (hB : B ≤ w.heap.size) (hbB : B ≤ bi) (hne : p ≠ bi)
  (h0 : 0 ≤ room) (h1 : room ≤ 1048576) (hx0 : 1 ≤ next) (hx1 : next ≤ 1000000) (hs : bytesOf ns ≤ 4194304) (hln : ns.length ≤ 1048576) :
  Calls Tryz.prog 73 #[.pointer (some ⟨p, 0, none⟩), v1] w fun e w' => e = .returned (.bool (takeOk room next ns)) ∧ But (fun i => i = bi) w w' ∧ (takeOk room next ns = true → ∃ gs, Taken w w' bi ns gs) := by
 obtain ⟨A, cap, rfl, hl⟩ := nod_look hv
 have HL : Hid (∀ j, j < ns.length → ∃ g off, A = some ⟨g, off, none⟩ ∧ g < B ∧ _) := hl
 have HB : Hid (B ≤ w.heap.size) := hB
 have HBB : Hid (B ≤ bi) := hbB
 have HP : Hid (Blk w p #[.int .i64 room, .int .i64 next, .map (some bi), v4, v5, v6] 86) := hp
 have HNE : Hid (p ≠ bi) := hne
 have HS : Hid (bytesOf ns ≤ 4194304) := hs
 have HI : Hid (IT w bi []) := hI
 clear hl hv hB hbB hp hne hs hI
 by_cases hlen : ns.length ≤ 10
 ·have q1 : (ns.length : Int) ≤ 10 := by omega
  have n1' : decide ((10 : Int) < (ns.length : Int)) = false := decide_eq_false (by omega)
  have HE : Hid ((∀ j, j < ns.length → goodAt next ns j = true) → takeOk room next ns = decide ((bytesOf ns : Int) ≤ room)) := takeOk_end hlen
  have HNO : Hid (∀ k, k < ns.length → goodAt next ns k = false → takeOk room next ns = false) := fun k hk h => takeOk_no hk h
  have HLN : Hid (ns.length ≤ 10) := hlen
  clear hlen hln
  generalize hN : ns.length = N at *
  go_enter Tryz.func73, Tryz.ntmps73
  go_wp2_with fail
  go_loopw [5, 13] (fun v5' v13 wr => ∃ k : Nat, k ≤ N ∧ v13 = .int .i64 (k : Int) ∧ v5' = .int .i64 (lastId ns k) ∧ (∀ j, j < k → goodAt next ns j = true) ∧ ∃ gs, Taken w wr bi (ns.take k) gs) (fun _ i _ => N - (intOf i).toNat)
  case atStart => exact ⟨0, by omega, rfl, rfl, fun j hj => by omega, [], by rw [List.take_zero]; exact ⟨HI.out, ⟨rfl, fun j hj => by simp at hj⟩, fun g hg => by (cases hg), List.Pairwise.nil, But.refl _ _⟩⟩
  case round =>
   obtain ⟨k, hk, rfl, rfl, hgd, gs, hT⟩ := hrel
   have HG : Hid (∀ j, j < k → goodAt next ns j = true) := hgd
   have HT : Hid (Taken w wr bi (ns.take k) gs) := hT
   clear hgd hT
   have hpr : Blk wr p #[.int .i64 room, .int .i64 next, .map (some bi), v4, v5, v6] 86 := HT.out.but.blk HP.out HNE.out
   by_cases hlt : k < N
   ·have q4 : (k : Int) < (N : Int) := by omega
    obtain ⟨g, off, rfl, hg, hc0, hc1, hc2⟩ := HL.out k hlt
    have hgw : g < w.heap.size := Nat.lt_of_lt_of_le hg HB.out
    have hgb : wr.heap[g]? = w.heap[g]? := HT.out.but.block g hgw (fun e => by have := HBB.out; omega)
    have hcc : ∀ o, wr.cell? ⟨g, o, none⟩ = w.cell? ⟨g, o, none⟩ := fun o => World.cell?_of_block (w := w) hgb
    rw [← hcc] at hc0 hc1 hc2
    have HGE : Hid (goodAt next ns k = (!decide ((ns.getD k default).id ≤ lastId ns k) && !decide (next ≤ (ns.getD k default).id) && !decide ((ns.getD k default).sure < 0) && !decide (((ns.getD k default).data.size : Int) < (ns.getD k default).sure))) := rfl
    have HBD : Hid (goodAt next ns k = false → takeOk room next ns = false) := fun h => HNO.out k (by omega) h
    have HGD : Hid (goodAt next ns k = true → ∀ j, j < k + 1 → goodAt next ns j = true) := fun h => less_succ HG.out h
    have hsz : ((ns.getD k default).data.size : Int) ≤ 4194304 := by
     have e1 := bytesOf_snoc ns k (by omega)
     have e2 := bytesOf_le ns (k + 1)
     have := HS.out
     omega
    have HTK : Hid (ns.take (k + 1) = ns.take k ++ [ns.getD k default]) := take_getD ns k (by omega)
    have HLS : Hid (lastId ns (k + 1) = (ns.getD k default).id) := rfl
    have HLT : Hid (∀ x ∈ ns.take k, x.id ≤ lastId ns k) := (take_rising (by omega) HG.out).2
    have hla0 : 0 ≤ lastId ns k := lastId_nonneg HG.out
    have hpl : p < wr.heap.size := hpr.lt
    have hbl : bi < wr.heap.size := HT.out.it.lt
    clear hgb hgw hcc hg
    generalize hxx : ns.getD k default = xx at *
    obtain ⟨xi, xd, xs⟩ := xx
    simp only at *
    generalize hla : lastId ns k = la at *
    go_wp2_with fail
    have KP : Blk (wr.alloc (.cells #[.int .i64 xi, .string xd, .int .i64 xs] 47)) p #[.int .i64 room, .int .i64 next, .map (some bi), v4, v5, v6] 86 := hpr.alloc _
    have KZ := Blk.new wr #[.int .i64 xi, .string xd, .int .i64 xs] 47
    have BY : Hid (But (fun i => i = bi) w (wr.alloc (.cells #[.int .i64 xi, .string xd, .int .i64 xs] 47))) := HT.out.but.alloc _
    have IY : Hid (IT (wr.alloc (.cells #[.int .i64 xi, .string xd, .int .i64 xs] 47)) bi (prs (ns.take k) gs)) := HT.out.it.on ((Below.refl _ wr).alloc (Nat.le_refl _) _) hbl
    have HY : Hid (Held (wr.alloc (.cells #[.int .i64 xi, .string xd, .int .i64 xs] 47)) (ns.take k) gs) := HT.out.held.on ((Below.refl _ wr).alloc (Nat.le_refl _) _) HT.out.held.lt
    have SY : (wr.alloc (.cells #[.int .i64 xi, .string xd, .int .i64 xs] 47)).heap.size = wr.heap.size + 1 := by simp
    generalize wr.alloc (.cells #[.int .i64 xi, .string xd, .int .i64 xs] 47) = Y at *
    have z0 : Y.cell? ⟨wr.heap.size, 0, none⟩ = some (.int .i64 xi) := KZ.cell 0 _ rfl
    have z1 : Y.cell? ⟨wr.heap.size, 1, none⟩ = some (.string xd) := KZ.cell 1 _ rfl
    have z2 : Y.cell? ⟨wr.heap.size, 2, none⟩ = some (.int .i64 xs) := KZ.cell 2 _ rfl
    have b1 : Y.cell? ⟨p, 1, none⟩ = some (.int .i64 next) := KP.cell 1 _ rfl
    have b2 : Y.cell? ⟨p, 2, none⟩ = some (.map (some bi)) := KP.cell 2 _ rfl
    have HWZ : Hid (w.heap.size ≤ wr.heap.size) := HT.out.but.size
    clear KP KZ hpr hc0 hc1 hc2
    have HSY : Hid (Y.heap.size = wr.heap.size + 1) := SY
    clear SY
    generalize wr.heap.size = pz at *
    by_cases c1 : xi ≤ la
    ·have e1 : decide (xi ≤ la) = true := decide_eq_true c1
     have gf : Hid (goodAt next ns k = false) := by unfold Hid; rw [HGE.out, e1] <;> rfl
     go_quiet (fail)
     go_wp2_with fail
     go_ret
     exact ⟨by rw [HBD.out gf.out]; rfl, BY.out.drewN nq, fun h => by rw [HBD.out gf.out] at h; cases h⟩
    ·have e1 : decide (xi ≤ la) = false := decide_eq_false c1
     by_cases c2 : next ≤ xi
     ·have e2 : decide (next ≤ xi) = true := decide_eq_true c2
      have gf : Hid (goodAt next ns k = false) := by unfold Hid; rw [HGE.out, e1, e2, Bool.not_true, Bool.and_false] <;> rfl
      go_quiet (fail)
      go_wp2_with fail
      go_ret
      exact ⟨by rw [HBD.out gf.out]; rfl, BY.out.drewN nq, fun h => by rw [HBD.out gf.out] at h; cases h⟩
     ·have e2 : decide (next ≤ xi) = false := decide_eq_false c2
      by_cases c3 : xs < 0
      ·have e3 : decide (xs < 0) = true := decide_eq_true c3
       have gf : Hid (goodAt next ns k = false) := by unfold Hid; rw [HGE.out, e1, e2, e3, Bool.not_true, Bool.and_false] <;> rfl
       go_quiet (fail)
       go_wp2_with fail
       go_ret
       exact ⟨by rw [HBD.out gf.out]; rfl, BY.out.drewN nq, fun h => by rw [HBD.out gf.out] at h; cases h⟩
      ·have e3 : decide (xs < 0) = false := decide_eq_false c3
       by_cases c4 : (xd.size : Int) < xs
       ·have e4 : decide ((xd.size : Int) < xs) = true := decide_eq_true c4
        have gf : Hid (goodAt next ns k = false) := by unfold Hid; rw [HGE.out, e1, e2, e3, e4, Bool.not_true, Bool.and_false] <;> rfl
        go_quiet (fail)
        go_wp2_with fail
        go_ret
        exact ⟨by rw [HBD.out gf.out]; rfl, BY.out.drewN nq, fun h => by rw [HBD.out gf.out] at h; cases h⟩
       ·have e4 : decide ((xd.size : Int) < xs) = false := decide_eq_false c4
        have gf : Hid (goodAt next ns k = true) := by unfold Hid; rw [HGE.out, e1, e2, e3, e4]; rfl
        go_quiet (fail)
        go_wp2_with fail
        have HTT : Hid (∀ q ∈ prs (ns.take k) gs, q.1 < xi) := fun q hq => by
         obtain ⟨x, hx, e⟩ := prs_mem hq
         have := HLT.out x hx
         omega
        have kN := Blk.new (Y.drewN (nq + 1)) #[.int .i64 xi, .string xd, .int .i64 xs] 47
        have iN : IT ((Y.drewN (nq + 1)).alloc (.cells #[.int .i64 xi, .string xd, .int .i64 xs] 47)) bi (prs (ns.take k) gs) := IY.out.on (B := Y.heap.size) ⟨rfl, rfl, rfl, by simp, fun i hi => Below.heap_alloc _ _ i hi⟩ IY.out.lt
        have HN' : Hid (Held ((Y.drewN (nq + 1)).alloc (.cells #[.int .i64 xi, .string xd, .int .i64 xs] 47)) (ns.take k) gs) := HY.out.on (B := Y.heap.size) ⟨rfl, rfl, rfl, by simp, fun i hi => Below.heap_alloc _ _ i hi⟩ HY.out.lt
        have BN : Hid (But (fun i => i = bi) w ((Y.drewN (nq + 1)).alloc (.cells #[.int .i64 xi, .string xd, .int .i64 xs] 47))) := (BY.out.drewN (nq + 1)).alloc _
        obtain ⟨w2, r2, hI2, hB2, hS2⟩ := iN.put xi Y.heap.size ⟨by omega, by omega⟩ (by rw [prs_length HT.out.held.len, List.length_take]; unfold maxLen; omega) HTT.out
        have T2 : Hid (Taken w w2 bi (ns.take (k + 1)) (gs ++ [Y.heap.size])) := by
         have hbY : Y.heap.size ≠ bi := fun e => by have := IY.out.lt; omega
         rw [Hid, HTK.out]
         refine ⟨by rw [prs_snoc HT.out.held.len]; exact hI2, (HN'.out.snoc (x := ⟨xi, xd, xs⟩) kN).but hB2 ?_, ?_, ?_, BN.out.trans hB2 (fun _ _ e => e)⟩
         ·intro g hg e
          subst e
          rcases List.mem_append.1 hg with hg | hg
          ·have := HT.out.new g hg
           have := HI.out.lt
           omega
          ·rw [List.mem_singleton] at hg
           exact hbY hg.symm
         ·intro g hg
          rcases List.mem_append.1 hg with hg | hg
          ·exact HT.out.new g hg
          ·rw [List.mem_singleton] at hg
           subst hg
           have := HSY.out
           have := HWZ.out
           omega
         ·rw [List.pairwise_append]
          refine ⟨HT.out.rise, List.pairwise_singleton _ _, fun a ha b hb => ?_⟩
          rw [List.mem_singleton] at hb
          subst hb
          exact HY.out.lt a ha
        have HW1 : Hid (p < Y.heap.size) := by unfold Hid; have := HSY.out; omega
        have HW2 : Hid (pz < Y.heap.size) := by unfold Hid; have := HSY.out; omega
        have HPB : Hid (p ≠ bi) := HNE.out
        have S1 : Hid (((Y.drewN (nq + 1)).alloc (.cells #[.int .i64 xi, .string xd, .int .i64 xs] 47)).cell? ⟨p, 2, none⟩ = some (.map (some bi)) ∧ ((Y.drewN (nq + 1)).alloc (.cells #[.int .i64 xi, .string xd, .int .i64 xs] 47)).cell? ⟨pz, 0, none⟩ = some (.int .i64 xi) ∧ ((Y.drewN (nq + 1)).alloc (.cells #[.int .i64 xi, .string xd, .int .i64 xs] 47)).cell? ⟨pz, 1, none⟩ = some (.string xd) ∧ ((Y.drewN (nq + 1)).alloc (.cells #[.int .i64 xi, .string xd, .int .i64 xs] 47)).cell? ⟨pz, 2, none⟩ = some (.int .i64 xs)) := ⟨(World.cell?_alloc_lt _ _ _ HW1.out).trans b2, (World.cell?_alloc_lt _ _ _ HW2.out).trans z0, (World.cell?_alloc_lt _ _ _ HW2.out).trans z1, (World.cell?_alloc_lt _ _ _ HW2.out).trans z2⟩
        have hcp : ∀ o, w2.cell? ⟨p, o, none⟩ = ((Y.drewN (nq + 1)).alloc (.cells #[.int .i64 xi, .string xd, .int .i64 xs] 47)).cell? ⟨p, o, none⟩ := fun o => World.cell?_of_block (w := _) (hB2.block p (by have := HW1.out; simp; omega) HNE.out)
        have hcz : ∀ o, w2.cell? ⟨pz, o, none⟩ = ((Y.drewN (nq + 1)).alloc (.cells #[.int .i64 xi, .string xd, .int .i64 xs] 47)).cell? ⟨pz, o, none⟩ := fun o => World.cell?_of_block (w := _) (hB2.block pz (by have := HW2.out; simp; omega) (fun e => by omega))
        have S2 : Hid (w2.cell? ⟨p, 2, none⟩ = some (.map (some bi)) ∧ w2.cell? ⟨pz, 0, none⟩ = some (.int .i64 xi) ∧ w2.cell? ⟨pz, 1, none⟩ = some (.string xd) ∧ w2.cell? ⟨pz, 2, none⟩ = some (.int .i64 xs)) := ⟨(hcp 2).trans S1.out.1, (hcz 0).trans S1.out.2.1, (hcz 1).trans S1.out.2.2.1, (hcz 2).trans S1.out.2.2.2⟩
        clear kN iN hI2 hB2 hS2 hcp hcz
        have S0 : Hid ((Y.drewN (nq + 1)).cell? ⟨p, 2, none⟩ = some (.map (some bi)) ∧ (Y.drewN (nq + 1)).cell? ⟨pz, 0, none⟩ = some (.int .i64 xi) ∧ (Y.drewN (nq + 1)).cell? ⟨pz, 1, none⟩ = some (.string xd) ∧ (Y.drewN (nq + 1)).cell? ⟨pz, 2, none⟩ = some (.int .i64 xs)) := ⟨b2, z0, z1, z2⟩
        go_region_held3 (fun w' => w'.cell? ⟨p, 2, none⟩ = some (.map (some bi)) ∧ w'.cell? ⟨pz, 0, none⟩ = some (.int .i64 xi) ∧ w'.cell? ⟨pz, 1, none⟩ = some (.string xd) ∧ w'.cell? ⟨pz, 2, none⟩ = some (.int .i64 xs)) (first | exact S0.out | exact S1.out | exact S2.out) (fail)
        go_wp2_with fail
        go_roundw
        case rel => exact ⟨k + 1, by omega, by go_num, by rw [HLS.out], HGD.out gf.out, _, T2.out⟩
        case measure => simp [intOf]; omega
   ·obtain rfl : k = N := by omega
    have hT' : Taken w wr bi ns gs := by
     have := HT.out
     rw [← hN, List.take_length] at this
     exact this
    have HF : Hid (takeOk room next ns = decide ((bytesOf ns : Int) ≤ room)) := HE.out HG.out
    have HRi : Rising ns := by
     have := (take_rising (ns := ns) (k := k) (by omega) HG.out).1
     rw [← hN, List.take_length] at this
     exact this
    have cS := spareV room next v4 v5 v6 p bi ns gs wr hpr hT'.it hT'.held HRi h0 h1 HS.out
    have HTE : Hid (Taken w wr bi ns gs) := hT'
    clear hpr HRi hT'
    generalize bytesOf ns = bn' at *
    go_wp2_with fail
    refine cS.mono ?_
    rintro e w3 ⟨rfl, hb⟩
    have T3 : Hid (Taken w w3 bi ns gs) := ⟨HTE.out.it.on hb HTE.out.it.lt, HTE.out.held.on hb HTE.out.held.lt, HTE.out.new, HTE.out.rise, HTE.out.but.trans (But.of_below (fun _ => False) hb) (fun _ _ k => k.elim)⟩
    clear hb cS
    go_wp2_with fail
    go_ret
    exact ⟨by rw [HF.out]; rfl, T3.out.but, fun _ => ⟨gs, T3.out⟩⟩
 ·have q1 : (ns.length : Int) ≤ 1048576 := by omega
  have n1 : (10 : Int) < (ns.length : Int) := by omega
  have n1' : decide ((10 : Int) < (ns.length : Int)) = true := decide_eq_true n1
  have HF : Hid (takeOk room next ns = false) := takeOk_long hlen
  clear hlen hln
  generalize ns.length = N at *
  go_enter Tryz.func73, Tryz.ntmps73
  go_wp2_with fail
  go_ret
  exact ⟨by rw [HF.out]; rfl, But.refl _ _, fun h => by rw [HF.out] at h; cases h⟩
end Go.Proofs.YtgjilgecklhglaaGreat
namespace Go.Proofs
open Go.Shelf
def Tryz.cloneI_ren : Go.Shelf.Ren := ⟨fun | 5 => 74 | 7 => 99 | n => n, fun | 23 => 82 | 25 => 3 | 3 => 81 | 4 => 4 | 20 => 20 | n => n, fun | n => n⟩
theorem Tryz.cloneI : Go.Proofs.SlLaysW.n5 Tryz.prog Tryz.cloneI_ren := {
 mixed := by kernel_rfl
 f5 := ⟨Tryz.f74.name, by decide, Tryz.func74.trans (congrArg some (by kernel_rfl))⟩
 f7 := Tryz.func99.trans (congrArg some (by kernel_rfl))
 t4 := Tryz.underlying4
 a4 := Tryz.isAgg4
 z4 := Tryz.sizeOf4
 v4 := Tryz.zeroValue4
 t20 := Tryz.underlying20
 a20 := Tryz.isAgg20
 z20 := Tryz.sizeOf20
 v20 := Tryz.zeroValue20
 t23 := Tryz.underlying82
 a23 := Tryz.isAgg82
 z23 := Tryz.sizeOf82
 v23 := Tryz.zeroValue82 }
def Tryz.cloneN_ren : Go.Shelf.Ren := ⟨fun | 5 => 78 | 7 => 99 | n => n, fun | 23 => 84 | 25 => 9 | 3 => 3 | 4 => 4 | 20 => 20 | n => n, fun | n => n⟩
theorem Tryz.cloneN : Go.Proofs.SlLaysW.n5 Tryz.prog Tryz.cloneN_ren := {
 mixed := by kernel_rfl
 f5 := ⟨Tryz.f78.name, by decide, Tryz.func78.trans (congrArg some (by kernel_rfl))⟩
 f7 := Tryz.func99.trans (congrArg some (by kernel_rfl))
 t4 := Tryz.underlying4
 a4 := Tryz.isAgg4
 z4 := Tryz.sizeOf4
 v4 := Tryz.zeroValue4
 t20 := Tryz.underlying20
 a20 := Tryz.isAgg20
 z20 := Tryz.sizeOf20
 v20 := Tryz.zeroValue20
 t23 := Tryz.underlying84
 a23 := Tryz.isAgg84
 z23 := Tryz.sizeOf84
 v23 := Tryz.zeroValue84 }
end Go.Proofs
namespace Go.Proofs.YtgjilgecklhglaaGreat
open Go.RowKit Go.Maps
theorem cloneNV (w : World) (b : Nat) (l : List Lnk) (h : NT w b l) :
  Calls Tryz.prog 78 #[.map (some b)] w fun e w' => e = .returned (.map (some w.heap.size)) ∧ NT w' w.heap.size l ∧ Below w.heap.size w w' := by
 obtain ⟨n, h⟩ := h
 refine (AnyW.maps_Clone_owns Tryz.cloneN 9 intElem b n (linkD l) w h).mono ?_
 rintro e w' ⟨rfl, h1, _, hb⟩
 exact ⟨rfl, ⟨n, h1⟩, hb⟩
theorem cloneIV (w : World) (b : Nat) (l : List (Int × Nat)) (h : IT w b l) :
  Calls Tryz.prog 74 #[.map (some b)] w fun e w' => e = .returned (.map (some w.heap.size)) ∧ IT w' w.heap.size l ∧ Below w.heap.size w w' := by
 obtain ⟨n, h⟩ := h
 refine (AnyW.maps_Clone_owns Tryz.cloneI 3 ptrElem b n (ptrD l) w h).mono ?_
 rintro e w' ⟨rfl, h1, _, hb⟩
 exact ⟨rfl, ⟨n, h1⟩, hb⟩
end Go.Proofs.YtgjilgecklhglaaGreat
namespace Go.Proofs.YtgjilgecklhglaaGreat
open Go.ChangeShapes Go.WideShapes Go.ChangeAt Go.RowKit Go.PlainAid
set_option linter.unusedVariables false
set_option maxHeartbeats 1000000 in
theorem isNameV (s : ByteArray) (w : World) (hs : s.size ≤ 9223372036854775807) :
  Calls Tryz.prog 77 #[.string s] w fun e w' => e = .returned (.bool (nameOk s)) ∧ w = w' := by
 have hbt := get_bn s
 by_cases h0 : s.size = 0
 ·obtain rfl : s = ⟨#[]⟩ := by
   apply ByteArray.ext
   exact Array.eq_empty_of_size_eq_zero h0
  clear hbt h0 hs
  go_enter Tryz.func77, Tryz.ntmps77
  go_wp2_with fail
  go_ret
  exact ⟨rfl, rfl⟩
 ·have t1 : s.toList.isEmpty = false := by
   rw [Lib.toList_data]
   rcases e : s.data.toList with _ | ⟨x, l⟩
   ·exact absurd (by rw [Lib.size_eq, e]; rfl) h0
   ·rfl
  have t2 : ¬ s.toList = [] := fun h => by rw [h] at t1; cases t1
  by_cases h : 12 < s.size
  ·have HY : Hid (nameOk s = false) := name_out s (.inr h)
   have z : (12 : Int) < (s.size : Int) := by omega
   have hz : decide ((12 : Int) < (s.size : Int)) = true := decide_eq_true z
   have q1 : (s.size : Int) ≤ 9223372036854775807 := by omega
   clear h hbt h0 hs
   go_enter Tryz.func77, Tryz.ntmps77
   go_wp2_with fail
   go_ret
   exact ⟨by rw [HY.out]; rfl, rfl⟩
  ·have hz : decide ((12 : Int) < (s.size : Int)) = false := decide_eq_false (by omega)
   have q1 : (s.size : Int) ≤ 12 := by omega
   have HS1 : Hid (1 ≤ s.size) := by unfold Hid; omega
   have HS2 : Hid (s.size ≤ 12) := by unfold Hid; omega
   clear h hs h0
   go_enter Tryz.func77, Tryz.ntmps77
   go_wp2_with fail
   go_loop [14] (fun v3 => ∃ k : Nat, k ≤ s.size ∧ v3 = .int .i64 (k : Int) ∧ ∀ j, j < k → nameB (bn s j) = true) (fun i => s.size - (intOf i).toNat)
   case atStart => exact ⟨0, by omega, rfl, fun j hj => by omega⟩
   case round =>
    obtain ⟨k, hk, rfl, hno⟩ := hrel
    have HN : Hid (∀ j, j < k → nameB (bn s j) = true) := hno
    clear hno t1 t2 hz
    by_cases hlt : k < s.size
    ·have q4 : (k : Int) < (s.size : Int) := by omega
     have hb := bn_lt s k
     have hbk := hbt k hlt
     clear hbt
     by_cases hok : nameB (bn s k) = true
     ·have HE : Hid (∀ j, j < k + 1 → nameB (bn s j) = true) := less_succ HN.out hok
      generalize bn s k = b at *
      have hc : (97 ≤ b ∧ b ≤ 122) ∨ (48 ≤ b ∧ b ≤ 57) ∨ b = 46 := by
       unfold nameB at hok
       simp at hok
       omega
      clear hok
      rcases hc with hc | hc | hc
      ·have z1 : decide ((b : Int) < 97) = false := decide_eq_false (by omega)
       have z2 : decide ((122 : Int) < (b : Int)) = false := decide_eq_false (by omega)
       clear hc
       go_wp2_with fail
       go_round
       case rel => exact ⟨k + 1, by omega, by go_num, HE.out⟩
       case measure => simp [intOf]; omega
      ·have z1 : decide ((b : Int) < 97) = true := decide_eq_true (by omega)
       have z3 : decide ((b : Int) < 48) = false := decide_eq_false (by omega)
       have z4 : decide ((57 : Int) < (b : Int)) = false := decide_eq_false (by omega)
       clear hc
       go_wp2_with fail
       go_round
       case rel => exact ⟨k + 1, by omega, by go_num, HE.out⟩
       case measure => simp [intOf]; omega
      ·subst hc
       go_wp2_with fail
       go_round
       case rel => exact ⟨k + 1, by omega, by go_num, HE.out⟩
       case measure => simp [intOf]; omega
     ·have hok2 : nameB (bn s k) = false := by simpa using hok
      have HY : Hid (nameOk s = false) := name_no s k hlt hok2
      generalize bn s k = b at *
      have hc : 122 < b ∨ (b < 97 ∧ 57 < b) ∨ (b < 48 ∧ b ≠ 46) := by
       unfold nameB at hok2
       simp at hok2
       omega
      clear hok hok2
      rcases hc with hc | hc | hc
      ·have z1 : decide ((b : Int) < 97) = false := decide_eq_false (by omega)
       have z2 : decide ((122 : Int) < (b : Int)) = true := decide_eq_true (by omega)
       have z3 : decide ((b : Int) < 48) = false := decide_eq_false (by omega)
       have z4 : decide ((57 : Int) < (b : Int)) = true := decide_eq_true (by omega)
       have z5 : ((b : Int) == 46) = false := by simp only [beq_eq_false_iff_ne, ne_eq]; omega
       have z6 : ((b : Int) != 46) = true := by simp only [bne_iff_ne, ne_eq]; omega
       clear hc
       go_wp2_with fail
       go_ret
       exact ⟨by rw [HY.out]; rfl, rfl⟩
      ·have z1 : decide ((b : Int) < 97) = true := decide_eq_true (by omega)
       have z3 : decide ((b : Int) < 48) = false := decide_eq_false (by omega)
       have z4 : decide ((57 : Int) < (b : Int)) = true := decide_eq_true (by omega)
       have z5 : ((b : Int) == 46) = false := by simp only [beq_eq_false_iff_ne, ne_eq]; omega
       have z6 : ((b : Int) != 46) = true := by simp only [bne_iff_ne, ne_eq]; omega
       clear hc
       go_wp2_with fail
       go_ret
       exact ⟨by rw [HY.out]; rfl, rfl⟩
      ·have z1 : decide ((b : Int) < 97) = true := decide_eq_true (by omega)
       have z3 : decide ((b : Int) < 48) = true := decide_eq_true (by omega)
       have z5 : ((b : Int) == 46) = false := by simp only [beq_eq_false_iff_ne, ne_eq]; omega
       have z6 : ((b : Int) != 46) = true := by simp only [bne_iff_ne, ne_eq]; omega
       clear hc
       go_wp2_with fail
       go_ret
       exact ⟨by rw [HY.out]; rfl, rfl⟩
    ·obtain rfl : k = s.size := by omega
     have HY : Hid (nameOk s = true) := name_yes s HS1.out HS2.out HN.out
     go_wp2_with fail
     go_ret
     exact ⟨by rw [HY.out]; rfl, rfl⟩
end Go.Proofs.YtgjilgecklhglaaGreat
namespace Go.Proofs.YtgjilgecklhglaaGreat
open Go.RowKit Go.PlainAid
theorem less_irrefl : ∀ a : List UInt8, Op.bytesLess a a = false
 | [] => rfl
 | a :: x => by
  unfold Op.bytesLess
  rw [less_irrefl x]
  simp
theorem less_cons (a b : UInt8) (x y : List UInt8) : Op.bytesLess (a :: x) (b :: y) = true ↔ a < b ∨ (a = b ∧ Op.bytesLess x y = true) := by
 rw [Op.bytesLess]
 simp
theorem less_trans : ∀ {a b c : List UInt8}, Op.bytesLess a b = true → Op.bytesLess b c = true → Op.bytesLess a c = true
 | _, _, [], _, h => by
  unfold Op.bytesLess at h
  cases h
 | [], _, _ :: _, _, _ => rfl
 | _ :: _, [], _ :: _, h, _ => by
  unfold Op.bytesLess at h
  cases h
 | a :: x, b :: y, c :: z, h, k => by
  rw [less_cons] at h k ⊢
  rcases h with h | ⟨rfl, h⟩
  ·rcases k with k | ⟨rfl, k⟩
   ·exact .inl (UInt8.lt_trans h k)
   ·exact .inl h
  ·rcases k with k | ⟨rfl, k⟩
   ·exact .inl k
   ·exact .inr ⟨rfl, less_trans h k⟩
theorem less_tri : ∀ {a b : List UInt8}, Op.bytesLess a b = false → Op.bytesLess b a = false → a = b
 | [], [], _, _ => rfl
 | [], _ :: _, h, _ => by
  unfold Op.bytesLess at h
  cases h
 | _ :: _, [], _, h => by
  unfold Op.bytesLess at h
  cases h
 | a :: x, b :: y, h, k => by
  have h' : ¬ (a < b ∨ (a = b ∧ Op.bytesLess x y = true)) := fun e => by
   rw [← less_cons, h] at e
   cases e
  have k' : ¬ (b < a ∨ (b = a ∧ Op.bytesLess y x = true)) := fun e => by
   rw [← less_cons, k] at e
   cases e
  have hab : a = b := by
   rcases Nat.lt_trichotomy a.toNat b.toNat with e | e | e
   ·exact absurd (.inl (UInt8.lt_iff_toNat_lt.2 e)) h'
   ·exact UInt8.toNat_inj.1 e
   ·exact absurd (.inl (UInt8.lt_iff_toNat_lt.2 e)) k'
  subst hab
  have h1 : Op.bytesLess x y = false := by
   cases e : Op.bytesLess x y with
   | false => rfl
   | true => exact absurd (.inr ⟨rfl, e⟩) h'
  have k1 : Op.bytesLess y x = false := by
   cases e : Op.bytesLess y x with
   | false => rfl
   | true => exact absurd (.inr ⟨rfl, e⟩) k'
  rw [less_tri h1 k1]
theorem ahead_irrefl (a : ByteArray) : ahead a a = false := less_irrefl _
theorem ahead_trans {a b c : ByteArray} (h : ahead a b = true) (k : ahead b c = true) : ahead a c = true := less_trans h k
theorem ahead_asymm {a b : ByteArray} (h : ahead a b = true) : ahead b a = false := by
 cases e : ahead b a with
 | false => rfl
 | true =>
  have := ahead_trans h e
  rw [ahead_irrefl] at this
  cases this
theorem ahead_ne {a b : ByteArray} (h : ahead a b = true) : a ≠ b := fun e => by
 subst e
 rw [ahead_irrefl] at h
 cases h
theorem toList_inj' {a b : ByteArray} (h : a.toList = b.toList) : a = b := by
 rw [Lib.toList_data, Lib.toList_data] at h
 apply ByteArray.ext
 exact Array.toList_inj.1 h
theorem ahead_tri {a b : ByteArray} (h : ahead a b = false) (k : a ≠ b) : ahead b a = true := by
 cases e : ahead b a with
 | true => rfl
 | false => exact absurd (toList_inj' (less_tri h e)) k
theorem ahead_empty {a : ByteArray} (h : ahead ⟨#[]⟩ a = false) : a.size = 0 := by
 unfold ahead at h
 rw [Lib.toList_data, Lib.toList_data] at h
 rcases e : a.data.toList with _ | ⟨x, r⟩
 ·rw [Lib.size_eq, e]
  rfl
 ·rw [e] at h
  unfold Op.bytesLess at h
  cases h
def Sorted (l : List Lnk) : Prop := l.Pairwise fun x y => ahead x.name y.name = true
theorem Sorted.without {l : List Lnk} (h : Sorted l) (s : ByteArray) : Sorted (without l s) := h.filter _
theorem without_none {l : List Lnk} {s : ByteArray} (h : ∀ x ∈ l, x.name ≠ s) : without l s = l := by
 unfold Go.Proofs.YtgjilgecklhglaaGreat.without
 apply List.filter_eq_self.2
 intro x hx
 exact decide_eq_true (h x hx)
theorem ins_last {x : Lnk} : ∀ {l : List Lnk}, (∀ y ∈ l, ahead y.name x.name = true) → ins x l = l ++ [x]
 | [], _ => rfl
 | y :: r, h => by
  unfold ins
  rw [ahead_asymm (h y (by simp)), if_neg Bool.false_ne_true, ins_last fun z hz => h z (by simp [hz])]
  rfl
theorem withL_last {l : List Lnk} {x : Lnk} (h : ∀ y ∈ l, ahead y.name x.name = true) : withL l x = l ++ [x] := by
 unfold withL
 rw [without_none fun y hy => ahead_ne (h y hy), ins_last h]
theorem ins_mem' {x y : Lnk} : ∀ {l : List Lnk}, y ∈ ins x l → y = x ∨ y ∈ l
 | [], h => by
  rw [ins, List.mem_singleton] at h
  exact .inl h
 | z :: r, h => by
  unfold ins at h
  split at h
  ·rcases List.mem_cons.1 h with h | h
   ·exact .inl h
   ·exact .inr h
  ·rcases List.mem_cons.1 h with h | h
   ·exact .inr (h ▸ List.mem_cons_self)
   ·rcases ins_mem' h with h | h
    ·exact .inl h
    ·exact .inr (List.mem_cons_of_mem _ h)
theorem Sorted.ins {x : Lnk} : ∀ {l : List Lnk}, Sorted l → (∀ y ∈ l, y.name ≠ x.name) → Sorted (ins x l)
 | [], _, _ => by
  unfold Go.Proofs.YtgjilgecklhglaaGreat.ins
  exact List.pairwise_singleton _ _
 | y :: r, h, hn => by
  have hp := List.pairwise_cons.1 h
  unfold Go.Proofs.YtgjilgecklhglaaGreat.ins
  split
  ·rename_i e
   refine List.pairwise_cons.2 ⟨fun z hz => ?_, h⟩
   rcases List.mem_cons.1 hz with rfl | hz
   ·exact e
   ·exact ahead_trans e (hp.1 z hz)
  ·rename_i e
   have e' : ahead y.name x.name = true := ahead_tri (by simpa using e) fun k => hn y (by simp) k.symm
   refine List.pairwise_cons.2 ⟨fun z hz => ?_, Sorted.ins hp.2 fun z hz => hn z (by simp [hz])⟩
   rcases ins_mem' hz with rfl | hz
   ·exact e'
   ·exact hp.1 z hz
theorem Sorted.withL {l : List Lnk} (h : Sorted l) (x : Lnk) : Sorted (withL l x) :=
 Sorted.ins (h.without x.name) fun _ hy => of_decide_eq_true (List.mem_filter.1 hy).2
end Go.Proofs.YtgjilgecklhglaaGreat
namespace Go.Proofs.YtgjilgecklhglaaGreat
open Go.ChangeShapes Go.WideShapes Go.ChangeAt Go.RowKit Go.PlainAid Go.Maps
set_option linter.unusedVariables false
def lastName (dl : List Lnk) : Nat → ByteArray
 | 0 => ⟨#[]⟩
 | k + 1 => (dl.getD k default).name
def delAll (l : List (Int × Nat)) (dl : List Lnk) : List (Int × Nat) := dl.foldl (fun l x => ptrDel l x.id) l
theorem delAll_snoc (l : List (Int × Nat)) (dl : List Lnk) (x : Lnk) : delAll l (dl ++ [x]) = ptrDel (delAll l dl) x.id := by
 unfold delAll
 rw [List.foldl_append]
 rfl
def dirGood (l0 : List (Int × Nat)) (dl : List Lnk) (k : Nat) : Bool :=
 nameOk (dl.getD k default).name && !(ahead (dl.getD k default).name (lastName dl k) || decide ((dl.getD k default).name = lastName dl k)) && (ptrAt (delAll l0 (dl.take k)) (dl.getD k default).id).isSome
def dirOk (l0 : List (Int × Nat)) (dl : List Lnk) : Bool := (List.range dl.length).all (dirGood l0 dl)
theorem dirGood_gt {l0 : List (Int × Nat)} {dl : List Lnk} {k : Nat} (h : dirGood l0 dl k = true) : ahead (lastName dl k) (dl.getD k default).name = true := by
 unfold dirGood at h
 simp only [Bool.and_eq_true, Bool.not_eq_true', Bool.or_eq_false_iff, decide_eq_false_iff_not] at h
 exact ahead_tri h.1.2.1 h.1.2.2
theorem dir_rising {l0 : List (Int × Nat)} {dl : List Lnk} {k : Nat} (hk : k ≤ dl.length) (h : ∀ j, j < k → dirGood l0 dl j = true) : Sorted (dl.take k) ∧ ∀ x ∈ dl.take k, x.name = lastName dl k ∨ ahead x.name (lastName dl k) = true := by
 induction k with
 | zero => exact ⟨by rw [List.take_zero]; exact List.Pairwise.nil, fun x hx => by rw [List.take_zero] at hx; cases hx⟩
 | succ k ih =>
  obtain ⟨h1, h2⟩ := ih (by omega) fun j hj => h j (by omega)
  have hg := dirGood_gt (h k (by omega))
  have h3 : ∀ x ∈ dl.take k, ahead x.name (dl.getD k default).name = true := fun x hx => by
   rcases h2 x hx with e | e
   ·rw [e]; exact hg
   ·exact ahead_trans e hg
  rw [take_getD dl k (by omega)]
  refine ⟨?_, fun x hx => ?_⟩
  ·unfold Sorted
   rw [List.pairwise_append]
   refine ⟨h1, List.pairwise_singleton _ _, fun a ha b hb => ?_⟩
   rw [List.mem_singleton] at hb
   subst hb
   exact h3 a ha
  ·rcases List.mem_append.1 hx with hx | hx
   ·exact .inr (h3 x hx)
   ·rw [List.mem_singleton] at hx
    subst hx
    exact .inl rfl
theorem dir_put {l0 : List (Int × Nat)} {dl : List Lnk} {k : Nat} (hk : k < dl.length) (h : ∀ j, j < k + 1 → dirGood l0 dl j = true) : withL (dl.take k) (dl.getD k default) = dl.take (k + 1) := by
 have hg := dirGood_gt (h k (by omega))
 rw [take_getD dl k hk]
 refine withL_last fun x hx => ?_
 rcases (dir_rising (by omega) fun j hj => h j (by omega)).2 x hx with e | e
 ·rw [e]; exact hg
 ·exact ahead_trans e hg
set_option maxRecDepth 20000 in
set_option maxHeartbeats 4000000 in
theorem takeDirV (room next : Int) (v2 v3 v5 v6 : Value) (p bd bn B : Nat) (l0 : List (Int × Nat)) (dl : List Lnk) (w : World) (hp : Blk w p #[.int .i64 room, .int .i64 next, v3, .map (some bd), v5, v6] 86) (hD : NT w bd []) (hI : IT w bn l0) (hv : Lies w B 2 v2 (lnkR dl)) (hB : B ≤ w.heap.size) (hbd : B ≤ bd) (hbn : B ≤ bn) (hpd : p ≠ bd) (hpn : p ≠ bn) (hdn : bd ≠ bn)
  (hln : dl.length ≤ 1048576) (hid : ∀ x ∈ dl, IntOk x.id) (hnm : ∀ x ∈ dl, x.name.size ≤ maxLen) :
  Calls Tryz.prog 75 #[.pointer (some ⟨p, 0, none⟩), v2, .map (some bn)] w fun e w' => e = .returned (.bool (dirOk l0 dl)) ∧ But (fun i => i = bd ∨ i = bn ∨ i = p) w w' ∧
   (dirOk l0 dl = true → ∃ bw, w.heap.size ≤ bw ∧ Blk w' p #[.int .i64 room, .int .i64 next, v3, .map (some bd), v5, .map (some bw)] 86 ∧ NT w' bd dl ∧ NT w' bw dl ∧ IT w' bn (delAll l0 dl)) := by
 obtain ⟨A, cap, rfl, hl⟩ := lnk_look hv
 have HL : Hid (∀ j, j < dl.length → ∃ g off, A = some ⟨g, off, none⟩ ∧ g < B ∧ _) := hl
 have HB : Hid (B ≤ w.heap.size) := hB
 have HBD : Hid (B ≤ bd) := hbd
 have HBN : Hid (B ≤ bn) := hbn
 have HP : Hid (Blk w p #[.int .i64 room, .int .i64 next, v3, .map (some bd), v5, v6] 86) := hp
 have HPD : Hid (p ≠ bd) := hpd
 have HPN : Hid (p ≠ bn) := hpn
 have HDN : Hid (bd ≠ bn) := hdn
 have HD : Hid (NT w bd []) := hD
 have HI : Hid (IT w bn l0) := hI
 have HID : Hid (∀ x ∈ dl, IntOk x.id) := hid
 have HNM : Hid (∀ x ∈ dl, x.name.size ≤ maxLen) := hnm
 have q1 : (dl.length : Int) ≤ 1048576 := by omega
 have HE : Hid ((∀ j, j < dl.length → dirGood l0 dl j = true) → dirOk l0 dl = true) := fun h => all_yes h
 have HNO : Hid (∀ k, k < dl.length → dirGood l0 dl k = false → dirOk l0 dl = false) := fun k hk h => all_no hk h
 clear hl hv hB hbd hbn hp hpd hpn hdn hD hI hid hnm hln
 generalize hN : dl.length = N at *
 go_enter Tryz.func75, Tryz.ntmps75
 go_wp2_with fail
 go_loopw [7, 12] (fun v7 v12 wr => ∃ k : Nat, k ≤ N ∧ v12 = .int .i64 (k : Int) ∧ v7 = .string (lastName dl k) ∧ (∀ j, j < k → dirGood l0 dl j = true) ∧ NT wr bd (dl.take k) ∧ IT wr bn (delAll l0 (dl.take k)) ∧ But (fun i => i = bd ∨ i = bn) w wr) (fun _ i _ => N - (intOf i).toNat)
 case atStart => exact ⟨0, by omega, rfl, rfl, fun j hj => by omega, by rw [List.take_zero]; exact HD.out, by rw [List.take_zero]; exact HI.out, But.refl _ _⟩
 case round =>
  obtain ⟨k, hk, rfl, rfl, hgd, hNT, hIT, hbt⟩ := hrel
  have HG : Hid (∀ j, j < k → dirGood l0 dl j = true) := hgd
  have HNT : Hid (NT wr bd (dl.take k)) := hNT
  have HIT : Hid (IT wr bn (delAll l0 (dl.take k))) := hIT
  have HBT : Hid (But (fun i => i = bd ∨ i = bn) w wr) := hbt
  have hpr : Blk wr p #[.int .i64 room, .int .i64 next, v3, .map (some bd), v5, v6] 86 := hbt.blk HP.out (fun e => e.elim HPD.out HPN.out)
  clear hgd hNT hIT hbt
  by_cases hlt : k < N
  ·have q4 : (k : Int) < (N : Int) := by omega
   obtain ⟨g, off, rfl, hg, hc0, hc1⟩ := HL.out k hlt
   have hgw : g < w.heap.size := Nat.lt_of_lt_of_le hg HB.out
   have hgb : wr.heap[g]? = w.heap[g]? := HBT.out.block g hgw (fun e => by have := HBD.out; have := HBN.out; omega)
   have hcc : ∀ o, wr.cell? ⟨g, o, none⟩ = w.cell? ⟨g, o, none⟩ := fun o => World.cell?_of_block (w := w) hgb
   rw [← hcc] at hc0 hc1
   have hmem := getD_mem dl k (by omega)
   have hio := HID.out _ hmem
   have hns := HNM.out _ hmem
   have HGE : Hid (dirGood l0 dl k = (nameOk (dl.getD k default).name && !(ahead (dl.getD k default).name (lastName dl k) || decide ((dl.getD k default).name = lastName dl k)) && (ptrAt (delAll l0 (dl.take k)) (dl.getD k default).id).isSome)) := rfl
   have HBAD : Hid (dirGood l0 dl k = false → dirOk l0 dl = false) := fun h => HNO.out k (by omega) h
   have HGD : Hid (dirGood l0 dl k = true → ∀ j, j < k + 1 → dirGood l0 dl j = true) := fun h => less_succ HG.out h
   have HPUT : Hid ((∀ j, j < k + 1 → dirGood l0 dl j = true) → withL (dl.take k) (dl.getD k default) = dl.take (k + 1)) := dir_put (by omega)
   have HDA : Hid (delAll l0 (dl.take (k + 1)) = ptrDel (delAll l0 (dl.take k)) (dl.getD k default).id) := by unfold Hid; rw [take_getD dl k (by omega), delAll_snoc]
   have HLS : Hid (lastName dl (k + 1) = (dl.getD k default).name) := rfl
   have hbq := toList_beq (dl.getD k default).name (lastName dl k)
   have hah : Op.bytesLess (dl.getD k default).name.toList (lastName dl k).toList = ahead (dl.getD k default).name (lastName dl k) := rfl
   have hpl : p < wr.heap.size := hpr.lt
   have hbl : bd < wr.heap.size := HNT.out.lt
   have hbl2 : bn < wr.heap.size := HIT.out.lt
   have hlk : Hid ((dl.take k).length < maxLen) := by unfold Hid; rw [List.length_take]; unfold maxLen; omega
   clear hgb hgw hcc hg hmem
   generalize hxx : dl.getD k default = xx at *
   obtain ⟨xn, xi⟩ := xx
   simp only at *
   generalize hla : lastName dl k = la at *
   have c1 := fun wx => isNameV xn wx (by unfold maxLen at hns; omega)
   have HIO : Hid (IntOk xi) := hio
   have HNS : Hid (xn.size ≤ maxLen) := hns
   clear hio hns
   go_wp2_with fail
   have KP : Blk (wr.alloc (.cells #[.string xn, .int .i64 xi] 49)) p #[.int .i64 room, .int .i64 next, v3, .map (some bd), v5, v6] 86 := hpr.alloc _
   have KZ := Blk.new wr #[.string xn, .int .i64 xi] 49
   have BY : Hid (But (fun i => i = bd ∨ i = bn) w (wr.alloc (.cells #[.string xn, .int .i64 xi] 49))) := HBT.out.alloc _
   have NY : Hid (NT (wr.alloc (.cells #[.string xn, .int .i64 xi] 49)) bd (dl.take k)) := HNT.out.on ((Below.refl _ wr).alloc (Nat.le_refl _) _) hbl
   have IY : Hid (IT (wr.alloc (.cells #[.string xn, .int .i64 xi] 49)) bn (delAll l0 (dl.take k))) := HIT.out.on ((Below.refl _ wr).alloc (Nat.le_refl _) _) hbl2
   generalize wr.alloc (.cells #[.string xn, .int .i64 xi] 49) = Y at *
   have z0 : Y.cell? ⟨wr.heap.size, 0, none⟩ = some (.string xn) := KZ.cell 0 _ rfl
   have z1 : Y.cell? ⟨wr.heap.size, 1, none⟩ = some (.int .i64 xi) := KZ.cell 1 _ rfl
   have b3 : Y.cell? ⟨p, 3, none⟩ = some (.map (some bd)) := KP.cell 3 _ rfl
   have HW1 : Hid (p < Y.heap.size) := KP.lt
   have HW2 : Hid (wr.heap.size < Y.heap.size) := KZ.lt
   clear KP KZ hpr hc0 hc1
   generalize wr.heap.size = pz at *
   refine (c1 Y).mono ?_
   rintro e w1 ⟨rfl, rfl⟩
   clear c1
   cases hno : nameOk xn with
   | false =>
    have gf : Hid (dirGood l0 dl k = false) := by unfold Hid; rw [HGE.out, hno] <;> rfl
    clear hbq hah
    go_wp2_with fail
    go_ret
    exact ⟨by rw [HBAD.out gf.out]; rfl, BY.out.mono (fun i _ h => h.elim .inl (fun e => .inr (.inl e))), fun h => by rw [HBAD.out gf.out] at h; cases h⟩
   | true =>
    cases ha : ahead xn la with
    | true =>
     rw [ha] at hah
     have gf : Hid (dirGood l0 dl k = false) := by unfold Hid; rw [HGE.out, hno, ha] <;> rfl
     clear hbq
     go_wp2_with fail
     go_ret
     exact ⟨by rw [HBAD.out gf.out]; rfl, BY.out.mono (fun i _ h => h.elim .inl (fun e => .inr (.inl e))), fun h => by rw [HBAD.out gf.out] at h; cases h⟩
    | false =>
     rw [ha] at hah
     by_cases heq : xn = la
     ·rw [decide_eq_true heq] at hbq
      have gf : Hid (dirGood l0 dl k = false) := by unfold Hid; rw [HGE.out, hno, ha, decide_eq_true heq] <;> rfl
      clear heq
      go_wp2_with fail
      go_ret
      exact ⟨by rw [HBAD.out gf.out]; rfl, BY.out.mono (fun i _ h => h.elim .inl (fun e => .inr (.inl e))), fun h => by rw [HBAD.out gf.out] at h; cases h⟩
     ·rw [decide_eq_false heq] at hbq
      rcases hat : ptrAt (delAll l0 (dl.take k)) xi with _ | gq
      ·have gf : Hid (dirGood l0 dl k = false) := by unfold Hid; rw [HGE.out, hno, ha, decide_eq_false heq, hat] <;> rfl
       have r1 := (IY.out.val xi HIO.out).1 hat
       clear heq hat
       go_wp2_with fail
       go_ret
       exact ⟨by rw [HBAD.out gf.out]; rfl, BY.out.mono (fun i _ h => h.elim .inl (fun e => .inr (.inl e))), fun h => by rw [HBAD.out gf.out] at h; cases h⟩
      ·have gf : Hid (dirGood l0 dl k = true) := by unfold Hid; rw [HGE.out, hno, ha, decide_eq_false heq, hat] <;> rfl
       have r1 := (IY.out.val xi HIO.out).2 gq hat
       clear heq hat
       have NYd : NT Y.drew bd (dl.take k) := NY.out.kept rfl
       obtain ⟨w2, r2, hN2, hB2, hS2⟩ := NYd.put xn xi HNS.out hlk.out
       have IY2 : IT w2 bn (delAll l0 (dl.take k)) := (IY.out.kept (w' := Y.drew) rfl).but hB2 (fun e => HDN.out e.symm)
       have hr3 := fun ty => IY2.del xi HIO.out ty
       obtain ⟨w3, r3, hI3, hB3, hS3⟩ := hr3 0
       have N3 : Hid (NT w3 bd (dl.take (k + 1))) := by
        unfold Hid
        rw [← HPUT.out (HGD.out gf.out)]
        exact hN2.but hB3 HDN.out
       have I3 : Hid (IT w3 bn (delAll l0 (dl.take (k + 1)))) := by unfold Hid; rw [HDA.out]; exact hI3
       have B3 : Hid (But (fun i => i = bd ∨ i = bn) w w3) := (BY.out.drew.trans hB2 (fun _ _ e => .inl e)).trans hB3 (fun _ _ e => .inr e)
       have hcp : ∀ o, w2.cell? ⟨p, o, none⟩ = Y.cell? ⟨p, o, none⟩ := fun o => World.cell?_of_block (w := Y) (hB2.block p HW1.out HPD.out)
       have hcz : ∀ o, w2.cell? ⟨pz, o, none⟩ = Y.cell? ⟨pz, o, none⟩ := fun o => World.cell?_of_block (w := Y) (hB2.block pz HW2.out (fun e => by omega))
       have S0 : Hid (Y.drew.cell? ⟨p, 3, none⟩ = some (.map (some bd)) ∧ Y.drew.cell? ⟨pz, 0, none⟩ = some (.string xn) ∧ Y.drew.cell? ⟨pz, 1, none⟩ = some (.int .i64 xi)) := ⟨b3, z0, z1⟩
       have S2 : Hid (w2.cell? ⟨p, 3, none⟩ = some (.map (some bd)) ∧ w2.cell? ⟨pz, 0, none⟩ = some (.string xn) ∧ w2.cell? ⟨pz, 1, none⟩ = some (.int .i64 xi)) := ⟨(hcp 3).trans b3, (hcz 0).trans z0, (hcz 1).trans z1⟩
       have y1 : w2.cell? ⟨pz, 1, none⟩ = some (.int .i64 xi) := S2.out.2.2
       clear NYd hN2 hB2 hS2 IY2 hr3 hI3 hB3 hS3 hcp hcz
       go_wp2_with fail
       go_region_held3 (fun w' => w'.cell? ⟨p, 3, none⟩ = some (.map (some bd)) ∧ w'.cell? ⟨pz, 0, none⟩ = some (.string xn) ∧ w'.cell? ⟨pz, 1, none⟩ = some (.int .i64 xi)) (first | exact S0.out | exact S2.out) (fail)
       go_wp2_with fail
       go_roundw
       case rel => exact ⟨k + 1, by omega, by go_num, by rw [HLS.out], HGD.out gf.out, N3.out, I3.out, B3.out⟩
       case measure => simp [intOf]; omega
  ·obtain rfl : k = N := by omega
   have hNd : NT wr bd dl := by
    have := HNT.out
    rw [← hN, List.take_length] at this
    exact this
   have HId : Hid (IT wr bn (delAll l0 dl)) := by
    have := HIT.out
    rw [← hN, List.take_length] at this
    exact this
   have HF : Hid (dirOk l0 dl = true) := HE.out HG.out
   have cC := cloneNV wr bd dl hNd
   have HNd : Hid (NT wr bd dl) := hNd
   have HPR : Hid (Blk wr p #[.int .i64 room, .int .i64 next, v3, .map (some bd), v5, v6] 86) := hpr
   have x3 := hpr.cell 3 _ rfl
   clear hpr hNd
   go_wp2_with fail
   refine cC.mono ?_
   rintro e w3 ⟨rfl, hNw, hb⟩
   have P3 : Hid (Blk w3 p #[.int .i64 room, .int .i64 next, v3, .map (some bd), v5, v6] 86) := HPR.out.on hb HPR.out.lt
   have N3 : Hid (NT w3 bd dl) := HNd.out.on hb HNd.out.lt
   have I3 : Hid (IT w3 bn (delAll l0 dl)) := HId.out.on hb HId.out.lt
   have W3 : Hid (NT w3 wr.heap.size dl) := hNw
   have B3 : Hid (But (fun i => i = bd ∨ i = bn) w w3) := HBT.out.trans (But.of_below (fun _ => False) hb) (fun _ _ e => e.elim)
   have HZ : Hid (p < wr.heap.size) := HPR.out.lt
   have HZ2 : Hid (w.heap.size ≤ wr.heap.size) := HBT.out.size
   have x5 := P3.out.cell 5 _ rfl
   have f5 := P3.out.free 5
   clear hNw hb cC x3
   generalize wr.heap.size = bw at *
   go_wp2_with fail
   go_ret
   refine ⟨by rw [HF.out]; rfl, (B3.out.mono (fun i _ h => h.elim .inl (fun e => .inr (.inl e)))).setCell (fun _ => .inr (.inr rfl)) _, fun _ => ⟨bw, HZ2.out, ?_, ?_, ?_, ?_⟩⟩
   ·exact P3.out.set 5 _
   ·exact N3.out.kept (Below.heap_setCell _ _ _ _ HPD.out.symm)
   ·exact W3.out.kept (Below.heap_setCell _ _ _ _ (by have := HZ.out; show bw ≠ p; omega))
   ·exact I3.out.kept (Below.heap_setCell _ _ _ _ HPN.out.symm)
end Go.Proofs.YtgjilgecklhglaaGreat
