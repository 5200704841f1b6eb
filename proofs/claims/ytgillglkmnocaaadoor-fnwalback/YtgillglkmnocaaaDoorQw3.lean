/- WkApp WokSpec UntilS StFits StFitsI StAid WkPut WkTo StCopyI -/
import Derived.Test.YtgillglkmnocaaaDoorQw1
import Derived.OwnWalk
import Derived.Test.YtgillglkmnocaaaDoorRows
import Derived.Test.YtgillglkmnocaaaDoorQw2
import Derived.Handy
import Derived.Deep.RegionHeld3
import Derived.Deep.RegionLaw
namespace Go.Proofs.YtgillglkmnocaaaDoor
open Go.RowKit Go.PlainAid
theorem Owns.empty (w : World) (base : Nat) (e : TypeId) (sz : Nat) (hb : base ≤ w.heap.size) : Owns (w.alloc (.cells #[] e)) base e sz (.slice (some ⟨w.heap.size, 0, none⟩) 0 0) [] :=
 ⟨fun r hr => by simp at hr, World.ownsRow_lit w #[] 0 hb (by unfold maxLen; omega) (by simp)⟩
theorem Owns.nil (w : World) (base : Nat) (e : TypeId) (sz : Nat) : Owns w base e sz (.slice none 0 0) [] := ⟨fun r hr => by simp at hr, World.ownsRow_nil w base e sz⟩
theorem Owns.alloc {w : World} {base : Nat} {e : TypeId} {sz : Nat} {v : Value} {rows : List (List Value)} (h : Owns w base e sz v rows) (o : Obj) : Owns (w.alloc o) base e sz v rows := ⟨h.1, World.ownsRow.alloc h.2 o⟩
theorem run_append_where {P : Program} (w : World) (base : Nat) (t ty e : TypeId) (i : TypeInfo) (z : Value) (size bytes : Nat) (ht : P.underlying t = some (.slice e)) (hi : P.info? e = some i) (hz : i.zero = some z)
  (hsize : i.size = size) (hby : i.bytes = bytes)
  (v : Value) (n : Nat) (xs : List Value) (hown : w.ownsRow base e size v n xs)
  (a : Addr) (m c : Nat) (news : List Value) (hl : news.length = m * size) (hnews : ∀ j u, news[j]? = some u → w.cell? (a.add j) = some u) (h1 : ∀ u ∈ news, u.oneCell' = true)
  (h63 : n + m ≤ maxLen) (hbytes : (n + m) * bytes ≤ 140737488355328) (v' : Value) (w' : World)
  (h : (Builtin.append_ #[t, t] ty #[v, .slice (some a) m c]).run P w = .ok v' w') : v'.ownBlock = v.ownBlock ∨ v'.ownBlock = some w.heap.size := by
 subst hsize
 subst hby
 have hsmall : n + m ≤ 9223372036854775807 := by simp only [maxLen] at h63; omega
 rcases hown.2 with ⟨rfl, rfl⟩ | ⟨g, cap, cur, rfl, hbg, hg, hnc, hcm, hcs, htake⟩
 ·by_cases hm : m = 0
  ·subst hm
   have hn : news = [] := List.eq_nil_of_length_eq_zero (by simpa using hl)
   subst hn
   have hr : (Builtin.append_ #[t, t] ty #[.slice none 0 0, .slice (some a) 0 c]).run P w = .ok (.slice none 0 0) w := by
    simp [Builtin.append_, run_underlying ht, sizeOf, typeInfo, hi, Builtin.lenOf, Builtin.firstCells, loadCells, loadCellsFrom]
   rw [hr] at h
   cases h
   exact .inl rfl
  ·have hr := run_append_nil (P := P) w t ty e i z ht hi hz a m c news hl hnews (by omega) (by omega) (by have hb := hbytes; simp only [Nat.zero_add] at hb; omega)
   rw [hr] at h
   cases h
   exact .inr rfl
 ·by_cases hroom : n + m ≤ cap
  ·have hfit : n * i.size + news.length ≤ cur.size := by rw [hl, hcs, ← Nat.add_mul]; exact Nat.mul_le_mul_right _ hroom
   have hr := run_append_room (P := P) w t ty e i ht hi g n cap cur hg a m c news hl hnews h1 hroom hfit
   rw [hr] at h
   cases h
   exact .inl rfl
  ·have holds : ∀ j u, xs[j]? = some u → w.cell? ((⟨g, 0, none⟩ : Addr).add j) = some u := hown.cells (g := g) rfl
   have hr := run_append_grow (P := P) w t ty e i z ht hi hz ⟨g, 0, none⟩ n cap xs hown.1 holds a m c news hl hnews (by omega) (by omega) (growslice_fits (by omega) hbytes)
   rw [hr] at h
   cases h
   exact .inr rfl
theorem wpList_append_own2 {P : Program} {w : World} {ops : Array Oper} {rest : List Oper} {o : Oper} {a : Act} {Q : Exit → Act → World → Prop} (hgd : o.guard = none) (s x : Operand) (t : TypeId)
  (ho : o.op = .call { callee := .builtin .append, args := #[s, x], argTypes := #[t, t] })
  (base : Nat) (e : TypeId) (i : TypeInfo) (z : Value) (size bytes : Nat) (ht : P.underlying t = some (.slice e)) (hi : P.info? e = some i) (hz : i.zero = some z)
  (hsize : i.size = size) (hby : i.bytes = bytes) (hzs : z.cells.size = size) (hsz : 0 < size)
  (v : Value) (n : Nat) (xs : List Value) (hs : a.eval s = v) (hown : w.ownsRow base e size v n xs)
  (ad : Addr) (m c : Nat) (news : List Value) (hx : a.eval x = .slice (some ad) m c) (hl : news.length = m * size) (hnews : ∀ j u, news[j]? = some u → w.cell? (ad.add j) = some u) (h1 : ∀ u ∈ news, u.oneCell' = true)
  (h63 : n + m ≤ maxLen) (hbytes : (n + m) * bytes ≤ 140737488355328) (hbase : base ≤ w.heap.size)
  (h : ∀ v' w', w'.ownsRow base e size v' (n + m) (xs ++ news) → w.grownBy w' v.ownBlock → (v'.ownBlock = v.ownBlock ∨ v'.ownBlock = some w.heap.size) → wpList P ops Q rest (a.put o.dst v') w') : wpList P ops Q (o :: rest) a w := by
 obtain ⟨v', w', hr, h2, h3, _⟩ := run_append_own (P := P) w base t o.type e i z size bytes ht hi hz hsize hby hzs hsz v n xs hown ad m c news hl hnews h1 h63 hbytes hbase
 have h5 := run_append_where (P := P) w base t o.type e i z size bytes ht hi hz hsize hby v n xs hown ad m c news hl hnews h1 h63 hbytes v' w' hr
 refine wpList_plain hgd fun K hK => ?_
 unfold Oper.wp execOp
 simp only [ho, resolve, invoke, builtin, Sem.run_bind, Sem.run_pure, Result.andThen_ok, List.map_toArray, List.map_cons, List.map_nil, hs, hx, hr]
 exact hK _ _ (h v' w' h2 h3 h5)
theorem wpList_append_row {P : Program} {w : World} {ops : Array Oper} {rest : List Oper} {o : Oper} {a : Act} {Q : Exit → Act → World → Prop} (hgd : o.guard = none) (s x : Operand) (t e : TypeId) (z : Value) (sz bytes : Nat)
  (ho : o.op = .call { callee := .builtin .append, args := #[s, x], argTypes := #[t, t] })
  (ht : P.underlying t = some (.slice e)) (hinfo : (P.info? e).map (fun i => (i.zero, i.size, i.bytes)) = some (some z, sz, bytes)) (hzs : z.cells.size = sz) (hsz : 0 < sz)
  (base : Nat) (v : Value) (rows : List (List Value)) (hs : a.eval s = v) (hown : Owns w base e sz v rows) (r : List Value) (hr : r.length = sz) (h1 : ∀ u ∈ r, u.oneCell' = true)
  (hx : a.eval x = .slice (some ⟨w.heap.size, 0, none⟩) 1 1) (hlen : rows.length ≤ 2097152) (hby : bytes ≤ 1000) (hbase : base ≤ w.heap.size)
  (h : ∀ v' w', Owns w' base e sz v' (rows ++ [r]) → Below base w w' → (∀ g, g < w.heap.size → v.ownBlock ≠ some g → w'.heap[g]? = w.heap[g]?) → (v'.ownBlock = v.ownBlock ∨ ∀ g, v'.ownBlock = some g → w.heap.size ≤ g) → wpList P ops Q rest (a.put o.dst v') w') : wpList P ops Q (o :: rest) a (w.alloc (.cells r.toArray e)) := by
 obtain ⟨i0, hi, hz0, hz1, hz2⟩ := info_parts hinfo
 have hb1 : (rows.length + 1) * bytes ≤ 140737488355328 := Nat.le_trans (Nat.mul_le_mul (show rows.length + 1 ≤ 2097153 by omega) hby) (by omega)
 refine wpList_append_own2 (w := w.alloc (.cells r.toArray e)) hgd s x t ho base e i0 z sz bytes ht hi hz0 hz1 hz2 hzs hsz v rows.length rows.flatten hs (World.ownsRow.alloc hown.2 _) ⟨w.heap.size, 0, none⟩ 1 1 r hx (by rw [hr]; omega) ?_ h1 (by unfold maxLen; omega) hb1 (by simp; omega) ?_
 ·intro j u hj
  have e1 : (⟨w.heap.size, 0, none⟩ : Addr).add j = ⟨w.heap.size, j, none⟩ := by cases j <;> simp [Addr.add]
  rw [e1, World.cell?_alloc_mark]
  simpa using hj
 ·intro v' w' h2 h3 h5
  have hb0 : ∀ k, v.ownBlock = some k → base ≤ k := fun k hk => (hown.lt k hk).1
  refine h v' w' ⟨?_, ?_⟩ ?_ ?_ (h5.imp id fun e g hg => by rw [e] at hg; cases hg; simp)
  ·intro y hy
   rcases List.mem_append.1 hy with hy | hy
   ·exact hown.1 y hy
   ·rw [List.mem_singleton.1 hy]; exact hr
  ·rw [List.length_append, List.flatten_append]
   simpa using h2
  ·exact ((Below.refl base w).alloc hbase _).grown h3 (by simp; omega) hb0
  ·intro g hg hne
   rw [h3.block g (by simp; omega) (fun e => hne e.symm)]
   exact Below.heap_alloc w _ g hg
theorem wpList_append_all {P : Program} {w : World} {ops : Array Oper} {rest : List Oper} {o : Oper} {a : Act} {Q : Exit → Act → World → Prop} (hgd : o.guard = none) (s x : Operand) (t e : TypeId) (z : Value) (sz bytes : Nat)
  (ho : o.op = .call { callee := .builtin .append, args := #[s, x], argTypes := #[t, t] })
  (ht : P.underlying t = some (.slice e)) (hinfo : (P.info? e).map (fun i => (i.zero, i.size, i.bytes)) = some (some z, sz, bytes)) (hzs : z.cells.size = sz) (hsz : 0 < sz)
  (base : Nat) (v u : Value) (rows more : List (List Value)) (B : Nat) (hs : a.eval s = v) (hown : Owns w base e sz v rows) (hu : Lies w B sz u more) (h1 : ∀ r ∈ more, ∀ y ∈ r, y.oneCell' = true)
  (hx : a.eval x = u) (hlen : rows.length + more.length ≤ 2097152) (hby : bytes ≤ 1000) (hbase : base ≤ w.heap.size)
  (h : ∀ v' w', Owns w' base e sz v' (rows ++ more) → Below base w w' → (∀ g, g < w.heap.size → v.ownBlock ≠ some g → w'.heap[g]? = w.heap[g]?) → (v'.ownBlock = v.ownBlock ∨ ∀ g, v'.ownBlock = some g → w.heap.size ≤ g) → wpList P ops Q rest (a.put o.dst v') w') : wpList P ops Q (o :: rest) a w := by
 obtain ⟨i0, hi, hz0, hz1, hz2⟩ := info_parts hinfo
 have hb1 : (rows.length + more.length) * bytes ≤ 140737488355328 := Nat.le_trans (Nat.mul_le_mul hlen hby) (by omega)
 obtain ⟨A, cap, rfl, hz, hms, hm⟩ := hu
 have fin : ∀ v' w', w'.ownsRow base e sz v' (rows.length + more.length) (rows.flatten ++ more.flatten) → w.grownBy w' v.ownBlock → (v'.ownBlock = v.ownBlock ∨ v'.ownBlock = some w.heap.size) → wpList P ops Q rest (a.put o.dst v') w' := by
  intro v' w' h2 h3 h5
  have hb0 : ∀ k, v.ownBlock = some k → base ≤ k := fun k hk => (hown.lt k hk).1
  refine h v' w' ⟨?_, ?_⟩ ?_ ?_ (h5.imp id fun e g hg => by rw [e] at hg; cases hg; exact Nat.le_refl _)
  ·intro y hy
   rcases List.mem_append.1 hy with hy | hy
   ·exact hown.1 y hy
   ·exact hms y hy
  ·rw [List.length_append, List.flatten_append]
   exact h2
  ·exact (Below.refl base w).grown h3 hbase hb0
  ·intro g hg hne
   exact h3.block g hg (fun e => hne e.symm)
 match A, hz, hx, hm with
 | none, hz, hx, hm =>
  have h0 : more.length = 0 := by
   rcases hm with h0 | ⟨g, off, e, _⟩
   ·exact h0
   ·cases e
  have hc0 := hz.1 rfl
  subst hc0
  have hnil : more = [] := List.eq_nil_of_length_eq_zero h0
  subst hnil
  refine wpList_plain hgd fun K hK => ?_
  have hr := run_append_owned_none (P := P) w base t o.type e i0 sz ht hi v rows.length rows.flatten hown.2
  unfold Oper.wp
  simp [execOp, ho, resolve, invoke, builtin, hs, hx, hr, Result.andThen]
  refine hK _ _ (fin v w ?_ ⟨rfl, rfl, rfl, Nat.le_refl _, fun _ _ _ => rfl⟩ (.inl rfl))
  simpa using hown.2
 | some ad, hz, hx, hm =>
  refine wpList_append_own2 (w := w) hgd s x t ho base e i0 z sz bytes ht hi hz0 hz1 hz2 hzs hsz v rows.length rows.flatten hs hown.2 ad more.length cap more.flatten hx (flat_length sz more hms) ?_ ?_ (by unfold maxLen; omega) hb1 hbase ?_
  ·intro j y hj
   rcases hm with h0 | ⟨g, off, e, hg, hc⟩
   ·rw [List.eq_nil_of_length_eq_zero h0] at hj
    simp at hj
   ·cases e
    have e1 : (⟨g, off, none⟩ : Addr).add j = ⟨g, off + j, none⟩ := by cases j <;> simp [Addr.add]
    rw [e1]
    exact hc j y hj
  ·intro y hy
   obtain ⟨r, hr, hyr⟩ := List.mem_flatten.1 hy
   exact h1 r hr y hyr
  ·intro v' w' h2 h3 h5
   exact fin v' w' h2 h3 h5
theorem Owns.first {w : World} {base : Nat} {e : TypeId} {sz : Nat} {A : Option Addr} {n c : Nat} {rows : List (List Value)} (h : Owns w base e sz (.slice A n c) rows) (k : Nat) (hk : k ≤ rows.length) : Owns w base e sz (.slice A k c) (rows.take k) := by
 obtain ⟨hs, hl, h⟩ := h
 have hkl : (rows.take k).length = k := by rw [List.length_take]; omega
 have hs' : ∀ r ∈ rows.take k, r.length = sz := fun r hr => hs r (List.mem_of_mem_take hr)
 have hft : (rows.take k).flatten = rows.flatten.take (k * sz) := by
  have h1 : rows.flatten = (rows.take k).flatten ++ (rows.drop k).flatten := by rw [← List.flatten_append, List.take_append_drop]
  have hl2 : (rows.take k).flatten.length = k * sz := by rw [flat_length sz _ hs', hkl]
  rw [h1]
  exact (List.take_left' hl2).symm
 refine ⟨hs', ?_, ?_⟩
 ·rw [flat_length sz _ hs']
 rcases h with ⟨e1, h0⟩ | ⟨g, cap, cur, e1, hb, hh, hn, hm, hz, ht⟩
 ·cases e1
  have : k = 0 := by omega
  subst this
  exact .inl ⟨rfl, by simp⟩
 ·cases e1
  refine .inr ⟨g, c, cur, by rw [hkl], hb, hh, by rw [hkl]; omega, hm, hz, ?_⟩
  rw [hkl, hft, ← ht, List.take_take]
  congr 1
  have : k * sz ≤ rows.length * sz := Nat.mul_le_mul_right sz hk
  omega
end Go.Proofs.YtgillglkmnocaaaDoor
namespace Go.Proofs.YtgillglkmnocaaaDoor
open Go.ChangeShapes Go.WideShapes Go.ChangeAt Go.RowKit Go.PlainAid
set_option linter.unusedVariables false
theorem based_in (i t : Int) (h : based i t = true) : (0 ≤ i ∧ i ≤ 100000) ∧ 0 ≤ t ∧ t ≤ 100000 := by
 unfold based inIt at h
 split at h
 ·have := of_decide_eq_true h
  omega
 ·simp at h
  omega
theorem inIt_in (x lo hi : Int) (h : inIt x lo hi = true) : lo ≤ x ∧ x ≤ hi := by
 unfold inIt at h
 simpa using h
def lastAt (bt : Int) (l : List Ent) (k : Nat) : Int := if k = 0 then bt else (l.getD (k - 1) default).term
theorem ents_step (top last : Int) (l : List Ent) (k : Nat) (h : k < l.length) :
  entsOk top last (l.drop k) = (decide (1 ≤ (l.getD k default).term) && decide (last ≤ (l.getD k default).term) && decide ((l.getD k default).term ≤ top) && decide ((l.getD k default).data.size ≤ 900) && entsOk top (l.getD k default).term (l.drop (k + 1))) := by
 rw [List.drop_eq_getElem_cons h, ← getD_at l k h]
 rfl
theorem lastAt_succ (bt : Int) (l : List Ent) (k : Nat) : lastAt bt l (k + 1) = (l.getD k default).term := rfl
set_option maxHeartbeats 2000000 in
theorem specWalOk (x : Wl) (v : Value) (w : World) (B : Nat) (hv : WalV w B v x) (hf : FitsW x) (hB : B ≤ w.heap.size) : Calls Tryd.prog 7 #[v] w fun e w' => e = .returned (.bool (walOk x)) ∧ Below w.heap.size w w' := by
 obtain ⟨u, rfl, hl⟩ := hv
 obtain ⟨A, cap, rfl, hlk⟩ := ent_look hl
 have HL : Hid (∀ j, j < x.ents.length → ∃ g off, A = some ⟨g, off, none⟩ ∧ g < B ∧ _) := hlk
 have HB : Hid (B ≤ w.heap.size) := hB
 have hn0 := hf.n
 have HF : Hid (∀ e ∈ x.ents, e.data.size ≤ maxLen) := hf.d
 unfold maxLen at hn0
 have q1 : (x.ents.length : Int) ≤ 9223372036854775807 := by omega
 have HE : Hid (walOk x = (inIt x.term 0 100000 && inIt x.vote (-1) 4 && based x.base x.bterm && decide (x.bterm ≤ x.term) && decide (x.ents.length ≤ 60) && decide (x.base + x.ents.length ≤ 100000) && entsOk x.term x.bterm x.ents)) := rfl
 clear hl hlk hB hf hn0
 generalize hN : x.ents.length = n at *
 have B0 : Hid (Below w.heap.size w (w.alloc (.cells #[.int .i64 x.term, .int .i64 x.vote, .int .i64 x.base, .int .i64 x.bterm, .slice A n cap] 26))) := (Below.refl _ _).alloc (Nat.le_refl _) _
 have K0 : Hid (Blk (w.alloc (.cells #[.int .i64 x.term, .int .i64 x.vote, .int .i64 x.base, .int .i64 x.bterm, .slice A n cap] 26)) w.heap.size #[.int .i64 x.term, .int .i64 x.vote, .int .i64 x.base, .int .i64 x.bterm, .slice A n cap] 26) := Blk.new _ _ _
 have a1 := inB x.term 0 100000
 have a2 := inB x.vote (-1) 4
 have a3 := basedV x.base x.bterm
 cases h1 : inIt x.term 0 100000 <;> rw [h1] at a1 HE
 ·clear h1
  go_enter Tryd.func7, Tryd.ntmps7
  go_wp2_with fail
  refine (a1 _).mono ?_
  rintro e w' ⟨rfl, rfl⟩
  go_wp2_with fail
  go_ret
  exact ⟨by rw [HE.out]; rfl, B0.out⟩
 cases h2 : inIt x.vote (-1) 4 <;> rw [h2] at a2 HE
 ·clear h1 h2
  go_enter Tryd.func7, Tryd.ntmps7
  go_wp2_with fail
  refine (a1 _).mono ?_
  rintro e w' ⟨rfl, rfl⟩
  go_wp2_with fail
  refine (a2 _).mono ?_
  rintro e w' ⟨rfl, rfl⟩
  go_wp2_with fail
  go_ret
  exact ⟨by rw [HE.out]; rfl, B0.out⟩
 cases h3 : based x.base x.bterm <;> rw [h3] at a3 HE
 ·clear h1 h2 h3
  go_enter Tryd.func7, Tryd.ntmps7
  go_wp2_with fail
  refine (a1 _).mono ?_
  rintro e w' ⟨rfl, rfl⟩
  go_wp2_with fail
  refine (a2 _).mono ?_
  rintro e w' ⟨rfl, rfl⟩
  go_wp2_with fail
  refine (a3 _).mono ?_
  rintro e w' ⟨rfl, rfl⟩
  go_wp2_with fail
  go_ret
  exact ⟨by rw [HE.out]; rfl, B0.out⟩
 obtain ⟨b1, b2⟩ := based_in _ _ h3
 obtain ⟨p1, p2⟩ := inIt_in _ _ _ h1
 clear h1 h2 h3
 by_cases h4 : x.bterm ≤ x.term
 rotate_left
 ·rw [decide_eq_false h4] at HE
  have h4' : x.term < x.bterm := by omega
  clear h4
  go_enter Tryd.func7, Tryd.ntmps7
  go_wp2_with fail
  refine (a1 _).mono ?_
  rintro e w' ⟨rfl, rfl⟩
  go_wp2_with fail
  refine (a2 _).mono ?_
  rintro e w' ⟨rfl, rfl⟩
  go_wp2_with fail
  refine (a3 _).mono ?_
  rintro e w' ⟨rfl, rfl⟩
  go_wp2_with fail
  go_ret
  exact ⟨by rw [HE.out]; rfl, B0.out⟩
 rw [decide_eq_true h4] at HE
 by_cases h5 : n ≤ 60
 rotate_left
 ·rw [decide_eq_false h5] at HE
  have h5' : (60 : Int) < (n : Int) := by omega
  go_enter Tryd.func7, Tryd.ntmps7
  go_wp2_with fail
  refine (a1 _).mono ?_
  rintro e w' ⟨rfl, rfl⟩
  go_wp2_with fail
  refine (a2 _).mono ?_
  rintro e w' ⟨rfl, rfl⟩
  go_wp2_with fail
  refine (a3 _).mono ?_
  rintro e w' ⟨rfl, rfl⟩
  go_wp2_with fail
  go_ret
  exact ⟨by rw [HE.out]; rfl, B0.out⟩
 rw [decide_eq_true h5] at HE
 have h5' : (n : Int) ≤ 60 := by omega
 have hw1 : IntKind.i64.wrap (x.base + (n : Int)) = x.base + (n : Int) := by rw [IntKind.wrap_i64]; omega
 by_cases h6 : x.base + (n : Int) ≤ 100000
 rotate_left
 ·rw [decide_eq_false h6] at HE
  have h6' : (100000 : Int) < x.base + (n : Int) := by omega
  go_enter Tryd.func7, Tryd.ntmps7
  go_wp2_with fail
  refine (a1 _).mono ?_
  rintro e w' ⟨rfl, rfl⟩
  go_wp2_with fail
  refine (a2 _).mono ?_
  rintro e w' ⟨rfl, rfl⟩
  go_wp2_with fail
  refine (a3 _).mono ?_
  rintro e w' ⟨rfl, rfl⟩
  go_wp2_with fail
  go_ret
  exact ⟨by rw [HE.out]; rfl, B0.out⟩
 rw [decide_eq_true h6] at HE
 have HE : Hid (walOk x = entsOk x.term x.bterm x.ents) := by unfold Hid; rw [HE.out]; simp
 go_enter Tryd.func7, Tryd.ntmps7
 go_wp2_with fail
 refine (a1 _).mono ?_
 rintro e w' ⟨rfl, rfl⟩
 go_wp2_with fail
 refine (a2 _).mono ?_
 rintro e w' ⟨rfl, rfl⟩
 go_wp2_with fail
 refine (a3 _).mono ?_
 rintro e w' ⟨rfl, rfl⟩
 go_wp2_with fail
 generalize w.alloc (.cells #[.int .i64 x.term, .int .i64 x.vote, .int .i64 x.base, .int .i64 x.bterm, .slice A n cap] 26) = W at *
 clear a1 a2 a3 b1 b2 hw1 h6
 go_loopw [3, 4] (fun v3 v4 wr => ∃ k : Nat, k ≤ n ∧ v4 = .int .i64 (k : Int) ∧ v3 = .int .i64 (lastAt x.bterm x.ents k) ∧ Hid (walOk x = entsOk x.term (lastAt x.bterm x.ents k) (x.ents.drop k)) ∧ Below W.heap.size W wr) (fun _ i _ => n - (intOf i).toNat)
 case atStart => exact ⟨0, by omega, rfl, rfl, HE, Below.refl _ _⟩
 case round =>
  obtain ⟨k, hk, rfl, rfl, HR, hb⟩ := hrel
  have HB1 : Hid (Below W.heap.size W wr) := hb
  have hlt0 := K0.out.lt
  have c4 := (hb.cell (p := ⟨w.heap.size, 4, none⟩) hlt0).trans (K0.out.cell 4 (.slice A n cap) rfl)
  have c0 := (hb.cell (p := ⟨w.heap.size, 0, none⟩) hlt0).trans (K0.out.cell 0 (.int .i64 x.term) rfl)
  have hsz := hb.size
  clear hb hlt0
  by_cases hlt : k < n
  ·have q4 : (k : Int) < (n : Int) := by omega
   obtain ⟨g, off, rfl, hg, hc0, hc1⟩ := HL.out k (by omega)
   have hgw : g < W.heap.size := Nat.lt_of_lt_of_le hg (Nat.le_trans HB.out B0.out.size)
   have hgB : g < B := hg
   rw [← B0.out.cell (p := ⟨_, _, none⟩) (Nat.lt_of_lt_of_le hg HB.out), ← HB1.out.cell (p := ⟨_, _, none⟩) hgw] at hc0 hc1
   have HX := ents_step x.term (lastAt x.bterm x.ents k) x.ents k (by omega)
   have HX1 := lastAt_succ x.bterm x.ents k
   have hds := HF.out _ (getD_mem x.ents k (by omega))
   unfold maxLen at hds
   have hdi : ((x.ents.getD k default).data.size : Int) ≤ 9223372036854775807 := by omega
   have HXX : Hid (walOk x = (decide (1 ≤ (x.ents.getD k default).term) && decide (lastAt x.bterm x.ents k ≤ (x.ents.getD k default).term) && decide ((x.ents.getD k default).term ≤ x.term) && decide ((x.ents.getD k default).data.size ≤ 900) && entsOk x.term (x.ents.getD k default).term (x.ents.drop (k + 1)))) := HR.out.trans HX
   have HXS : Hid (lastAt x.bterm x.ents (k + 1) = (x.ents.getD k default).term) := HX1
   have HBF : Hid (Below w.heap.size w (wr.alloc (.cells #[.int .i64 (x.ents.getD k default).term, .string (x.ents.getD k default).data] 61))) := (B0.out.trans (HB1.out.mono B0.out.size)).alloc (Nat.le_trans B0.out.size HB1.out.size) _
   have HBG : Hid (Below W.heap.size W (wr.alloc (.cells #[.int .i64 (x.ents.getD k default).term, .string (x.ents.getD k default).data] 61))) := HB1.out.alloc HB1.out.size _
   clear HX HX1 HR hds
   generalize lastAt x.bterm x.ents k = la at *
   generalize x.ents.getD k default = y at *
   obtain ⟨yt, yd⟩ := y
   simp only at hc0 hc1 HXX HXS HBF HBG hdi
   have hw0 : w.heap.size < wr.heap.size := Nat.lt_of_lt_of_le K0.out.lt hsz
   have hgr : g < wr.heap.size := Nat.lt_of_lt_of_le hgw hsz
   by_cases h7 : 1 ≤ yt
   rotate_left
   ·rw [decide_eq_false h7] at HXX
    have h7' : yt < 1 := by omega
    clear h7
    have HXX : Hid (walOk x = false) := by unfold Hid; rw [HXX.out]; simp
    go_wp2_with fail
    go_ret
    exact ⟨by rw [HXX.out]; rfl, HBF.out⟩
   rw [decide_eq_true h7] at HXX
   by_cases h8 : la ≤ yt
   rotate_left
   ·rw [decide_eq_false h8] at HXX
    have h8' : yt < la := by omega
    clear h8
    have HXX : Hid (walOk x = false) := by unfold Hid; rw [HXX.out]; simp
    go_wp2_with fail
    go_ret
    exact ⟨by rw [HXX.out]; rfl, HBF.out⟩
   rw [decide_eq_true h8] at HXX
   by_cases h9 : yt ≤ x.term
   rotate_left
   ·rw [decide_eq_false h9] at HXX
    have h9' : x.term < yt := by omega
    clear h9
    have HXX : Hid (walOk x = false) := by unfold Hid; rw [HXX.out]; simp
    go_wp2_with fail
    go_ret
    exact ⟨by rw [HXX.out]; rfl, HBF.out⟩
   rw [decide_eq_true h9] at HXX
   by_cases hz : (yd.size : Int) ≤ 900
   rotate_left
   ·rw [decide_eq_false (show ¬ yd.size ≤ 900 by omega)] at HXX
    have hz' : 900 < (yd.size : Int) := by omega
    clear hz
    have HXX : Hid (walOk x = false) := by unfold Hid; rw [HXX.out]; simp
    go_wp2_with fail
    go_ret
    exact ⟨by rw [HXX.out]; rfl, HBF.out⟩
   rw [decide_eq_true (show yd.size ≤ 900 by omega)] at HXX
   have HXX : Hid (walOk x = entsOk x.term yt (x.ents.drop (k + 1))) := by unfold Hid; rw [HXX.out]; simp
   go_wp2_with fail
   go_roundw
   case rel => exact ⟨k + 1, by omega, by go_num, by rw [HXS.out], by rw [HXS.out]; exact HXX, HBG.out⟩
   case measure => simp [intOf]; omega
  ·obtain rfl : k = n := by omega
   have HXX : Hid (walOk x = true) := by
    unfold Hid
    rw [HR.out, ← hN, List.drop_length]
    rfl
   clear HR
   generalize lastAt x.bterm x.ents k = la at *
   go_wp2_with fail
   go_ret
   exact ⟨by rw [HXX.out]; rfl, B0.out.trans (HB1.out.mono B0.out.size)⟩
end Go.Proofs.YtgillglkmnocaaaDoor
namespace Go.Proofs.YtgillglkmnocaaaDoor
open Go
theorem until_skip {P : Program} {Q : Exit → Act → World → Prop} {md : Region.Mode} {S : World → Prop} {T : Nat → Bool} {l : List Oper} (i : Nat) {oi : Oper} {rest : List Oper} {fuel : Nat} {listed : Array Bool} {a : Act} {w : World} (hd : l.drop i = oi :: rest) (hB : pureB md l.toArray listed i = true)
  (hQ : ∀ c a w, Q (.panic c) (a.put oi.dst undef) w → Q (.panic c) a w) (hw : Region.wanted oi (yielded l.toArray a.tmps) = false)
  (h : wpUntil P md l.toArray Q S T fuel (listed.setIfInBounds i true) (a.put oi.dst undef) w) : wpUntil P md l.toArray Q S T (fuel + 1) listed a w := by
 unfold pureB at hB
 simp only [Bool.and_eq_true] at hB
 obtain ⟨⟨hs, hf⟩, hr⟩ := hB
 exact wpUntil_pure (drop_at hd) (Region.noSelect_spec hs) hQ fuel listed a w (Region.free_spec (drop_at hd) hf) (by simpa using hr) (.inr ⟨hw, rfl⟩) h
end Go.Proofs.YtgillglkmnocaaaDoor
namespace Go.Proofs.YtgillglkmnocaaaDoor
open Go.ChangeShapes Go.WideShapes Go.ChangeAt Go.RowKit Go.PlainAid
set_option linter.unusedVariables false
theorem last_none (x : Wl) (h : x.ents.length = 0) : lastTerm x = x.bterm := by
 unfold lastTerm
 rw [List.eq_nil_of_length_eq_zero h]
 rfl
theorem last_some (x : Wl) (k : Nat) (h : x.ents.length = k + 1) : lastTerm x = (x.ents.getD k default).term := by
 unfold lastTerm
 rw [List.getLast?_eq_getElem?, h, Nat.add_sub_cancel, List.getElem?_eq_getElem (by omega), ← getD_at x.ents k (by omega)]
theorem below_alloc2 (w : World) (a b : Obj) : Below w.heap.size w ((w.alloc a).alloc b) := ((Below.refl _ w).alloc (Nat.le_refl _) a).alloc (by simp) b
end Go.Proofs.YtgillglkmnocaaaDoor
namespace Go.Proofs.YtgillglkmnocaaaDoor
open Go.ChangeShapes Go.WideShapes Go.ChangeAt Go.RowKit Go.PlainAid
set_option linter.unusedVariables false
set_option maxHeartbeats 2000000 in
theorem hardFits (t i v : Int) (d : ByteArray) (x : Wl) (wv : Value) (w : World) (B : Nat) (hv : WalV w B wv x) (hn : x.ents.length ≤ 60) (hb1 : 0 ≤ x.base) (hb2 : x.base ≤ 100000) (hB : B ≤ w.heap.size) : Calls Tryd.prog 39 #[.agg #[.int .i64 t, .int .i64 v], wv] w fun e w' => e = .returned (.bool (recFits x ⟨1, t, i, v, d⟩)) ∧ Below w.heap.size w w' := by
 obtain ⟨u, rfl, hl⟩ := hv
 obtain ⟨A, cap, rfl, hlk⟩ := ent_look hl
 obtain ⟨xt, xv, xb, xbt, es⟩ := x
 simp only at hn hb1 hb2 hlk ⊢
 clear hl
 have HL : Hid (∀ j, j < es.length → ∃ g off, A = some ⟨g, off, none⟩ ∧ g < B ∧ _) := hlk
 have HBW : Hid (B ≤ w.heap.size) := hB
 clear hlk hB
 generalize hN : es.length = n at *
 have q1 : (n : Int) ≤ 60 := by omega
 have hw1 : IntKind.i64.wrap (xb + (n : Int)) = xb + (n : Int) := by rw [IntKind.wrap_i64]; omega
 have hw2 : IntKind.i64.wrap (xb + (n : Int) + 1) = xb + (n : Int) + 1 := by rw [IntKind.wrap_i64]; omega
 have HB : Hid (Below w.heap.size w ((w.alloc (.cells #[.int .i64 t, .int .i64 v] 40)).alloc (.cells #[.int .i64 xt, .int .i64 xv, .int .i64 xb, .int .i64 xbt, .slice A n cap] 26))) := below_alloc2 w _ _
 by_cases a : xt < t
 ·have HE : Hid (recFits ⟨xt, xv, xb, xbt, es⟩ ⟨1, t, i, v, d⟩ = true) := by unfold Hid recFits; simp [a]
  go_enter Tryd.func39, Tryd.ntmps39
  go_wp2_with fail
  go_ret
  exact ⟨by rw [HE.out]; rfl, HB.out⟩
 ·have a' : t ≤ xt := by omega
  by_cases b : t = xt
  rotate_left
  ·have HE : Hid (recFits ⟨xt, xv, xb, xbt, es⟩ ⟨1, t, i, v, d⟩ = false) := by unfold Hid recFits; simp [a, b]
   have zb : (t == xt) = false := by simpa using b
   go_enter Tryd.func39, Tryd.ntmps39
   go_wp2_with fail
   go_ret
   exact ⟨by rw [HE.out]; rfl, HB.out⟩
  ·have zb : (t == xt) = true := by simpa using b
   by_cases c : xv = -1
   ·have zc : (xv == -1) = true := by simpa using c
    have HE : Hid (recFits ⟨xt, xv, xb, xbt, es⟩ ⟨1, t, i, v, d⟩ = true) := by unfold Hid recFits; simp [b, c]
    clear b c
    go_enter Tryd.func39, Tryd.ntmps39
    go_wp2_with fail
    go_ret
    exact ⟨by rw [HE.out]; rfl, HB.out⟩
   ·have zc : (xv == -1) = false := by simpa using c
    by_cases e : v = xv
    ·have ze : (v == xv) = true := by simpa using e
     have HE : Hid (recFits ⟨xt, xv, xb, xbt, es⟩ ⟨1, t, i, v, d⟩ = true) := by unfold Hid recFits; simp [b, e]
     clear b c e
     go_enter Tryd.func39, Tryd.ntmps39
     go_wp2_with fail
     go_ret
     exact ⟨by rw [HE.out]; rfl, HB.out⟩
    ·have ze : (v == xv) = false := by simpa using e
     have HE : Hid (recFits ⟨xt, xv, xb, xbt, es⟩ ⟨1, t, i, v, d⟩ = false) := by unfold Hid recFits; simp [b, c, e]
     clear b c e
     go_enter Tryd.func39, Tryd.ntmps39
     go_wp2_with fail
     go_ret
     exact ⟨by rw [HE.out]; rfl, HB.out⟩
set_option maxHeartbeats 2000000 in
theorem cutFits (t i v : Int) (d : ByteArray) (x : Wl) (wv : Value) (w : World) (B : Nat) (hv : WalV w B wv x) (hn : x.ents.length ≤ 60) (hb1 : 0 ≤ x.base) (hb2 : x.base ≤ 100000) (hB : B ≤ w.heap.size) : Calls Tryd.prog 42 #[.agg #[.int .i64 i], wv] w fun e w' => e = .returned (.bool (recFits x ⟨3, t, i, v, d⟩)) ∧ Below w.heap.size w w' := by
 obtain ⟨u, rfl, hl⟩ := hv
 obtain ⟨A, cap, rfl, hlk⟩ := ent_look hl
 obtain ⟨xt, xv, xb, xbt, es⟩ := x
 simp only at hn hb1 hb2 hlk ⊢
 clear hl
 have HL : Hid (∀ j, j < es.length → ∃ g off, A = some ⟨g, off, none⟩ ∧ g < B ∧ _) := hlk
 have HBW : Hid (B ≤ w.heap.size) := hB
 clear hlk hB
 generalize hN : es.length = n at *
 have q1 : (n : Int) ≤ 60 := by omega
 have hw1 : IntKind.i64.wrap (xb + (n : Int)) = xb + (n : Int) := by rw [IntKind.wrap_i64]; omega
 have hw2 : IntKind.i64.wrap (xb + (n : Int) + 1) = xb + (n : Int) + 1 := by rw [IntKind.wrap_i64]; omega
 have HB : Hid (Below w.heap.size w ((w.alloc (.cells #[.int .i64 i] 91)).alloc (.cells #[.int .i64 xt, .int .i64 xv, .int .i64 xb, .int .i64 xbt, .slice A n cap] 26))) := below_alloc2 w _ _
 by_cases a : xb < i
 rotate_left
 ·have a' : i ≤ xb := by omega
  have HE : Hid (recFits ⟨xt, xv, xb, xbt, es⟩ ⟨3, t, i, v, d⟩ = false) := by unfold Hid recFits; simp [a]
  go_enter Tryd.func42, Tryd.ntmps42
  go_wp2_with fail
  go_ret
  exact ⟨by rw [HE.out]; rfl, HB.out⟩
 by_cases b : i ≤ xb + (n : Int)
 ·have HE : Hid (recFits ⟨xt, xv, xb, xbt, es⟩ ⟨3, t, i, v, d⟩ = true) := by unfold Hid recFits; simp [a, b, hN]
  go_enter Tryd.func42, Tryd.ntmps42
  go_wp2_with fail
  go_ret
  exact ⟨by rw [HE.out]; rfl, HB.out⟩
 ·have b' : xb + (n : Int) < i := by omega
  have HE : Hid (recFits ⟨xt, xv, xb, xbt, es⟩ ⟨3, t, i, v, d⟩ = false) := by unfold Hid recFits; simp [a, b, hN]
  go_enter Tryd.func42, Tryd.ntmps42
  go_wp2_with fail
  go_ret
  exact ⟨by rw [HE.out]; rfl, HB.out⟩
set_option maxHeartbeats 2000000 in
theorem entryFits (t i v : Int) (d : ByteArray) (x : Wl) (wv : Value) (w : World) (B : Nat) (hv : WalV w B wv x) (hn : x.ents.length ≤ 60) (hb1 : 0 ≤ x.base) (hb2 : x.base ≤ 100000) (hB : B ≤ w.heap.size) : Calls Tryd.prog 40 #[.agg #[.int .i64 i, .int .i64 t, .string d], wv] w fun e w' => e = .returned (.bool (recFits x ⟨2, t, i, v, d⟩)) ∧ Below w.heap.size w w' := by
 obtain ⟨u, rfl, hl⟩ := hv
 obtain ⟨A, cap, rfl, hlk⟩ := ent_look hl
 obtain ⟨xt, xv, xb, xbt, es⟩ := x
 simp only at hn hb1 hb2 hlk ⊢
 clear hl
 have HL : Hid (∀ j, j < es.length → ∃ g off, A = some ⟨g, off, none⟩ ∧ g < B ∧ _) := hlk
 have HBW : Hid (B ≤ w.heap.size) := hB
 clear hlk hB
 generalize hN : es.length = n at *
 have q1 : (n : Int) ≤ 60 := by omega
 have hw1 : IntKind.i64.wrap (xb + (n : Int)) = xb + (n : Int) := by rw [IntKind.wrap_i64]; omega
 have hw2 : IntKind.i64.wrap (xb + (n : Int) + 1) = xb + (n : Int) + 1 := by rw [IntKind.wrap_i64]; omega
 have HB : Hid (Below w.heap.size w ((w.alloc (.cells #[.int .i64 i, .int .i64 t, .string d] 77)).alloc (.cells #[.int .i64 xt, .int .i64 xv, .int .i64 xb, .int .i64 xbt, .slice A n cap] 26))) := below_alloc2 w _ _
 have hla : ∃ la, lastTerm ⟨xt, xv, xb, xbt, es⟩ = la := ⟨_, rfl⟩
 obtain ⟨la, hla⟩ := hla
 have HF : Hid (recFits ⟨xt, xv, xb, xbt, es⟩ ⟨2, t, i, v, d⟩ = (decide (i = xb + n + 1) && decide (n < 60) && decide (la ≤ t) && decide (t ≤ xt))) := by
  unfold Hid recFits
  rw [if_neg (show ¬ (2 : Int) = 1 by decide), if_pos (show (2 : Int) = 2 from rfl), hla]
  simp only [hN]
 by_cases h0 : n = 0
 ·have hl0 : xbt = la := by rw [← hla]; exact (last_none ⟨xt, xv, xb, xbt, es⟩ (show es.length = 0 by omega)).symm
  subst hl0
  have z0 : (n : Int) ≤ 0 := by omega
  clear hla h0
  have b : n < 60 := by omega
  have b' : (n : Int) < 60 := by omega
  by_cases a : i = xb + (n : Int) + 1
  rotate_left
  ·have za : (i == xb + (n : Int) + 1) = false := by simpa using a
   have HE : Hid (recFits ⟨xt, xv, xb, xbt, es⟩ ⟨2, t, i, v, d⟩ = false) := by unfold Hid; rw [HF.out]; simp [a]
   go_enter Tryd.func40, Tryd.ntmps40
   go_wp2_with fail
   go_ret
   exact ⟨by rw [HE.out]; rfl, HB.out⟩
  have za : (i == xb + (n : Int) + 1) = true := by simpa using a
  by_cases c : xbt ≤ t
  rotate_left
  ·have c' : t < xbt := by omega
   have zc : decide (xbt ≤ t) = false := decide_eq_false c
   have HE : Hid (recFits ⟨xt, xv, xb, xbt, es⟩ ⟨2, t, i, v, d⟩ = false) := by unfold Hid; rw [HF.out]; simp [c]
   clear a c
   go_enter Tryd.func40, Tryd.ntmps40
   go_wp2_with fail
   go_ret
   exact ⟨by rw [HE.out]; rfl, HB.out⟩
  have zc : decide (xbt ≤ t) = true := decide_eq_true c
  by_cases e : t ≤ xt
  rotate_left
  ·have e' : xt < t := by omega
   have ze : decide (t ≤ xt) = false := decide_eq_false e
   have HE : Hid (recFits ⟨xt, xv, xb, xbt, es⟩ ⟨2, t, i, v, d⟩ = false) := by unfold Hid; rw [HF.out]; simp [e]
   clear a
   go_enter Tryd.func40, Tryd.ntmps40
   go_wp2_with fail
   go_ret
   exact ⟨by rw [HE.out]; rfl, HB.out⟩
  have ze : decide (t ≤ xt) = true := decide_eq_true e
  have HE : Hid (recFits ⟨xt, xv, xb, xbt, es⟩ ⟨2, t, i, v, d⟩ = true) := by unfold Hid; rw [HF.out]; simp [a, b, c, e]
  clear a
  go_enter Tryd.func40, Tryd.ntmps40
  go_wp2_with fail
  go_ret
  exact ⟨by rw [HE.out]; rfl, HB.out⟩
 ·obtain ⟨m, hm⟩ : ∃ m, n = m + 1 := ⟨n - 1, by omega⟩
  have hl1 : la = (es.getD m default).term := by rw [← hla]; exact last_some ⟨xt, xv, xb, xbt, es⟩ m (show es.length = m + 1 by omega)
  obtain ⟨g, off, rfl, hg, hc0, hc1⟩ := HL.out m (by omega)
  have hgw : g < w.heap.size := Nat.lt_of_lt_of_le hg HBW.out
  rw [← hl1] at hc0
  have hw3 : IntKind.i64.wrap ((n : Int) - 1) = (m : Int) := by rw [IntKind.wrap_i64]; omega
  have q2 : (m : Int) < (n : Int) := by omega
  have q3 : (0 : Int) < (n : Int) := by omega
  clear HL hc1 hl1 hla h0 hm
  by_cases b : n < 60
  rotate_left
  ·have b' : (60 : Int) ≤ (n : Int) := by omega
   have HE : Hid (recFits ⟨xt, xv, xb, xbt, es⟩ ⟨2, t, i, v, d⟩ = false) := by unfold Hid; rw [HF.out]; simp [b]
   go_enter Tryd.func40, Tryd.ntmps40
   go_wp2_with fail
   go_ret
   exact ⟨by rw [HE.out]; rfl, HB.out⟩
  have b' : (n : Int) < 60 := by omega
  by_cases a : i = xb + (n : Int) + 1
  rotate_left
  ·have za : (i == xb + (n : Int) + 1) = false := by simpa using a
   have HE : Hid (recFits ⟨xt, xv, xb, xbt, es⟩ ⟨2, t, i, v, d⟩ = false) := by unfold Hid; rw [HF.out]; simp [a]
   go_enter Tryd.func40, Tryd.ntmps40
   go_wp2_with fail
   go_ret
   exact ⟨by rw [HE.out]; rfl, HB.out⟩
  have za : (i == xb + (n : Int) + 1) = true := by simpa using a
  by_cases c : la ≤ t
  rotate_left
  ·have c' : t < la := by omega
   have zc : decide (la ≤ t) = false := decide_eq_false c
   have HE : Hid (recFits ⟨xt, xv, xb, xbt, es⟩ ⟨2, t, i, v, d⟩ = false) := by unfold Hid; rw [HF.out]; simp [c]
   clear a c
   go_enter Tryd.func40, Tryd.ntmps40
   go_wp2_with fail
   go_ret
   exact ⟨by rw [HE.out]; rfl, HB.out⟩
  have zc : decide (la ≤ t) = true := decide_eq_true c
  by_cases e : t ≤ xt
  rotate_left
  ·have e' : xt < t := by omega
   have ze : decide (t ≤ xt) = false := decide_eq_false e
   have HE : Hid (recFits ⟨xt, xv, xb, xbt, es⟩ ⟨2, t, i, v, d⟩ = false) := by unfold Hid; rw [HF.out]; simp [e]
   clear a
   go_enter Tryd.func40, Tryd.ntmps40
   go_wp2_with fail
   go_ret
   exact ⟨by rw [HE.out]; rfl, HB.out⟩
  have ze : decide (t ≤ xt) = true := decide_eq_true e
  have HE : Hid (recFits ⟨xt, xv, xb, xbt, es⟩ ⟨2, t, i, v, d⟩ = true) := by unfold Hid; rw [HF.out]; simp [a, b, c, e]
  clear a
  go_enter Tryd.func40, Tryd.ntmps40
  go_wp2_with fail
  go_ret
  exact ⟨by rw [HE.out]; rfl, HB.out⟩
end Go.Proofs.YtgillglkmnocaaaDoor
namespace Go.Proofs.YtgillglkmnocaaaDoor
open Go.RowKit Go.PlainAid
theorem run_append_row {P : Program} (w : World) (t ty e : TypeId) (z : Value) (sz bytes : Nat)
  (ht : P.underlying t = some (.slice e)) (hinfo : (P.info? e).map (fun i => (i.zero, i.size, i.bytes)) = some (some z, sz, bytes)) (hzs : z.cells.size = sz) (hsz : 0 < sz)
  (base : Nat) (v : Value) (rows : List (List Value)) (hown : Owns w base e sz v rows) (r : List Value) (hr : r.length = sz) (h1 : ∀ u ∈ r, u.oneCell' = true)
  (hlen : rows.length ≤ 2097152) (hby : bytes ≤ 1000) (hbase : base ≤ w.heap.size) :
  ∃ A m c w', (Builtin.append_ #[t, t] ty #[v, .slice (some ⟨w.heap.size, 0, none⟩) 1 1]).run P (w.alloc (.cells r.toArray e)) = .ok (.slice A m c) w' ∧ Owns w' base e sz (.slice A m c) (rows ++ [r]) ∧ Below base w w' ∧ (∀ g, g < w.heap.size → v.ownBlock ≠ some g → w'.heap[g]? = w.heap[g]?) ∧ ((Value.slice A m c).ownBlock = v.ownBlock ∨ ∀ g, (Value.slice A m c).ownBlock = some g → w.heap.size ≤ g) := by
 obtain ⟨i0, hi, hz0, hz1, hz2⟩ := info_parts hinfo
 have hb1 : (rows.length + 1) * bytes ≤ 140737488355328 := Nat.le_trans (Nat.mul_le_mul (show rows.length + 1 ≤ 2097153 by omega) hby) (by omega)
 have hnews : ∀ j u, r[j]? = some u → (w.alloc (.cells r.toArray e)).cell? ((⟨w.heap.size, 0, none⟩ : Addr).add j) = some u := by
  intro j u hj
  have e1 : (⟨w.heap.size, 0, none⟩ : Addr).add j = ⟨w.heap.size, j, none⟩ := by cases j <;> simp [Addr.add]
  rw [e1, World.cell?_alloc_mark]
  simpa using hj
 obtain ⟨v', w', hrun, h2, h3, _⟩ := run_append_own (P := P) (w.alloc (.cells r.toArray e)) base t ty e i0 z sz bytes ht hi hz0 hz1 hz2 hzs hsz v rows.length rows.flatten (World.ownsRow.alloc hown.2 _) ⟨w.heap.size, 0, none⟩ 1 1 r (by rw [hr]; omega) hnews h1 (by unfold maxLen; omega) hb1 (by simp; omega)
 have h5 := run_append_where (P := P) (w.alloc (.cells r.toArray e)) base t ty e i0 z sz bytes ht hi hz0 hz1 hz2 v rows.length rows.flatten (World.ownsRow.alloc hown.2 _) ⟨w.heap.size, 0, none⟩ 1 1 r (by rw [hr]; omega) hnews h1 (by unfold maxLen; omega) hb1 v' w' hrun
 have hb0 : ∀ k, v.ownBlock = some k → base ≤ k := fun k hk => (hown.lt k hk).1
 have hO : Owns w' base e sz v' (rows ++ [r]) := by
  refine ⟨?_, ?_⟩
  ·intro y hy
   rcases List.mem_append.1 hy with hy | hy
   ·exact hown.1 y hy
   ·rw [List.mem_singleton.1 hy]; exact hr
  ·rw [List.length_append, List.flatten_append]
   simpa using h2
 obtain ⟨A, m, c, rfl⟩ := hO.shape
 refine ⟨A, m, c, w', hrun, hO, ((Below.refl base w).alloc hbase _).grown h3 (by simp; omega) hb0, ?_, h5.imp id fun e g hg => by rw [e] at hg; cases hg; simp⟩
 intro g hg hne
 rw [h3.block g (by simp; omega) (fun e => hne e.symm)]
 exact Below.heap_alloc w _ g hg
theorem step_append_run {P : Program} {ops : Array Oper} {o : Oper} {a : Act} {w : World} {K : Act → World → Prop} {Q : Exit → Act → World → Prop} {E : Prop}
  (hg : o.guard = none) (s x : Operand) (t : TypeId) (hop : o.op = Op.call { callee := Callee.builtin Builtin.append, args := #[s, x], argTypes := #[t, t] })
  (v y r : Value) (w' : World) (hs : a.eval s = v) (hx : a.eval x = y) (hrun : (Builtin.append_ #[t, t] o.type #[v, y]).run P w = .ok r w') (hK : K (a.put o.dst r) w') :
  if Region.wanted o (yielded ops a.tmps) = true then Oper.wp P o a w K Q else E := by
 have hw : Region.wanted o (yielded ops a.tmps) = true := by simp [Region.wanted, hg]
 rw [if_pos hw]
 unfold Oper.wp
 simp [execOp, hop, resolve, invoke, builtin, hs, hx, hrun, Result.andThen]
 exact hK
end Go.Proofs.YtgillglkmnocaaaDoor
namespace Go.Proofs.YtgillglkmnocaaaDoor
open Go.RowKit Go.PlainAid
section
variable {w : World} {base : Nat} {e : TypeId} {sz g cap : Nat} {rows : List (List Value)}
theorem Owns.free (h : Owns w base e sz (.slice (some ⟨g, 0, none⟩) rows.length cap) rows) (j : Nat) : w.frozen? ⟨g, j, none⟩ = false := World.ownsRow.frozenAt h.2 j
end
section
variable {w : World} {base : Nat} {e : TypeId} {sz g cap n j : Nat} {R : List (List Value)} {r : List Value}
end
end Go.Proofs.YtgillglkmnocaaaDoor
namespace Go.Proofs.YtgillglkmnocaaaDoor
open Go.ChangeShapes Go.WideShapes Go.ChangeAt Go.RowKit Go.PlainAid
set_option linter.unusedVariables false
theorem Tryd.infoEnt : (Tryd.prog.info? 61).map (fun i => (i.zero, i.size, i.bytes)) = some (some (.agg #[.int .i64 0, .string ⟨#[]⟩]), 2, 24) := by kernel_rfl
end Go.Proofs.YtgillglkmnocaaaDoor
namespace Go.Proofs.YtgillglkmnocaaaDoor
open Go.ChangeShapes Go.WideShapes Go.ChangeAt Go.RowKit Go.PlainAid
set_option linter.unusedVariables false
set_option maxHeartbeats 400000 in
theorem firstV (A : Option Addr) (m c k : Nat) (w : World) (h : k ≤ m) (hc : m ≤ c) : Calls Tryd.prog 43 #[.slice A m c, .int .i64 (k : Int)] w fun e w' => e = .returned (if k = 0 then .slice none 0 0 else .slice A k c) ∧ w = w' := by
 by_cases h0 : k = 0
 ·subst h0
  rw [if_pos rfl]
  go_enter Tryd.func43, Tryd.ntmps43
  go_wp2
  go_ret
  exact ⟨rfl, rfl⟩
 ·rw [if_neg h0]
  have z : ((k : Int) == 0) = false := by simp only [beq_eq_false_iff_ne, ne_eq]; omega
  have i0 : (0 : Int) ≤ (k : Int) := by omega
  have i1 : (k : Int) ≤ (c : Int) := by omega
  have i2 : (k : Int) ≤ (m : Int) := by omega
  clear h h0 hc
  go_enter Tryd.func43, Tryd.ntmps43
  go_wp2
  go_ret
  exact ⟨rfl, rfl⟩
end Go.Proofs.YtgillglkmnocaaaDoor
