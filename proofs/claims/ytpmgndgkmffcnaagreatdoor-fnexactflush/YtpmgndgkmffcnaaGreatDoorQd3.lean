/- PtApp PtAid PtLaw -/
import Derived.Test.YtpmgndgkmffcnaaGreatDoorQd2
import Derived.OwnWalk
import Derived.Test.YtpmgndgkmffcnaaGreatDoorRows
import Derived.WalkKit
import Derived.ProofKit
import Derived.OpenShut
import Derived.Below
import Derived.WalkSmall
import Derived.WalkLawsBesides
import Derived.Outline
import Derived.BigQuiet
import Derived.Deep.QuietTactic
import Derived.Deep.RegionWith
namespace Go.Proofs.YtpmgndgkmffcnaaGreatDoor
open Go.RowKit Go.PlainAid
theorem Owns.empty (w : World) (base : Nat) (e : TypeId) (sz : Nat) (hb : base ≤ w.heap.size) : Owns (w.alloc (.cells #[] e)) base e sz (.slice (some ⟨w.heap.size, 0, none⟩) 0 0) [] :=
 ⟨fun r hr => by simp at hr, World.ownsRow_lit w #[] 0 hb (by unfold maxLen; omega) (by simp)⟩
theorem Owns.nil (w : World) (base : Nat) (e : TypeId) (sz : Nat) : Owns w base e sz (.slice none 0 0) [] := ⟨fun r hr => by simp at hr, World.ownsRow_nil w base e sz⟩
theorem Owns.alloc {w : World} {base : Nat} {e : TypeId} {sz : Nat} {v : Value} {rows : List (List Value)} (h : Owns w base e sz v rows) (o : Obj) : Owns (w.alloc o) base e sz v rows := ⟨h.1, World.ownsRow.alloc h.2 o⟩
theorem run_append_where {P : Program} (w : World) (base : Nat) (t ty e : TypeId) (i : TypeInfo) (z : Value) (size bytes : Nat) (ht : P.underlying t = some (.slice e)) (hi : P.info? e = some i) (hz : i.zero = some z)
  (hsize : i.size = size) (hby : i.bytes = bytes)
  (v : Value) (n : Nat) (xs : List Value) (hown : w.ownsRow base e size v n xs)
  (a : Addr) (m c : Nat) (news : List Value) (hl : news.length = m * size) (hnews : ∀ j u, news[j]? = some u → w.cell? (a.add j) = some u) (h1 : ∀ u ∈ news, u.oneCell' = true)
  (h63 : n + m ≤ maxLen) (hbytes : (n + m) * bytes ≤ 140737488355328) (v' : Value) (w' : World)
  (h : (Builtin.append_ #[t, t] ty #[v, .slice (some a) m c]).run P w = .ok v' w') : v'.ownBlock = v.ownBlock ∨ v'.ownBlock = some w.heap.size := by
 subst hsize
 subst hby
 have hsmall : n + m ≤ 9223372036854775807 := by simp only [maxLen] at h63; omega
 rcases hown.2 with ⟨rfl, rfl⟩ | ⟨g, cap, cur, rfl, hbg, hg, hnc, hcm, hcs, htake⟩
 ·by_cases hm : m = 0
  ·subst hm
   have hn : news = [] := List.eq_nil_of_length_eq_zero (by simpa using hl)
   subst hn
   have hr : (Builtin.append_ #[t, t] ty #[.slice none 0 0, .slice (some a) 0 c]).run P w = .ok (.slice none 0 0) w := by
    simp [Builtin.append_, run_underlying ht, sizeOf, typeInfo, hi, Builtin.lenOf, Builtin.firstCells, loadCells, loadCellsFrom]
   rw [hr] at h
   cases h
   exact .inl rfl
  ·have hr := run_append_nil (P := P) w t ty e i z ht hi hz a m c news hl hnews (by omega) (by omega) (by have hb := hbytes; simp only [Nat.zero_add] at hb; omega)
   rw [hr] at h
   cases h
   exact .inr rfl
 ·by_cases hroom : n + m ≤ cap
  ·have hfit : n * i.size + news.length ≤ cur.size := by rw [hl, hcs, ← Nat.add_mul]; exact Nat.mul_le_mul_right _ hroom
   have hr := run_append_room (P := P) w t ty e i ht hi g n cap cur hg a m c news hl hnews h1 hroom hfit
   rw [hr] at h
   cases h
   exact .inl rfl
  ·have holds : ∀ j u, xs[j]? = some u → w.cell? ((⟨g, 0, none⟩ : Addr).add j) = some u := hown.cells (g := g) rfl
   have hr := run_append_grow (P := P) w t ty e i z ht hi hz ⟨g, 0, none⟩ n cap xs hown.1 holds a m c news hl hnews (by omega) (by omega) (growslice_fits (by omega) hbytes)
   rw [hr] at h
   cases h
   exact .inr rfl
theorem wpList_append_own2 {P : Program} {w : World} {ops : Array Oper} {rest : List Oper} {o : Oper} {a : Act} {Q : Exit → Act → World → Prop} (hgd : o.guard = none) (s x : Operand) (t : TypeId)
  (ho : o.op = .call { callee := .builtin .append, args := #[s, x], argTypes := #[t, t] })
  (base : Nat) (e : TypeId) (i : TypeInfo) (z : Value) (size bytes : Nat) (ht : P.underlying t = some (.slice e)) (hi : P.info? e = some i) (hz : i.zero = some z)
  (hsize : i.size = size) (hby : i.bytes = bytes) (hzs : z.cells.size = size) (hsz : 0 < size)
  (v : Value) (n : Nat) (xs : List Value) (hs : a.eval s = v) (hown : w.ownsRow base e size v n xs)
  (ad : Addr) (m c : Nat) (news : List Value) (hx : a.eval x = .slice (some ad) m c) (hl : news.length = m * size) (hnews : ∀ j u, news[j]? = some u → w.cell? (ad.add j) = some u) (h1 : ∀ u ∈ news, u.oneCell' = true)
  (h63 : n + m ≤ maxLen) (hbytes : (n + m) * bytes ≤ 140737488355328) (hbase : base ≤ w.heap.size)
  (h : ∀ v' w', w'.ownsRow base e size v' (n + m) (xs ++ news) → w.grownBy w' v.ownBlock → (v'.ownBlock = v.ownBlock ∨ v'.ownBlock = some w.heap.size) → wpList P ops Q rest (a.put o.dst v') w') : wpList P ops Q (o :: rest) a w := by
 obtain ⟨v', w', hr, h2, h3, _⟩ := run_append_own (P := P) w base t o.type e i z size bytes ht hi hz hsize hby hzs hsz v n xs hown ad m c news hl hnews h1 h63 hbytes hbase
 have h5 := run_append_where (P := P) w base t o.type e i z size bytes ht hi hz hsize hby v n xs hown ad m c news hl hnews h1 h63 hbytes v' w' hr
 refine wpList_plain hgd fun K hK => ?_
 unfold Oper.wp execOp
 simp only [ho, resolve, invoke, builtin, Sem.run_bind, Sem.run_pure, Result.andThen_ok, List.map_toArray, List.map_cons, List.map_nil, hs, hx, hr]
 exact hK _ _ (h v' w' h2 h3 h5)
theorem wpList_append_row {P : Program} {w : World} {ops : Array Oper} {rest : List Oper} {o : Oper} {a : Act} {Q : Exit → Act → World → Prop} (hgd : o.guard = none) (s x : Operand) (t e : TypeId) (z : Value) (sz bytes : Nat)
  (ho : o.op = .call { callee := .builtin .append, args := #[s, x], argTypes := #[t, t] })
  (ht : P.underlying t = some (.slice e)) (hinfo : (P.info? e).map (fun i => (i.zero, i.size, i.bytes)) = some (some z, sz, bytes)) (hzs : z.cells.size = sz) (hsz : 0 < sz)
  (base : Nat) (v : Value) (rows : List (List Value)) (hs : a.eval s = v) (hown : Owns w base e sz v rows) (r : List Value) (hr : r.length = sz) (h1 : ∀ u ∈ r, u.oneCell' = true)
  (hx : a.eval x = .slice (some ⟨w.heap.size, 0, none⟩) 1 1) (hlen : rows.length ≤ 2097152) (hby : bytes ≤ 1000) (hbase : base ≤ w.heap.size)
  (h : ∀ v' w', Owns w' base e sz v' (rows ++ [r]) → Below base w w' → (∀ g, g < w.heap.size → v.ownBlock ≠ some g → w'.heap[g]? = w.heap[g]?) → (v'.ownBlock = v.ownBlock ∨ ∀ g, v'.ownBlock = some g → w.heap.size ≤ g) → wpList P ops Q rest (a.put o.dst v') w') : wpList P ops Q (o :: rest) a (w.alloc (.cells r.toArray e)) := by
 obtain ⟨i0, hi, hz0, hz1, hz2⟩ := info_parts hinfo
 have hb1 : (rows.length + 1) * bytes ≤ 140737488355328 := Nat.le_trans (Nat.mul_le_mul (show rows.length + 1 ≤ 2097153 by omega) hby) (by omega)
 refine wpList_append_own2 (w := w.alloc (.cells r.toArray e)) hgd s x t ho base e i0 z sz bytes ht hi hz0 hz1 hz2 hzs hsz v rows.length rows.flatten hs (World.ownsRow.alloc hown.2 _) ⟨w.heap.size, 0, none⟩ 1 1 r hx (by rw [hr]; omega) ?_ h1 (by unfold maxLen; omega) hb1 (by simp; omega) ?_
 ·intro j u hj
  have e1 : (⟨w.heap.size, 0, none⟩ : Addr).add j = ⟨w.heap.size, j, none⟩ := by cases j <;> simp [Addr.add]
  rw [e1, World.cell?_alloc_mark]
  simpa using hj
 ·intro v' w' h2 h3 h5
  have hb0 : ∀ k, v.ownBlock = some k → base ≤ k := fun k hk => (hown.lt k hk).1
  refine h v' w' ⟨?_, ?_⟩ ?_ ?_ (h5.imp id fun e g hg => by rw [e] at hg; cases hg; simp)
  ·intro y hy
   rcases List.mem_append.1 hy with hy | hy
   ·exact hown.1 y hy
   ·rw [List.mem_singleton.1 hy]; exact hr
  ·rw [List.length_append, List.flatten_append]
   simpa using h2
  ·exact ((Below.refl base w).alloc hbase _).grown h3 (by simp; omega) hb0
  ·intro g hg hne
   rw [h3.block g (by simp; omega) (fun e => hne e.symm)]
   exact Below.heap_alloc w _ g hg
theorem wpList_append_all {P : Program} {w : World} {ops : Array Oper} {rest : List Oper} {o : Oper} {a : Act} {Q : Exit → Act → World → Prop} (hgd : o.guard = none) (s x : Operand) (t e : TypeId) (z : Value) (sz bytes : Nat)
  (ho : o.op = .call { callee := .builtin .append, args := #[s, x], argTypes := #[t, t] })
  (ht : P.underlying t = some (.slice e)) (hinfo : (P.info? e).map (fun i => (i.zero, i.size, i.bytes)) = some (some z, sz, bytes)) (hzs : z.cells.size = sz) (hsz : 0 < sz)
  (base : Nat) (v u : Value) (rows more : List (List Value)) (B : Nat) (hs : a.eval s = v) (hown : Owns w base e sz v rows) (hu : Lies w B sz u more) (h1 : ∀ r ∈ more, ∀ y ∈ r, y.oneCell' = true)
  (hx : a.eval x = u) (hlen : rows.length + more.length ≤ 2097152) (hby : bytes ≤ 1000) (hbase : base ≤ w.heap.size)
  (h : ∀ v' w', Owns w' base e sz v' (rows ++ more) → Below base w w' → (∀ g, g < w.heap.size → v.ownBlock ≠ some g → w'.heap[g]? = w.heap[g]?) → (v'.ownBlock = v.ownBlock ∨ ∀ g, v'.ownBlock = some g → w.heap.size ≤ g) → wpList P ops Q rest (a.put o.dst v') w') : wpList P ops Q (o :: rest) a w := by
 obtain ⟨i0, hi, hz0, hz1, hz2⟩ := info_parts hinfo
 have hb1 : (rows.length + more.length) * bytes ≤ 140737488355328 := Nat.le_trans (Nat.mul_le_mul hlen hby) (by omega)
 obtain ⟨A, cap, rfl, hz, hms, hm⟩ := hu
 have fin : ∀ v' w', w'.ownsRow base e sz v' (rows.length + more.length) (rows.flatten ++ more.flatten) → w.grownBy w' v.ownBlock → (v'.ownBlock = v.ownBlock ∨ v'.ownBlock = some w.heap.size) → wpList P ops Q rest (a.put o.dst v') w' := by
  intro v' w' h2 h3 h5
  have hb0 : ∀ k, v.ownBlock = some k → base ≤ k := fun k hk => (hown.lt k hk).1
  refine h v' w' ⟨?_, ?_⟩ ?_ ?_ (h5.imp id fun e g hg => by rw [e] at hg; cases hg; exact Nat.le_refl _)
  ·intro y hy
   rcases List.mem_append.1 hy with hy | hy
   ·exact hown.1 y hy
   ·exact hms y hy
  ·rw [List.length_append, List.flatten_append]
   exact h2
  ·exact (Below.refl base w).grown h3 hbase hb0
  ·intro g hg hne
   exact h3.block g hg (fun e => hne e.symm)
 match A, hz, hx, hm with
 | none, hz, hx, hm =>
  have h0 : more.length = 0 := by
   rcases hm with h0 | ⟨g, off, e, _⟩
   ·exact h0
   ·cases e
  have hc0 := hz.1 rfl
  subst hc0
  have hnil : more = [] := List.eq_nil_of_length_eq_zero h0
  subst hnil
  refine wpList_plain hgd fun K hK => ?_
  have hr := run_append_owned_none (P := P) w base t o.type e i0 sz ht hi v rows.length rows.flatten hown.2
  unfold Oper.wp
  simp [execOp, ho, resolve, invoke, builtin, hs, hx, hr, Result.andThen]
  refine hK _ _ (fin v w ?_ ⟨rfl, rfl, rfl, Nat.le_refl _, fun _ _ _ => rfl⟩ (.inl rfl))
  simpa using hown.2
 | some ad, hz, hx, hm =>
  refine wpList_append_own2 (w := w) hgd s x t ho base e i0 z sz bytes ht hi hz0 hz1 hz2 hzs hsz v rows.length rows.flatten hs hown.2 ad more.length cap more.flatten hx (flat_length sz more hms) ?_ ?_ (by unfold maxLen; omega) hb1 hbase ?_
  ·intro j y hj
   rcases hm with h0 | ⟨g, off, e, hg, hc⟩
   ·rw [List.eq_nil_of_length_eq_zero h0] at hj
    simp at hj
   ·cases e
    have e1 : (⟨g, off, none⟩ : Addr).add j = ⟨g, off + j, none⟩ := by cases j <;> simp [Addr.add]
    rw [e1]
    exact hc j y hj
  ·intro y hy
   obtain ⟨r, hr, hyr⟩ := List.mem_flatten.1 hy
   exact h1 r hr y hyr
  ·intro v' w' h2 h3 h5
   exact fin v' w' h2 h3 h5
theorem pt_one (l : List Pnt) : ∀ r ∈ ptR l, ∀ y ∈ r, y.oneCell' = true := by
 intro r hr y hy
 obtain ⟨x, _, rfl⟩ := List.mem_map.1 hr
 simp [ptC] at hy
 rcases hy with rfl | rfl <;> rfl
theorem Owns.first {w : World} {base : Nat} {e : TypeId} {sz : Nat} {A : Option Addr} {n c : Nat} {rows : List (List Value)} (h : Owns w base e sz (.slice A n c) rows) (k : Nat) (hk : k ≤ rows.length) : Owns w base e sz (.slice A k c) (rows.take k) := by
 obtain ⟨hs, hl, h⟩ := h
 have hkl : (rows.take k).length = k := by rw [List.length_take]; omega
 have hs' : ∀ r ∈ rows.take k, r.length = sz := fun r hr => hs r (List.mem_of_mem_take hr)
 have hft : (rows.take k).flatten = rows.flatten.take (k * sz) := by
  have h1 : rows.flatten = (rows.take k).flatten ++ (rows.drop k).flatten := by rw [← List.flatten_append, List.take_append_drop]
  have hl2 : (rows.take k).flatten.length = k * sz := by rw [flat_length sz _ hs', hkl]
  rw [h1]
  exact (List.take_left' hl2).symm
 refine ⟨hs', ?_, ?_⟩
 ·rw [flat_length sz _ hs']
 rcases h with ⟨e1, h0⟩ | ⟨g, cap, cur, e1, hb, hh, hn, hm, hz, ht⟩
 ·cases e1
  have : k = 0 := by omega
  subst this
  exact .inl ⟨rfl, by simp⟩
 ·cases e1
  refine .inr ⟨g, c, cur, by rw [hkl], hb, hh, by rw [hkl]; omega, hm, hz, ?_⟩
  rw [hkl, hft, ← ht, List.take_take]
  congr 1
  have : k * sz ≤ rows.length * sz := Nat.mul_le_mul_right sz hk
  omega
end Go.Proofs.YtpmgndgkmffcnaaGreatDoor
namespace Go.Proofs.YtpmgndgkmffcnaaGreatDoor
open Go.RowKit Go.PlainAid
def tAt (l : List Pnt) (j : Nat) : Int := (l.getD j default).t
def vAt (l : List Pnt) (j : Nat) : Int := (l.getD j default).v
def POk (l : List Pnt) : Prop := l.length ≤ 60 ∧ ∀ j, j < l.length → ((0 ≤ tAt l j ∧ tAt l j ≤ 1099511627776) ∧ (-1099511627776 ≤ vAt l j ∧ vAt l j ≤ 1099511627776)) ∧ (0 < j → tAt l (j - 1) < tAt l j)
instance (l : List Pnt) : Decidable (POk l) := by unfold POk; infer_instance
theorem POk.nil : POk [] := ⟨by simp, fun j hj => by simp at hj⟩
end Go.Proofs.YtpmgndgkmffcnaaGreatDoor
namespace Go.Proofs.YtpmgndgkmffcnaaGreatDoor
open Go.ChangeShapes Go.WideShapes Go.ChangeAt Go.RowKit Go.PlainAid
set_option linter.unusedVariables false
set_option maxHeartbeats 400000 in
theorem szPointS (l : List Pnt) (v : Value) (left : Int) (w : World) (B : Nat) (hv : Lies w B 2 v (ptR l)) (hn : l.length ≤ maxLen) (h0 : 0 ≤ left) (h1 : left ≤ 1048576) :
  Calls Tryz.prog 30 #[v, .int .i64 left] w fun e w' => (∃ r : Int, e = .returned (.int .i64 r) ∧ Hid (r = -1 ∨ 0 ≤ r ∧ r + (l.length : Int) = left)) ∧ w = w' := by
 unfold maxLen at hn
 obtain ⟨A, cap, rfl, _⟩ := pt_look hv
 clear hv
 generalize l.length = n at *
 have q1 : (n : Int) ≤ 9223372036854775807 := by omega
 have w2 : wrap64 (left - (n : Int)) = left - (n : Int) := by unfold wrap64; omega
 by_cases hl : left < (n : Int)
 ·have q2 : left - (n : Int) < 0 := by omega
  go_enter Tryz.func30, Tryz.ntmps30
  go_wp2
  go_ret
  exact ⟨⟨_, rfl, .inl rfl⟩, rfl⟩
 ·have HL : Hid ((n : Int) ≤ left) := by unfold Hid; omega
  have q2 : 0 ≤ left - (n : Int) := by omega
  have q3 : decide (left - (n : Int) < 0) = false := decide_eq_false (by omega)
  go_enter Tryz.func30, Tryz.ntmps30
  go_wp2
  go_ret
  exact ⟨⟨_, rfl, .inr ⟨by have := HL.out; omega, by omega⟩⟩, rfl⟩
theorem below_alloc3 (w : World) (a b c : Obj) : Below w.heap.size w (((w.alloc a).alloc b).alloc c) := (((Below.refl _ w).alloc (Nat.le_refl _) a).alloc (by simp) b).alloc (by simp; omega) c
set_option maxHeartbeats 400000 in
theorem toPoint (x : Pnt) (w : World) : Calls Tryz.prog 61 #[vPt x] w fun e w' => e = .returned (vPt x) ∧ Below w.heap.size w w' := by
 unfold vPt
 go_enter Tryz.func61, Tryz.ntmps61
 go_wp2
 exact bodyPost_ret (v := .agg #[.int .i64 x.t, .int .i64 x.v]) (by simp [results, go_sem]) rfl ⟨rfl, below_alloc3 _ _ _ _⟩
theorem Tryz.infoPt : (Tryz.prog.info? 56).map (fun i => (i.zero, i.size, i.bytes)) = some (some (.agg #[.int .i64 0, .int .i64 0]), 2, 16) := by kernel_rfl
def ptZ : List Value := [.int .i64 0, .int .i64 0]
theorem pt_made (n : Nat) : madeCells #[.int .i64 0, .int .i64 0] (n * 2) = (List.replicate n ptZ).flatten.toArray := by
 apply Array.ext'
 rw [List.toList_toArray]
 apply List.ext_getElem?
 intro k
 have hz : ∀ r ∈ List.replicate n ptZ, r.length = 2 := fun r hr => by rw [List.eq_of_mem_replicate hr]; rfl
 by_cases hk : k < n * 2
 ·have e : k = k / 2 * 2 + k % 2 := by omega
  have hf : k % 2 < 2 := Nat.mod_lt _ (by omega)
  have hj : k / 2 < n := Nat.div_lt_of_lt_mul (by omega)
  have := flat_at 2 (List.replicate n ptZ) hz (k / 2) (k % 2) (by simpa using hj) hf
  rw [← e] at this
  have hr : (List.replicate n ptZ)[k / 2]'(by simpa using hj) = ptZ := by simp
  rw [this, hr]
  have hs : (madeCells #[.int .i64 0, .int .i64 0] (n * 2)).toList[k]? = some (#[.int .i64 0, .int .i64 0].getD (k % 2) default) := by simp [madeCells, hk]
  rw [hs]
  have : k % 2 = 0 ∨ k % 2 = 1 := by omega
  rcases this with h | h <;> rw [h] <;> rfl
 ·have hl : (List.replicate n ptZ).flatten.length = n * 2 := by rw [flat_length 2 _ hz]; simp
  have hr : (List.replicate n ptZ).flatten[k]? = none := List.getElem?_eq_none (by omega)
  rw [hr]
  apply List.getElem?_eq_none
  rw [Array.length_toList, size_madeCells]
  omega
set_option maxHeartbeats 1000000 in
theorem toPointS (l : List Pnt) (v : Value) (w : World) (B : Nat) (hv : Lies w B 2 v (ptR l)) (hn : l.length ≤ 1048576) (hB : B ≤ w.heap.size) :
  Calls Tryz.prog 32 #[v] w fun e w' => ∃ u, e = .returned u ∧ Owns w' w.heap.size 56 2 u (ptR l) ∧ Below w.heap.size w w' := by
 obtain ⟨A, cap, rfl, hl⟩ := pt_look hv
 have HL : Hid (∀ j, j < l.length → ∃ g off, A = some ⟨g, off, none⟩ ∧ g < B ∧ _) := hl
 have HB : Hid (B ≤ w.heap.size) := hB
 clear hl hB hv
 have q1 : (l.length : Int) ≤ 1048576 := by omega
 generalize hN : l.length = n at *
 obtain ⟨i0, hi, hz0, hz1, hz2⟩ := info_parts Tryz.infoPt
 have hmk : ∀ wx : World, (Instr.makeSlice 34 (.int .i64 (n : Int)) (.int .i64 (n : Int))).run Tryz.prog wx = .ok (.slice (some ⟨wx.heap.size, 0, none⟩) n n) (wx.alloc (.cells (List.replicate n ptZ).flatten.toArray 56)) := fun wx => by
  have h := run_make (P := Tryz.prog) wx 34 56 i0 _ Tryz.underlying34 hi hz0 .i64 .i64 (n : Int) (n : Int) (by omega) (by omega) (by rw [hz2]; omega) (by omega)
  rw [hz1] at h
  have e : (Value.agg #[.int .i64 0, .int .i64 0]).cells = #[.int .i64 0, .int .i64 0] := rfl
  rw [e, Int.toNat_natCast, pt_made] at h
  exact h
 clear hi hz0 hz1 hz2
 go_enter Tryz.func32, Tryz.ntmps32
 go_wp2_with fail
 go_loopw [4] (fun v4 wr => ∃ k : Nat, k ≤ n ∧ v4 = .int .i64 (k : Int) ∧ Owns wr w.heap.size 56 2 (.slice (some ⟨w.heap.size, 0, none⟩) n n) (ptR (l.take k) ++ List.replicate (n - k) ptZ) ∧ Below w.heap.size w wr) (fun i _ => n - (intOf i).toNat)
 case atStart =>
  refine ⟨0, by omega, rfl, ?_, (Below.refl _ _).alloc (Nat.le_refl _) _⟩
  rw [List.take_zero, Nat.sub_zero, show ptR [] = [] from rfl, List.nil_append]
  refine ⟨fun r hr => by rw [List.eq_of_mem_replicate hr]; rfl, ?_⟩
  have hz : ∀ r ∈ List.replicate n ptZ, r.length = 2 := fun r hr => by rw [List.eq_of_mem_replicate hr]; rfl
  have hl := flat_length 2 (List.replicate n ptZ) hz
  rw [List.length_replicate] at hl ⊢
  exact World.ownsRow_lit w (List.replicate n ptZ).flatten.toArray n (Nat.le_refl _) (by unfold maxLen; omega) (by simpa using hl)
 case round =>
  obtain ⟨k, hk, rfl, hO, hb⟩ := hrel
  have HO : Hid (Owns wr w.heap.size 56 2 (.slice (some ⟨w.heap.size, 0, none⟩) n n) (ptR (l.take k) ++ List.replicate (n - k) ptZ)) := hO
  have HB1 : Hid (Below w.heap.size w wr) := hb
  clear hO hb
  by_cases hlt : k < n
  ·have q4 : (k : Int) < (n : Int) := by omega
   obtain ⟨g, off, rfl, hg, hc0, hc1⟩ := HL.out k (by omega)
   have hgw : g < w.heap.size := Nat.lt_of_lt_of_le hg HB.out
   rw [← HB1.out.cell (p := ⟨_, _, none⟩) hgw] at hc0
   rw [← HB1.out.cell (p := ⟨_, _, none⟩) hgw] at hc1
   have c1 := fun wx => toPoint (l.getD k default) wx
   unfold vPt at c1
   generalize hx : l.getD k default = x at *
   have HX : Hid (l.getD k default = x) := hx
   clear hx
   go_wp2_with fail
   refine (c1 _).mono ?_
   rintro e w2 ⟨rfl, hb2⟩
   have hlen : (ptR (l.take k) ++ List.replicate (n - k) ptZ).length = n := by rw [List.length_append, List.length_replicate]; simp [ptR]; omega
   have hdl : (ptR (l.take k)).length = k := by simp [ptR]; omega
   have hO2 := HO.out.on hb2
   have hO3 := hO2
   rw [show (Value.slice (some ⟨w.heap.size, 0, none⟩) n n) = .slice (some ⟨w.heap.size, 0, none⟩) (ptR (l.take k) ++ List.replicate (n - k) ptZ).length n by rw [hlen]] at hO2
   obtain ⟨y0, d0⟩ := hO2.cellX k 0 (by rw [hlen]; exact hlt) (by omega)
   have f0 := hO2.free (k * 2)
   obtain ⟨y1, d1⟩ := hO2.cellX k 1 (by rw [hlen]; exact hlt) (by omega)
   have f1 := hO2.free (k * 2 + 1)
   rw [Nat.add_zero] at d0
   have hP := hO2.put2 k (by rw [hlen]; exact hlt) (.int .i64 x.t) (.int .i64 x.v)
   rw [hlen, fill_step _ _ _ n k hdl hlt, show ptR (l.take k) ++ [[.int .i64 x.t, .int .i64 x.v]] = ptR (l.take (k + 1)) by rw [ptR_snoc l k (by omega), HX.out]; rfl] at hP
   have HP : Hid (Owns (((w2).setCell ⟨w.heap.size, k * 2, none⟩ (.int .i64 x.t)).setCell ⟨w.heap.size, k * 2 + 1, none⟩ (.int .i64 x.v)) w.heap.size 56 2 (.slice (some ⟨w.heap.size, 0, none⟩) n n) (ptR (l.take (k + 1)) ++ List.replicate (n - (k + 1)) ptZ)) := hP
   have HB2 : Hid (Below w.heap.size w w2) := HB1.out.trans (hb2.mono HB1.out.size)
   clear hO2 hO3 hP hb2 hlen hdl
   go_wp2_with fail
   go_roundw
   case rel => exact ⟨k + 1, by omega, by go_num, HP.out, ((HB2.out).setCell (Nat.le_refl _) _).setCell (Nat.le_refl _) _⟩
   case measure => simp [intOf]; omega
  ·obtain rfl : k = n := by omega
   go_wp2_with fail
   go_ret
   refine ⟨_, rfl, ?_, HB1.out⟩
   have := HO.out
   rw [← hN, List.take_length, Nat.sub_self, List.replicate_zero, List.append_nil] at this
   rw [← hN]
   exact this
theorem below_alloc2 (w : World) (a b : Obj) : Below w.heap.size w ((w.alloc a).alloc b) := ((Below.refl _ w).alloc (Nat.le_refl _) a).alloc (by simp) b
set_option maxHeartbeats 400000 in
theorem eqPoint (x : Pnt) (w : World) : Calls Tryz.prog 49 #[vPt x, vPt x] w fun e w' => e = .returned (.bool true) ∧ Below w.heap.size w w' := by
 unfold vPt
 go_enter Tryz.func49, Tryz.ntmps49
 go_wp2
 go_ret
 exact ⟨rfl, below_alloc2 _ _ _⟩
set_option maxHeartbeats 1000000 in
theorem eqPointS (l : List Pnt) (va vb : Value) (w : World) (B : Nat) (ha : Lies w B 2 va (ptR l)) (hb : Lies w B 2 vb (ptR l)) (hn : l.length ≤ 1048576) (hB : B ≤ w.heap.size) :
  Calls Tryz.prog 16 #[va, vb] w fun e w' => e = .returned (.bool true) ∧ Below w.heap.size w w' := by
 obtain ⟨A, cap, rfl, hl⟩ := pt_look ha
 obtain ⟨A', cap', rfl, hl'⟩ := pt_look hb
 have HL : Hid (∀ j, j < l.length → ∃ g off, A = some ⟨g, off, none⟩ ∧ g < B ∧ _) := hl
 have HL' : Hid (∀ j, j < l.length → ∃ g off, A' = some ⟨g, off, none⟩ ∧ g < B ∧ _) := hl'
 have HB : Hid (B ≤ w.heap.size) := hB
 clear hl hl' hB ha hb
 have q1 : (l.length : Int) ≤ 1048576 := by omega
 generalize hN : l.length = n at *
 go_enter Tryz.func16, Tryz.ntmps16
 go_wp2_with fail
 go_loopw [5] (fun v5 wr => ∃ k : Nat, k ≤ n ∧ v5 = .int .i64 (k : Int) ∧ Below w.heap.size w wr) (fun i _ => n - (intOf i).toNat)
 case atStart => exact ⟨0, by omega, rfl, Below.refl _ _⟩
 case round =>
  obtain ⟨k, hk, rfl, hb⟩ := hrel
  have HB1 : Hid (Below w.heap.size w wr) := hb
  clear hb
  by_cases hlt : k < n
  ·have q4 : (k : Int) < (n : Int) := by omega
   obtain ⟨g, off, rfl, hg, ha0, ha1⟩ := HL.out k hlt
   obtain ⟨g', off', rfl, hg', hb0, hb1⟩ := HL'.out k hlt
   have hgw : g < w.heap.size := Nat.lt_of_lt_of_le hg HB.out
   have hgw' : g' < w.heap.size := Nat.lt_of_lt_of_le hg' HB.out
   rw [← HB1.out.cell (p := ⟨_, _, none⟩) hgw] at ha0
   rw [← HB1.out.cell (p := ⟨_, _, none⟩) hgw'] at hb0
   rw [← HB1.out.cell (p := ⟨_, _, none⟩) hgw] at ha1
   rw [← HB1.out.cell (p := ⟨_, _, none⟩) hgw'] at hb1
   have c1 := fun wx => eqPoint (l.getD k default) wx
   unfold vPt at c1
   generalize l.getD k default = x at *
   have hsz := HB1.out.size
   go_wp2_with fail
   go_region_with (go_at_call 49; refine (c1 _).mono ?_; rintro e w1 ⟨rfl, hb1⟩)
   all_goals go_wp2_with fail
   all_goals exact ⟨⟨k + 1, by omega, by go_num, HB1.out.trans (((Below.refl _ wr).drew.trans hb1).mono hsz)⟩, by simp [intOf]; omega⟩
  ·obtain rfl : k = n := by omega
   go_wp2_with fail
   go_ret
   exact ⟨rfl, HB1.out⟩
def mkPt (k j : Nat) : List Value := [.int .i64 ((k + 2 * j : Nat) : Int), .int .i64 (((k + 2 * j : Nat) : Int) + 1)]
set_option maxHeartbeats 2000000 in
theorem markPointS (k base : Nat) (v : Value) (R : List (List Value)) (w : World) (hv : Owns w base 56 2 v R) (hl : R.length ≤ 2097152) (h2 : k ≤ 10000000) :
  Calls Tryz.prog 18 #[v, .int .i64 (k : Int)] w fun e w' => e = .returned (.int .i64 ((k + 2 * R.length : Nat) : Int)) ∧ Owns w' base 56 2 v (newR (mkPt k) R.length) ∧ Below base w w' ∧ (∀ g, v.ownBlock ≠ some g → w'.heap[g]? = w.heap[g]?) := by
 obtain ⟨A, ca, rfl⟩ : ∃ A ca, v = .slice A R.length ca := by
  rcases hv.2.2 with ⟨rfl, h0⟩ | ⟨g, c, cur, rfl, _⟩
  ·exact ⟨none, 0, by rw [h0]⟩
  ·exact ⟨_, _, rfl⟩
 have HV : Hid (Owns w base 56 2 (.slice A R.length ca) R) := hv
 have q1 : (R.length : Int) ≤ 2097152 := by omega
 have q3 : (k : Int) ≤ 10000000 := by omega
 clear hv hl
 generalize hn : R.length = n at *
 go_enter Tryz.func18, Tryz.ntmps18
 go_wp2_with fail
 go_loopw [1, 5] (fun v1 v5 wr => ∃ j : Nat, j ≤ n ∧ v5 = .int .i64 (j : Int) ∧ v1 = .int .i64 ((k + 2 * j : Nat) : Int) ∧ Owns wr base 56 2 (.slice A n ca) (partR (mkPt k) R j) ∧ Below base w wr ∧ (∀ g, (Value.slice A n ca).ownBlock ≠ some g → wr.heap[g]? = w.heap[g]?)) (fun _ i _ => n - (intOf i).toNat)
 case atStart => exact ⟨0, by omega, rfl, by simp, by rw [partR_zero]; exact HV.out, Below.refl _ _, fun _ _ => rfl⟩
 case round =>
  obtain ⟨j, hj, rfl, rfl, hS, hB, hK⟩ := hrel
  have HS : Hid (Owns wr base 56 2 (.slice A n ca) (partR (mkPt k) R j)) := hS
  have HB : Hid (Below base w wr) := hB
  have HK : Hid (∀ g, (Value.slice A n ca).ownBlock ≠ some g → wr.heap[g]? = w.heap[g]?) := hK
  clear hS hB hK
  by_cases hlt : j < n
  ·have q2 : (j : Int) < (n : Int) := by omega
   obtain ⟨g, rfl, hgb⟩ : ∃ g, A = some ⟨g, 0, none⟩ ∧ base ≤ g := by
    rcases HS.out.2.2 with ⟨e, h0⟩ | ⟨g, c, cur, e, hg, _⟩
    ·rw [partR_length _ _ _ (by omega), hn] at h0; omega
    ·cases e; exact ⟨g, rfl, hg⟩
   have HG : Hid (base ≤ g) := hgb
   have hpl : (partR (mkPt k) R j).length = n := by rw [partR_length _ _ _ (by omega), hn]
   have hO := HS.out
   rw [show (Value.slice (some ⟨g, 0, none⟩) n ca) = .slice (some ⟨g, 0, none⟩) (partR (mkPt k) R j).length ca by rw [hpl]] at hO
   obtain ⟨y0, d0⟩ := hO.cellX j 0 (by rw [hpl]; exact hlt) (by omega)
   have f0 := hO.free (j * 2)
   obtain ⟨y1, d1⟩ := hO.cellX j 1 (by rw [hpl]; exact hlt) (by omega)
   have f1 := hO.free (j * 2 + 1)
   rw [Nat.add_zero] at d0
   have hP := hO.put2 j (by rw [hpl]; exact hlt) (.int .i64 ((k + 2 * j : Nat) : Int)) (.int .i64 (((k + 2 * j : Nat) : Int) + 1))
   rw [hpl, show [Value.int .i64 ((k + 2 * j : Nat) : Int), .int .i64 (((k + 2 * j : Nat) : Int) + 1)] = mkPt k j from rfl, partR_set _ _ _ (by omega)] at hP
   have HM : Hid (((k + 2 * (j + 1) : Nat) : Int) = ((k + 2 * j : Nat) : Int) + 2) := by unfold Hid; omega
   have q4 : ((k + 2 * j : Nat) : Int) ≤ 20000000 := by omega
   generalize k + 2 * j = m at *
   have HP : Hid (Owns ((wr.setCell ⟨g, j * 2, none⟩ (.int .i64 (m : Int))).setCell ⟨g, j * 2 + 1, none⟩ (.int .i64 ((m : Int) + 1))) base 56 2 (.slice (some ⟨g, 0, none⟩) n ca) (partR (mkPt k) R (j + 1))) := hP
   have HD : Hid (Below base w ((wr.setCell ⟨g, j * 2, none⟩ (.int .i64 (m : Int))).setCell ⟨g, j * 2 + 1, none⟩ (.int .i64 ((m : Int) + 1)))) := (HB.out.setCell (show base ≤ g from HG.out) _).setCell (show base ≤ g from HG.out) _
   have HE : Hid (∀ b, (Value.slice (some ⟨g, 0, none⟩) n ca).ownBlock ≠ some b → ((wr.setCell ⟨g, j * 2, none⟩ (.int .i64 (m : Int))).setCell ⟨g, j * 2 + 1, none⟩ (.int .i64 ((m : Int) + 1))).heap[b]? = w.heap[b]?) := fun b hne => by
    rw [Below.heap_setCell _ _ _ _ (show b ≠ g from fun e => hne (by rw [e]; rfl)), Below.heap_setCell _ _ _ _ (show b ≠ g from fun e => hne (by rw [e]; rfl))]
    exact HK.out b hne
   clear hO hP hpl
   go_wp2_with fail
   go_roundw
   case rel => exact ⟨j + 1, by omega, by go_num, by rw [HM.out]; go_num, HP.out, HD.out, HE.out⟩
   case measure => simp [intOf]; omega
  ·obtain rfl : j = n := by omega
   go_wp2_with fail
   go_ret
   refine ⟨rfl, ?_, HB.out, HK.out⟩
   have := HS.out
   rw [← hn, partR_all] at this
   rw [← hn]
   exact this
theorem mkPt_look {w : World} {B k n : Nat} {v : Value} (h : Lies w B 2 v (newR (mkPt k) n)) : ∃ A cap, v = .slice A n cap ∧ ∀ j, j < n → ∃ g off, A = some ⟨g, off, none⟩ ∧ g < B ∧ w.cell? ⟨g, off + j * 2, none⟩ = some (.int .i64 (((k + 2 * j : Nat) : Int))) ∧ w.cell? ⟨g, off + j * 2 + 1, none⟩ = some (.int .i64 (((k + 2 * j : Nat) : Int) + 1)) := by
 obtain ⟨A, cap, e, h⟩ := h.look
 rw [newR_length] at e
 refine ⟨A, cap, e, fun j hj => ?_⟩
 obtain ⟨g, off, e, hg, hc⟩ := h j (by rw [newR_length]; exact hj)
 have hr : (newR (mkPt k) n)[j]'(by rw [newR_length]; exact hj) = mkPt k j := by simp [newR]
 rw [hr] at hc
 refine ⟨g, off, e, hg, ?_, ?_⟩
 ·have := hc 0 _ (by omega) rfl; simpa [Nat.add_assoc] using this
 ·have := hc 1 _ (by omega) rfl; simpa [Nat.add_assoc] using this
set_option maxHeartbeats 2000000 in
theorem heldPointS (k n : Nat) (v : Value) (w : World) (B : Nat) (hv : Lies w B 2 v (newR (mkPt k) n)) (hl : n ≤ 2097152) (h2 : k ≤ 10000000) :
  Calls Tryz.prog 19 #[v, .int .i64 (k : Int)] w fun e w' => e = .returned (.int .i64 ((k + 2 * n : Nat) : Int)) ∧ w = w' := by
 obtain ⟨A, ca, rfl, hl'⟩ := mkPt_look hv
 have HL : Hid (∀ j, j < n → ∃ g off, A = some ⟨g, off, none⟩ ∧ g < B ∧ _) := hl'
 have q1 : (n : Int) ≤ 2097152 := by omega
 have q3 : (k : Int) ≤ 10000000 := by omega
 clear hv hl hl'
 go_enter Tryz.func19, Tryz.ntmps19
 go_wp2
 go_loop [1, 5] (fun v1 v5 => ∃ j : Nat, j ≤ n ∧ v5 = .int .i64 (j : Int) ∧ v1 = .int .i64 ((k + 2 * j : Nat) : Int)) (fun _ i => n - (intOf i).toNat)
 case atStart => exact ⟨0, by omega, rfl, by simp⟩
 case round =>
  obtain ⟨j, hj, rfl, rfl⟩ := hrel
  by_cases hlt : j < n
  ·have q2 : (j : Int) < (n : Int) := by omega
   obtain ⟨g, off, rfl, hg, d0, d1⟩ := HL.out j hlt
   have HM : Hid (((k + 2 * (j + 1) : Nat) : Int) = ((k + 2 * j : Nat) : Int) + 2) := by unfold Hid; omega
   have q4 : ((k + 2 * j : Nat) : Int) ≤ 20000000 := by omega
   generalize k + 2 * j = m at *
   go_wp2
   go_round
   case rel => exact ⟨j + 1, by omega, by go_num, by rw [HM.out]; go_num⟩
   case measure => simp [intOf]; omega
  ·obtain rfl : j = n := by omega
   go_wp2
   go_ret
   exact ⟨rfl, rfl⟩
end Go.Proofs.YtpmgndgkmffcnaaGreatDoor
