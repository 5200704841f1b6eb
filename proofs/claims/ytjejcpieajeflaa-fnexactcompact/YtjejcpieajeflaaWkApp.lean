/-
  Appends to rows of structs of the call's own: one row, or all of another slice's (no program in sight, no condition).
-/
import Derived.Test.YtjejcpieajeflaaWkBlk
import Derived.OwnWalk
namespace Go.Proofs.Ytjejcpieajeflaa
open Go.RowKit Go.PlainAid

theorem Owns.empty (w : World) (base : Nat) (e : TypeId) (sz : Nat) (hb : base ≤ w.heap.size) : Owns (w.alloc (.cells #[] e)) base e sz (.slice (some ⟨w.heap.size, 0, none⟩) 0 0) [] :=
  ⟨fun r hr => by simp at hr, World.ownsRow_lit w #[] 0 hb (by unfold maxLen; omega) (by simp)⟩
theorem Owns.nil (w : World) (base : Nat) (e : TypeId) (sz : Nat) : Owns w base e sz (.slice none 0 0) [] := ⟨fun r hr => by simp at hr, World.ownsRow_nil w base e sz⟩
theorem Owns.alloc {w : World} {base : Nat} {e : TypeId} {sz : Nat} {v : Value} {rows : List (List Value)} (h : Owns w base e sz v rows) (o : Obj) : Owns (w.alloc o) base e sz v rows := ⟨h.1, World.ownsRow.alloc h.2 o⟩

/-- Where an append lays its answer: where the slice lay, or in a new block. -/
theorem run_append_where {P : Program} (w : World) (base : Nat) (t ty e : TypeId) (i : TypeInfo) (z : Value) (size bytes : Nat) (ht : P.underlying t = some (.slice e)) (hi : P.info? e = some i) (hz : i.zero = some z)
    (hsize : i.size = size) (hby : i.bytes = bytes)
    (v : Value) (n : Nat) (xs : List Value) (hown : w.ownsRow base e size v n xs)
    (a : Addr) (m c : Nat) (news : List Value) (hl : news.length = m * size) (hnews : ∀ j u, news[j]? = some u → w.cell? (a.add j) = some u) (h1 : ∀ u ∈ news, u.oneCell' = true)
    (h63 : n + m ≤ maxLen) (hbytes : (n + m) * bytes ≤ 140737488355328) (v' : Value) (w' : World)
    (h : (Builtin.append_ #[t, t] ty #[v, .slice (some a) m c]).run P w = .ok v' w') : v'.ownBlock = v.ownBlock ∨ v'.ownBlock = some w.heap.size := by
  subst hsize
  subst hby
  have hsmall : n + m ≤ 9223372036854775807 := by simp only [maxLen] at h63; omega
  rcases hown.2 with ⟨rfl, rfl⟩ | ⟨g, cap, cur, rfl, hbg, hg, hnc, hcm, hcs, htake⟩
  · by_cases hm : m = 0
    · subst hm
      have hn : news = [] := List.eq_nil_of_length_eq_zero (by simpa using hl)
      subst hn
      have hr : (Builtin.append_ #[t, t] ty #[.slice none 0 0, .slice (some a) 0 c]).run P w = .ok (.slice none 0 0) w := by
        simp [Builtin.append_, run_underlying ht, sizeOf, typeInfo, hi, Builtin.lenOf, Builtin.firstCells, loadCells, loadCellsFrom]
      rw [hr] at h
      cases h
      exact .inl rfl
    · have hr := run_append_nil (P := P) w t ty e i z ht hi hz a m c news hl hnews (by omega) (by omega) (by have hb := hbytes; simp only [Nat.zero_add] at hb; omega)
      rw [hr] at h
      cases h
      exact .inr rfl
  · by_cases hroom : n + m ≤ cap
    · have hfit : n * i.size + news.length ≤ cur.size := by rw [hl, hcs, ← Nat.add_mul]; exact Nat.mul_le_mul_right _ hroom
      have hr := run_append_room (P := P) w t ty e i ht hi g n cap cur hg a m c news hl hnews h1 hroom hfit
      rw [hr] at h
      cases h
      exact .inl rfl
    · have holds : ∀ j u, xs[j]? = some u → w.cell? ((⟨g, 0, none⟩ : Addr).add j) = some u := hown.cells (g := g) rfl
      have hr := run_append_grow (P := P) w t ty e i z ht hi hz ⟨g, 0, none⟩ n cap xs hown.1 holds a m c news hl hnews (by omega) (by omega) (growslice_fits (by omega) hbytes)
      rw [hr] at h
      cases h
      exact .inr rfl
theorem wpList_append_own2 {P : Program} {w : World} {ops : Array Oper} {rest : List Oper} {o : Oper} {a : Act} {Q : Exit → Act → World → Prop} (hgd : o.guard = none) (s x : Operand) (t : TypeId)
    (ho : o.op = .call { callee := .builtin .append, args := #[s, x], argTypes := #[t, t] })
    (base : Nat) (e : TypeId) (i : TypeInfo) (z : Value) (size bytes : Nat) (ht : P.underlying t = some (.slice e)) (hi : P.info? e = some i) (hz : i.zero = some z)
    (hsize : i.size = size) (hby : i.bytes = bytes) (hzs : z.cells.size = size) (hsz : 0 < size)
    (v : Value) (n : Nat) (xs : List Value) (hs : a.eval s = v) (hown : w.ownsRow base e size v n xs)
    (ad : Addr) (m c : Nat) (news : List Value) (hx : a.eval x = .slice (some ad) m c) (hl : news.length = m * size) (hnews : ∀ j u, news[j]? = some u → w.cell? (ad.add j) = some u) (h1 : ∀ u ∈ news, u.oneCell' = true)
    (h63 : n + m ≤ maxLen) (hbytes : (n + m) * bytes ≤ 140737488355328) (hbase : base ≤ w.heap.size)
    (h : ∀ v' w', w'.ownsRow base e size v' (n + m) (xs ++ news) → w.grownBy w' v.ownBlock → (v'.ownBlock = v.ownBlock ∨ v'.ownBlock = some w.heap.size) → wpList P ops Q rest (a.put o.dst v') w') : wpList P ops Q (o :: rest) a w := by
  obtain ⟨v', w', hr, h2, h3, _⟩ := run_append_own (P := P) w base t o.type e i z size bytes ht hi hz hsize hby hzs hsz v n xs hown ad m c news hl hnews h1 h63 hbytes hbase
  have h5 := run_append_where (P := P) w base t o.type e i z size bytes ht hi hz hsize hby v n xs hown ad m c news hl hnews h1 h63 hbytes v' w' hr
  refine wpList_plain hgd fun K hK => ?_
  unfold Oper.wp execOp
  simp only [ho, resolve, invoke, builtin, Sem.run_bind, Sem.run_pure, Result.andThen_ok, List.map_toArray, List.map_cons, List.map_nil, hs, hx, hr]
  exact hK _ _ (h v' w' h2 h3 h5)

/-- 'append(out, x)', x's cells lying in a new block. -/
theorem wpList_append_row {P : Program} {w : World} {ops : Array Oper} {rest : List Oper} {o : Oper} {a : Act} {Q : Exit → Act → World → Prop} (hgd : o.guard = none) (s x : Operand) (t e : TypeId) (z : Value) (sz bytes : Nat)
    (ho : o.op = .call { callee := .builtin .append, args := #[s, x], argTypes := #[t, t] })
    (ht : P.underlying t = some (.slice e)) (hinfo : (P.info? e).map (fun i => (i.zero, i.size, i.bytes)) = some (some z, sz, bytes)) (hzs : z.cells.size = sz) (hsz : 0 < sz)
    (base : Nat) (v : Value) (rows : List (List Value)) (hs : a.eval s = v) (hown : Owns w base e sz v rows) (r : List Value) (hr : r.length = sz) (h1 : ∀ u ∈ r, u.oneCell' = true)
    (hx : a.eval x = .slice (some ⟨w.heap.size, 0, none⟩) 1 1) (hlen : rows.length ≤ 2097152) (hby : bytes ≤ 1000) (hbase : base ≤ w.heap.size)
    (h : ∀ v' w', Owns w' base e sz v' (rows ++ [r]) → Below base w w' → (∀ g, g < w.heap.size → v.ownBlock ≠ some g → w'.heap[g]? = w.heap[g]?) → (v'.ownBlock = v.ownBlock ∨ ∀ g, v'.ownBlock = some g → w.heap.size ≤ g) → wpList P ops Q rest (a.put o.dst v') w') : wpList P ops Q (o :: rest) a (w.alloc (.cells r.toArray e)) := by
  obtain ⟨i0, hi, hz0, hz1, hz2⟩ := info_parts hinfo
  have hb1 : (rows.length + 1) * bytes ≤ 140737488355328 := Nat.le_trans (Nat.mul_le_mul (show rows.length + 1 ≤ 2097153 by omega) hby) (by omega)
  refine wpList_append_own2 (w := w.alloc (.cells r.toArray e)) hgd s x t ho base e i0 z sz bytes ht hi hz0 hz1 hz2 hzs hsz v rows.length rows.flatten hs (World.ownsRow.alloc hown.2 _) ⟨w.heap.size, 0, none⟩ 1 1 r hx (by rw [hr]; omega) ?_ h1 (by unfold maxLen; omega) hb1 (by simp; omega) ?_
  · intro j u hj
    have e1 : (⟨w.heap.size, 0, none⟩ : Addr).add j = ⟨w.heap.size, j, none⟩ := by cases j <;> simp [Addr.add]
    rw [e1, World.cell?_alloc_mark]
    simpa using hj
  · intro v' w' h2 h3 h5
    have hb0 : ∀ k, v.ownBlock = some k → base ≤ k := fun k hk => (hown.lt k hk).1
    refine h v' w' ⟨?_, ?_⟩ ?_ ?_ (h5.imp id fun e g hg => by rw [e] at hg; cases hg; simp)
    · intro y hy
      rcases List.mem_append.1 hy with hy | hy
      · exact hown.1 y hy
      · rw [List.mem_singleton.1 hy]; exact hr
    · rw [List.length_append, List.flatten_append]
      simpa using h2
    · exact ((Below.refl base w).alloc hbase _).grown h3 (by simp; omega) hb0
    · intro g hg hne
      rw [h3.block g (by simp; omega) (fun e => hne e.symm)]
      exact Below.heap_alloc w _ g hg

/-- 'append(out, xs...)'. -/
theorem wpList_append_all {P : Program} {w : World} {ops : Array Oper} {rest : List Oper} {o : Oper} {a : Act} {Q : Exit → Act → World → Prop} (hgd : o.guard = none) (s x : Operand) (t e : TypeId) (z : Value) (sz bytes : Nat)
    (ho : o.op = .call { callee := .builtin .append, args := #[s, x], argTypes := #[t, t] })
    (ht : P.underlying t = some (.slice e)) (hinfo : (P.info? e).map (fun i => (i.zero, i.size, i.bytes)) = some (some z, sz, bytes)) (hzs : z.cells.size = sz) (hsz : 0 < sz)
    (base : Nat) (v u : Value) (rows more : List (List Value)) (B : Nat) (hs : a.eval s = v) (hown : Owns w base e sz v rows) (hu : Lies w B sz u more) (h1 : ∀ r ∈ more, ∀ y ∈ r, y.oneCell' = true)
    (hx : a.eval x = u) (hlen : rows.length + more.length ≤ 2097152) (hby : bytes ≤ 1000) (hbase : base ≤ w.heap.size)
    (h : ∀ v' w', Owns w' base e sz v' (rows ++ more) → Below base w w' → (∀ g, g < w.heap.size → v.ownBlock ≠ some g → w'.heap[g]? = w.heap[g]?) → (v'.ownBlock = v.ownBlock ∨ ∀ g, v'.ownBlock = some g → w.heap.size ≤ g) → wpList P ops Q rest (a.put o.dst v') w') : wpList P ops Q (o :: rest) a w := by
  obtain ⟨i0, hi, hz0, hz1, hz2⟩ := info_parts hinfo
  have hb1 : (rows.length + more.length) * bytes ≤ 140737488355328 := Nat.le_trans (Nat.mul_le_mul hlen hby) (by omega)
  obtain ⟨A, cap, rfl, hz, hms, hm⟩ := hu
  have fin : ∀ v' w', w'.ownsRow base e sz v' (rows.length + more.length) (rows.flatten ++ more.flatten) → w.grownBy w' v.ownBlock → (v'.ownBlock = v.ownBlock ∨ v'.ownBlock = some w.heap.size) → wpList P ops Q rest (a.put o.dst v') w' := by
    intro v' w' h2 h3 h5
    have hb0 : ∀ k, v.ownBlock = some k → base ≤ k := fun k hk => (hown.lt k hk).1
    refine h v' w' ⟨?_, ?_⟩ ?_ ?_ (h5.imp id fun e g hg => by rw [e] at hg; cases hg; exact Nat.le_refl _)
    · intro y hy
      rcases List.mem_append.1 hy with hy | hy
      · exact hown.1 y hy
      · exact hms y hy
    · rw [List.length_append, List.flatten_append]
      exact h2
    · exact (Below.refl base w).grown h3 hbase hb0
    · intro g hg hne
      exact h3.block g hg (fun e => hne e.symm)
  match A, hz, hx, hm with
  | none, hz, hx, hm =>
    have h0 : more.length = 0 := by
      rcases hm with h0 | ⟨g, off, e, _⟩
      · exact h0
      · cases e
    have hc0 := hz.1 rfl
    subst hc0
    have hnil : more = [] := List.eq_nil_of_length_eq_zero h0
    subst hnil
    refine wpList_plain hgd fun K hK => ?_
    have hr := run_append_owned_none (P := P) w base t o.type e i0 sz ht hi v rows.length rows.flatten hown.2
    unfold Oper.wp
    simp [execOp, ho, resolve, invoke, builtin, hs, hx, hr, Result.andThen]
    refine hK _ _ (fin v w ?_ ⟨rfl, rfl, rfl, Nat.le_refl _, fun _ _ _ => rfl⟩ (.inl rfl))
    simpa using hown.2
  | some ad, hz, hx, hm =>
    refine wpList_append_own2 (w := w) hgd s x t ho base e i0 z sz bytes ht hi hz0 hz1 hz2 hzs hsz v rows.length rows.flatten hs hown.2 ad more.length cap more.flatten hx (flat_length sz more hms) ?_ ?_ (by unfold maxLen; omega) hb1 hbase ?_
    · intro j y hj
      rcases hm with h0 | ⟨g, off, e, hg, hc⟩
      · rw [List.eq_nil_of_length_eq_zero h0] at hj
        simp at hj
      · cases e
        have e1 : (⟨g, off, none⟩ : Addr).add j = ⟨g, off + j, none⟩ := by cases j <;> simp [Addr.add]
        rw [e1]
        exact hc j y hj
    · intro y hy
      obtain ⟨r, hr, hyr⟩ := List.mem_flatten.1 hy
      exact h1 r hr y hyr
    · intro v' w' h2 h3 h5
      exact fin v' w' h2 h3 h5
theorem ent_one (l : List Ent) : ∀ r ∈ entR l, ∀ y ∈ r, y.oneCell' = true := by
  intro r hr y hy
  obtain ⟨x, _, rfl⟩ := List.mem_map.1 hr
  simp [entC] at hy
  rcases hy with rfl | rfl <;> rfl
theorem rcd_one (l : List Rcd) : ∀ r ∈ rcdR l, ∀ y ∈ r, y.oneCell' = true := by
  intro r hr y hy
  obtain ⟨x, _, rfl⟩ := List.mem_map.1 hr
  simp [rcdC] at hy
  rcases hy with rfl | rfl | rfl | rfl | rfl <;> rfl
/-- The first k rows of the call's own. -/
theorem Owns.first {w : World} {base : Nat} {e : TypeId} {sz : Nat} {A : Option Addr} {n c : Nat} {rows : List (List Value)} (h : Owns w base e sz (.slice A n c) rows) (k : Nat) (hk : k ≤ rows.length) : Owns w base e sz (.slice A k c) (rows.take k) := by
  obtain ⟨hs, hl, h⟩ := h
  have hkl : (rows.take k).length = k := by rw [List.length_take]; omega
  have hs' : ∀ r ∈ rows.take k, r.length = sz := fun r hr => hs r (List.mem_of_mem_take hr)
  have hft : (rows.take k).flatten = rows.flatten.take (k * sz) := by
    have h1 : rows.flatten = (rows.take k).flatten ++ (rows.drop k).flatten := by rw [← List.flatten_append, List.take_append_drop]
    have hl2 : (rows.take k).flatten.length = k * sz := by rw [flat_length sz _ hs', hkl]
    rw [h1]
    exact (List.take_left' hl2).symm
  refine ⟨hs', ?_, ?_⟩
  · rw [flat_length sz _ hs']
  rcases h with ⟨e1, h0⟩ | ⟨g, cap, cur, e1, hb, hh, hn, hm, hz, ht⟩
  · cases e1
    have : k = 0 := by omega
    subst this
    exact .inl ⟨rfl, by simp⟩
  · cases e1
    refine .inr ⟨g, c, cur, by rw [hkl], hb, hh, by rw [hkl]; omega, hm, hz, ?_⟩
    rw [hkl, hft, ← ht, List.take_take]
    congr 1
    have : k * sz ≤ rows.length * sz := Nat.mul_le_mul_right sz hk
    omega
end Go.Proofs.Ytjejcpieajeflaa
