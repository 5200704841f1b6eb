/-
  What is told of the names of a right disk (no program in sight, no condition).
-/
import Derived.Test.YtnnfnhpehacelaaGreatImOpenA
namespace Go.Proofs.YtnnfnhpehacelaaGreat
open Go.RowKit Go.PlainAid

/-- Where a link behind a move comes from. -/
theorem apply_ids {l : List Lnk} {m : Mov} {r : List Lnk} (he : apply l m = some r) : ∀ x ∈ r, (∃ y ∈ l, y.id = x.id) ∨ (m.kind = 1 ∧ x.id = m.id) := by
  by_cases hn : nameOk m.name = false
  · rw [apply_bad hn] at he; cases he
  · have hn' : nameOk m.name = true := by simpa using hn
    rcases hat : linkAt l m.name with _ | j
    · by_cases h1 : m.kind = 1 ∧ m.to.size = 0
      · obtain ⟨k, n, t, i⟩ := m
        simp only at h1 hn' hat
        obtain ⟨rfl, h1⟩ := h1
        rw [apply_make hn' h1 hat] at he
        cases he
        intro x hx
        rcases ins_mem hx with rfl | hx
        · exact .inr ⟨rfl, rfl⟩
        · exact .inl ⟨x, (List.mem_filter.1 hx).1, rfl⟩
      · rw [apply_none hat h1] at he; cases he
    · by_cases h2 : m.kind = 2 ∧ m.id = 0 ∧ nameOk m.to = true ∧ m.to ≠ m.name
      · obtain ⟨k, n, t, i⟩ := m
        simp only at h2 hn' hat
        obtain ⟨rfl, rfl, h2, h3⟩ := h2
        rw [apply_name hn' hat h2 h3] at he
        cases he
        intro x hx
        rcases ins_mem hx with rfl | hx
        · exact .inl ⟨_, (linkAt_name hat).2, rfl⟩
        · exact .inl ⟨x, (List.mem_filter.1 (List.mem_filter.1 hx).1).1, rfl⟩
      · by_cases h3 : m.kind = 3 ∧ m.id = 0 ∧ m.to.size = 0
        · obtain ⟨k, n, t, i⟩ := m
          simp only at h3 hn' hat
          obtain ⟨rfl, rfl, h3⟩ := h3
          rw [apply_drop hn' hat h3] at he
          cases he
          intro x hx
          exact .inl ⟨x, (List.mem_filter.1 hx).1, rfl⟩
        · rw [apply_some hat h2 h3] at he; cases he
theorem apply_sorted {l : List Lnk} (h : Sorted l) {m : Mov} {r : List Lnk} (he : apply l m = some r) : Sorted r := by
  by_cases hn : nameOk m.name = false
  · rw [apply_bad hn] at he; cases he
  · have hn' : nameOk m.name = true := by simpa using hn
    rcases hat : linkAt l m.name with _ | j
    · by_cases h1 : m.kind = 1 ∧ m.to.size = 0
      · obtain ⟨k, n, t, i⟩ := m
        simp only at h1 hn' hat
        obtain ⟨rfl, h1⟩ := h1
        rw [apply_make hn' h1 hat] at he
        cases he
        exact h.withL _
      · rw [apply_none hat h1] at he; cases he
    · by_cases h2 : m.kind = 2 ∧ m.id = 0 ∧ nameOk m.to = true ∧ m.to ≠ m.name
      · obtain ⟨k, n, t, i⟩ := m
        simp only at h2 hn' hat
        obtain ⟨rfl, rfl, h2, h3⟩ := h2
        rw [apply_name hn' hat h2 h3] at he
        cases he
        exact (h.without _).withL _
      · by_cases h3 : m.kind = 3 ∧ m.id = 0 ∧ m.to.size = 0
        · obtain ⟨k, n, t, i⟩ := m
          simp only at h3 hn' hat
          obtain ⟨rfl, rfl, h3⟩ := h3
          rw [apply_drop hn' hat h3] at he
          cases he
          exact h.without _
        · rw [apply_some hat h2 h3] at he; cases he
/-- What holds of the links of a right disk behind any moves of it. -/
structure Linked (d : Dsk) (l : List Lnk) : Prop where
  ok : NamesOk l
  sorted : Sorted l
  ids : ∀ x ∈ l, (nodAt d.nods x.id).isSome = true
theorem dir_linked {d : Dsk} (h : Whole d) : Linked d d.dir := by
  have hd := dir_of_whole (gs := d.nods.map fun _ => 0) (by simp) h
  refine ⟨NamesOk.of_dir hd, ?_, fun x hx => ?_⟩
  · have := (dir_rising (Nat.le_refl _) (all_of hd)).1
    rw [List.take_length] at this
    exact this
  · obtain ⟨k, hk, rfl⟩ := List.getElem_of_mem hx
    have hg := h.lnk k hk
    unfold lnkGood at hg
    simp only [Bool.and_eq_true] at hg
    rw [getD_at d.dir k hk]
    exact hg.1.2
theorem Linked.apply {d : Dsk} {l : List Lnk} (h : Linked d l) {m : Mov} {r : List Lnk} (he : apply l m = some r) (hm : m.kind = 1 → (nodAt d.nods m.id).isSome = true) : Linked d r :=
  ⟨h.ok.apply he, apply_sorted h.sorted he, fun x hx => by
    rcases apply_ids he x hx with ⟨y, hy, e⟩ | ⟨hk, e⟩
    · rw [← e]; exact h.ids y hy
    · rw [e]; exact hm hk⟩
theorem names_linked {d : Dsk} (hd : Whole d) (k : Nat) (hk : k ≤ d.movs.length) : Linked d (names d.dir (d.movs.take k)) := by
  induction k with
  | zero =>
    rw [List.take_zero]
    exact dir_linked hd
  | succ k ih =>
    have h1 := ih (by omega)
    rw [names_take d.dir d.movs k (by omega)]
    have hg := hd.mov k (by omega)
    unfold movGood at hg
    rw [Bool.and_eq_true] at hg
    cases e : apply (names d.dir (d.movs.take k)) (d.movs.getD k default) with
    | none =>
      rw [e] at hg
      cases hg.2
    | some r =>
      refine h1.apply e fun hk1 => ?_
      have := hg.1
      rw [decide_eq_true hk1] at this
      cases e2 : nodAt d.nods (d.movs.getD k default).id with
      | none => rw [e2] at this; cases this
      | some j => rfl
theorem now_linked {d : Dsk} (hd : Whole d) : Linked d (names d.dir d.movs) := by
  have := names_linked hd d.movs.length (Nat.le_refl _)
  rw [List.take_length] at this
  exact this
theorem nod_ids {d : Dsk} (hd : Whole d) : ∀ x ∈ d.nods, 1 ≤ x.id ∧ x.id ≤ 1000000 := fun x hx => by
  obtain ⟨k, hk, rfl⟩ := List.getElem_of_mem hx
  have hg := hd.nod k hk
  have hR := (sizeOk_iff d).1 hd.size
  unfold nodGood at hg
  simp only [Bool.and_eq_true, decide_eq_true_eq] at hg
  rw [getD_at d.nods k hk]
  have h1 := hg.1.1.1
  have h2 := hR.x1
  omega
theorem nodAt_at {ns : List Nod} {id : Int} {j : Nat} (h : nodAt ns id = some j) : j < ns.length ∧ (ns.getD j default).id = id := by
  unfold nodAt at h
  rw [List.findIdx?_eq_some_iff_getElem] at h
  obtain ⟨hi, hp, _⟩ := h
  rw [← getD_at ns j hi]
  exact ⟨hi, of_decide_eq_true hp⟩
/-- The place that an inode's number leads to. -/
theorem ptr_nod {ns : List Nod} {gs : List Nat} (hl : gs.length = ns.length) {id : Int} {j : Nat} (h : nodAt ns id = some j) : ptrAt (prs ns gs) id = some (gs.getD j 0) := by
  unfold nodAt at h
  rw [List.findIdx?_eq_some_iff_getElem] at h
  obtain ⟨hi, hp, hn⟩ := h
  have hf : (prs ns gs).find? (fun p => decide (p.1 = id)) = some (ns[j].id, gs[j]'(by omega)) := by
    unfold prs
    rw [List.find?_eq_some_iff_getElem]
    refine ⟨hp, j, by rw [List.length_zip, List.length_map]; omega, by rw [List.getElem_zip, List.getElem_map], fun i hij => ?_⟩
    rw [List.getElem_zip, List.getElem_map]
    simpa using hn i hij
  unfold ptrAt
  rw [hf, List.getD_eq_getElem?_getD, List.getElem?_eq_getElem (by omega)]
  rfl
end Go.Proofs.YtnnfnhpehacelaaGreat
