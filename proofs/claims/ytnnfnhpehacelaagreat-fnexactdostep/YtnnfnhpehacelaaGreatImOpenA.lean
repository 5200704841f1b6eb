/-
  What opening a disk asks is what a right disk is (no program in sight, no condition).
-/
import Derived.Test.YtnnfnhpehacelaaGreatImTakeM
import Derived.Test.YtnnfnhpehacelaaGreatDkOkA
namespace Go.Proofs.YtnnfnhpehacelaaGreat
open Go.RowKit Go.PlainAid

theorem ptrAt_some (l : List (Int × Nat)) (id : Int) : (ptrAt l id).isSome = true ↔ ∃ p ∈ l, p.1 = id := by
  unfold ptrAt
  rw [Option.isSome_map, List.find?_isSome]
  simp only [decide_eq_true_eq]
theorem ptrAt_none (l : List (Int × Nat)) (id : Int) : ptrAt l id = none ↔ ∀ p ∈ l, p.1 ≠ id := by
  cases h : ptrAt l id with
  | none =>
    simp only [true_iff]
    intro p hp e
    have := (ptrAt_some l id).2 ⟨p, hp, e⟩
    rw [h] at this
    cases this
  | some g =>
    simp only [reduceCtorEq, false_iff]
    intro hn
    obtain ⟨p, hp, e⟩ := (ptrAt_some l id).1 (by rw [h]; rfl)
    exact hn p hp e
theorem ptrDel_mem (l : List (Int × Nat)) (id : Int) (p : Int × Nat) : p ∈ ptrDel l id ↔ p ∈ l ∧ p.1 ≠ id := by
  unfold ptrDel
  rw [List.mem_filter]
  simp only [decide_eq_true_eq]
theorem ptrDel_len {l : List (Int × Nat)} {id : Int} (h : ∃ p ∈ l, p.1 = id) : (ptrDel l id).length + 1 ≤ l.length := by
  induction l with
  | nil =>
    obtain ⟨p, hp, _⟩ := h
    cases hp
  | cons q r ih =>
    unfold ptrDel
    rw [List.filter_cons]
    by_cases e : q.1 = id
    · rw [if_neg (by simp [e])]
      have := List.length_filter_le (fun p : Int × Nat => decide (p.1 ≠ id)) r
      simp only [List.length_cons]
      omega
    · rw [if_pos (by simp [e])]
      obtain ⟨p, hp, hi⟩ := h
      rcases List.mem_cons.1 hp with rfl | hp
      · exact absurd hi e
      · have := ih ⟨p, hp, hi⟩
        unfold ptrDel at this
        simp only [List.length_cons]
        omega
theorem delAll_mem (l : List (Int × Nat)) (dl : List Lnk) (p : Int × Nat) : p ∈ delAll l dl ↔ p ∈ l ∧ ∀ x ∈ dl, x.id ≠ p.1 := by
  unfold delAll
  induction dl generalizing l with
  | nil => simp
  | cons x r ih =>
    rw [List.foldl_cons, ih, ptrDel_mem]
    constructor
    · rintro ⟨⟨h1, h2⟩, h3⟩
      exact ⟨h1, fun y hy => by
        rcases List.mem_cons.1 hy with rfl | hy
        · exact fun e => h2 e.symm
        · exact h3 y hy⟩
    · rintro ⟨h1, h2⟩
      exact ⟨⟨h1, fun e => h2 x (by simp) e.symm⟩, fun y hy => h2 y (by simp [hy])⟩
theorem delMade_mem (l : List (Int × Nat)) (ml : List Mov) (p : Int × Nat) : p ∈ delMade l ml ↔ p ∈ l ∧ ∀ m ∈ ml, m.kind = 1 → m.id ≠ p.1 := by
  unfold delMade
  induction ml generalizing l with
  | nil => simp
  | cons x r ih =>
    rw [List.foldl_cons, ih]
    by_cases hk : x.kind = 1
    · rw [if_pos hk, ptrDel_mem]
      constructor
      · rintro ⟨⟨h1, h2⟩, h3⟩
        exact ⟨h1, fun y hy => by
          rcases List.mem_cons.1 hy with rfl | hy
          · exact fun _ e => h2 e.symm
          · exact h3 y hy⟩
      · rintro ⟨h1, h2⟩
        exact ⟨⟨h1, fun e => h2 x (by simp) hk e.symm⟩, fun y hy => h2 y (by simp [hy])⟩
    · rw [if_neg hk]
      constructor
      · rintro ⟨h1, h3⟩
        exact ⟨h1, fun y hy => by
          rcases List.mem_cons.1 hy with rfl | hy
          · exact fun e => absurd e hk
          · exact h3 y hy⟩
      · rintro ⟨h1, h2⟩
        exact ⟨h1, fun y hy => h2 y (by simp [hy])⟩
theorem prs_keys {ns : List Nod} {gs : List Nat} (hl : gs.length = ns.length) (id : Int) : (∃ p ∈ prs ns gs, p.1 = id) ↔ ∃ x ∈ ns, x.id = id := by
  constructor
  · rintro ⟨p, hp, rfl⟩
    exact prs_mem hp
  · rintro ⟨x, hx, rfl⟩
    obtain ⟨j, hj, rfl⟩ := List.getElem_of_mem hx
    refine ⟨(ns[j].id, gs[j]'(by omega)), ?_, rfl⟩
    unfold prs
    rw [List.mem_iff_getElem]
    exact ⟨j, by rw [List.length_zip, List.length_map]; omega, by rw [List.getElem_zip, List.getElem_map]⟩
theorem nodAt_some (ns : List Nod) (id : Int) : (nodAt ns id).isSome = true ↔ ∃ x ∈ ns, x.id = id := by
  unfold nodAt
  rw [List.findIdx?_isSome, List.any_eq_true]
  simp only [decide_eq_true_eq]
theorem linked_iff (l : List Lnk) (id : Int) : linked l id = true ↔ ∃ x ∈ l, x.id = id := by
  unfold linked
  rw [List.any_eq_true]
  simp only [decide_eq_true_eq]
theorem made_iff (l : List Mov) (id : Int) : made l id = true ↔ ∃ m ∈ l, m.kind = 1 ∧ m.id = id := by
  unfold made
  rw [List.any_eq_true]
  simp only [Bool.and_eq_true, decide_eq_true_eq]
/-- What a link finds left. -/
theorem left_dir {ns : List Nod} {gs : List Nat} (hl : gs.length = ns.length) (dl : List Lnk) (id : Int) : (ptrAt (delAll (prs ns gs) dl) id).isSome = ((nodAt ns id).isSome && !linked dl id) := by
  rw [Bool.eq_iff_iff, ptrAt_some, Bool.and_eq_true, nodAt_some, Bool.not_eq_true', ← prs_keys hl id]
  constructor
  · rintro ⟨p, hp, rfl⟩
    rw [delAll_mem] at hp
    refine ⟨⟨p, hp.1, rfl⟩, ?_⟩
    cases e : linked dl p.1 with
    | false => rfl
    | true =>
      obtain ⟨x, hx, h⟩ := (linked_iff _ _).1 e
      exact absurd h (hp.2 x hx)
  · rintro ⟨⟨p, hp, rfl⟩, h⟩
    refine ⟨p, (delAll_mem _ _ _).2 ⟨hp, fun x hx e => ?_⟩, rfl⟩
    rw [(linked_iff _ _).2 ⟨x, hx, e⟩] at h
    cases h
/-- What a move finds left. -/
theorem left_mov {ns : List Nod} {gs : List Nat} (hl : gs.length = ns.length) (dl : List Lnk) (ml : List Mov) (id : Int) : (ptrAt (delMade (delAll (prs ns gs) dl) ml) id).isSome = ((nodAt ns id).isSome && !linked dl id && !made ml id) := by
  rw [← left_dir hl, Bool.eq_iff_iff, ptrAt_some, Bool.and_eq_true, ptrAt_some, Bool.not_eq_true']
  constructor
  · rintro ⟨p, hp, rfl⟩
    rw [delMade_mem] at hp
    refine ⟨⟨p, hp.1, rfl⟩, ?_⟩
    cases e : made ml p.1 with
    | false => rfl
    | true =>
      obtain ⟨x, hx, hk, h⟩ := (made_iff _ _).1 e
      exact absurd h (hp.2 x hx hk)
  · rintro ⟨⟨p, hp, rfl⟩, h⟩
    refine ⟨p, (delMade_mem _ _ _).2 ⟨hp, fun x hx hk e => ?_⟩, rfl⟩
    rw [(made_iff _ _).2 ⟨x, hx, hk, e⟩] at h
    cases h
theorem left_none {ns : List Nod} {gs : List Nat} (hl : gs.length = ns.length) (dl : List Lnk) (ml : List Mov) : (delMade (delAll (prs ns gs) dl) ml).length = 0 ↔ ∀ x ∈ ns, linked dl x.id = true ∨ made ml x.id = true := by
  constructor
  · intro h x hx
    have hn := List.eq_nil_of_length_eq_zero h
    have h1 := left_mov hl dl ml x.id
    rw [hn, show (ptrAt [] x.id).isSome = false from rfl, (nodAt_some ns x.id).2 ⟨x, hx, rfl⟩] at h1
    cases e1 : linked dl x.id <;> cases e2 : made ml x.id <;> simp_all
  · intro h
    rcases e : delMade (delAll (prs ns gs) dl) ml with _ | ⟨p, r⟩
    · rfl
    · have hp : p ∈ delMade (delAll (prs ns gs) dl) ml := by rw [e]; simp
      rw [delMade_mem, delAll_mem] at hp
      obtain ⟨x, hx, hi⟩ := prs_mem hp.1.1
      rcases h x hx with k | k
      · obtain ⟨y, hy, e⟩ := (linked_iff _ _).1 k
        exact absurd (e.trans hi) (hp.1.2 y hy)
      · obtain ⟨y, hy, hk, e⟩ := (made_iff _ _).1 k
        exact absurd (e.trans hi) (hp.2 y hy hk)
/-- Links that are all taken are no more than the inodes. -/
theorem dir_few {l0 : List (Int × Nat)} {dl : List Lnk} {k : Nat} (hk : k ≤ dl.length) (h : ∀ j, j < k → dirGood l0 dl j = true) : (delAll l0 (dl.take k)).length + k ≤ l0.length := by
  induction k with
  | zero =>
    rw [List.take_zero]
    exact Nat.le_refl _
  | succ k ih =>
    have h1 := ih (by omega) fun j hj => h j (by omega)
    have h2 := h k (by omega)
    unfold dirGood at h2
    rw [Bool.and_eq_true] at h2
    have h3 := ptrDel_len ((ptrAt_some _ _).1 h2.2)
    rw [take_getD dl k (by omega), delAll_snoc]
    omega
theorem all_of {n : Nat} {p : Nat → Bool} (h : (List.range n).all p = true) : ∀ j, j < n → p j = true := fun j hj => List.all_eq_true.1 h j (List.mem_range.2 hj)
structure Whole (d : Dsk) : Prop where
  size : sizeOk d = true
  nod : ∀ j, j < d.nods.length → nodGood d j = true
  lnk : ∀ j, j < d.dir.length → lnkGood d j = true
  mov : ∀ j, j < d.movs.length → movGood d j = true
theorem whole_iff (d : Dsk) : diskOk d = true ↔ Whole d := by
  unfold diskOk
  simp only [Bool.and_eq_true]
  constructor
  · rintro ⟨⟨⟨a, b⟩, c⟩, e⟩
    exact ⟨a, all_of b, all_of c, all_of e⟩
  · rintro ⟨a, b, c, e⟩
    exact ⟨⟨⟨a, range_yes b⟩, range_yes c⟩, range_yes e⟩
theorem take_of_whole {d : Dsk} (h : Whole d) : takeOk d.room d.next d.nods = true := by
  have hR := (sizeOk_iff d).1 h.size
  unfold takeOk
  rw [decide_eq_true hR.n, decide_eq_true hR.b, all_yes]
  · rfl
  · intro k hk
    have hg := h.nod k hk
    unfold nodGood at hg
    simp only [Bool.and_eq_true, decide_eq_true_eq, Bool.not_eq_true', Bool.and_eq_false_iff, decide_eq_false_iff_not] at hg
    obtain ⟨⟨⟨⟨a, b⟩, c, e⟩, f⟩, _⟩ := hg
    unfold goodAt
    simp only [Bool.and_eq_true, Bool.not_eq_true', decide_eq_false_iff_not]
    refine ⟨⟨⟨?_, by omega⟩, by omega⟩, by omega⟩
    cases k with
    | zero => show ¬ _ ≤ (0 : Int); omega
    | succ k =>
      show ¬ _ ≤ (d.nods.getD k default).id
      rcases f with f | f
      · omega
      · simpa using f
theorem dir_of_whole {d : Dsk} {gs : List Nat} (hl : gs.length = d.nods.length) (h : Whole d) : dirOk (prs d.nods gs) d.dir = true := by
  unfold dirOk
  refine all_yes fun k hk => ?_
  have hg := h.lnk k hk
  unfold lnkGood at hg
  simp only [Bool.and_eq_true, Bool.not_eq_true', Bool.and_eq_false_iff, decide_eq_false_iff_not] at hg
  obtain ⟨⟨⟨a, b⟩, c⟩, e⟩ := hg
  unfold dirGood
  rw [left_dir hl, a, c, e]
  have hah : ahead (lastName d.dir k) (d.dir.getD k default).name = true := by
    cases k with
    | zero =>
      cases e : ahead (lastName d.dir 0) (d.dir.getD 0 default).name with
      | true => rfl
      | false =>
        have := ahead_empty e
        unfold nameOk at a
        simp only [Bool.and_eq_true, decide_eq_true_eq] at a
        omega
    | succ k =>
      rcases b with b | b
      · omega
      · show ahead (d.dir.getD k default).name (d.dir.getD (k + 1) default).name = true
        simpa using b
  rw [ahead_asymm hah, decide_eq_false (fun e => ahead_ne hah e.symm)]
  rfl
theorem mov_of_whole {d : Dsk} {gs : List Nat} (hl : gs.length = d.nods.length) (h : Whole d) : mvOk d.dir (delAll (prs d.nods gs) d.dir) d.movs = true := by
  have hR := (sizeOk_iff d).1 h.size
  refine mvOk_yes hR.m fun k hk => ?_
  have hg := h.mov k hk
  unfold movGood at hg
  unfold mvGood
  rw [Bool.and_eq_true] at hg ⊢
  refine ⟨?_, hg.2⟩
  rw [← hg.1]
  congr 2
  have := left_mov hl d.dir (d.movs.take k) (d.movs.getD k default).id
  rw [← Option.not_isSome, this, ← Option.not_isSome]
  cases (nodAt d.nods (d.movs.getD k default).id).isSome <;> cases linked d.dir (d.movs.getD k default).id <;> cases made (d.movs.take k) (d.movs.getD k default).id <;> rfl
theorem left_of_whole {d : Dsk} {gs : List Nat} (hl : gs.length = d.nods.length) (h : Whole d) : (delMade (delAll (prs d.nods gs) d.dir) d.movs).length = 0 := by
  rw [left_none hl]
  intro x hx
  obtain ⟨k, hk, rfl⟩ := List.getElem_of_mem hx
  have hg := h.nod k hk
  unfold nodGood at hg
  rw [Bool.and_eq_true, Bool.or_eq_true] at hg
  rw [getD_at d.nods k hk]
  exact hg.2
theorem whole_of {d : Dsk} {gs : List Nat} (hl : gs.length = d.nods.length) (r0 : 0 ≤ d.room) (r1 : d.room ≤ 1048576) (x0 : 1 ≤ d.next) (x1 : d.next ≤ 1000000) (h1 : takeOk d.room d.next d.nods = true) (h2 : dirOk (prs d.nods gs) d.dir = true)
    (h3 : mvOk d.dir (delAll (prs d.nods gs) d.dir) d.movs = true) (h4 : (delMade (delAll (prs d.nods gs) d.dir) d.movs).length = 0) : Whole d := by
  unfold takeOk at h1
  simp only [Bool.and_eq_true, decide_eq_true_eq] at h1
  obtain ⟨⟨n10, hall⟩, hby⟩ := h1
  have hn := all_of hall
  have hd := all_of h2
  unfold mvOk at h3
  simp only [Bool.and_eq_true, decide_eq_true_eq] at h3
  obtain ⟨m20, hm⟩ := h3
  have hm := all_of hm
  have hfew := dir_few (Nat.le_refl _) hd
  rw [prs_length hl] at hfew
  have hR : Right d := ⟨r0, r1, x0, x1, n10, m20, by omega, hby⟩
  refine ⟨(sizeOk_iff d).2 hR, fun k hk => ?_, fun k hk => ?_, fun k hk => ?_⟩
  · have hg := hn k hk
    have hlast := lastId_nonneg (ns := d.nods) (next := d.next) (k := k) fun j hj => hn j (by omega)
    unfold goodAt at hg
    simp only [Bool.and_eq_true, Bool.not_eq_true', decide_eq_false_iff_not] at hg
    obtain ⟨⟨⟨a, b⟩, c⟩, e⟩ := hg
    have hlm := (left_none hl d.dir d.movs).1 h4 _ (getD_mem d.nods k hk)
    unfold nodGood
    simp only [Bool.and_eq_true, decide_eq_true_eq, Bool.not_eq_true', Bool.and_eq_false_iff, decide_eq_false_iff_not, Bool.or_eq_true]
    refine ⟨⟨⟨⟨by omega, by omega⟩, by omega, by omega⟩, ?_⟩, hlm⟩
    cases k with
    | zero => exact .inl (by omega)
    | succ k =>
      refine .inr ?_
      have a' : ¬ (d.nods.getD (k + 1) default).id ≤ (d.nods.getD k default).id := a
      simpa using a'
  · have hg := hd k hk
    have hah := dirGood_gt hg
    unfold dirGood at hg
    rw [Bool.and_eq_true, Bool.and_eq_true, left_dir hl, Bool.and_eq_true] at hg
    unfold lnkGood
    rw [hg.1.1, hg.2.1, hg.2.2]
    cases k with
    | zero => rfl
    | succ k =>
      have : ahead (d.dir.getD k default).name (d.dir.getD (k + 1) default).name = true := hah
      simp only [Nat.add_sub_cancel]
      rw [this]
      simp
  · have hg := hm k hk
    unfold mvGood at hg
    rw [Bool.and_eq_true] at hg
    unfold movGood
    rw [Bool.and_eq_true]
    refine ⟨?_, hg.2⟩
    rw [← hg.1]
    congr 2
    have := left_mov hl d.dir (d.movs.take k) (d.movs.getD k default).id
    rw [← Option.not_isSome, ← Option.not_isSome, this]
    cases (nodAt d.nods (d.movs.getD k default).id).isSome <;> cases linked d.dir (d.movs.getD k default).id <;> cases made (d.movs.take k) (d.movs.getD k default).id <;> rfl
theorem diskOk_not {d : Dsk} (h : ¬ Whole d) : diskOk d = false := by
  cases e : diskOk d with
  | false => rfl
  | true => exact absurd ((whole_iff d).1 e) h
theorem NamesOk.of_dir {l0 : List (Int × Nat)} {dl : List Lnk} (h : dirOk l0 dl = true) : NamesOk dl := fun x hx => by
  obtain ⟨k, hk, rfl⟩ := List.getElem_of_mem hx
  have hg := all_of h k hk
  unfold dirGood at hg
  simp only [Bool.and_eq_true] at hg
  rw [getD_at dl k hk]
  exact hg.1.1
theorem dir_len {l0 : List (Int × Nat)} {dl : List Lnk} (h : dirOk l0 dl = true) : dl.length ≤ l0.length := by
  have := dir_few (Nat.le_refl _) (all_of h)
  omega
end Go.Proofs.YtnnfnhpehacelaaGreat
