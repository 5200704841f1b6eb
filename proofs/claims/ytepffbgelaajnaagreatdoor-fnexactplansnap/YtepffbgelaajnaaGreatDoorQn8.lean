/- ImOpenA DkToD DkEq ImOpen -/
import Derived.Test.YtepffbgelaajnaaGreatDoorQn7
import Derived.Test.YtepffbgelaajnaaGreatDoorRows
import Derived.Test.YtepffbgelaajnaaGreatDoorQn2
import Derived.Test.YtepffbgelaajnaaGreatDoorQn1
import Derived.Deep.RegionWith
namespace Go.Proofs.YtepffbgelaajnaaGreatDoor
open Go.RowKit Go.PlainAid
theorem ptrAt_some (l : List (Int × Nat)) (id : Int) : (ptrAt l id).isSome = true ↔ ∃ p ∈ l, p.1 = id := by
 unfold ptrAt
 rw [Option.isSome_map, List.find?_isSome]
 simp only [decide_eq_true_eq]
theorem ptrDel_mem (l : List (Int × Nat)) (id : Int) (p : Int × Nat) : p ∈ ptrDel l id ↔ p ∈ l ∧ p.1 ≠ id := by
 unfold ptrDel
 rw [List.mem_filter]
 simp only [decide_eq_true_eq]
theorem ptrDel_len {l : List (Int × Nat)} {id : Int} (h : ∃ p ∈ l, p.1 = id) : (ptrDel l id).length + 1 ≤ l.length := by
 induction l with
 | nil =>
  obtain ⟨p, hp, _⟩ := h
  cases hp
 | cons q r ih =>
  unfold ptrDel
  rw [List.filter_cons]
  by_cases e : q.1 = id
  ·rw [if_neg (by simp [e])]
   have := List.length_filter_le (fun p : Int × Nat => decide (p.1 ≠ id)) r
   simp only [List.length_cons]
   omega
  ·rw [if_pos (by simp [e])]
   obtain ⟨p, hp, hi⟩ := h
   rcases List.mem_cons.1 hp with rfl | hp
   ·exact absurd hi e
   ·have := ih ⟨p, hp, hi⟩
    unfold ptrDel at this
    simp only [List.length_cons]
    omega
theorem delAll_mem (l : List (Int × Nat)) (dl : List Lnk) (p : Int × Nat) : p ∈ delAll l dl ↔ p ∈ l ∧ ∀ x ∈ dl, x.id ≠ p.1 := by
 unfold delAll
 induction dl generalizing l with
 | nil => simp
 | cons x r ih =>
  rw [List.foldl_cons, ih, ptrDel_mem]
  constructor
  ·rintro ⟨⟨h1, h2⟩, h3⟩
   exact ⟨h1, fun y hy => by
    rcases List.mem_cons.1 hy with rfl | hy
    ·exact fun e => h2 e.symm
    ·exact h3 y hy⟩
  ·rintro ⟨h1, h2⟩
   exact ⟨⟨h1, fun e => h2 x (by simp) e.symm⟩, fun y hy => h2 y (by simp [hy])⟩
theorem delMade_mem (l : List (Int × Nat)) (ml : List Mov) (p : Int × Nat) : p ∈ delMade l ml ↔ p ∈ l ∧ ∀ m ∈ ml, m.kind = 1 → m.id ≠ p.1 := by
 unfold delMade
 induction ml generalizing l with
 | nil => simp
 | cons x r ih =>
  rw [List.foldl_cons, ih]
  by_cases hk : x.kind = 1
  ·rw [if_pos hk, ptrDel_mem]
   constructor
   ·rintro ⟨⟨h1, h2⟩, h3⟩
    exact ⟨h1, fun y hy => by
     rcases List.mem_cons.1 hy with rfl | hy
     ·exact fun _ e => h2 e.symm
     ·exact h3 y hy⟩
   ·rintro ⟨h1, h2⟩
    exact ⟨⟨h1, fun e => h2 x (by simp) hk e.symm⟩, fun y hy => h2 y (by simp [hy])⟩
  ·rw [if_neg hk]
   constructor
   ·rintro ⟨h1, h3⟩
    exact ⟨h1, fun y hy => by
     rcases List.mem_cons.1 hy with rfl | hy
     ·exact fun e => absurd e hk
     ·exact h3 y hy⟩
   ·rintro ⟨h1, h2⟩
    exact ⟨h1, fun y hy => h2 y (by simp [hy])⟩
theorem prs_keys {ns : List Nod} {gs : List Nat} (hl : gs.length = ns.length) (id : Int) : (∃ p ∈ prs ns gs, p.1 = id) ↔ ∃ x ∈ ns, x.id = id := by
 constructor
 ·rintro ⟨p, hp, rfl⟩
  exact prs_mem hp
 ·rintro ⟨x, hx, rfl⟩
  obtain ⟨j, hj, rfl⟩ := List.getElem_of_mem hx
  refine ⟨(ns[j].id, gs[j]'(by omega)), ?_, rfl⟩
  unfold prs
  rw [List.mem_iff_getElem]
  exact ⟨j, by rw [List.length_zip, List.length_map]; omega, by rw [List.getElem_zip, List.getElem_map]⟩
theorem nodAt_some (ns : List Nod) (id : Int) : (nodAt ns id).isSome = true ↔ ∃ x ∈ ns, x.id = id := by
 unfold nodAt
 rw [List.findIdx?_isSome, List.any_eq_true]
 simp only [decide_eq_true_eq]
theorem linked_iff (l : List Lnk) (id : Int) : linked l id = true ↔ ∃ x ∈ l, x.id = id := by
 unfold linked
 rw [List.any_eq_true]
 simp only [decide_eq_true_eq]
theorem made_iff (l : List Mov) (id : Int) : made l id = true ↔ ∃ m ∈ l, m.kind = 1 ∧ m.id = id := by
 unfold made
 rw [List.any_eq_true]
 simp only [Bool.and_eq_true, decide_eq_true_eq]
theorem left_dir {ns : List Nod} {gs : List Nat} (hl : gs.length = ns.length) (dl : List Lnk) (id : Int) : (ptrAt (delAll (prs ns gs) dl) id).isSome = ((nodAt ns id).isSome && !linked dl id) := by
 rw [Bool.eq_iff_iff, ptrAt_some, Bool.and_eq_true, nodAt_some, Bool.not_eq_true', ← prs_keys hl id]
 constructor
 ·rintro ⟨p, hp, rfl⟩
  rw [delAll_mem] at hp
  refine ⟨⟨p, hp.1, rfl⟩, ?_⟩
  cases e : linked dl p.1 with
  | false => rfl
  | true =>
   obtain ⟨x, hx, h⟩ := (linked_iff _ _).1 e
   exact absurd h (hp.2 x hx)
 ·rintro ⟨⟨p, hp, rfl⟩, h⟩
  refine ⟨p, (delAll_mem _ _ _).2 ⟨hp, fun x hx e => ?_⟩, rfl⟩
  rw [(linked_iff _ _).2 ⟨x, hx, e⟩] at h
  cases h
theorem left_mov {ns : List Nod} {gs : List Nat} (hl : gs.length = ns.length) (dl : List Lnk) (ml : List Mov) (id : Int) : (ptrAt (delMade (delAll (prs ns gs) dl) ml) id).isSome = ((nodAt ns id).isSome && !linked dl id && !made ml id) := by
 rw [← left_dir hl, Bool.eq_iff_iff, ptrAt_some, Bool.and_eq_true, ptrAt_some, Bool.not_eq_true']
 constructor
 ·rintro ⟨p, hp, rfl⟩
  rw [delMade_mem] at hp
  refine ⟨⟨p, hp.1, rfl⟩, ?_⟩
  cases e : made ml p.1 with
  | false => rfl
  | true =>
   obtain ⟨x, hx, hk, h⟩ := (made_iff _ _).1 e
   exact absurd h (hp.2 x hx hk)
 ·rintro ⟨⟨p, hp, rfl⟩, h⟩
  refine ⟨p, (delMade_mem _ _ _).2 ⟨hp, fun x hx hk e => ?_⟩, rfl⟩
  rw [(made_iff _ _).2 ⟨x, hx, hk, e⟩] at h
  cases h
theorem left_none {ns : List Nod} {gs : List Nat} (hl : gs.length = ns.length) (dl : List Lnk) (ml : List Mov) : (delMade (delAll (prs ns gs) dl) ml).length = 0 ↔ ∀ x ∈ ns, linked dl x.id = true ∨ made ml x.id = true := by
 constructor
 ·intro h x hx
  have hn := List.eq_nil_of_length_eq_zero h
  have h1 := left_mov hl dl ml x.id
  rw [hn, show (ptrAt [] x.id).isSome = false from rfl, (nodAt_some ns x.id).2 ⟨x, hx, rfl⟩] at h1
  cases e1 : linked dl x.id <;> cases e2 : made ml x.id <;> simp_all
 ·intro h
  rcases e : delMade (delAll (prs ns gs) dl) ml with _ | ⟨p, r⟩
  ·rfl
  ·have hp : p ∈ delMade (delAll (prs ns gs) dl) ml := by rw [e]; simp
   rw [delMade_mem, delAll_mem] at hp
   obtain ⟨x, hx, hi⟩ := prs_mem hp.1.1
   rcases h x hx with k | k
   ·obtain ⟨y, hy, e⟩ := (linked_iff _ _).1 k
    exact absurd (e.trans hi) (hp.1.2 y hy)
   ·obtain ⟨y, hy, hk, e⟩ := (made_iff _ _).1 k
    exact absurd (e.trans hi) (hp.2 y hy hk)
theorem dir_few {l0 : List (Int × Nat)} {dl : List Lnk} {k : Nat} (hk : k ≤ dl.length) (h : ∀ j, j < k → dirGood l0 dl j = true) : (delAll l0 (dl.take k)).length + k ≤ l0.length := by
 induction k with
 | zero =>
  rw [List.take_zero]
  exact Nat.le_refl _
 | succ k ih =>
  have h1 := ih (by omega) fun j hj => h j (by omega)
  have h2 := h k (by omega)
  unfold dirGood at h2
  rw [Bool.and_eq_true] at h2
  have h3 := ptrDel_len ((ptrAt_some _ _).1 h2.2)
  rw [take_getD dl k (by omega), delAll_snoc]
  omega
theorem all_of {n : Nat} {p : Nat → Bool} (h : (List.range n).all p = true) : ∀ j, j < n → p j = true := fun j hj => List.all_eq_true.1 h j (List.mem_range.2 hj)
structure Whole (d : Dsk) : Prop where
 size : sizeOk d = true
 nod : ∀ j, j < d.nods.length → nodGood d j = true
 lnk : ∀ j, j < d.dir.length → lnkGood d j = true
 mov : ∀ j, j < d.movs.length → movGood d j = true
theorem whole_iff (d : Dsk) : diskOk d = true ↔ Whole d := by
 unfold diskOk
 simp only [Bool.and_eq_true]
 constructor
 ·rintro ⟨⟨⟨a, b⟩, c⟩, e⟩
  exact ⟨a, all_of b, all_of c, all_of e⟩
 ·rintro ⟨a, b, c, e⟩
  exact ⟨⟨⟨a, range_yes b⟩, range_yes c⟩, range_yes e⟩
theorem take_of_whole {d : Dsk} (h : Whole d) : takeOk d.room d.next d.nods = true := by
 have hR := (sizeOk_iff d).1 h.size
 unfold takeOk
 rw [decide_eq_true hR.n, decide_eq_true hR.b, all_yes]
 ·rfl
 ·intro k hk
  have hg := h.nod k hk
  unfold nodGood at hg
  simp only [Bool.and_eq_true, decide_eq_true_eq, Bool.not_eq_true', Bool.and_eq_false_iff, decide_eq_false_iff_not] at hg
  obtain ⟨⟨⟨⟨a, b⟩, c, e⟩, f⟩, _⟩ := hg
  unfold goodAt
  simp only [Bool.and_eq_true, Bool.not_eq_true', decide_eq_false_iff_not]
  refine ⟨⟨⟨?_, by omega⟩, by omega⟩, by omega⟩
  cases k with
  | zero => show ¬ _ ≤ (0 : Int); omega
  | succ k =>
   show ¬ _ ≤ (d.nods.getD k default).id
   rcases f with f | f
   ·omega
   ·simpa using f
theorem dir_of_whole {d : Dsk} {gs : List Nat} (hl : gs.length = d.nods.length) (h : Whole d) : dirOk (prs d.nods gs) d.dir = true := by
 unfold dirOk
 refine all_yes fun k hk => ?_
 have hg := h.lnk k hk
 unfold lnkGood at hg
 simp only [Bool.and_eq_true, Bool.not_eq_true', Bool.and_eq_false_iff, decide_eq_false_iff_not] at hg
 obtain ⟨⟨⟨a, b⟩, c⟩, e⟩ := hg
 unfold dirGood
 rw [left_dir hl, a, c, e]
 have hah : ahead (lastName d.dir k) (d.dir.getD k default).name = true := by
  cases k with
  | zero =>
   cases e : ahead (lastName d.dir 0) (d.dir.getD 0 default).name with
   | true => rfl
   | false =>
    have := ahead_empty e
    unfold nameOk at a
    simp only [Bool.and_eq_true, decide_eq_true_eq] at a
    omega
  | succ k =>
   rcases b with b | b
   ·omega
   ·show ahead (d.dir.getD k default).name (d.dir.getD (k + 1) default).name = true
    simpa using b
 rw [ahead_asymm hah, decide_eq_false (fun e => ahead_ne hah e.symm)]
 rfl
theorem mov_of_whole {d : Dsk} {gs : List Nat} (hl : gs.length = d.nods.length) (h : Whole d) : mvOk d.dir (delAll (prs d.nods gs) d.dir) d.movs = true := by
 have hR := (sizeOk_iff d).1 h.size
 refine mvOk_yes hR.m fun k hk => ?_
 have hg := h.mov k hk
 unfold movGood at hg
 unfold mvGood
 rw [Bool.and_eq_true] at hg ⊢
 refine ⟨?_, hg.2⟩
 rw [← hg.1]
 congr 2
 have := left_mov hl d.dir (d.movs.take k) (d.movs.getD k default).id
 rw [← Option.not_isSome, this, ← Option.not_isSome]
 cases (nodAt d.nods (d.movs.getD k default).id).isSome <;> cases linked d.dir (d.movs.getD k default).id <;> cases made (d.movs.take k) (d.movs.getD k default).id <;> rfl
theorem left_of_whole {d : Dsk} {gs : List Nat} (hl : gs.length = d.nods.length) (h : Whole d) : (delMade (delAll (prs d.nods gs) d.dir) d.movs).length = 0 := by
 rw [left_none hl]
 intro x hx
 obtain ⟨k, hk, rfl⟩ := List.getElem_of_mem hx
 have hg := h.nod k hk
 unfold nodGood at hg
 rw [Bool.and_eq_true, Bool.or_eq_true] at hg
 rw [getD_at d.nods k hk]
 exact hg.2
theorem whole_of {d : Dsk} {gs : List Nat} (hl : gs.length = d.nods.length) (r0 : 0 ≤ d.room) (r1 : d.room ≤ 1048576) (x0 : 1 ≤ d.next) (x1 : d.next ≤ 1000000) (h1 : takeOk d.room d.next d.nods = true) (h2 : dirOk (prs d.nods gs) d.dir = true)
  (h3 : mvOk d.dir (delAll (prs d.nods gs) d.dir) d.movs = true) (h4 : (delMade (delAll (prs d.nods gs) d.dir) d.movs).length = 0) : Whole d := by
 unfold takeOk at h1
 simp only [Bool.and_eq_true, decide_eq_true_eq] at h1
 obtain ⟨⟨n10, hall⟩, hby⟩ := h1
 have hn := all_of hall
 have hd := all_of h2
 unfold mvOk at h3
 simp only [Bool.and_eq_true, decide_eq_true_eq] at h3
 obtain ⟨m20, hm⟩ := h3
 have hm := all_of hm
 have hfew := dir_few (Nat.le_refl _) hd
 rw [prs_length hl] at hfew
 have hR : Right d := ⟨r0, r1, x0, x1, n10, m20, by omega, hby⟩
 refine ⟨(sizeOk_iff d).2 hR, fun k hk => ?_, fun k hk => ?_, fun k hk => ?_⟩
 ·have hg := hn k hk
  have hlast := lastId_nonneg (ns := d.nods) (next := d.next) (k := k) fun j hj => hn j (by omega)
  unfold goodAt at hg
  simp only [Bool.and_eq_true, Bool.not_eq_true', decide_eq_false_iff_not] at hg
  obtain ⟨⟨⟨a, b⟩, c⟩, e⟩ := hg
  have hlm := (left_none hl d.dir d.movs).1 h4 _ (getD_mem d.nods k hk)
  unfold nodGood
  simp only [Bool.and_eq_true, decide_eq_true_eq, Bool.not_eq_true', Bool.and_eq_false_iff, decide_eq_false_iff_not, Bool.or_eq_true]
  refine ⟨⟨⟨⟨by omega, by omega⟩, by omega, by omega⟩, ?_⟩, hlm⟩
  cases k with
  | zero => exact .inl (by omega)
  | succ k =>
   refine .inr ?_
   have a' : ¬ (d.nods.getD (k + 1) default).id ≤ (d.nods.getD k default).id := a
   simpa using a'
 ·have hg := hd k hk
  have hah := dirGood_gt hg
  unfold dirGood at hg
  rw [Bool.and_eq_true, Bool.and_eq_true, left_dir hl, Bool.and_eq_true] at hg
  unfold lnkGood
  rw [hg.1.1, hg.2.1, hg.2.2]
  cases k with
  | zero => rfl
  | succ k =>
   have : ahead (d.dir.getD k default).name (d.dir.getD (k + 1) default).name = true := hah
   simp only [Nat.add_sub_cancel]
   rw [this]
   simp
 ·have hg := hm k hk
  unfold mvGood at hg
  rw [Bool.and_eq_true] at hg
  unfold movGood
  rw [Bool.and_eq_true]
  refine ⟨?_, hg.2⟩
  rw [← hg.1]
  congr 2
  have := left_mov hl d.dir (d.movs.take k) (d.movs.getD k default).id
  rw [← Option.not_isSome, ← Option.not_isSome, this]
  cases (nodAt d.nods (d.movs.getD k default).id).isSome <;> cases linked d.dir (d.movs.getD k default).id <;> cases made (d.movs.take k) (d.movs.getD k default).id <;> rfl
theorem diskOk_not {d : Dsk} (h : ¬ Whole d) : diskOk d = false := by
 cases e : diskOk d with
 | false => rfl
 | true => exact absurd ((whole_iff d).1 e) h
theorem NamesOk.of_dir {l0 : List (Int × Nat)} {dl : List Lnk} (h : dirOk l0 dl = true) : NamesOk dl := fun x hx => by
 obtain ⟨k, hk, rfl⟩ := List.getElem_of_mem hx
 have hg := all_of h k hk
 unfold dirGood at hg
 simp only [Bool.and_eq_true] at hg
 rw [getD_at dl k hk]
 exact hg.1.1
theorem dir_len {l0 : List (Int × Nat)} {dl : List Lnk} (h : dirOk l0 dl = true) : dl.length ≤ l0.length := by
 have := dir_few (Nat.le_refl _) (all_of h)
 omega
end Go.Proofs.YtepffbgelaajnaaGreatDoor
namespace Go.Proofs.YtepffbgelaajnaaGreatDoor
open Go.ChangeShapes Go.WideShapes Go.ChangeAt Go.RowKit Go.PlainAid
set_option linter.unusedVariables false
set_option maxHeartbeats 2000000 in
theorem toDisk (d : Dsk) (v : Value) (w : World) (B : Nat) (hv : DiskV w B v d) (hw : wtD d ≤ 1048576) (hB : B ≤ w.heap.size) :
  Calls Tryz.prog 8 #[v] w fun e w' => ∃ u, e = .returned u ∧ DiskO w' w.heap.size u d ∧ Below w.heap.size w w' := by
 obtain ⟨v1, v2, v3, rfl, hn, hl, hm⟩ := hv
 unfold wtD at hw
 have HB : Hid (B ≤ w.heap.size) := hB
 have HN : Hid (Lies w B 3 v1 (nodR d.nods)) := hn
 have HL : Hid (Lies w B 2 v2 (lnkR d.dir)) := hl
 have HM : Hid (Lies w B 4 v3 (movR d.movs)) := hm
 have L1 : Hid (d.nods.length ≤ 1048576) := by unfold Hid; omega
 have L2 : Hid (d.dir.length ≤ 1048576) := by unfold Hid; omega
 have L3 : Hid (d.movs.length ≤ 1048576) := by unfold Hid; omega
 clear hn hl hm hw hB
 go_enter Tryz.func8, Tryz.ntmps8
 go_wp2_with fail
 have hb0 := below_alloc3 w (.cells #[.int .i64 d.room, .int .i64 d.next, v1, v2, v3] 26) (.cells #[.int .i64 0, .int .i64 0, .slice none 0 0, .slice none 0 0, .slice none 0 0] 38) (.cells #[.int .i64 d.room, .int .i64 d.next, .slice none 0 0, .slice none 0 0, .slice none 0 0] 38)
 have bA := ((Blk.new w #[.int .i64 d.room, .int .i64 d.next, v1, v2, v3] 26).alloc (.cells #[.int .i64 0, .int .i64 0, .slice none 0 0, .slice none 0 0, .slice none 0 0] 38)).alloc (.cells #[.int .i64 d.room, .int .i64 d.next, .slice none 0 0, .slice none 0 0, .slice none 0 0] 38)
 have bR := (Blk.new (w.alloc (.cells #[.int .i64 d.room, .int .i64 d.next, v1, v2, v3] 26)) #[.int .i64 0, .int .i64 0, .slice none 0 0, .slice none 0 0, .slice none 0 0] 38).alloc (.cells #[.int .i64 d.room, .int .i64 d.next, .slice none 0 0, .slice none 0 0, .slice none 0 0] 38)
 have bO := Blk.new ((w.alloc (.cells #[.int .i64 d.room, .int .i64 d.next, v1, v2, v3] 26)).alloc (.cells #[.int .i64 0, .int .i64 0, .slice none 0 0, .slice none 0 0, .slice none 0 0] 38)) #[.int .i64 d.room, .int .i64 d.next, .slice none 0 0, .slice none 0 0, .slice none 0 0] 38
 simp only [World.size_alloc] at bR bO
 generalize ((w.alloc (.cells #[.int .i64 d.room, .int .i64 d.next, v1, v2, v3] 26)).alloc (.cells #[.int .i64 0, .int .i64 0, .slice none 0 0, .slice none 0 0, .slice none 0 0] 38)).alloc (.cells #[.int .i64 d.room, .int .i64 d.next, .slice none 0 0, .slice none 0 0, .slice none 0 0] 38) = W at *
 have B0 : Hid (Below w.heap.size w W) := hb0
 have hlt := bO.lt
 clear hb0
 refine (toInodeS d.nods v1 W B (HN.out.on (B0.out.mono HB.out)) L1.out (Nat.le_trans HB.out B0.out.size)).mono ?_
 rintro e w2 ⟨u1, rfl, hO1, hb2⟩
 obtain ⟨A1, m1, k1, hu1⟩ := hO1.shape
 have B2 : Hid (Below w.heap.size w w2) := B0.out.trans (hb2.mono B0.out.size)
 have hA2 : Hid (Blk w2 w.heap.size #[.int .i64 d.room, .int .i64 d.next, v1, v2, v3] 26) := bA.on hb2 (by omega)
 have hR2 : Hid (Blk w2 (w.heap.size + 1) #[.int .i64 0, .int .i64 0, .slice none 0 0, .slice none 0 0, .slice none 0 0] 38) := bR.on hb2 (by omega)
 have hO2 : Hid (Blk w2 (w.heap.size + 1 + 1) #[.int .i64 d.room, .int .i64 d.next, .slice none 0 0, .slice none 0 0, .slice none 0 0] 38) := bO.on hb2 hlt
 have O1 : Hid (Owns w2 (w.heap.size + 1 + 1 + 1) 101 3 u1 (nodR d.nods)) := hO1.mono hlt
 have z2 : w.heap.size + 1 + 1 < w2.heap.size := hO2.out.lt
 clear bA bR bO hb2 hO1 hlt
 have e1 := hO2.out.cell 2 _ rfl
 have f1 := hO2.out.free 2
 have e2 := hA2.out.cell 3 _ rfl
 subst hu1
 go_wp2_with fail
 generalize hu1 : Value.slice A1 m1 k1 = u1 at *
 have B3 : Hid (Below w.heap.size w (w2.setCell ⟨w.heap.size + 1 + 1, 2, none⟩ u1)) := B2.out.setCell (show w.heap.size ≤ w.heap.size + 1 + 1 by omega) _
 have hA3 : Hid (Blk (w2.setCell ⟨w.heap.size + 1 + 1, 2, none⟩ u1) w.heap.size #[.int .i64 d.room, .int .i64 d.next, v1, v2, v3] 26) := hA2.out.other (by omega) _ _
 have hR3 : Hid (Blk (w2.setCell ⟨w.heap.size + 1 + 1, 2, none⟩ u1) (w.heap.size + 1) #[.int .i64 0, .int .i64 0, .slice none 0 0, .slice none 0 0, .slice none 0 0] 38) := hR2.out.other (by omega) _ _
 have hO3 : Hid (Blk (w2.setCell ⟨w.heap.size + 1 + 1, 2, none⟩ u1) (w.heap.size + 1 + 1) #[.int .i64 d.room, .int .i64 d.next, u1, .slice none 0 0, .slice none 0 0] 38) := hO2.out.set 2 u1
 have O13 : Hid (Owns (w2.setCell ⟨w.heap.size + 1 + 1, 2, none⟩ u1) (w.heap.size + 1 + 1 + 1) 101 3 u1 (nodR d.nods)) := O1.out.other (O1.out.below (by omega)) _ _
 clear e1 f1 e2 z2
 generalize w2.setCell ⟨w.heap.size + 1 + 1, 2, none⟩ u1 = w3 at *
 refine (toLinkS d.dir v2 w3 B (HL.out.on (B3.out.mono HB.out)) L2.out (Nat.le_trans HB.out B3.out.size)).mono ?_
 rintro e w4 ⟨u2, rfl, hP1, hb4⟩
 obtain ⟨A2, m2, k2, hu2⟩ := hP1.shape
 have z3 := hO3.out.lt
 have B4 : Hid (Below w.heap.size w w4) := B3.out.trans (hb4.mono B3.out.size)
 have hA4 : Hid (Blk w4 w.heap.size #[.int .i64 d.room, .int .i64 d.next, v1, v2, v3] 26) := hA3.out.on hb4 (by omega)
 have hR4 : Hid (Blk w4 (w.heap.size + 1) #[.int .i64 0, .int .i64 0, .slice none 0 0, .slice none 0 0, .slice none 0 0] 38) := hR3.out.on hb4 (by omega)
 have hO4 : Hid (Blk w4 (w.heap.size + 1 + 1) #[.int .i64 d.room, .int .i64 d.next, u1, .slice none 0 0, .slice none 0 0] 38) := hO3.out.on hb4 z3
 have O14 : Hid (Owns w4 (w.heap.size + 1 + 1 + 1) 101 3 u1 (nodR d.nods)) := O13.out.on hb4
 have O24 : Hid (Owns w4 (w.heap.size + 1 + 1 + 1) 104 2 u2 (lnkR d.dir)) := hP1.mono z3
 clear hP1 hb4 z3
 have e1 := hO4.out.cell 3 _ rfl
 have f1 := hO4.out.free 3
 have e2 := hA4.out.cell 4 _ rfl
 subst hu2
 subst hu1
 go_wp2_with fail
 generalize hu1 : Value.slice A1 m1 k1 = u1 at *
 generalize hu2 : Value.slice A2 m2 k2 = u2 at *
 have B5 : Hid (Below w.heap.size w (w4.setCell ⟨w.heap.size + 1 + 1, 3, none⟩ u2)) := B4.out.setCell (show w.heap.size ≤ w.heap.size + 1 + 1 by omega) _
 have hR5 : Hid (Blk (w4.setCell ⟨w.heap.size + 1 + 1, 3, none⟩ u2) (w.heap.size + 1) #[.int .i64 0, .int .i64 0, .slice none 0 0, .slice none 0 0, .slice none 0 0] 38) := hR4.out.other (by omega) _ _
 have hO5 : Hid (Blk (w4.setCell ⟨w.heap.size + 1 + 1, 3, none⟩ u2) (w.heap.size + 1 + 1) #[.int .i64 d.room, .int .i64 d.next, u1, u2, .slice none 0 0] 38) := hO4.out.set 3 u2
 have O15 : Hid (Owns (w4.setCell ⟨w.heap.size + 1 + 1, 3, none⟩ u2) (w.heap.size + 1 + 1 + 1) 101 3 u1 (nodR d.nods)) := O14.out.other (O14.out.below (by omega)) _ _
 have O25 : Hid (Owns (w4.setCell ⟨w.heap.size + 1 + 1, 3, none⟩ u2) (w.heap.size + 1 + 1 + 1) 104 2 u2 (lnkR d.dir)) := O24.out.other (O24.out.below (by omega)) _ _
 clear e1 f1 e2
 generalize w4.setCell ⟨w.heap.size + 1 + 1, 3, none⟩ u2 = w5 at *
 refine (toMoveS d.movs v3 w5 B (HM.out.on (B5.out.mono HB.out)) L3.out (Nat.le_trans HB.out B5.out.size)).mono ?_
 rintro e w6 ⟨u3, rfl, hQ1, hb6⟩
 obtain ⟨A3, m3, k3, hu3⟩ := hQ1.shape
 have S3 : Hid (u3 = .slice A3 m3 k3) := hu3
 have z5 := hO5.out.lt
 have B6 : Hid (Below w.heap.size w w6) := B5.out.trans (hb6.mono B5.out.size)
 have hR6 : Hid (Blk w6 (w.heap.size + 1) #[.int .i64 0, .int .i64 0, .slice none 0 0, .slice none 0 0, .slice none 0 0] 38) := hR5.out.on hb6 (by omega)
 have hO6 : Hid (Blk w6 (w.heap.size + 1 + 1) #[.int .i64 d.room, .int .i64 d.next, u1, u2, .slice none 0 0] 38) := hO5.out.on hb6 z5
 have O16 : Hid (Owns w6 (w.heap.size + 1 + 1 + 1) 101 3 u1 (nodR d.nods)) := O15.out.on hb6
 have O26 : Hid (Owns w6 (w.heap.size + 1 + 1 + 1) 104 2 u2 (lnkR d.dir)) := O25.out.on hb6
 have O36 : Hid (Owns w6 (w.heap.size + 1 + 1 + 1) 106 4 u3 (movR d.movs)) := hQ1.mono z5
 clear hQ1 hb6 z5
 have c0 := hO6.out.cell 0 _ rfl
 have c1 := hO6.out.cell 1 _ rfl
 have c2 := hO6.out.cell 2 _ rfl
 have c3 := hO6.out.cell 3 _ rfl
 have c4 := hO6.out.cell 4 _ rfl
 have f4 := hO6.out.free 4
 have r0 := hR6.out.cell 0 _ rfl
 have r1 := hR6.out.cell 1 _ rfl
 have r2 := hR6.out.cell 2 _ rfl
 have r3 := hR6.out.cell 3 _ rfl
 have r4 := hR6.out.cell 4 _ rfl
 have g0 := hR6.out.free 0
 have g1 := hR6.out.free 1
 have g2 := hR6.out.free 2
 have g3 := hR6.out.free 3
 have g4 := hR6.out.free 4
 subst hu3
 subst hu2
 subst hu1
 go_wp2_with fail
 have hF := ((((((hR6.out.other (show w.heap.size + 1 ≠ w.heap.size + 1 + 1 by omega) 4 (.slice A3 m3 k3)).set 0 (.int .i64 d.room)).set 1 (.int .i64 d.next)).set 2 (.slice A1 m1 k1)).set 3 (.slice A2 m2 k2)).set 4 (.slice A3 m3 k3))
 have F1 := (((((O16.out.other (O16.out.below (show w.heap.size + 1 + 1 < _ by omega)) 4 (.slice A3 m3 k3)).other (O16.out.below (show w.heap.size + 1 < _ by omega)) 0 (.int .i64 d.room)).other (O16.out.below (show w.heap.size + 1 < _ by omega)) 1 (.int .i64 d.next)).other (O16.out.below (show w.heap.size + 1 < _ by omega)) 2 (.slice A1 m1 k1)).other (O16.out.below (show w.heap.size + 1 < _ by omega)) 3 (.slice A2 m2 k2)).other (O16.out.below (show w.heap.size + 1 < _ by omega)) 4 (.slice A3 m3 k3)
 have F2 := (((((O26.out.other (O26.out.below (show w.heap.size + 1 + 1 < _ by omega)) 4 (.slice A3 m3 k3)).other (O26.out.below (show w.heap.size + 1 < _ by omega)) 0 (.int .i64 d.room)).other (O26.out.below (show w.heap.size + 1 < _ by omega)) 1 (.int .i64 d.next)).other (O26.out.below (show w.heap.size + 1 < _ by omega)) 2 (.slice A1 m1 k1)).other (O26.out.below (show w.heap.size + 1 < _ by omega)) 3 (.slice A2 m2 k2)).other (O26.out.below (show w.heap.size + 1 < _ by omega)) 4 (.slice A3 m3 k3)
 have F3 := (((((O36.out.other (O36.out.below (show w.heap.size + 1 + 1 < _ by omega)) 4 (.slice A3 m3 k3)).other (O36.out.below (show w.heap.size + 1 < _ by omega)) 0 (.int .i64 d.room)).other (O36.out.below (show w.heap.size + 1 < _ by omega)) 1 (.int .i64 d.next)).other (O36.out.below (show w.heap.size + 1 < _ by omega)) 2 (.slice A1 m1 k1)).other (O36.out.below (show w.heap.size + 1 < _ by omega)) 3 (.slice A2 m2 k2)).other (O36.out.below (show w.heap.size + 1 < _ by omega)) 4 (.slice A3 m3 k3)
 have FB := (((((B6.out.setCell (show w.heap.size ≤ w.heap.size + 1 + 1 by omega) (.slice A3 m3 k3) (p := ⟨_, 4, none⟩)).setCell (show w.heap.size ≤ w.heap.size + 1 by omega) (.int .i64 d.room) (p := ⟨_, 0, none⟩)).setCell (show w.heap.size ≤ w.heap.size + 1 by omega) (.int .i64 d.next) (p := ⟨_, 1, none⟩)).setCell (show w.heap.size ≤ w.heap.size + 1 by omega) (.slice A1 m1 k1) (p := ⟨_, 2, none⟩)).setCell (show w.heap.size ≤ w.heap.size + 1 by omega) (.slice A2 m2 k2) (p := ⟨_, 3, none⟩)).setCell (show w.heap.size ≤ w.heap.size + 1 by omega) (.slice A3 m3 k3) (p := ⟨_, 4, none⟩)
 generalize (((((w6.setCell ⟨w.heap.size + 1 + 1, 4, none⟩ (.slice A3 m3 k3)).setCell ⟨w.heap.size + 1, 0, none⟩ (.int .i64 d.room)).setCell ⟨w.heap.size + 1, 1, none⟩ (.int .i64 d.next)).setCell ⟨w.heap.size + 1, 2, none⟩ (.slice A1 m1 k1)).setCell ⟨w.heap.size + 1, 3, none⟩ (.slice A2 m2 k2)).setCell ⟨w.heap.size + 1, 4, none⟩ (.slice A3 m3 k3) = WF at *
 have hG : Blk WF (w.heap.size + 1) #[.int .i64 d.room, .int .i64 d.next, .slice A1 m1 k1, .slice A2 m2 k2, .slice A3 m3 k3] 38 := hF
 have k0 := hG.cell 0 (.int .i64 d.room) rfl
 have k1' := hG.cell 1 (.int .i64 d.next) rfl
 have k2' := hG.cell 2 (.slice A1 m1 k1) rfl
 have k3' := hG.cell 3 (.slice A2 m2 k2) rfl
 have k4' := hG.cell 4 (.slice A3 m3 k3) rfl
 exact bodyPost_ret (v := .agg #[.int .i64 d.room, .int .i64 d.next, .slice A1 m1 k1, .slice A2 m2 k2, .slice A3 m3 k3]) (by simp [results, go_sem, k0, k1', k2', k3', k4']) rfl ⟨_, rfl, ⟨_, _, _, rfl, F1.mono (by omega), F2.mono (by omega), F3.mono (by omega)⟩, FB⟩
end Go.Proofs.YtepffbgelaajnaaGreatDoor
namespace Go.Proofs.YtepffbgelaajnaaGreatDoor
open Go.ChangeShapes Go.WideShapes Go.ChangeAt Go.RowKit Go.PlainAid
set_option linter.unusedVariables false
theorem below_alloc2 (w : World) (a b : Obj) : Below w.heap.size w ((w.alloc a).alloc b) := ((Below.refl _ w).alloc (Nat.le_refl _) a).alloc (by simp) b
set_option maxHeartbeats 400000 in
theorem eqInode (x : Nod) (w : World) : Calls Tryz.prog 83 #[vNod x, vNod x] w fun e w' => e = .returned (.bool true) ∧ Below w.heap.size w w' := by
 unfold vNod
 go_enter Tryz.func83, Tryz.ntmps83
 go_wp2
 go_ret
 exact ⟨rfl, below_alloc2 _ _ _⟩
set_option maxHeartbeats 1000000 in
theorem eqInodeS (l : List Nod) (va vb : Value) (w : World) (B : Nat) (ha : Lies w B 3 va (nodR l)) (hb : Lies w B 3 vb (nodR l)) (hn : l.length ≤ 1048576) (hB : B ≤ w.heap.size) :
  Calls Tryz.prog 39 #[va, vb] w fun e w' => e = .returned (.bool true) ∧ Below w.heap.size w w' := by
 obtain ⟨A, cap, rfl, hl⟩ := nod_look ha
 obtain ⟨A', cap', rfl, hl'⟩ := nod_look hb
 have HL : Hid (∀ j, j < l.length → ∃ g off, A = some ⟨g, off, none⟩ ∧ g < B ∧ _) := hl
 have HL' : Hid (∀ j, j < l.length → ∃ g off, A' = some ⟨g, off, none⟩ ∧ g < B ∧ _) := hl'
 have HB : Hid (B ≤ w.heap.size) := hB
 clear hl hl' hB ha hb
 have q1 : (l.length : Int) ≤ 1048576 := by omega
 generalize hN : l.length = n at *
 go_enter Tryz.func39, Tryz.ntmps39
 go_wp2_with fail
 go_loopw [5] (fun v5 wr => ∃ k : Nat, k ≤ n ∧ v5 = .int .i64 (k : Int) ∧ Below w.heap.size w wr) (fun i _ => n - (intOf i).toNat)
 case atStart => exact ⟨0, by omega, rfl, Below.refl _ _⟩
 case round =>
  obtain ⟨k, hk, rfl, hb⟩ := hrel
  have HB1 : Hid (Below w.heap.size w wr) := hb
  clear hb
  by_cases hlt : k < n
  ·have q4 : (k : Int) < (n : Int) := by omega
   obtain ⟨g, off, rfl, hg, ha0, ha1, ha2⟩ := HL.out k hlt
   obtain ⟨g', off', rfl, hg', hb0, hb1, hb2⟩ := HL'.out k hlt
   have hgw : g < w.heap.size := Nat.lt_of_lt_of_le hg HB.out
   have hgw' : g' < w.heap.size := Nat.lt_of_lt_of_le hg' HB.out
   rw [← HB1.out.cell (p := ⟨_, _, none⟩) hgw] at ha0
   rw [← HB1.out.cell (p := ⟨_, _, none⟩) hgw'] at hb0
   rw [← HB1.out.cell (p := ⟨_, _, none⟩) hgw] at ha1
   rw [← HB1.out.cell (p := ⟨_, _, none⟩) hgw'] at hb1
   rw [← HB1.out.cell (p := ⟨_, _, none⟩) hgw] at ha2
   rw [← HB1.out.cell (p := ⟨_, _, none⟩) hgw'] at hb2
   have c1 := fun wx => eqInode (l.getD k default) wx
   unfold vNod at c1
   generalize l.getD k default = x at *
   have hsz := HB1.out.size
   go_wp2_with fail
   go_region_with (go_at_call 83; refine (c1 _).mono ?_; rintro e w1 ⟨rfl, hb1⟩)
   all_goals go_wp2_with fail
   all_goals exact ⟨⟨k + 1, by omega, by go_num, HB1.out.trans (((Below.refl _ wr).drew.trans hb1).mono hsz)⟩, by simp [intOf]; omega⟩
  ·obtain rfl : k = n := by omega
   go_wp2_with fail
   go_ret
   exact ⟨rfl, HB1.out⟩
set_option maxHeartbeats 400000 in
theorem eqLink (x : Lnk) (w : World) : Calls Tryz.prog 84 #[vLnk x, vLnk x] w fun e w' => e = .returned (.bool true) ∧ Below w.heap.size w w' := by
 unfold vLnk
 go_enter Tryz.func84, Tryz.ntmps84
 go_wp2
 go_ret
 exact ⟨rfl, below_alloc2 _ _ _⟩
set_option maxHeartbeats 1000000 in
theorem eqLinkS (l : List Lnk) (va vb : Value) (w : World) (B : Nat) (ha : Lies w B 2 va (lnkR l)) (hb : Lies w B 2 vb (lnkR l)) (hn : l.length ≤ 1048576) (hB : B ≤ w.heap.size) :
  Calls Tryz.prog 40 #[va, vb] w fun e w' => e = .returned (.bool true) ∧ Below w.heap.size w w' := by
 obtain ⟨A, cap, rfl, hl⟩ := lnk_look ha
 obtain ⟨A', cap', rfl, hl'⟩ := lnk_look hb
 have HL : Hid (∀ j, j < l.length → ∃ g off, A = some ⟨g, off, none⟩ ∧ g < B ∧ _) := hl
 have HL' : Hid (∀ j, j < l.length → ∃ g off, A' = some ⟨g, off, none⟩ ∧ g < B ∧ _) := hl'
 have HB : Hid (B ≤ w.heap.size) := hB
 clear hl hl' hB ha hb
 have q1 : (l.length : Int) ≤ 1048576 := by omega
 generalize hN : l.length = n at *
 go_enter Tryz.func40, Tryz.ntmps40
 go_wp2_with fail
 go_loopw [5] (fun v5 wr => ∃ k : Nat, k ≤ n ∧ v5 = .int .i64 (k : Int) ∧ Below w.heap.size w wr) (fun i _ => n - (intOf i).toNat)
 case atStart => exact ⟨0, by omega, rfl, Below.refl _ _⟩
 case round =>
  obtain ⟨k, hk, rfl, hb⟩ := hrel
  have HB1 : Hid (Below w.heap.size w wr) := hb
  clear hb
  by_cases hlt : k < n
  ·have q4 : (k : Int) < (n : Int) := by omega
   obtain ⟨g, off, rfl, hg, ha0, ha1⟩ := HL.out k hlt
   obtain ⟨g', off', rfl, hg', hb0, hb1⟩ := HL'.out k hlt
   have hgw : g < w.heap.size := Nat.lt_of_lt_of_le hg HB.out
   have hgw' : g' < w.heap.size := Nat.lt_of_lt_of_le hg' HB.out
   rw [← HB1.out.cell (p := ⟨_, _, none⟩) hgw] at ha0
   rw [← HB1.out.cell (p := ⟨_, _, none⟩) hgw'] at hb0
   rw [← HB1.out.cell (p := ⟨_, _, none⟩) hgw] at ha1
   rw [← HB1.out.cell (p := ⟨_, _, none⟩) hgw'] at hb1
   have c1 := fun wx => eqLink (l.getD k default) wx
   unfold vLnk at c1
   generalize l.getD k default = x at *
   have hsz := HB1.out.size
   go_wp2_with fail
   go_region_with (go_at_call 84; refine (c1 _).mono ?_; rintro e w1 ⟨rfl, hb1⟩)
   all_goals go_wp2_with fail
   all_goals exact ⟨⟨k + 1, by omega, by go_num, HB1.out.trans (((Below.refl _ wr).drew.trans hb1).mono hsz)⟩, by simp [intOf]; omega⟩
  ·obtain rfl : k = n := by omega
   go_wp2_with fail
   go_ret
   exact ⟨rfl, HB1.out⟩
set_option maxHeartbeats 400000 in
theorem eqMove (x : Mov) (w : World) : Calls Tryz.prog 85 #[vMov x, vMov x] w fun e w' => e = .returned (.bool true) ∧ Below w.heap.size w w' := by
 unfold vMov
 go_enter Tryz.func85, Tryz.ntmps85
 go_wp2
 go_ret
 exact ⟨rfl, below_alloc2 _ _ _⟩
set_option maxHeartbeats 1000000 in
theorem eqMoveS (l : List Mov) (va vb : Value) (w : World) (B : Nat) (ha : Lies w B 4 va (movR l)) (hb : Lies w B 4 vb (movR l)) (hn : l.length ≤ 1048576) (hB : B ≤ w.heap.size) :
  Calls Tryz.prog 41 #[va, vb] w fun e w' => e = .returned (.bool true) ∧ Below w.heap.size w w' := by
 obtain ⟨A, cap, rfl, hl⟩ := mov_look ha
 obtain ⟨A', cap', rfl, hl'⟩ := mov_look hb
 have HL : Hid (∀ j, j < l.length → ∃ g off, A = some ⟨g, off, none⟩ ∧ g < B ∧ _) := hl
 have HL' : Hid (∀ j, j < l.length → ∃ g off, A' = some ⟨g, off, none⟩ ∧ g < B ∧ _) := hl'
 have HB : Hid (B ≤ w.heap.size) := hB
 clear hl hl' hB ha hb
 have q1 : (l.length : Int) ≤ 1048576 := by omega
 generalize hN : l.length = n at *
 go_enter Tryz.func41, Tryz.ntmps41
 go_wp2_with fail
 go_loopw [5] (fun v5 wr => ∃ k : Nat, k ≤ n ∧ v5 = .int .i64 (k : Int) ∧ Below w.heap.size w wr) (fun i _ => n - (intOf i).toNat)
 case atStart => exact ⟨0, by omega, rfl, Below.refl _ _⟩
 case round =>
  obtain ⟨k, hk, rfl, hb⟩ := hrel
  have HB1 : Hid (Below w.heap.size w wr) := hb
  clear hb
  by_cases hlt : k < n
  ·have q4 : (k : Int) < (n : Int) := by omega
   obtain ⟨g, off, rfl, hg, ha0, ha1, ha2, ha3⟩ := HL.out k hlt
   obtain ⟨g', off', rfl, hg', hb0, hb1, hb2, hb3⟩ := HL'.out k hlt
   have hgw : g < w.heap.size := Nat.lt_of_lt_of_le hg HB.out
   have hgw' : g' < w.heap.size := Nat.lt_of_lt_of_le hg' HB.out
   rw [← HB1.out.cell (p := ⟨_, _, none⟩) hgw] at ha0
   rw [← HB1.out.cell (p := ⟨_, _, none⟩) hgw'] at hb0
   rw [← HB1.out.cell (p := ⟨_, _, none⟩) hgw] at ha1
   rw [← HB1.out.cell (p := ⟨_, _, none⟩) hgw'] at hb1
   rw [← HB1.out.cell (p := ⟨_, _, none⟩) hgw] at ha2
   rw [← HB1.out.cell (p := ⟨_, _, none⟩) hgw'] at hb2
   rw [← HB1.out.cell (p := ⟨_, _, none⟩) hgw] at ha3
   rw [← HB1.out.cell (p := ⟨_, _, none⟩) hgw'] at hb3
   have c1 := fun wx => eqMove (l.getD k default) wx
   unfold vMov at c1
   generalize l.getD k default = x at *
   have hsz := HB1.out.size
   go_wp2_with fail
   go_region_with (go_at_call 85; refine (c1 _).mono ?_; rintro e w1 ⟨rfl, hb1⟩)
   all_goals go_wp2_with fail
   all_goals exact ⟨⟨k + 1, by omega, by go_num, HB1.out.trans (((Below.refl _ wr).drew.trans hb1).mono hsz)⟩, by simp [intOf]; omega⟩
  ·obtain rfl : k = n := by omega
   go_wp2_with fail
   go_ret
   exact ⟨rfl, HB1.out⟩
set_option maxHeartbeats 1000000 in
theorem eqDisk (d : Dsk) (va vb : Value) (w : World) (B : Nat) (ha : DiskV w B va d) (hb : DiskV w B vb d) (hw : wtD d ≤ 1048576) (hB : B ≤ w.heap.size) :
  Calls Tryz.prog 12 #[va, vb] w fun e w' => e = .returned (.bool true) ∧ Below w.heap.size w w' := by
 obtain ⟨a1, a2, a3, rfl, an, al, am⟩ := ha
 obtain ⟨b1, b2, b3, rfl, bn, bl, bm⟩ := hb
 unfold wtD at hw
 have HB : Hid (B ≤ w.heap.size) := hB
 have AN : Hid (Lies w B 3 a1 (nodR d.nods)) := an
 have AL : Hid (Lies w B 2 a2 (lnkR d.dir)) := al
 have AM : Hid (Lies w B 4 a3 (movR d.movs)) := am
 have BN : Hid (Lies w B 3 b1 (nodR d.nods)) := bn
 have BL : Hid (Lies w B 2 b2 (lnkR d.dir)) := bl
 have BM : Hid (Lies w B 4 b3 (movR d.movs)) := bm
 have L1 : Hid (d.nods.length ≤ 1048576) := by unfold Hid; omega
 have L2 : Hid (d.dir.length ≤ 1048576) := by unfold Hid; omega
 have L3 : Hid (d.movs.length ≤ 1048576) := by unfold Hid; omega
 clear an al am bn bl bm hw hB
 go_enter Tryz.func12, Tryz.ntmps12
 go_wp2_with fail
 have hb0 := below_alloc2 w (.cells #[.int .i64 d.room, .int .i64 d.next, a1, a2, a3] 38) (.cells #[.int .i64 d.room, .int .i64 d.next, b1, b2, b3] 38)
 have kA := (Blk.new w #[.int .i64 d.room, .int .i64 d.next, a1, a2, a3] 38).alloc (.cells #[.int .i64 d.room, .int .i64 d.next, b1, b2, b3] 38)
 have kB := Blk.new (w.alloc (.cells #[.int .i64 d.room, .int .i64 d.next, a1, a2, a3] 38)) #[.int .i64 d.room, .int .i64 d.next, b1, b2, b3] 38
 simp only [World.size_alloc] at kB
 generalize (w.alloc (.cells #[.int .i64 d.room, .int .i64 d.next, a1, a2, a3] 38)).alloc (.cells #[.int .i64 d.room, .int .i64 d.next, b1, b2, b3] 38) = W at *
 have B0 : Hid (Below w.heap.size w W) := hb0
 have hlt := kB.lt
 clear hb0
 refine (eqInodeS d.nods a1 b1 W B (AN.out.on (B0.out.mono HB.out)) (BN.out.on (B0.out.mono HB.out)) L1.out (Nat.le_trans HB.out B0.out.size)).mono ?_
 rintro e w2 ⟨rfl, hb2⟩
 have B2 : Hid (Below w.heap.size w w2) := B0.out.trans (hb2.mono B0.out.size)
 have kA2 := kA.on hb2 (by omega)
 have kB2 := kB.on hb2 hlt
 clear kA kB hb2 hlt
 have e1 := kA2.cell 3 a2 rfl
 have e2 := kB2.cell 3 b2 rfl
 have hlt := kB2.lt
 have KA2 : Hid (Blk w2 w.heap.size _ _) := kA2
 have KB2 : Hid (Blk w2 (w.heap.size + 1) _ _) := kB2
 clear kA2 kB2
 go_wp2_with fail
 refine (eqLinkS d.dir a2 b2 w2 B (AL.out.on (B2.out.mono HB.out)) (BL.out.on (B2.out.mono HB.out)) L2.out (Nat.le_trans HB.out B2.out.size)).mono ?_
 rintro e w3 ⟨rfl, hb3⟩
 have B3 : Hid (Below w.heap.size w w3) := B2.out.trans (hb3.mono B2.out.size)
 have e3 := (KA2.out.on hb3 (by omega)).cell 4 a3 rfl
 have e4 := (KB2.out.on hb3 hlt).cell 4 b3 rfl
 clear e1 e2 hb3 hlt
 go_wp2_with fail
 refine (eqMoveS d.movs a3 b3 w3 B (AM.out.on (B3.out.mono HB.out)) (BM.out.on (B3.out.mono HB.out)) L3.out (Nat.le_trans HB.out B3.out.size)).mono ?_
 rintro e w4 ⟨rfl, hb4⟩
 have B4 : Hid (Below w.heap.size w w4) := B3.out.trans (hb4.mono B3.out.size)
 clear hb4
 go_wp2_with fail
 go_ret
 exact ⟨rfl, B4.out⟩
end Go.Proofs.YtepffbgelaajnaaGreatDoor
namespace Go.Proofs.YtepffbgelaajnaaGreatDoor
open Go.ChangeShapes Go.WideShapes Go.ChangeAt Go.RowKit Go.PlainAid Go.Maps
set_option linter.unusedVariables false
structure IntsOk (d : Dsk) : Prop where
 l : ∀ x ∈ d.dir, IntOk x.id
 m : ∀ x ∈ d.movs, IntOk x.id
theorem bytes_wt (l : List Nod) : bytesOf l ≤ wtN l := by
 induction l with
 | nil => exact Nat.le_refl _
 | cons x r ih =>
  unfold bytesOf wtN wtN1
  omega
theorem delAll_len (l : List (Int × Nat)) (dl : List Lnk) : (delAll l dl).length ≤ l.length := by
 unfold delAll
 induction dl generalizing l with
 | nil => exact Nat.le_refl _
 | cons x r ih => exact Nat.le_trans (ih _) (List.length_filter_le _ _)
theorem delMade_len (l : List (Int × Nat)) (ml : List Mov) : (delMade l ml).length ≤ l.length := by
 unfold delMade
 induction ml generalizing l with
 | nil => exact Nat.le_refl _
 | cons x r ih =>
  refine Nat.le_trans (ih _) ?_
  show (if x.kind = 1 then ptrDel l x.id else l).length ≤ l.length
  split
  ·exact List.length_filter_le _ _
  ·exact Nat.le_refl _
structure OpenD (w : World) (base p : Nat) (d : Dsk) (bi bd bw : Nat) (gs : List Nat) (u : Value) : Prop where
 blk : Blk w p #[.int .i64 d.room, .int .i64 d.next, .map (some bi), .map (some bd), u, .map (some bw)] 125
 it : IT w bi (prs d.nods gs)
 held : Held w d.nods gs
 rise : gs.Pairwise (· < ·)
 nd : NT w bd d.dir
 nw : NT w bw (now d)
 mv : Owns w base 106 4 u (movR d.movs)
 pi : p ≠ bi
 pd : p ≠ bd
 pw : p ≠ bw
 id : bi ≠ bd
 iw : bi ≠ bw
 dw : bd ≠ bw
 lo : base ≤ p ∧ base ≤ bi ∧ base ≤ bd ∧ base ≤ bw
 gl : ∀ g ∈ gs, base ≤ g ∧ g ≠ p ∧ g ≠ bi ∧ g ≠ bd ∧ g ≠ bw
theorem OpenD.on {w w' : World} {base p : Nat} {d : Dsk} {bi bd bw : Nat} {gs : List Nat} {u : Value} (h : OpenD w base p d bi bd bw gs u) (hb : Below w.heap.size w w') : OpenD w' base p d bi bd bw gs u :=
 ⟨h.blk.on hb h.blk.lt, h.it.on hb h.it.lt, h.held.on hb h.held.lt, h.rise, h.nd.on hb h.nd.lt, h.nw.on hb h.nw.lt, h.mv.on hb, h.pi, h.pd, h.pw, h.id, h.iw, h.dw, h.lo, h.gl⟩
set_option maxRecDepth 20000 in
set_option maxHeartbeats 1000000 in
theorem opened_no (d : Dsk) (v : Value) (w : World) (B : Nat) (hv : DiskV w B v d) (h : ¬ (0 ≤ d.room ∧ d.room ≤ 1048576 ∧ 1 ≤ d.next ∧ d.next ≤ 1000000)) :
  Calls Tryz.prog 34 #[v] w fun e w' => e = .returned (.pointer none) ∧ Below w.heap.size w w' := by
 obtain ⟨v1, v2, v3, rfl, h1, h2, h3⟩ := hv
 clear h1 h2 h3
 by_cases c1 : d.room < 0
 ·have k1 : decide (d.room < 0) = true := decide_eq_true c1
  clear h
  go_enter Tryz.func34, Tryz.ntmps34
  go_wp2_with fail
  go_ret
  exact ⟨rfl, (Below.refl _ _).alloc (Nat.le_refl _) _⟩
 ·have k1 : decide (d.room < 0) = false := decide_eq_false c1
  by_cases c2 : 1048576 < d.room
  ·have k2 : decide (1048576 < d.room) = true := decide_eq_true c2
   clear h
   go_enter Tryz.func34, Tryz.ntmps34
   go_wp2_with fail
   go_ret
   exact ⟨rfl, (Below.refl _ _).alloc (Nat.le_refl _) _⟩
  ·have k2 : decide (1048576 < d.room) = false := decide_eq_false c2
   by_cases c3 : d.next < 1
   ·have k3 : decide (d.next < 1) = true := decide_eq_true c3
    clear h
    go_enter Tryz.func34, Tryz.ntmps34
    go_wp2_with fail
    go_ret
    exact ⟨rfl, (Below.refl _ _).alloc (Nat.le_refl _) _⟩
   ·have k3 : decide (d.next < 1) = false := decide_eq_false c3
    have c4 : 1000000 < d.next := by omega
    have k4 : decide (1000000 < d.next) = true := decide_eq_true c4
    clear h
    go_enter Tryz.func34, Tryz.ntmps34
    go_wp2_with fail
    go_ret
    exact ⟨rfl, (Below.refl _ _).alloc (Nat.le_refl _) _⟩
set_option maxRecDepth 20000 in
set_option maxHeartbeats 4000000 in
theorem openedV (d : Dsk) (v : Value) (w : World) (B : Nat) (hv : DiskV w B v d) (hf : Fits d) (hi : IntsOk d) (hw : wtD d ≤ 1048576) (hB : B ≤ w.heap.size) :
  Calls Tryz.prog 34 #[v] w fun e w' => Below w.heap.size w w' ∧ ((diskOk d = false ∧ e = .returned (.pointer none)) ∨ (diskOk d = true ∧ ∃ p bi bd bw gs u, e = .returned (.pointer (some ⟨p, 0, none⟩)) ∧ OpenD w' w.heap.size p d bi bd bw gs u)) := by
 by_cases hr : 0 ≤ d.room ∧ d.room ≤ 1048576 ∧ 1 ≤ d.next ∧ d.next ≤ 1000000
 ·have HF : Hid (Fits d) := hf
  have HI : Hid (IntsOk d) := hi
  have HV : Hid (DiskV w B v d) := hv
  have HB : Hid (B ≤ w.heap.size) := hB
  have HBY : Hid (bytesOf d.nods ≤ 4194304) := by
   have := bytes_wt d.nods
   unfold wtD at hw
   unfold Hid
   omega
  have HLN : Hid (d.nods.length ≤ 1048576 ∧ d.dir.length ≤ 1048576 ∧ d.movs.length ≤ 1048576) := by
   unfold wtD at hw
   unfold Hid
   omega
  obtain ⟨r0, r1, x0, x1⟩ := hr
  have HRR : Hid (0 ≤ d.room ∧ d.room ≤ 1048576 ∧ 1 ≤ d.next ∧ d.next ≤ 1000000) := ⟨r0, r1, x0, x1⟩
  obtain ⟨v1, v2, v3, rfl, h1, h2, h3⟩ := hv
  have H1 : Hid (Lies w B 3 v1 (nodR d.nods)) := h1
  have H2 : Hid (Lies w B 2 v2 (lnkR d.dir)) := h2
  have H3 : Hid (Lies w B 4 v3 (movR d.movs)) := h3
  have k1 : decide (d.room < 0) = false := decide_eq_false (by omega)
  have k2 : decide (1048576 < d.room) = false := decide_eq_false (by omega)
  have k3 : decide (d.next < 1) = false := decide_eq_false (by omega)
  have k4 : decide (1000000 < d.next) = false := decide_eq_false (by omega)
  have hmm := fun t wx => run_makeMap (P := Tryz.prog) t wx
  obtain ⟨A1, c1, e1, _⟩ := nod_look h1
  obtain ⟨A2, c2, e2, _⟩ := lnk_look h2
  obtain ⟨A3, c3, e3, _⟩ := mov_look h3
  clear h1 h2 h3 hf hi hw hB
  subst e1 e2 e3
  go_enter Tryz.func34, Tryz.ntmps34
  go_wp2_with fail
  have kB0 := (((Blk.new w #[.int .i64 d.room, .int .i64 d.next, .slice A1 d.nods.length c1, .slice A2 d.dir.length c2, .slice A3 d.movs.length c3] 38).alloc (.map #[] 0)).alloc (.map #[] 0)).alloc (.cells #[.int .i64 d.room, .int .i64 d.next, .map (some (w.heap.size + 1)), .map (some (w.heap.size + 1 + 1)), .slice none 0 0, .map none] 125)
  have hW0 : Below w.heap.size w ((((w.alloc (.cells #[.int .i64 d.room, .int .i64 d.next, .slice A1 d.nods.length c1, .slice A2 d.dir.length c2, .slice A3 d.movs.length c3] 38)).alloc (.map #[] 0)).alloc (.map #[] 0)).alloc (.cells #[.int .i64 d.room, .int .i64 d.next, .map (some (w.heap.size + 1)), .map (some (w.heap.size + 1 + 1)), .slice none 0 0, .map none] 125)) := ((((Below.refl _ w).alloc (Nat.le_refl _) _).alloc (by simp) _).alloc (by simp; omega) _).alloc (by simp; omega) _
  have kP := Blk.new (((w.alloc (.cells #[.int .i64 d.room, .int .i64 d.next, .slice A1 d.nods.length c1, .slice A2 d.dir.length c2, .slice A3 d.movs.length c3] 38)).alloc (.map #[] 0)).alloc (.map #[] 0)) #[.int .i64 d.room, .int .i64 d.next, .map (some (w.heap.size + 1)), .map (some (w.heap.size + 1 + 1)), .slice none 0 0, .map none] 125
  have hIT : IT ((((w.alloc (.cells #[.int .i64 d.room, .int .i64 d.next, .slice A1 d.nods.length c1, .slice A2 d.dir.length c2, .slice A3 d.movs.length c3] 38)).alloc (.map #[] 0)).alloc (.map #[] 0)).alloc (.cells #[.int .i64 d.room, .int .i64 d.next, .map (some (w.heap.size + 1)), .map (some (w.heap.size + 1 + 1)), .slice none 0 0, .map none] 125)) (w.heap.size + 1) [] := by
   have := IT.made (w.alloc (.cells #[.int .i64 d.room, .int .i64 d.next, .slice A1 d.nods.length c1, .slice A2 d.dir.length c2, .slice A3 d.movs.length c3] 38))
   rw [World.size_alloc] at this
   refine (this.on ((Below.refl _ _).alloc (Nat.le_refl _) (.map #[] 0)) (by simp)).on ((Below.refl _ _).alloc (Nat.le_refl _) _) (by simp)
  have hNT : NT ((((w.alloc (.cells #[.int .i64 d.room, .int .i64 d.next, .slice A1 d.nods.length c1, .slice A2 d.dir.length c2, .slice A3 d.movs.length c3] 38)).alloc (.map #[] 0)).alloc (.map #[] 0)).alloc (.cells #[.int .i64 d.room, .int .i64 d.next, .map (some (w.heap.size + 1)), .map (some (w.heap.size + 1 + 1)), .slice none 0 0, .map none] 125)) (w.heap.size + 1 + 1) [] := by
   have := NT.made ((w.alloc (.cells #[.int .i64 d.room, .int .i64 d.next, .slice A1 d.nods.length c1, .slice A2 d.dir.length c2, .slice A3 d.movs.length c3] 38)).alloc (.map #[] 0))
   simp only [World.size_alloc] at this
   exact this.on ((Below.refl _ _).alloc (Nat.le_refl _) _) (by simp)
  simp only [World.size_alloc] at kP
  have sW0 : ((((w.alloc (.cells #[.int .i64 d.room, .int .i64 d.next, .slice A1 d.nods.length c1, .slice A2 d.dir.length c2, .slice A3 d.movs.length c3] 38)).alloc (.map #[] 0)).alloc (.map #[] 0)).alloc (.cells #[.int .i64 d.room, .int .i64 d.next, .map (some (w.heap.size + 1)), .map (some (w.heap.size + 1 + 1)), .slice none 0 0, .map none] 125)).heap.size = w.heap.size + 1 + 1 + 1 + 1 := by simp
  generalize (((w.alloc (.cells #[.int .i64 d.room, .int .i64 d.next, .slice A1 d.nods.length c1, .slice A2 d.dir.length c2, .slice A3 d.movs.length c3] 38)).alloc (.map #[] 0)).alloc (.map #[] 0)).alloc (.cells #[.int .i64 d.room, .int .i64 d.next, .map (some (w.heap.size + 1)), .map (some (w.heap.size + 1 + 1)), .slice none 0 0, .map none] 125) = W at *
  have B0 : Hid (Below w.heap.size w W) := hW0
  have KP : Hid (Blk W (w.heap.size + 1 + 1 + 1) #[.int .i64 d.room, .int .i64 d.next, .map (some (w.heap.size + 1)), .map (some (w.heap.size + 1 + 1)), .slice none 0 0, .map none] 125) := kP
  have KD : Hid (Blk W w.heap.size #[.int .i64 d.room, .int .i64 d.next, .slice A1 d.nods.length c1, .slice A2 d.dir.length c2, .slice A3 d.movs.length c3] 38) := kB0
  have N0 : Hid (NT W (w.heap.size + 1 + 1) []) := hNT
  have SW : Hid (W.heap.size = w.heap.size + 1 + 1 + 1 + 1) := sW0
  have cI := takeInodesV d.room d.next (.slice A1 d.nods.length c1) (.map (some (w.heap.size + 1 + 1))) (.slice none 0 0) (.map none) (w.heap.size + 1 + 1 + 1) (w.heap.size + 1) B d.nods W kP hIT (H1.out.on (hW0.mono HB.out)) (Nat.le_trans HB.out hW0.size) (by have := HB.out; omega) (by omega) r0 r1 x0 x1 HBY.out HLN.out.1
  have y2 := kB0.cell 2 _ rfl
  clear kB0 hW0 kP hIT hNT sW0 hmm k1 k2 k3 k4
  go_wp2_with fail
  refine cI.mono ?_
  rintro e w1 ⟨rfl, hB1, hT1⟩
  clear cI y2
  have HB1 : Hid (But (fun i => i = w.heap.size + 1) W w1) := hB1
  have BL1 : Hid (Below w.heap.size w w1) := B0.out.trans (hB1.below w.heap.size B0.out.size (fun i hi e => by omega))
  cases ht : takeOk d.room d.next d.nods with
  | false =>
   have HN : Hid (diskOk d = false) := diskOk_not fun h => by rw [take_of_whole h] at ht; cases ht
   clear hT1 hB1
   go_wp2_with fail
   go_ret
   exact ⟨BL1.out, .inl ⟨HN.out, rfl⟩⟩
  | true =>
   obtain ⟨gs, hT⟩ := hT1 ht
   have HT : Hid (takeOk d.room d.next d.nods = true) := ht
   have TK : Hid (Taken W w1 (w.heap.size + 1) d.nods gs) := hT
   have KP1 : Hid (Blk w1 (w.heap.size + 1 + 1 + 1) #[.int .i64 d.room, .int .i64 d.next, .map (some (w.heap.size + 1)), .map (some (w.heap.size + 1 + 1)), .slice none 0 0, .map none] 125) := hB1.blk KP.out (by omega)
   have KD1 : Hid (Blk w1 w.heap.size #[.int .i64 d.room, .int .i64 d.next, .slice A1 d.nods.length c1, .slice A2 d.dir.length c2, .slice A3 d.movs.length c3] 38) := hB1.blk KD.out (by omega)
   have N1 : Hid (NT w1 (w.heap.size + 1 + 1) []) := N0.out.but hB1 (by omega)
   have hl : Hid (gs.length = d.nods.length) := hT.held.len
   have cC := cloneIV w1 (w.heap.size + 1) (prs d.nods gs) hT.it
   have y2 := KP1.out.cell 2 _ rfl
   clear hB1 hT1 hT ht KP KD N0
   go_wp2_with fail
   refine cC.mono ?_
   rintro e w2 ⟨rfl, hI2, hb2⟩
   clear cC y2
   have SZ : Hid (W.heap.size ≤ w1.heap.size) := HB1.out.size
   have KP2 : Hid (Blk w2 (w.heap.size + 1 + 1 + 1) #[.int .i64 d.room, .int .i64 d.next, .map (some (w.heap.size + 1)), .map (some (w.heap.size + 1 + 1)), .slice none 0 0, .map none] 125) := KP1.out.on hb2 KP1.out.lt
   have KD2 : Hid (Blk w2 w.heap.size #[.int .i64 d.room, .int .i64 d.next, .slice A1 d.nods.length c1, .slice A2 d.dir.length c2, .slice A3 d.movs.length c3] 38) := KD1.out.on hb2 KD1.out.lt
   have N2 : Hid (NT w2 (w.heap.size + 1 + 1) []) := N1.out.on hb2 N1.out.lt
   have I2 : Hid (IT w2 (w.heap.size + 1) (prs d.nods gs)) := TK.out.it.on hb2 TK.out.it.lt
   have H2' : Hid (Held w2 d.nods gs) := TK.out.held.on hb2 TK.out.held.lt
   have GL : Hid (∀ g ∈ gs, W.heap.size ≤ g ∧ g < w1.heap.size) := fun g hg => ⟨TK.out.new g hg, TK.out.held.lt g hg⟩
   have GR : Hid (gs.Pairwise (· < ·)) := TK.out.rise
   have M2 : Hid (IT w2 w1.heap.size (prs d.nods gs)) := hI2
   have BL2 : Hid (Below w.heap.size w w2) := BL1.out.trans (hb2.mono BL1.out.size)
   have cD := takeDirV d.room d.next (.slice A2 d.dir.length c2) (.map (some (w.heap.size + 1))) (.slice none 0 0) (.map none) (w.heap.size + 1 + 1 + 1) (w.heap.size + 1 + 1) w1.heap.size B (prs d.nods gs) d.dir w2 KP2.out N2.out hI2 (H2.out.on (BL2.out.mono HB.out)) (Nat.le_trans HB.out BL2.out.size) (by have := HB.out; omega) (by have := HB.out; have := BL1.out.size; omega) (by omega) (by have := SW.out; have := SZ.out; omega) (by have := SW.out; have := SZ.out; omega) HLN.out.2.1 HI.out.l HF.out.lx
   have y3 := KD2.out.cell 3 _ rfl
   clear hI2 hb2 KP1 KD1 N1 TK
   generalize hbn : w1.heap.size = bn at *
   go_wp2_with fail
   refine cD.mono ?_
   rintro e w3 ⟨rfl, hB3, hD3⟩
   clear cD y3
   have HB3 : Hid (But (fun i => i = w.heap.size + 1 + 1 ∨ i = bn ∨ i = w.heap.size + 1 + 1 + 1) w2 w3) := hB3
   have BL3 : Hid (Below w.heap.size w w3) := BL2.out.trans (hB3.below w.heap.size BL2.out.size (fun i hi e => by have := SW.out; have := SZ.out; omega))
   cases hd : dirOk (prs d.nods gs) d.dir with
   | false =>
    have HN : Hid (diskOk d = false) := diskOk_not fun h => by rw [dir_of_whole hl.out h] at hd; cases hd
    clear hD3 hB3
    go_wp2_with fail
    go_ret
    exact ⟨BL3.out, .inl ⟨HN.out, rfl⟩⟩
   | true =>
    obtain ⟨bw, hbw, hP3, hN3, hW3, hM3⟩ := hD3 hd
    have HD : Hid (dirOk (prs d.nods gs) d.dir = true) := hd
    have KD3 : Hid (Blk w3 w.heap.size #[.int .i64 d.room, .int .i64 d.next, .slice A1 d.nods.length c1, .slice A2 d.dir.length c2, .slice A3 d.movs.length c3] 38) := hB3.blk KD2.out (by have := SW.out; have := SZ.out; omega)
    have KP3 : Hid (Blk w3 (w.heap.size + 1 + 1 + 1) #[.int .i64 d.room, .int .i64 d.next, .map (some (w.heap.size + 1)), .map (some (w.heap.size + 1 + 1)), .slice none 0 0, .map (some bw)] 125) := hP3
    have N3 : Hid (NT w3 (w.heap.size + 1 + 1) d.dir) := hN3
    have WN3 : Hid (NT w3 bw d.dir) := hW3
    have M3 : Hid (IT w3 bn (delAll (prs d.nods gs) d.dir)) := hM3
    have I3 : Hid (IT w3 (w.heap.size + 1) (prs d.nods gs)) := I2.out.but hB3 (by have := SW.out; have := SZ.out; omega)
    have H3' : Hid (Held w3 d.nods gs) := H2'.out.but hB3 (fun g hg => by have := GL.out g hg; have := SW.out; omega)
    have HBW : Hid (w2.heap.size ≤ bw) := hbw
    have HBN : Hid (bn < w2.heap.size) := M2.out.lt
    have HDL : Hid (d.dir.length ≤ 100) := by
     have h1 := dir_len hd
     rw [prs_length hl.out] at h1
     have h2 := HT.out
     unfold takeOk at h2
     simp only [Bool.and_eq_true, decide_eq_true_eq] at h2
     unfold Hid
     omega
    have cM := takeMovesV d.room d.next (.slice A3 d.movs.length c3) (.map (some (w.heap.size + 1))) (.map (some (w.heap.size + 1 + 1))) (w.heap.size + 1 + 1 + 1) bw bn B d.dir (delAll (prs d.nods gs) d.dir) d.movs w3 hP3 hW3 hM3 (H3.out.on (BL3.out.mono HB.out)) (Nat.le_trans HB.out BL3.out.size) (by have := HB.out; have := BL2.out.size; omega) (by have := HB.out; have := SW.out; have := SZ.out; omega) (by have := HB.out; omega) (by have := SW.out; have := SZ.out; have := HBN.out; omega) (by have := SW.out; have := SZ.out; omega) (by have := HBN.out; omega) HLN.out.2.2 HDL.out (NamesOk.of_dir hd) HI.out.m HF.out.mx
    have y4 := KD3.out.cell 4 _ rfl
    clear hB3 hD3 hd hP3 hN3 hW3 hM3 hbw KP2 KD2 N2 I2 H2' M2
    go_wp2_with fail
    refine cM.mono ?_
    rintro e w4 ⟨rfl, hB4, hM4⟩
    clear cM y4
    have HB4 : Hid (But (fun i => i = bw ∨ i = bn ∨ i = w.heap.size + 1 + 1 + 1) w3 w4) := hB4
    have BL4 : Hid (Below w.heap.size w w4) := BL3.out.trans (hB4.below w.heap.size BL3.out.size (fun i hi e => by have := SW.out; have := SZ.out; have := HBW.out; have := HBN.out; omega))
    cases hm : mvOk d.dir (delAll (prs d.nods gs) d.dir) d.movs with
    | false =>
     have HN : Hid (diskOk d = false) := diskOk_not fun h => by rw [mov_of_whole hl.out h] at hm; cases hm
     clear hM4 hB4
     go_wp2_with fail
     go_ret
     exact ⟨BL4.out, .inl ⟨HN.out, rfl⟩⟩
    | true =>
     obtain ⟨u, hP4, hO4, hN4, hQ4⟩ := hM4 hm
     have HM : Hid (mvOk d.dir (delAll (prs d.nods gs) d.dir) d.movs = true) := hm
     have r4 := hQ4.len 3
     have OD : Hid (OpenD w4 w.heap.size (w.heap.size + 1 + 1 + 1) d (w.heap.size + 1) (w.heap.size + 1 + 1) bw gs u) := by
      have h1 := SW.out
      have h2 := SZ.out
      have h3 := HBW.out
      have h4 := HBN.out
      refine ⟨hP4, I3.out.but hB4 (by omega), H3'.out.but hB4 (fun g hg => by have := GL.out g hg; omega), GR.out, N3.out.but hB4 (by omega), hN4, hO4.mono BL3.out.size, by omega, by omega, by omega, by omega, by omega, by omega, ⟨by omega, by omega, by omega, by omega⟩, fun g hg => ?_⟩
      have := GL.out g hg
      exact ⟨by omega, by omega, by omega, by omega, by omega⟩
     have LEN : Hid ((delMade (delAll (prs d.nods gs) d.dir) d.movs).length ≤ 1048576) := by
      have h5 := hQ4.tight.size_le
      unfold Hid
      have h6 : (delMade (delAll (prs d.nods gs) d.dir) d.movs).length ≤ (prs d.nods gs).length := by
       refine Nat.le_trans (delMade_len _ _) (delAll_len _ _)
      rw [prs_length hl.out] at h6
      have := HLN.out.1
      omega
     clear hB4 hM4 hP4 hO4 hN4 hQ4 hm
     by_cases h0 : (delMade (delAll (prs d.nods gs) d.dir) d.movs).length = 0
     ·have HY : Hid (diskOk d = true) := (whole_iff d).2 (whole_of hl.out HRR.out.1 HRR.out.2.1 HRR.out.2.2.1 HRR.out.2.2.2 HT.out HD.out HM.out h0)
      rw [h0] at r4
      clear h0 LEN
      go_wp2_with fail
      go_ret
      exact ⟨BL4.out, .inr ⟨HY.out, _, _, _, _, _, _, rfl, OD.out⟩⟩
     ·have HN : Hid (diskOk d = false) := diskOk_not fun h => h0 (left_of_whole hl.out h)
      have q5 : (0 : Int) < ((delMade (delAll (prs d.nods gs) d.dir) d.movs).length : Int) := by omega
      have q6 : decide ((0 : Int) < ((delMade (delAll (prs d.nods gs) d.dir) d.movs).length : Int)) = true := decide_eq_true q5
      have q7 : ((delMade (delAll (prs d.nods gs) d.dir) d.movs).length : Int) ≤ 1048576 := by have := LEN.out; omega
      clear h0 LEN
      generalize (delMade (delAll (prs d.nods gs) d.dir) d.movs).length = LL at *
      go_wp2_with fail
      go_ret
      exact ⟨BL4.out, .inl ⟨HN.out, rfl⟩⟩
 ·have HN : Hid (diskOk d = false) := diskOk_not fun h => hr (by have := (sizeOk_iff d).1 h.size; exact ⟨this.r0, this.r1, this.x0, this.x1⟩)
  refine (opened_no d v w B hv hr).mono ?_
  rintro e w' ⟨rfl, hb⟩
  exact ⟨hb, .inl ⟨HN.out, rfl⟩⟩
end Go.Proofs.YtepffbgelaajnaaGreatDoor
