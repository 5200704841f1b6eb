/- DcOps KdMath KdUF DkNew StrEq KdBnd DsAct DsImpl -/
import Derived.Test.YtgjilgecklhglaaGreatQt3
import Derived.Test.YtgjilgecklhglaaGreatQt5
import Derived.Test.YtgjilgecklhglaaGreatQt7
import Derived.Test.YtgjilgecklhglaaGreatQt8
import Derived.Test.YtgjilgecklhglaaGreatQt9
import Derived.Test.YtgjilgecklhglaaGreatQt10
import Derived.Test.YtgjilgecklhglaaGreatQt0
import Derived.Test.YtgjilgecklhglaaGreatQt4
import Derived.Test.YtgjilgecklhglaaGreatRows
import Derived.WalkKit
import Derived.ProofKit
import Derived.OpenShut
import Derived.Below
import Derived.WalkSmall
import Derived.WalkLawsBesides
import Derived.Outline
import Derived.BigQuiet
import Derived.Deep.QuietTactic
import Derived.Deep.RegionWith
import Derived.Lib.OwnKind
open List (setIfInBounds_toArray set_cons_zero set_cons_succ)
namespace Go.Proofs.YtgjilgecklhglaaGreat
open Go.RowKit Go.PlainAid
set_option linter.unusedVariables false
structure LOk (P : Int → Prop) (l : List Lnk) : Prop where
 ok : ∀ x ∈ l, nameOk x.name = true
 sorted : Sorted l
 ids : ∀ x ∈ l, P x.id
 uniq : l.Pairwise fun x y => x.id ≠ y.id
theorem LOk.mono {P Q : Int → Prop} {l : List Lnk} (h : LOk P l) (hq : ∀ i, P i → Q i) : LOk Q l := ⟨h.ok, h.sorted, fun x hx => hq _ (h.ids x hx), h.uniq⟩
theorem without_mem {l : List Lnk} {s : ByteArray} {x : Lnk} : x ∈ without l s ↔ x ∈ l ∧ x.name ≠ s := by
 unfold without
 rw [List.mem_filter, decide_eq_true_iff]
theorem LOk.without {P : Int → Prop} {l : List Lnk} (h : LOk P l) (s : ByteArray) : LOk P (without l s) :=
 ⟨fun x hx => h.ok x (without_mem.1 hx).1, h.sorted.without s, fun x hx => h.ids x (without_mem.1 hx).1, h.uniq.filter _⟩
theorem ins_memN {x y : Lnk} : ∀ {l : List Lnk}, y ∈ ins x l ↔ y = x ∨ y ∈ l
 | [] => by simp [ins]
 | z :: r => by
  unfold ins
  split
  ·simp
  ·rw [List.mem_cons, ins_memN (l := r), List.mem_cons]
   constructor
   ·rintro (h | h | h)
    ·exact .inr (.inl h)
    ·exact .inl h
    ·exact .inr (.inr h)
   ·rintro (h | h | h)
    ·exact .inr (.inl h)
    ·exact .inl h
    ·exact .inr (.inr h)
theorem ins_uniq {x : Lnk} : ∀ {l : List Lnk}, l.Pairwise (fun a b => a.id ≠ b.id) → (∀ y ∈ l, y.id ≠ x.id) → (ins x l).Pairwise fun a b => a.id ≠ b.id
 | [], _, _ => by simp [ins]
 | z :: r, h, hx => by
  rw [List.pairwise_cons] at h
  unfold ins
  split
  ·rw [List.pairwise_cons]
   exact ⟨fun y hy e => hx y hy e.symm, by rw [List.pairwise_cons]; exact h⟩
  ·rw [List.pairwise_cons]
   refine ⟨fun y hy => ?_, ins_uniq h.2 fun y hy => hx y (List.mem_cons_of_mem _ hy)⟩
   rcases ins_memN.1 hy with rfl | hy
   ·exact hx z (by simp)
   ·exact h.1 y hy
theorem withL_mem {l : List Lnk} {x y : Lnk} : y ∈ withL l x ↔ y = x ∨ (y ∈ l ∧ y.name ≠ x.name) := by
 unfold withL
 rw [ins_memN, without_mem]
theorem LOk.withL {P : Int → Prop} {l : List Lnk} (h : LOk P l) {x : Lnk} (hn : nameOk x.name = true) (hp : P x.id) (hu : ∀ y ∈ l, y.id ≠ x.id) : LOk P (withL l x) := by
 refine ⟨fun y hy => ?_, h.sorted.withL x, fun y hy => ?_, ?_⟩
 ·rcases withL_mem.1 hy with rfl | hy
  ·exact hn
  ·exact h.ok y hy.1
 ·rcases withL_mem.1 hy with rfl | hy
  ·exact hp
  ·exact h.ids y hy.1
 ·exact ins_uniq (h.without x.name).uniq fun y hy => hu y (without_mem.1 hy).1
theorem linkAt_yes {l : List Lnk} {s : ByteArray} {i : Nat} (h : linkAt l s = some i) : ∃ hi : i < l.length, l[i].name = s := by
 unfold linkAt at h
 rw [List.findIdx?_eq_some_iff_getElem] at h
 obtain ⟨hi, h1, _⟩ := h
 exact ⟨hi, of_decide_eq_true h1⟩
theorem apply_cases {l l' : List Lnk} {m : Mov} (h : apply l m = some l') : nameOk m.name = true ∧ ((m.kind = 1 ∧ linkAt l m.name = none ∧ l' = withL l ⟨m.name, m.id⟩) ∨ (∃ i, linkAt l m.name = some i ∧ m.kind = 2 ∧ nameOk m.to = true ∧ m.to ≠ m.name ∧ l' = withL (without l m.name) ⟨m.to, (l.getD i default).id⟩) ∨ (m.kind = 3 ∧ l' = without l m.name)) := by
 unfold apply at h
 split at h
 ·cases h
 rename_i h1
 refine ⟨by simpa using h1, ?_⟩
 split at h
 ·rename_i h2
  exact .inl ⟨h2.1, h2.2.2, (Option.some.inj h).symm⟩
 ·split at h
  ·rename_i i hi
   split at h
   ·rename_i h3
    exact .inr (.inl ⟨i, hi, h3.1, h3.2.2.1, h3.2.2.2, (Option.some.inj h).symm⟩)
   ·split at h
    ·rename_i h3
     exact .inr (.inr ⟨h3.1, (Option.some.inj h).symm⟩)
    ·cases h
  ·cases h
theorem uniq_eq {l : List Lnk} (h : l.Pairwise fun x y => x.id ≠ y.id) {x y : Lnk} (hx : x ∈ l) (hy : y ∈ l) (e : x.id = y.id) : x = y := by
 obtain ⟨i, hi, rfl⟩ := List.mem_iff_getElem.1 hx
 obtain ⟨j, hj, rfl⟩ := List.mem_iff_getElem.1 hy
 rw [List.pairwise_iff_getElem] at h
 rcases Nat.lt_trichotomy i j with k | k | k
 ·exact absurd e (h i j hi hj k)
 ·subst k; rfl
 ·exact absurd e.symm (h j i hj hi k)
theorem LOk.apply {P : Int → Prop} {l l' : List Lnk} (h : LOk P l) {m : Mov} (ha : apply l m = some l') (h1 : m.kind = 1 → P m.id ∧ ∀ x ∈ l, x.id ≠ m.id) : LOk P l' := by
 obtain ⟨hn, h2 | ⟨i, hi, h2, h3, h4, h5⟩ | h2⟩ := apply_cases ha
 ·rw [h2.2.2]
  exact h.withL hn (h1 h2.1).1 (h1 h2.1).2
 ·obtain ⟨hlt, hnm⟩ := linkAt_yes hi
  rw [h5]
  rw [getE l i hlt]
  refine (h.without _).withL h3 (show P l[i].id from h.ids _ (List.getElem_mem hlt)) fun y hy e => ?_
  obtain ⟨hy1, hy2⟩ := without_mem.1 hy
  have := uniq_eq h.uniq hy1 (List.getElem_mem hlt) e
  rw [this] at hy2
  exact hy2 hnm
 ·rw [h2.2]
  exact h.without _
theorem names_snocN (l : List Lnk) (a : List Mov) (m : Mov) : names l (a ++ [m]) = (apply (names l a) m).getD (names l a) := by rw [names_cat]; rfl
theorem RD.links {d : Dsk} (h : RD d) : ∀ k, k ≤ d.movs.length → LOk (fun i => (∃ y ∈ d.nods, y.id = i) ∧ (linked d.dir i = true ∨ made (d.movs.take k) i = true)) (names d.dir (d.movs.take k))
 | 0, _ => ⟨h.dok, h.sorted, fun x hx => ⟨h.dnod x hx, .inl ((linked_iff _ _).2 ⟨x, hx, rfl⟩)⟩, h.duniq⟩
 | k + 1, hk => by
  have ih := h.links k (by omega)
  have hf := h.mfit.at k (by omega)
  have hmem : d.movs[k] ∈ d.movs := List.getElem_mem _
  rw [List.take_succ_eq_append_getElem (by omega), names_snocN]
  obtain ⟨l', hl'⟩ := Option.isSome_iff_exists.1 hf
  rw [hl', Option.getD_some]
  have up : ∀ i, (∃ y ∈ d.nods, y.id = i) ∧ (linked d.dir i = true ∨ made (d.movs.take k) i = true) → (∃ y ∈ d.nods, y.id = i) ∧ (linked d.dir i = true ∨ made (d.movs.take k ++ [d.movs[k]]) i = true) := fun i hi => by
   refine ⟨hi.1, hi.2.imp id fun h2 => ?_⟩
   obtain ⟨m, hm, h3⟩ := (made_iff _ _).1 h2
   exact (made_iff _ _).2 ⟨m, List.mem_append_left _ hm, h3⟩
  refine (ih.mono up).apply hl' fun hk1 => ?_
  obtain ⟨h4, h5⟩ := h.mnod _ hmem hk1
  refine ⟨⟨h4, .inr ((made_iff _ _).2 ⟨_, List.mem_append_right _ (by simp), hk1, rfl⟩)⟩, fun x hx e => ?_⟩
  rcases (ih.ids x hx).2 with h6 | h6
  ·rw [e, h5] at h6; cases h6
  ·obtain ⟨m, hm, h7, h8⟩ := (made_iff _ _).1 h6
   obtain ⟨i, hi, hij, rfl⟩ := mem_take_idx hm
   exact (List.pairwise_iff_getElem.1 h.muniq) i k hi (by omega) hij h7 hk1 (h8.trans e)
theorem take_more {α : Type} (l : List α) (k : Nat) : ∃ j, j ≤ l.length ∧ l.take k = l.take j := by
 by_cases h : k ≤ l.length
 ·exact ⟨k, h, rfl⟩
 ·exact ⟨l.length, Nat.le_refl _, by rw [List.take_of_length_le (by omega), List.take_of_length_le (Nat.le_refl _)]⟩
theorem RD.linksN {d : Dsk} (h : RD d) : LOk (fun i => ∃ y ∈ d.nods, y.id = i) (now d) := by
 have := h.links d.movs.length (Nat.le_refl _)
 rw [List.take_length] at this
 exact this.mono fun i hi => hi.1
theorem RD.linksC {d : Dsk} (h : RD d) (keep : Int) : LOk (fun i => ∃ y ∈ d.nods, y.id = i) (crashL d keep) := by
 unfold crashL
 obtain ⟨j, hj, e⟩ := take_more d.movs keep.toNat
 rw [e]
 exact (h.links j hj).mono fun i hi => hi.1
theorem pigeon : ∀ (l : List Lnk) (ns : List Nod), (l.Pairwise fun x y => x.id ≠ y.id) → (∀ x ∈ l, ∃ y ∈ ns, y.id = x.id) → l.length ≤ ns.length
 | [], _, _, _ => Nat.zero_le _
 | x :: r, ns, hu, hi => by
  rw [List.pairwise_cons] at hu
  obtain ⟨y, hy, hyx⟩ := hi x (by simp)
  have h1 := pigeon r (ns.filter fun z => decide (z.id ≠ x.id)) hu.2 fun z hz => by
   obtain ⟨u, hu1, hu2⟩ := hi z (List.mem_cons_of_mem _ hz)
   exact ⟨u, List.mem_filter.2 ⟨hu1, decide_eq_true (by rw [hu2]; exact fun e => hu.1 z hz e.symm)⟩, hu2⟩
  have h2 : (ns.filter fun z => decide (z.id ≠ x.id)).length < ns.length := by
   rw [List.length_filter_lt_length_iff_exists]
   exact ⟨y, hy, by simp [hyx]⟩
  simp only [List.length_cons]
  omega
theorem nodAt_no {ns : List Nod} {id : Int} : nodAt ns id = none ↔ ∀ x ∈ ns, x.id ≠ id := by
 have := nodAt_some ns id
 constructor
 ·intro h x hx e
  have h2 := this.2 ⟨x, hx, e⟩
  rw [h] at h2
  cases h2
 ·intro h
  cases e : nodAt ns id with
  | none => rfl
  | some i =>
   rw [e] at this
   obtain ⟨x, hx, he⟩ := this.1 rfl
   exact absurd he (h x hx)
theorem RD.find_none {d : Dsk} (h : RD d) {name : ByteArray} : find d name = none ↔ linkAt (now d) name = none := by
 constructor
 ·intro hf
  cases e : linkAt (now d) name with
  | none => rfl
  | some i =>
   obtain ⟨hi, hn⟩ := linkAt_yes e
   rw [find_yes e, getE _ _ hi, nodAt_no] at hf
   obtain ⟨y, hy, hid⟩ := h.linksN.ids _ (List.getElem_mem hi)
   exact absurd hid (hf y hy)
 ·exact find_no
theorem bytes_cat (a b : List Nod) : bytesOf (a ++ b) = bytesOf a + bytesOf b := by
 induction a with
 | nil => simp [bytesOf]
 | cons x r ih => simp only [List.cons_append, bytesOf, ih]; omega
theorem bytes_set : ∀ (ns : List Nod) (j : Nat) (h : j < ns.length) (x : Nod), bytesOf (ns.set j x) + ns[j].data.size = bytesOf ns + x.data.size
 | y :: r, 0, _, x => by simp only [List.set_cons_zero, bytesOf, List.getElem_cons_zero]; omega
 | y :: r, j + 1, h, x => by
  have := bytes_set r j (by simp at h; omega) x
  simp only [List.set_cons_succ, bytesOf, List.getElem_cons_succ]
  omega
theorem bytes_filter (p : Nod → Bool) (ns : List Nod) : bytesOf (ns.filter p) ≤ bytesOf ns := by
 induction ns with
 | nil => simp
 | cons x r ih =>
  rw [List.filter_cons]
  split
  ·simp only [bytesOf]; omega
  ·simp only [bytesOf]; omega
theorem ids_has {ns ms : List Nod} (h : ns.map (·.id) = ms.map (·.id)) {i : Int} : (∃ y ∈ ns, y.id = i) ↔ ∃ y ∈ ms, y.id = i := by
 have e : ∀ l : List Nod, (∃ y ∈ l, y.id = i) ↔ i ∈ l.map (·.id) := fun l => by simp
 rw [e, e, h]
theorem ids_rise {ns ms : List Nod} (h : ns.map (·.id) = ms.map (·.id)) (hr : Rising ms) : Rising ns := by
 have e : ∀ l : List Nod, Rising l ↔ (l.map (·.id)).Pairwise (· < ·) := fun l => by rw [List.pairwise_map]; rfl
 rw [e] at hr ⊢
 rw [h]
 exact hr
theorem RD.renod {d : Dsk} (h : RD d) {ns : List Nod} (he : ns.map (·.id) = d.nods.map (·.id)) (hs : ∀ x ∈ ns, 0 ≤ x.sure ∧ x.sure ≤ (x.data.size : Int)) (hb : (bytesOf ns : Int) ≤ d.room) : RD ⟨d.room, d.next, ns, d.dir, d.movs⟩ := by
 have hl : ns.length = d.nods.length := by have := congrArg List.length he; simpa using this
 have hid : ∀ x ∈ ns, ∃ y ∈ d.nods, y.id = x.id := fun x hx => (ids_has he).1 ⟨x, hx, rfl⟩
 refine ⟨⟨h.sz.r0, h.sz.r1, h.sz.x0, h.sz.x1, by show ns.length ≤ 10; rw [hl]; exact h.sz.n, h.sz.m, h.sz.l, hb⟩, fun x hx => ?_, ids_rise he h.rise, fun x hx => ?_, h.dok, h.sorted, fun x hx => (ids_has he).2 (h.dnod x hx), h.duniq, h.mfit, fun m hm hk => ⟨(ids_has he).2 (h.mnod m hm hk).1, (h.mnod m hm hk).2⟩, h.muniq⟩
 ·obtain ⟨y, hy, e⟩ := hid x hx
  have := (h.nid y hy).1
  exact ⟨by rw [← e]; exact this, hs x hx⟩
 ·obtain ⟨y, hy, e⟩ := hid x hx
  have := h.own y hy
  rw [e] at this
  exact this
theorem set_ids {ns : List Nod} {j : Nat} (hj : j < ns.length) {x : Nod} (hx : x.id = ns[j].id) : (ns.set j x).map (·.id) = ns.map (·.id) := by
 rw [List.map_set, hx]
 apply List.ext_getElem
 ·simp
 ·intro i h1 h2
  rw [List.getElem_set]
  split
  ·rename_i e; subst e; simp
  ·rfl
theorem set_mem {ns : List Nod} {j : Nat} {x y : Nod} (h : y ∈ ns.set j x) : y = x ∨ y ∈ ns := (List.mem_or_eq_of_mem_set h).symm
theorem nodAt_lt {ns : List Nod} {id : Int} {j : Nat} (h : nodAt ns id = some j) : ∃ hj : j < ns.length, ns[j].id = id := by
 unfold nodAt at h
 rw [List.findIdx?_eq_some_iff_getElem] at h
 obtain ⟨hj, h1, _⟩ := h
 exact ⟨hj, of_decide_eq_true h1⟩
theorem find_ltN {d : Dsk} {name : ByteArray} {j : Nat} (h : find d name = some j) : ∃ i, ∃ hi : i < (now d).length, (now d)[i].name = name ∧ ∃ hj : j < d.nods.length, d.nods[j].id = (now d)[i].id := by
 cases e : linkAt (now d) name with
 | none => rw [find_no e] at h; cases h
 | some i =>
  obtain ⟨hi, hn⟩ := linkAt_yes e
  rw [find_yes e, getE _ _ hi] at h
  obtain ⟨hj, h1⟩ := nodAt_lt h
  exact ⟨i, hi, hn, hj, h1⟩
theorem RD.make {d : Dsk} (h : RD d) (name : ByteArray) : RD (makeD d name) := by
 unfold makeD
 split
 rotate_left
 ·exact h
 rename_i hc
 unfold makeC at hc
 split at hc
 ·cases hc
 rename_i hn
 split at hc
 ·cases hc
 rename_i hf
 split at hc
 ·cases hc
 rename_i hs
 have hf' : find d name = none := by simpa using hf
 have hla := h.find_none.1 hf'
 have hn' : nameOk name = true := by simpa using hn
 have hlt : ∀ y ∈ d.nods, y.id < d.next := fun y hy => by have := (h.nid y hy).1; omega
 have hfresh : ∀ i, (∃ y ∈ d.nods, y.id = i) → i ≠ d.next := fun i ⟨y, hy, e⟩ e2 => by have := hlt y hy; omega
 have hz : (⟨#[]⟩ : ByteArray).size = 0 := rfl
 refine ⟨⟨h.sz.r0, h.sz.r1, by show 1 ≤ d.next + 1; have := h.sz.x0; omega, by show d.next + 1 ≤ 1000000; omega, by simp only [List.length_append, List.length_cons, List.length_nil]; omega, by simp only [List.length_append, List.length_cons, List.length_nil]; omega, h.sz.l, ?_⟩, ?_, ?_, ?_, h.dok, h.sorted, ?_, h.duniq, ?_, ?_, ?_⟩
 ·show ((bytesOf (d.nods ++ _) : Nat) : Int) ≤ d.room
  rw [bytes_cat]
  have := h.sz.b
  simp only [bytesOf, hz]
  omega
 ·intro x hx
  rcases List.mem_append.1 hx with hx | hx
  ·have := h.nid x hx
   exact ⟨⟨this.1.1, by show x.id ≤ d.next + 1 - 1; have := this.1.2; omega⟩, this.2⟩
  ·rw [List.mem_singleton.1 hx]
   exact ⟨⟨h.sz.x0, by show d.next ≤ d.next + 1 - 1; omega⟩, by show (0 : Int) ≤ 0; omega, by show (0 : Int) ≤ _; omega⟩
 ·show (d.nods ++ _).Pairwise _
  rw [List.pairwise_append]
  refine ⟨h.rise, List.pairwise_singleton _ _, fun x hx y hy => ?_⟩
  rw [List.mem_singleton.1 hy]
  exact hlt x hx
 ·intro x hx
  rcases List.mem_append.1 hx with hx | hx
  ·refine (h.own x hx).imp id fun h2 => ?_
   obtain ⟨m, hm, h3⟩ := (made_iff _ _).1 h2
   exact (made_iff _ _).2 ⟨m, List.mem_append_left _ hm, h3⟩
  ·rw [List.mem_singleton.1 hx]
   exact .inr ((made_iff _ _).2 ⟨⟨1, name, ⟨#[]⟩, d.next⟩, List.mem_append_right _ (by simp), rfl, rfl⟩)
 ·intro x hx
  obtain ⟨y, hy, e⟩ := h.dnod x hx
  exact ⟨y, List.mem_append_left _ hy, e⟩
 ·show FitM d.dir (d.movs ++ _)
  rw [FitM.cat]
  refine ⟨h.mfit, ?_, trivial⟩
  show (apply (now d) _).isSome = true
  unfold apply
  rw [if_neg (by simp [hn']), if_pos ⟨rfl, hz, hla⟩]
  rfl
 ·intro m hm hk
  rcases List.mem_append.1 hm with hm | hm
  ·obtain ⟨⟨y, hy, e⟩, h2⟩ := h.mnod m hm hk
   exact ⟨⟨y, List.mem_append_left _ hy, e⟩, h2⟩
  ·rw [List.mem_singleton.1 hm]
   exact ⟨⟨⟨d.next, ⟨#[]⟩, 0⟩, List.mem_append_right _ (by simp), rfl⟩, linked_no.2 fun x hx => hfresh _ (h.dnod x hx)⟩
 ·show (d.movs ++ _).Pairwise _
  rw [List.pairwise_append]
  refine ⟨h.muniq, List.pairwise_singleton _ _, fun a ha b hb hk1 hk2 => ?_⟩
  rw [List.mem_singleton.1 hb]
  exact hfresh _ (h.mnod a ha hk1).1
theorem RD.add {d : Dsk} (h : RD d) (name more : ByteArray) : RD (addD d name more) := by
 unfold addD
 split
 rotate_left
 ·exact h
 rename_i hc
 split
 ·exact h
 rename_i j hf
 obtain ⟨i, hi, hn, hj, hid⟩ := find_ltN hf
 unfold addC at hc
 have hr : ¬ d.room - (bytesOf d.nods : Int) < (more.size : Int) := by
  split at hc
  ·split at hc
   ·cases hc
   ·assumption
  ·rename_i h0; exact absurd hc h0
 rw [getE _ _ hj]
 have hb := bytes_set d.nods j hj ⟨d.nods[j].id, d.nods[j].data ++ more, d.nods[j].sure⟩
 simp only [ByteArray.size_append] at hb
 have hx := h.nid _ (List.getElem_mem hj)
 refine h.renod (set_ids hj rfl) (fun x hx' => ?_) (by omega)
 rcases set_mem hx' with rfl | hx'
 ·simp only [ByteArray.size_append]; omega
 ·exact (h.nid x hx').2
theorem RD.sync {d : Dsk} (h : RD d) (name : ByteArray) : RD (syncD d name) := by
 unfold syncD
 split
 ·exact h
 split
 ·exact h
 rename_i j hf
 obtain ⟨i, hi, hn, hj, hid⟩ := find_ltN hf
 rw [getE _ _ hj]
 have hb := bytes_set d.nods j hj ⟨d.nods[j].id, d.nods[j].data, (d.nods[j].data.size : Int)⟩
 simp only at hb
 have := h.sz.b
 refine h.renod (set_ids hj rfl) (fun x hx' => ?_) (by omega)
 rcases set_mem hx' with rfl | hx'
 ·simp only; omega
 ·exact (h.nid x hx').2
theorem RD.move {d : Dsk} (h : RD d) {m : Mov} (hk : m.kind ≠ 1) (hf : (apply (now d) m).isSome = true) (hl : d.movs.length < 20) : RD ⟨d.room, d.next, d.nods, d.dir, d.movs ++ [m]⟩ := by
 refine ⟨⟨h.sz.r0, h.sz.r1, h.sz.x0, h.sz.x1, h.sz.n, by simp only [List.length_append, List.length_cons, List.length_nil]; omega, h.sz.l, h.sz.b⟩, h.nid, h.rise, fun x hx => ?_, h.dok, h.sorted, h.dnod, h.duniq, ?_, ?_, ?_⟩
 ·refine (h.own x hx).imp id fun h2 => ?_
  obtain ⟨a, ha, h3⟩ := (made_iff _ _).1 h2
  exact (made_iff _ _).2 ⟨a, List.mem_append_left _ ha, h3⟩
 ·show FitM d.dir (d.movs ++ _)
  rw [FitM.cat]
  exact ⟨h.mfit, hf, trivial⟩
 ·intro a ha hka
  rcases List.mem_append.1 ha with ha | ha
  ·exact h.mnod a ha hka
  ·rw [List.mem_singleton.1 ha] at hka; exact absurd hka hk
 ·show (d.movs ++ _).Pairwise _
  rw [List.pairwise_append]
  refine ⟨h.muniq, List.pairwise_singleton _ _, fun a ha b hb hk1 hk2 => ?_⟩
  rw [List.mem_singleton.1 hb] at hk2
  exact absurd hk2 hk
theorem named_zero {d : Dsk} {name : ByteArray} (h : named d name = 0) : nameOk name = true ∧ ∃ j, find d name = some j := by
 unfold named at h
 split at h
 ·cases h
 rename_i h1
 split at h
 ·cases h
 rename_i h2
 exact ⟨by simpa using h1, Option.ne_none_iff_exists'.1 h2⟩
theorem RD.linked_at {d : Dsk} (h : RD d) {name : ByteArray} (hn : named d name = 0) : nameOk name = true ∧ ∃ i, linkAt (now d) name = some i := by
 obtain ⟨h1, j, hj⟩ := named_zero hn
 refine ⟨h1, ?_⟩
 cases e : linkAt (now d) name with
 | some i => exact ⟨i, rfl⟩
 | none => rw [find_no e] at hj; cases hj
theorem RD.ren {d : Dsk} (h : RD d) (src dest : ByteArray) : RD (movedC d ⟨2, src, dest, 0⟩ (renC d src dest)).1 := by
 unfold movedC
 split
 rotate_left
 ·exact h
 rename_i hc
 unfold movedD
 split
 ·exact h
 rename_i hl
 unfold renC at hc
 split at hc
 ·cases hc
 rename_i h0
 obtain ⟨h1, i, hi⟩ := h.linked_at hc
 have h2 : nameOk dest = true := by cases e : nameOk dest with | true => rfl | false => exact absurd (.inl e) h0
 have h3 : ¬ dest = src := fun e => h0 (.inr e.symm)
 refine h.move (by show (2 : Int) ≠ 1; decide) ?_ (by omega)
 unfold apply
 rw [if_neg (by simp [h1]), if_neg (by simp), hi]
 simp [h2, h3]
theorem RD.drop {d : Dsk} (h : RD d) (name : ByteArray) : RD (movedC d ⟨3, name, ⟨#[]⟩, 0⟩ (named d name)).1 := by
 unfold movedC
 split
 rotate_left
 ·exact h
 rename_i hc
 unfold movedD
 split
 ·exact h
 rename_i hl
 obtain ⟨h1, i, hi⟩ := h.linked_at hc
 refine h.move (by show (3 : Int) ≠ 1; decide) ?_ (by omega)
 unfold apply
 rw [if_neg (by simp [h1]), if_neg (by simp), hi]
 simp
 rfl
theorem RD.settle {d : Dsk} (h : RD d) {l : List Lnk} (hl : LOk (fun i => ∃ y ∈ d.nods, y.id = i) l) {ns : List Nod} (he : ns.map (·.id) = d.nods.map (·.id)) (hs : ∀ x ∈ ns, 0 ≤ x.sure ∧ x.sure ≤ (x.data.size : Int)) (hb : (bytesOf ns : Int) ≤ d.room) : RD ⟨d.room, d.next, keptN l ns, l, []⟩ := by
 have hr := h.renod he hs hb
 have hln : l.length ≤ ns.length := pigeon l ns hl.uniq fun x hx => (ids_has he).2 (hl.ids x hx)
 have h10 : ns.length ≤ 10 := hr.sz.n
 have hbf := bytes_filter (fun x => linked l x.id) ns
 refine ⟨⟨h.sz.r0, h.sz.r1, h.sz.x0, h.sz.x1, ?_, Nat.zero_le _, by show l.length ≤ 10; omega, ?_⟩, fun x hx => ?_, ?_, fun x hx => ?_, hl.ok, hl.sorted, fun x hx => ?_, hl.uniq, trivial, fun m hm => (by cases hm), List.Pairwise.nil⟩
 ·exact Nat.le_trans (List.length_filter_le _ _) h10
 ·show ((bytesOf (keptN l ns) : Nat) : Int) ≤ d.room
  unfold keptN
  omega
 ·exact hr.nid x (List.mem_filter.1 hx).1
 ·exact List.Pairwise.filter _ hr.rise
 ·exact .inl (List.mem_filter.1 hx).2
 ·obtain ⟨y, hy, e⟩ := (ids_has he).2 (hl.ids x hx)
  exact ⟨y, List.mem_filter.2 ⟨hy, (linked_iff _ _).2 ⟨x, hx, e.symm⟩⟩, e⟩
theorem RD.syncDir {d : Dsk} (h : RD d) : RD (syncDirD d) := h.settle h.linksN rfl (fun x hx => (h.nid x hx).2) h.sz.b
theorem cutS_inN {n : Nat} {sure more : Int} (h0 : 0 ≤ sure) (h1 : sure ≤ (n : Int)) : sure ≤ cutS n sure more ∧ cutS n sure more ≤ (n : Int) := by
 unfold cutS
 split
 ·omega
 ·split <;> omega
theorem cutN_sizeN {x : Nod} {more : Int} (h0 : 0 ≤ x.sure) (h1 : x.sure ≤ (x.data.size : Int)) : ((cutN x more).data.size : Int) = (cutN x more).sure ∧ (cutN x more).data.size ≤ x.data.size := by
 have := cutS_inN (more := more) h0 h1
 unfold cutN
 simp only [ByteArray.size_extract]
 omega
theorem cutL_ids (cuts : List Int) (ns : List Nod) : (cutL cuts ns).map (·.id) = ns.map (·.id) := by
 unfold cutL mixN
 apply List.ext_getElem
 ·simp
 ·intro i h1 h2
  simp only [List.getElem_map, List.getElem_mapIdx]
  split <;> rfl
theorem cutL_in {cuts : List Int} {ns : List Nod} {x : Nod} (h : x ∈ cutL cuts ns) : ∃ y ∈ ns, ∃ m, x = cutN y m := by
 unfold cutL mixN at h
 obtain ⟨i, hi, e⟩ := List.mem_iff_getElem.1 h
 have hi' : i < ns.length := by simpa using hi
 rw [List.getElem_mapIdx, if_pos hi'] at e
 exact ⟨ns[i], List.getElem_mem hi', cuts.getD i 0, e.symm⟩
theorem bytes_le : ∀ {ns ms : List Nod}, ns.length = ms.length → (∀ i (h1 : i < ns.length) (h2 : i < ms.length), ns[i].data.size ≤ ms[i].data.size) → bytesOf ns ≤ bytesOf ms
 | [], [], _, _ => Nat.le_refl _
 | x :: r, y :: s, hl, h => by
  have h0 := h 0 (by simp) (by simp)
  have ih := bytes_le (ns := r) (ms := s) (by simpa using hl) fun i h1 h2 => h (i + 1) (by simp; omega) (by simp; omega)
  simp only [List.getElem_cons_zero] at h0
  simp only [bytesOf]
  omega
theorem cutL_at (cuts : List Int) (ns : List Nod) (i : Nat) (h1 : i < (cutL cuts ns).length) (h2 : i < ns.length) : (cutL cuts ns)[i] = cutN ns[i] (cuts.getD i 0) := by
 have h : (cutL cuts ns)[i]? = some (cutN ns[i] (cuts.getD i 0)) := by
  unfold cutL mixN
  rw [List.getElem?_mapIdx, List.getElem?_eq_getElem h2]
  simp [h2]
 exact (List.getElem?_eq_some_iff.1 h).2
theorem RD.cut {d : Dsk} (h : RD d) (cuts : List Int) : (∀ x ∈ cutL cuts d.nods, 0 ≤ x.sure ∧ x.sure = (x.data.size : Int)) ∧ (bytesOf (cutL cuts d.nods) : Int) ≤ d.room := by
 constructor
 ·intro x hx
  obtain ⟨y, hy, m, rfl⟩ := cutL_in hx
  obtain ⟨h0, h1⟩ := (h.nid y hy).2
  have := cutN_sizeN (more := m) h0 h1
  have h2 := cutS_inN (more := m) h0 h1
  refine ⟨?_, this.1.symm⟩
  show 0 ≤ cutS _ _ _
  omega
 ·have hl : (cutL cuts d.nods).length = d.nods.length := by have := congrArg List.length (cutL_ids cuts d.nods); simpa using this
  have := bytes_le hl fun i h1 h2 => by
   rw [cutL_at cuts d.nods i h1 h2]
   obtain ⟨g0, g1⟩ := (h.nid _ (List.getElem_mem h2)).2
   exact (cutN_sizeN g0 g1).2
  have := h.sz.b
  omega
theorem RD.crash {d : Dsk} (h : RD d) (keep : Int) (cuts : List Int) : RD (crashD d keep cuts) :=
 h.settle (h.linksC keep) (cutL_ids cuts d.nods) (fun x hx => by have := (h.cut cuts).1 x hx; omega) (h.cut cuts).2
theorem crash_twice {d : Dsk} (h : RD d) (keep : Int) (cuts : List Int) (k2 : Int) (c2 : List Int) : crashD (crashD d keep cuts) k2 c2 = crashD d keep cuts := by
 have hr := h.crash keep cuts
 have hsure : ∀ x ∈ (crashD d keep cuts).nods, 0 ≤ x.sure ∧ x.sure = (x.data.size : Int) := fun x hx => (h.cut cuts).1 x (List.mem_filter.1 hx).1
 have hm : (crashD d keep cuts).movs = [] := rfl
 generalize crashD d keep cuts = x at *
 have e1 : crashL x k2 = x.dir := by unfold crashL; rw [hm, List.take_nil]; rfl
 have e2 : cutL c2 x.nods = x.nods := by
  unfold cutL mixN
  apply List.ext_getElem
  ·simp
  ·intro i h1 h2
   rw [List.getElem_mapIdx, if_pos h2]
   obtain ⟨g0, g1⟩ := hsure _ (List.getElem_mem h2)
   have e : cutS x.nods[i].data.size x.nods[i].sure (c2.getD i 0) = (x.nods[i].data.size : Int) := by
    unfold cutS
    split
    ·exact g1
    ·split
     ·rfl
     ·omega
   unfold cutN
   rw [e, Int.toNat_natCast, ByteArray.extract_zero_size, ← g1]
 have e3 : keptN x.dir x.nods = x.nods := by
  unfold keptN
  rw [List.filter_eq_self]
  intro y hy
  rcases hr.own y hy with h1 | h1
  ·exact h1
  ·rw [hm] at h1; cases h1
 unfold crashD
 rw [e1, e2, e3]
 obtain ⟨a, b, c, e, f⟩ := x
 simp only at hm
 rw [hm]
theorem RD.step {d : Dsk} (h : RD d) (k : Int) (n t x : ByteArray) : RD (stepY d k n t x).1 ∧ ((stepY d k n t x).2 ≠ 0 → (stepY d k n t x).1 = d) := by
 unfold stepY
 split
 ·refine ⟨h.make n, fun hc => ?_⟩
  show makeD d n = d
  unfold makeD
  rw [if_neg hc]
 split
 ·refine ⟨h.add n x, fun hc => ?_⟩
  show addD d n x = d
  unfold addD
  rw [if_neg hc]
 split
 ·refine ⟨h.sync n, fun hc => ?_⟩
  have hc' : named d n ≠ 0 := hc
  show syncD d n = d
  unfold syncD
  split
  ·rfl
  ·rename_i h1
   split
   ·rfl
   ·rename_i j hj
    exact absurd (by unfold named; rw [if_neg h1, if_neg (by rw [hj]; simp)]) hc'
 split
 ·refine ⟨h.ren n t, fun hc => ?_⟩
  show (movedC d _ _).1 = d
  have hc' : (movedC d ⟨2, n, t, 0⟩ (renC d n t)).2 ≠ 0 := hc
  unfold movedC at hc' ⊢
  split
  ·rename_i h0
   rw [if_pos h0] at hc'
   unfold movedD at hc' ⊢
   split
   ·rfl
   ·rename_i h1
    rw [if_neg h1] at hc'
    exact absurd rfl hc'
  ·rfl
 split
 ·refine ⟨h.drop n, fun hc => ?_⟩
  show (movedC d _ _).1 = d
  have hc' : (movedC d ⟨3, n, ⟨#[]⟩, 0⟩ (named d n)).2 ≠ 0 := hc
  unfold movedC at hc' ⊢
  split
  ·rename_i h0
   rw [if_pos h0] at hc'
   unfold movedD at hc' ⊢
   split
   ·rfl
   ·rename_i h1
    rw [if_neg h1] at hc'
    exact absurd rfl hc'
  ·rfl
 split
 ·exact ⟨h.syncDir, fun hc => absurd rfl hc⟩
 ·exact ⟨h, fun _ => rfl⟩
end Go.Proofs.YtgjilgecklhglaaGreat
namespace Go.Proofs.YtgjilgecklhglaaGreat
open Go.RowKit Go.PlainAid
set_option linter.unusedVariables false
structure Small (d : Dsk) : Prop where
 n : d.nods.length ≤ 12
 l : d.dir.length ≤ 12
 m : d.movs.length ≤ 22
 b : bytesOf d.nods ≤ 200000
 lx : ∀ x ∈ d.dir, x.name.size ≤ 13 ∧ IntOk x.id
 mx : ∀ x ∈ d.movs, (x.name.size ≤ 13 ∧ x.to.size ≤ 13) ∧ IntOk x.id
theorem bytes_mem : ∀ (ns : List Nod), ∀ x ∈ ns, x.data.size ≤ bytesOf ns
 | y :: r, x, h => by
  rcases List.mem_cons.1 h with rfl | h
  ·simp only [bytesOf]; omega
  ·have := bytes_mem r x h
   simp only [bytesOf]; omega
theorem wtN_bytes : ∀ (ns : List Nod), wtN ns = bytesOf ns
 | [] => rfl
 | x :: r => by simp only [wtN, wtN1, bytesOf, wtN_bytes r]
theorem wtL_few : ∀ (l : List Lnk), (∀ x ∈ l, x.name.size ≤ 13 ∧ IntOk x.id) → wtL l ≤ 13 * l.length
 | [], _ => by simp [wtL]
 | x :: r, h => by
  have h1 := wtL_few r (fun y hy => h y (by simp [hy]))
  have h2 := (h x (by simp)).1
  simp only [wtL, wtL1, List.length_cons]
  omega
theorem wtM_few : ∀ (l : List Mov), (∀ x ∈ l, (x.name.size ≤ 13 ∧ x.to.size ≤ 13) ∧ IntOk x.id) → wtM l ≤ 26 * l.length
 | [], _ => by simp [wtM]
 | x :: r, h => by
  have h1 := wtM_few r (fun y hy => h y (by simp [hy]))
  have h2 := (h x (by simp)).1
  simp only [wtM, wtM1, List.length_cons]
  omega
theorem Small.fits {d : Dsk} (h : Small d) : Fits d := by
 have h1 := h.n; have h2 := h.l; have h3 := h.m; have h4 := h.b
 refine ⟨by unfold maxLen; omega, by unfold maxLen; omega, by unfold maxLen; omega, fun x hx => ?_, fun x hx => ?_, fun x hx => ?_⟩
 ·have := bytes_mem d.nods x hx; unfold maxLen; omega
 ·have := (h.lx x hx).1; unfold maxLen; omega
 ·have := (h.mx x hx).1; unfold maxLen; omega
theorem Small.ints {d : Dsk} (h : Small d) : IntsOk d := ⟨fun x hx => (h.lx x hx).2, fun x hx => (h.mx x hx).2⟩
theorem Small.wt {d : Dsk} (h : Small d) : wtD d ≤ 1048576 := by
 have h1 := h.n; have h2 := h.l; have h3 := h.m; have h4 := h.b
 have h5 := wtL_few d.dir h.lx
 have h6 := wtM_few d.movs h.mx
 unfold wtD
 rw [wtN_bytes]
 omega
theorem nameOk_size {s : ByteArray} (h : nameOk s = true) : 1 ≤ s.size ∧ s.size ≤ 12 := by
 unfold nameOk at h
 simp only [Bool.and_eq_true, decide_eq_true_eq] at h
 exact h.1
theorem apply_mov {l l' : List Lnk} {m : Mov} (h : apply l m = some l') : nameOk m.name = true ∧ m.to.size ≤ 12 ∧ (m.kind = 1 ∨ m.id = 0) := by
 unfold apply at h
 split at h
 ·cases h
 rename_i h1
 refine ⟨by simpa using h1, ?_⟩
 split at h
 ·rename_i h2
  exact ⟨by omega, .inl h2.1⟩
 ·split at h
  ·split at h
   ·rename_i h3
    have := nameOk_size h3.2.2.1
    exact ⟨by omega, .inr h3.2.1⟩
   ·split at h
    ·rename_i h3
     exact ⟨by omega, .inr h3.2.1⟩
    ·cases h
  ·cases h
theorem RD.small {d : Dsk} (h : RD d) (hr : d.room ≤ 100000) : Small d := by
 have hb := h.sz.b
 have hx := h.sz.x1
 refine ⟨by have := h.sz.n; omega, by have := h.sz.l; omega, by have := h.sz.m; omega, by omega, fun x hx' => ?_, fun m hm => ?_⟩
 ·have h1 := nameOk_size (h.dok x hx')
  obtain ⟨y, hy, e⟩ := h.dnod x hx'
  have h2 := (h.nid y hy).1
  exact ⟨by omega, by unfold IntOk; omega⟩
 ·obtain ⟨j, hj, rfl⟩ := List.mem_iff_getElem.1 hm
  obtain ⟨l', hl⟩ := Option.isSome_iff_exists.1 (h.mfit.at j hj)
  obtain ⟨h1, h2, h3⟩ := apply_mov hl
  have h4 := nameOk_size h1
  refine ⟨⟨by omega, by omega⟩, ?_⟩
  rcases h3 with h3 | h3
  ·obtain ⟨⟨y, hy, e⟩, _⟩ := h.mnod _ hm h3
   have h5 := (h.nid y hy).1
   unfold IntOk; omega
  ·unfold IntOk; omega
theorem make_room (d : Dsk) (n : ByteArray) : (makeD d n).room = d.room := by unfold makeD; split <;> rfl
theorem add_room (d : Dsk) (n m : ByteArray) : (addD d n m).room = d.room := by unfold addD; split; (split <;> rfl); rfl
theorem sync_room (d : Dsk) (n : ByteArray) : (syncD d n).room = d.room := by unfold syncD; split; rfl; (split <;> rfl)
theorem movC_room (d : Dsk) (m : Mov) (c : Int) : (movedC d m c).1.room = d.room := by unfold movedC movedD; split; (split <;> rfl); rfl
def RS (d : Dsk) : Prop := RD d ∧ d.room ≤ 100000
theorem RS.ok {d : Dsk} (h : RS d) : diskOk d = true := RD.iff.2 h.1
theorem RS.small {d : Dsk} (h : RS d) : Small d := h.1.small h.2
theorem RS.make {d : Dsk} (h : RS d) (n : ByteArray) : RS (makeR d n).1 := by unfold makeR; rw [if_pos h.ok]; exact ⟨h.1.make n, by show (makeD d n).room ≤ _; rw [make_room]; exact h.2⟩
theorem RS.add {d : Dsk} (h : RS d) (n m : ByteArray) : RS (addR d n m).1 := by unfold addR; rw [if_pos h.ok]; exact ⟨h.1.add n m, by show (addD d n m).room ≤ _; rw [add_room]; exact h.2⟩
theorem RS.sync {d : Dsk} (h : RS d) (n : ByteArray) : RS (syncR d n).1 := by unfold syncR; rw [if_pos h.ok]; exact ⟨h.1.sync n, by show (syncD d n).room ≤ _; rw [sync_room]; exact h.2⟩
theorem RS.ren {d : Dsk} (h : RS d) (a b : ByteArray) : RS (renameR d a b).1 := by unfold renameR; rw [if_pos h.ok]; exact ⟨h.1.ren a b, by show (movedC d _ _).1.room ≤ _; rw [movC_room]; exact h.2⟩
theorem RS.drop {d : Dsk} (h : RS d) (n : ByteArray) : RS (dropR d n).1 := by unfold dropR; rw [if_pos h.ok]; exact ⟨h.1.drop n, by show (movedC d _ _).1.room ≤ _; rw [movC_room]; exact h.2⟩
theorem RS.syncDir {d : Dsk} (h : RS d) : RS (syncDirR d).1 := by unfold syncDirR; rw [if_pos h.ok]; exact ⟨h.1.syncDir, h.2⟩
theorem RS.bare {r : Int} (h0 : 0 ≤ r) (h1 : r ≤ 100000) : RS ⟨r, 1, [], [], []⟩ :=
 ⟨⟨⟨h0, by show r ≤ 1048576; omega, by show (1 : Int) ≤ 1; omega, by show (1 : Int) ≤ 1000000; omega, Nat.zero_le _, Nat.zero_le _, Nat.zero_le _, h0⟩, fun x hx => (by cases hx), List.Pairwise.nil, fun x hx => (by cases hx), fun x hx => (by cases hx), List.Pairwise.nil, fun x hx => (by cases hx), List.Pairwise.nil, trivial, fun x hx => (by cases hx), List.Pairwise.nil⟩, h1⟩
end Go.Proofs.YtgjilgecklhglaaGreat
namespace Go.Proofs.YtgjilgecklhglaaGreat
set_option linter.unusedVariables false
section
variable {P : Program} {Q : Exit → Act → World → Prop} {md : Region.Mode} {S : World → Prop} {T : Nat → Bool}
theorem tF {l : List Oper} (i : Nat) {oi : Oper} {rest : List Oper} {v : Value} {fuel : Nat} {listed : Array Bool} {a b : Act} {w : World} (hS : S w) (h : wpUntil P md l.toArray Q S T fuel (listed.setIfInBounds i true) b w) (hd : l.drop i = oi :: rest := by rfl) (hB : takeB md l.toArray T listed i = true := by kernel_rfl) (hw : Region.wanted oi (yielded l.toArray a.tmps) = true := by rfl) (hy : ∀ w, S w → (execOp a.eval oi).run P w = .ok (.value v) w := by intro w hSw; (try dsimp only at hSw); go_simp; try with_reducible rfl) (hb : a.put oi.dst v = b := by (try simp only [Act.put, zQ1, zQ2, zQ3]); exact rfl) (hQ : ∀ c a w, Q (.panic c) (a.put oi.dst v) w → Q (.panic c) a w := by exact fun _ _ _ h => h) : wpUntil P md l.toArray Q S T (fuel + 1) listed a w := until_take i hd hB hQ hw hy hS (hb ▸ h)
theorem pF {l : List Oper} (i : Nat) {oi : Oper} {rest : List Oper} {v : Value} {fuel : Nat} {listed : Array Bool} {a b : Act} {w : World} (h : wpUntil P md l.toArray Q S T fuel (listed.setIfInBounds i true) b w) (hd : l.drop i = oi :: rest := by rfl) (hB : pureB md l.toArray listed i = true := by kernel_rfl) (hw : Region.wanted oi (yielded l.toArray a.tmps) = true := by rfl) (hy : ∀ w, (execOp a.eval oi).run P w = .ok (.value v) w := by intro w; go_simp; try with_reducible rfl) (hb : a.put oi.dst v = b := by (try simp only [Act.put, zQ1, zQ2, zQ3]); exact rfl) (hQ : ∀ c a w, Q (.panic c) (a.put oi.dst v) w → Q (.panic c) a w := by exact fun _ _ _ h => h) : wpUntil P md l.toArray Q S T (fuel + 1) listed a w := until_pure i hd hB hQ hw hy (hb ▸ h)
end
end Go.Proofs.YtgjilgecklhglaaGreat
namespace Go.Proofs.YtgjilgecklhglaaGreat
open Go.ChangeShapes Go.WideShapes Go.ChangeAt Go.RowKit Go.PlainAid
set_option linter.unusedVariables false
def bare (room next : Int) : Value := .agg #[.int .i64 room, .int .i64 next, .slice none 0 0, .slice none 0 0, .slice none 0 0]
set_option maxHeartbeats 1000000 in
theorem spec_new_yes (room : Int) (w : World) (h0 : 0 ≤ room) (h1 : room ≤ 1048576) :
  Calls Tryz.prog 8 #[.int .i64 room] w fun e w' => e = .returned (.tuple #[bare room 1, .bool true]) ∧ Below w.heap.size w w' := by
 have cR := fun wx => inB room 0 1048576 wx
 rw [decide_eq_true h0, decide_eq_true h1] at cR
 unfold bare
 go_enter Tryz.func8, Tryz.ntmps8
 go_wp2_with (go_at_call 29; refine (cR _).mono ?_; rintro e w1 ⟨rfl, rfl⟩)
 exact bodyPost_ret (v := .tuple #[.agg #[.int .i64 room, .int .i64 1, .slice none 0 0, .slice none 0 0, .slice none 0 0], .bool true]) (by simp [results, Tryz.results8, go_sem]) rfl ⟨rfl, by
  first
  | exact (Below.refl _ _).alloc (Nat.le_refl _) _
  | exact ((Below.refl _ _).alloc (Nat.le_refl _) _).alloc (by simp) _⟩
end Go.Proofs.YtgjilgecklhglaaGreat
namespace Go.Proofs.YtgjilgecklhglaaGreat
open Go.ChangeShapes Go.WideShapes Go.ChangeAt Go.RowKit Go.PlainAid
set_option linter.unusedVariables false
theorem Strs.heap {w w' : World} {base : Nat} {v : Value} {l : List ByteArray} (h : Strs w base v l) (hh : w'.heap = w.heap) : Strs w' base v l := h.kept fun g _ _ => by rw [hh]
theorem below_heap {w w' : World} (h1 : w'.heap = w.heap) (h2 : w'.os = w.os) (h3 : w'.tape = w.tape) (h4 : w'.output = w.output) : Below w.heap.size w w' := ⟨h2, h3, h4, by rw [h1]; exact Nat.le_refl _, fun k _ => by rw [h1]⟩
def Like (w w' : World) : Prop := w'.heap = w.heap ∧ w'.os = w.os ∧ w'.tape = w.tape ∧ w'.output = w.output
theorem Like.refl (w : World) : Like w w := ⟨rfl, rfl, rfl, rfl⟩
theorem Like.drewN {w w' : World} (h : Like w w') (n : Nat) : Like w (w'.drewN n) := h
theorem Like.below {w w' : World} (h : Like w w') : Below w.heap.size w w' := below_heap h.1 h.2.1 h.2.2.1 h.2.2.2
end Go.Proofs.YtgjilgecklhglaaGreat
namespace Go.Proofs.YtgjilgecklhglaaGreat
open Go.RowKit Go.PlainAid
set_option linter.unusedVariables false
theorem RD.mid {d : Dsk} (h : RD d) (hb : bytesOf d.nods ≤ 300000) : Fits d ∧ IntsOk d ∧ wtD d ≤ 1048576 := by
 have hn := h.sz.n
 have hl := h.sz.l
 have hm := h.sz.m
 have lx : ∀ x ∈ d.dir, x.name.size ≤ 13 ∧ IntOk x.id := fun x hx' => by
  have h1 := nameOk_size (h.dok x hx')
  obtain ⟨y, hy, e⟩ := h.dnod x hx'
  have h2 := (h.nid y hy).1
  have hx := h.sz.x1
  exact ⟨by omega, by unfold IntOk; omega⟩
 have mx : ∀ x ∈ d.movs, (x.name.size ≤ 13 ∧ x.to.size ≤ 13) ∧ IntOk x.id := fun m hm => by
  obtain ⟨j, hj, rfl⟩ := List.mem_iff_getElem.1 hm
  obtain ⟨l', hl⟩ := Option.isSome_iff_exists.1 (h.mfit.at j hj)
  obtain ⟨h1, h2, h3⟩ := apply_mov hl
  have h4 := nameOk_size h1
  have hx := h.sz.x1
  refine ⟨⟨by omega, by omega⟩, ?_⟩
  rcases h3 with h3 | h3
  ·obtain ⟨⟨y, hy, e⟩, _⟩ := h.mnod _ hm h3
   have h5 := (h.nid y hy).1
   unfold IntOk; omega
  ·unfold IntOk; omega
 refine ⟨⟨by unfold maxLen; omega, by unfold maxLen; omega, by unfold maxLen; omega, fun x hx => ?_, fun x hx => ?_, fun x hx => ?_⟩, ⟨fun x hx => (lx x hx).2, fun x hx => (mx x hx).2⟩, ?_⟩
 ·have := bytes_mem d.nods x hx; unfold maxLen; omega
 ·have := (lx x hx).1; unfold maxLen; omega
 ·have := (mx x hx).1; unfold maxLen; omega
 ·have h5 := wtL_few d.dir lx
  have h6 := wtM_few d.movs mx
  unfold wtD
  rw [wtN_bytes]
  omega
theorem bytes_put (ns : List Nod) (j : Nat) (x : Nod) (k : Nat) (hx : x.data.size ≤ (ns.getD j default).data.size + k) : bytesOf (ns.set j x) ≤ bytesOf ns + k := by
 by_cases h : j < ns.length
 ·have := bytes_set ns j h x
  rw [getE ns j h] at hx
  omega
 ·rw [List.set_eq_of_length_le (by omega)]
  omega
theorem make_bytes (d : Dsk) (n : ByteArray) : bytesOf (makeD d n).nods ≤ bytesOf d.nods := by
 unfold makeD
 split
 ·show bytesOf (d.nods ++ _) ≤ _
  rw [bytes_cat]
  have : (⟨#[]⟩ : ByteArray).size = 0 := rfl
  simp only [bytesOf, this]
  omega
 ·exact Nat.le_refl _
theorem add_bytes (d : Dsk) (n x : ByteArray) : bytesOf (addD d n x).nods ≤ bytesOf d.nods + x.size := by
 unfold addD
 split
 ·split
  ·omega
  ·exact bytes_put _ _ _ _ (by show (_ ++ x).size ≤ _; rw [ByteArray.size_append]; exact Nat.le_refl _)
 ·omega
theorem sync_bytes (d : Dsk) (n : ByteArray) : bytesOf (syncD d n).nods ≤ bytesOf d.nods := by
 unfold syncD
 split
 ·exact Nat.le_refl _
 ·split
  ·exact Nat.le_refl _
  ·exact bytes_put _ _ _ 0 (Nat.le_refl _)
theorem movC_bytes (d : Dsk) (m : Mov) (c : Int) : bytesOf (movedC d m c).1.nods ≤ bytesOf d.nods := by
 unfold movedC movedD
 split
 ·split <;> exact Nat.le_refl _
 ·exact Nat.le_refl _
theorem step_bytes (d : Dsk) (k : Int) (n t x : ByteArray) : bytesOf (stepY d k n t x).1.nods ≤ bytesOf d.nods + x.size := by
 unfold stepY
 split
 ·exact Nat.le_trans (make_bytes d n) (Nat.le_add_right _ _)
 split
 ·exact add_bytes d n x
 split
 ·exact Nat.le_trans (sync_bytes d n) (Nat.le_add_right _ _)
 split
 ·exact Nat.le_trans (movC_bytes d _ _) (Nat.le_add_right _ _)
 split
 ·exact Nat.le_trans (movC_bytes d _ _) (Nat.le_add_right _ _)
 split
 ·have := bytes_filter (fun x => linked (now d) x.id) d.nods
  show bytesOf (keptN (now d) d.nods) ≤ _
  unfold keptN
  omega
 ·exact Nat.le_add_right _ _
theorem RD.crash_bytes {d : Dsk} (h : RD d) (keep : Int) (cuts : List Int) : bytesOf (crashD d keep cuts).nods ≤ bytesOf d.nods := by
 have hl : (cutL cuts d.nods).length = d.nods.length := mixN_length cuts d.nods _
 have h1 := bytes_le hl fun i h1 h2 => by
  rw [cutL_at cuts d.nods i h1 h2]
  obtain ⟨g0, g1⟩ := (h.nid _ (List.getElem_mem h2)).2
  exact (cutN_sizeN g0 g1).2
 have h2 := bytes_filter (fun x => linked (crashL d keep) x.id) (cutL cuts d.nods)
 show bytesOf (keptN (crashL d keep) (cutL cuts d.nods)) ≤ _
 unfold keptN
 omega
theorem zero_not : diskOk zeroD = false := by
 have : sizeOk zeroD = false := by decide
 unfold diskOk
 rw [this]
 rfl
end Go.Proofs.YtgjilgecklhglaaGreat
namespace Go.Proofs.YtgjilgecklhglaaGreat
open Go.ChangeShapes Go.WideShapes Go.ChangeAt Go.RowKit Go.PlainAid
set_option linter.unusedVariables false
set_option maxHeartbeats 1000000 in
theorem act1V (w : World) (base p : Nat) (d : Dsk) (bi bd bw : Nat) (gs : List Nat) (u : Value) (k : Int) (n t x : ByteArray) (b : Nat) (h : OpenD w base p d bi bd bw gs u) (hd : Whole d) (hw : wtD d ≤ 1048576) (hn : n.size ≤ maxLen) (ht : t.size ≤ maxLen) (hx : x.size ≤ maxLen) (hB : base ≤ w.heap.size) (hc : Blk w b #[.int .i64 k, .string n, .string t, .string x] 55) :
  Calls Tryz.prog 86 #[.pointer (some ⟨p, 0, none⟩), .pointer (some ⟨b, 0, none⟩)] w fun e w' => e = .returned (.int .i64 (makeC d n)) ∧ Tellable w' p (makeD d n) ∧ Below base w w' := by
 have cF := makeFileV w base p d bi bd bw gs u n h hd hw hn hB
 have c1 := hc.cell 1 _ rfl
 have c2 := hc.cell 2 _ rfl
 have c3 := hc.cell 3 _ rfl
 clear h hd hw hB hn ht hx hc
 go_enter Tryz.func86, Tryz.ntmps86
 go_wp2_with fail
 refine cF.mono ?_
 rintro e w1 ⟨rfl, hT, hb⟩
 have HT : Hid (Tellable w1 p (makeD d n)) := hT
 clear hT
 go_wp2_with fail
 go_ret
 exact ⟨rfl, HT.out, hb⟩
set_option maxHeartbeats 1000000 in
theorem act2V (w : World) (base p : Nat) (d : Dsk) (bi bd bw : Nat) (gs : List Nat) (u : Value) (k : Int) (n t x : ByteArray) (b : Nat) (h : OpenD w base p d bi bd bw gs u) (hd : Whole d) (hw : wtD d ≤ 1048576) (hn : n.size ≤ maxLen) (ht : t.size ≤ maxLen) (hx : x.size ≤ maxLen) (hB : base ≤ w.heap.size) (hc : Blk w b #[.int .i64 k, .string n, .string t, .string x] 55) :
  Calls Tryz.prog 87 #[.pointer (some ⟨p, 0, none⟩), .pointer (some ⟨b, 0, none⟩)] w fun e w' => e = .returned (.int .i64 (addC d n x)) ∧ Tellable w' p (addD d n x) ∧ Below base w w' := by
 have cF := addDataV w base p d bi bd bw gs u n x h hd hw hn hx hB
 have c1 := hc.cell 1 _ rfl
 have c2 := hc.cell 2 _ rfl
 have c3 := hc.cell 3 _ rfl
 clear h hd hw hB hn ht hx hc
 go_enter Tryz.func87, Tryz.ntmps87
 go_wp2_with fail
 refine cF.mono ?_
 rintro e w1 ⟨rfl, hT, hb⟩
 have HT : Hid (Tellable w1 p (addD d n x)) := hT
 clear hT
 go_wp2_with fail
 go_ret
 exact ⟨rfl, HT.out, hb⟩
set_option maxHeartbeats 1000000 in
theorem act3V (w : World) (base p : Nat) (d : Dsk) (bi bd bw : Nat) (gs : List Nat) (u : Value) (k : Int) (n t x : ByteArray) (b : Nat) (h : OpenD w base p d bi bd bw gs u) (hd : Whole d) (hw : wtD d ≤ 1048576) (hn : n.size ≤ maxLen) (ht : t.size ≤ maxLen) (hx : x.size ≤ maxLen) (hB : base ≤ w.heap.size) (hc : Blk w b #[.int .i64 k, .string n, .string t, .string x] 55) :
  Calls Tryz.prog 88 #[.pointer (some ⟨p, 0, none⟩), .pointer (some ⟨b, 0, none⟩)] w fun e w' => e = .returned (.int .i64 (named d n)) ∧ Tellable w' p (syncD d n) ∧ Below base w w' := by
 have cF := syncFileV w base p d bi bd bw gs u n h hd hw hn hB
 have c1 := hc.cell 1 _ rfl
 have c2 := hc.cell 2 _ rfl
 have c3 := hc.cell 3 _ rfl
 clear h hd hw hB hn ht hx hc
 go_enter Tryz.func88, Tryz.ntmps88
 go_wp2_with fail
 refine cF.mono ?_
 rintro e w1 ⟨rfl, hT, hb⟩
 have HT : Hid (Tellable w1 p (syncD d n)) := hT
 clear hT
 go_wp2_with fail
 go_ret
 exact ⟨rfl, HT.out, hb⟩
set_option maxHeartbeats 1000000 in
theorem act4V (w : World) (base p : Nat) (d : Dsk) (bi bd bw : Nat) (gs : List Nat) (u : Value) (k : Int) (n t x : ByteArray) (b : Nat) (h : OpenD w base p d bi bd bw gs u) (hd : Whole d) (hw : wtD d ≤ 1048576) (hn : n.size ≤ maxLen) (ht : t.size ≤ maxLen) (hx : x.size ≤ maxLen) (hB : base ≤ w.heap.size) (hc : Blk w b #[.int .i64 k, .string n, .string t, .string x] 55) :
  Calls Tryz.prog 90 #[.pointer (some ⟨p, 0, none⟩), .pointer (some ⟨b, 0, none⟩)] w fun e w' => e = .returned (.int .i64 ((movedC d ⟨2, n, t, 0⟩ (renC d n t)).2)) ∧ Tellable w' p ((movedC d ⟨2, n, t, 0⟩ (renC d n t)).1) ∧ Below base w w' := by
 have cF := renameFileV w base p d bi bd bw gs u n t h hd hw hn ht hB
 have c1 := hc.cell 1 _ rfl
 have c2 := hc.cell 2 _ rfl
 have c3 := hc.cell 3 _ rfl
 clear h hd hw hB hn ht hx hc
 go_enter Tryz.func90, Tryz.ntmps90
 go_wp2_with fail
 refine cF.mono ?_
 rintro e w1 ⟨rfl, hT, hb⟩
 have HT : Hid (Tellable w1 p ((movedC d ⟨2, n, t, 0⟩ (renC d n t)).1)) := hT
 clear hT
 go_wp2_with fail
 go_ret
 exact ⟨rfl, HT.out, hb⟩
set_option maxHeartbeats 1000000 in
theorem act5V (w : World) (base p : Nat) (d : Dsk) (bi bd bw : Nat) (gs : List Nat) (u : Value) (k : Int) (n t x : ByteArray) (b : Nat) (h : OpenD w base p d bi bd bw gs u) (hd : Whole d) (hw : wtD d ≤ 1048576) (hn : n.size ≤ maxLen) (ht : t.size ≤ maxLen) (hx : x.size ≤ maxLen) (hB : base ≤ w.heap.size) (hc : Blk w b #[.int .i64 k, .string n, .string t, .string x] 55) :
  Calls Tryz.prog 92 #[.pointer (some ⟨p, 0, none⟩), .pointer (some ⟨b, 0, none⟩)] w fun e w' => e = .returned (.int .i64 ((movedC d ⟨3, n, ⟨#[]⟩, 0⟩ (named d n)).2)) ∧ Tellable w' p ((movedC d ⟨3, n, ⟨#[]⟩, 0⟩ (named d n)).1) ∧ Below base w w' := by
 have cF := dropFileV w base p d bi bd bw gs u n h hd hw hn hB
 have c1 := hc.cell 1 _ rfl
 have c2 := hc.cell 2 _ rfl
 have c3 := hc.cell 3 _ rfl
 clear h hd hw hB hn ht hx hc
 go_enter Tryz.func92, Tryz.ntmps92
 go_wp2_with fail
 refine cF.mono ?_
 rintro e w1 ⟨rfl, hT, hb⟩
 have HT : Hid (Tellable w1 p ((movedC d ⟨3, n, ⟨#[]⟩, 0⟩ (named d n)).1)) := hT
 clear hT
 go_wp2_with fail
 go_ret
 exact ⟨rfl, HT.out, hb⟩
set_option maxHeartbeats 1000000 in
theorem act6V (w : World) (base p : Nat) (d : Dsk) (bi bd bw : Nat) (gs : List Nat) (u : Value) (k : Int) (n t x : ByteArray) (b : Nat) (h : OpenD w base p d bi bd bw gs u) (hd : Whole d) (hw : wtD d ≤ 1048576) (hn : n.size ≤ maxLen) (ht : t.size ≤ maxLen) (hx : x.size ≤ maxLen) (hB : base ≤ w.heap.size) (hc : Blk w b #[.int .i64 k, .string n, .string t, .string x] 55) :
  Calls Tryz.prog 94 #[.pointer (some ⟨p, 0, none⟩)] w fun e w' => e = .returned (.int .i64 (0)) ∧ Tellable w' p (syncDirD d) ∧ Below base w w' := by
 have cF := syncNamesV w base p d bi bd bw gs u  h hd hw  hB
 have c1 := hc.cell 1 _ rfl
 have c2 := hc.cell 2 _ rfl
 have c3 := hc.cell 3 _ rfl
 clear h hd hw hB hn ht hx hc
 go_enter Tryz.func94, Tryz.ntmps94
 go_wp2_with fail
 refine cF.mono ?_
 rintro e w1 ⟨rfl, hT, hb⟩
 have HT : Hid (Tellable w1 p (syncDirD d)) := hT
 clear hT
 go_wp2_with fail
 go_ret
 exact ⟨rfl, HT.out, hb⟩
theorem act7V (w : World) (base p : Nat) (d : Dsk) (bi bd bw : Nat) (gs : List Nat) (u : Value) (h : OpenD w base p d bi bd bw gs u) (hd : Whole d) (hw : wtD d ≤ 1048576) :
  Calls Tryz.prog 96 #[.pointer (some ⟨p, 0, none⟩)] w fun e w' => e = .returned (.int .i64 1) ∧ Tellable w' p d ∧ Below base w w' := by
 have HT : Hid (Tellable w p d) := h.tell hd hw
 clear h hd hw
 go_enter Tryz.func96, Tryz.ntmps96
 go_wp2_with fail
 go_ret
 exact ⟨rfl, HT.out, Below.refl _ _⟩
def ActOk (d : Dsk) (k : Int) (n t x : ByteArray) (b F : Nat) (caps : Array Value) : Prop :=
 (∀ args w, (callFunc F args).run Tryz.prog w = .ok (.enter F args) w) ∧ ∀ (w1 : World) (base p bi bd bw : Nat) (gs : List Nat) (u : Value), Whole d → base ≤ w1.heap.size → Blk w1 b #[.int .i64 k, .string n, .string t, .string x] 55 → OpenD w1 base p d bi bd bw gs u →
  Calls Tryz.prog F (#[.pointer (some ⟨p, 0, none⟩)] ++ caps) w1 fun e w2 => e = .returned (.int .i64 (stepY d k n t x).2) ∧ Tellable w2 p (stepY d k n t x).1 ∧ Below base w1 w2
set_option maxRecDepth 20000 in
set_option maxHeartbeats 4000000 in
theorem actOfV (d : Dsk) (k : Int) (n t x : ByteArray) (w : World) (hw : wtD d ≤ 1048576) (hn : n.size ≤ maxLen) (ht : t.size ≤ maxLen) (hx : x.size ≤ maxLen) :
  Calls Tryz.prog 60 #[.agg #[.int .i64 k, .string n, .string t, .string x]] w fun e w' => ∃ F caps, e = .returned (.func (.func F) #[] caps) ∧ ActOk d k n t x w.heap.size F caps ∧ Blk w' w.heap.size #[.int .i64 k, .string n, .string t, .string x] 55 ∧ Below w.heap.size w w' := by
 have HN : Hid (n.size ≤ maxLen) := hn
 have HT : Hid (t.size ≤ maxLen) := ht
 have HX : Hid (x.size ≤ maxLen) := hx
 have HW : Hid (wtD d ≤ 1048576) := hw
 clear hn ht hx hw
 have hmf : ∀ (fn : Fn) (first cap : Array Value) (w : World), (Instr.makeFunc fn first cap).run Tryz.prog w = .ok (.func fn first cap) w := fun _ _ _ _ => rfl
 by_cases h1 : k = 1
 ·subst h1
  have hY : stepY d 1 n t x = (makeD d n, makeC d n) := by unfold stepY; rw [if_pos rfl]
  go_enter Tryz.func60, Tryz.ntmps60
  go_wp2_with fail
  go_ret
  refine ⟨_, _, rfl, ⟨enters_of Tryz.func86 (by kernel_rfl) rfl, fun w1 base p bi bd bw gs u hd hl hb hO => ?_⟩, Blk.new w _ _, (Below.refl _ _).alloc (Nat.le_refl _) _⟩
  rw [hY]
  exact act1V w1 base p d bi bd bw gs u 1 n t x w.heap.size hO hd HW.out HN.out HT.out HX.out hl hb
 have c1 : (k == 1) = false := by simp [h1]
 have e1 : decide (k = 1) = false := decide_eq_false h1
 by_cases h2 : k = 2
 ·subst h2
  have hY : stepY d 2 n t x = (addD d n x, addC d n x) := by unfold stepY; rw [if_neg (by decide), if_pos rfl]
  go_enter Tryz.func60, Tryz.ntmps60
  go_wp2_with fail
  go_ret
  refine ⟨_, _, rfl, ⟨enters_of Tryz.func87 (by kernel_rfl) rfl, fun w1 base p bi bd bw gs u hd hl hb hO => ?_⟩, Blk.new w _ _, (Below.refl _ _).alloc (Nat.le_refl _) _⟩
  rw [hY]
  exact act2V w1 base p d bi bd bw gs u 2 n t x w.heap.size hO hd HW.out HN.out HT.out HX.out hl hb
 have c2 : (k == 2) = false := by simp [h2]
 have e2 : decide (k = 2) = false := decide_eq_false h2
 by_cases h3 : k = 3
 ·subst h3
  have hY : stepY d 3 n t x = (syncD d n, named d n) := by unfold stepY; rw [if_neg (by decide), if_neg (by decide), if_pos rfl]
  go_enter Tryz.func60, Tryz.ntmps60
  go_wp2_with fail
  go_ret
  refine ⟨_, _, rfl, ⟨enters_of Tryz.func88 (by kernel_rfl) rfl, fun w1 base p bi bd bw gs u hd hl hb hO => ?_⟩, Blk.new w _ _, (Below.refl _ _).alloc (Nat.le_refl _) _⟩
  rw [hY]
  exact act3V w1 base p d bi bd bw gs u 3 n t x w.heap.size hO hd HW.out HN.out HT.out HX.out hl hb
 have c3 : (k == 3) = false := by simp [h3]
 have e3 : decide (k = 3) = false := decide_eq_false h3
 by_cases h4 : k = 4
 ·subst h4
  have hY : stepY d 4 n t x = ((movedC d ⟨2, n, t, 0⟩ (renC d n t)).1, (movedC d ⟨2, n, t, 0⟩ (renC d n t)).2) := by unfold stepY; rw [if_neg (by decide), if_neg (by decide), if_neg (by decide), if_pos rfl]
  go_enter Tryz.func60, Tryz.ntmps60
  go_wp2_with fail
  go_ret
  refine ⟨_, _, rfl, ⟨enters_of Tryz.func90 (by kernel_rfl) rfl, fun w1 base p bi bd bw gs u hd hl hb hO => ?_⟩, Blk.new w _ _, (Below.refl _ _).alloc (Nat.le_refl _) _⟩
  rw [hY]
  exact act4V w1 base p d bi bd bw gs u 4 n t x w.heap.size hO hd HW.out HN.out HT.out HX.out hl hb
 have c4 : (k == 4) = false := by simp [h4]
 have e4 : decide (k = 4) = false := decide_eq_false h4
 by_cases h5 : k = 5
 ·subst h5
  have hY : stepY d 5 n t x = ((movedC d ⟨3, n, ⟨#[]⟩, 0⟩ (named d n)).1, (movedC d ⟨3, n, ⟨#[]⟩, 0⟩ (named d n)).2) := by unfold stepY; rw [if_neg (by decide), if_neg (by decide), if_neg (by decide), if_neg (by decide), if_pos rfl]
  go_enter Tryz.func60, Tryz.ntmps60
  go_wp2_with fail
  go_ret
  refine ⟨_, _, rfl, ⟨enters_of Tryz.func92 (by kernel_rfl) rfl, fun w1 base p bi bd bw gs u hd hl hb hO => ?_⟩, Blk.new w _ _, (Below.refl _ _).alloc (Nat.le_refl _) _⟩
  rw [hY]
  exact act5V w1 base p d bi bd bw gs u 5 n t x w.heap.size hO hd HW.out HN.out HT.out HX.out hl hb
 have c5 : (k == 5) = false := by simp [h5]
 have e5 : decide (k = 5) = false := decide_eq_false h5
 by_cases h6 : k = 6
 ·subst h6
  have hY : stepY d 6 n t x = (syncDirD d, 0) := by unfold stepY; rw [if_neg (by decide), if_neg (by decide), if_neg (by decide), if_neg (by decide), if_neg (by decide), if_pos rfl]
  go_enter Tryz.func60, Tryz.ntmps60
  go_wp2_with fail
  go_ret
  refine ⟨_, _, rfl, ⟨enters_of Tryz.func94 (by kernel_rfl) rfl, fun w1 base p bi bd bw gs u hd hl hb hO => ?_⟩, Blk.new w _ _, (Below.refl _ _).alloc (Nat.le_refl _) _⟩
  rw [hY]
  exact act6V w1 base p d bi bd bw gs u 6 n t x w.heap.size hO hd HW.out HN.out HT.out HX.out hl hb
 have c6 : (k == 6) = false := by simp [h6]
 have e6 : decide (k = 6) = false := decide_eq_false h6
 have hY : stepY d k n t x = (d, 1) := stepY_0 h1 h2 h3 h4 h5 h6
 clear h1 h2 h3 h4 h5 h6
 go_enter Tryz.func60, Tryz.ntmps60
 go_wp2_with fail
 go_ret
 refine ⟨_, _, rfl, ⟨enters_of Tryz.func96 (by kernel_rfl) rfl, fun w1 base p bi bd bw gs u hd hl hb hO => ?_⟩, Blk.new w _ _, (Below.refl _ _).alloc (Nat.le_refl _) _⟩
 rw [hY]
 exact act7V w1 base p d bi bd bw gs u hO hd HW.out
end Go.Proofs.YtgjilgecklhglaaGreat
namespace Go.Proofs.YtgjilgecklhglaaGreat
open Go.ChangeShapes Go.WideShapes Go.ChangeAt Go.RowKit Go.PlainAid
set_option linter.unusedVariables false
set_option maxRecDepth 20000 in
set_option maxHeartbeats 4000000 in
theorem implDoStepV (d : Dsk) (v : Value) (k : Int) (n t x : ByteArray) (w : World) (B : Nat) (hv : DiskV w B v d) (hf : Fits d) (hi : IntsOk d) (hw : wtD d ≤ 1048576) (hB : B ≤ w.heap.size) (hn : n.size ≤ maxLen) (ht : t.size ≤ maxLen) (hx : x.size ≤ maxLen) :
  Calls Tryz.prog 25 #[v, .agg #[.int .i64 k, .string n, .string t, .string x]] w fun e w' => ∃ y, e = .returned (.tuple #[y, .int .i64 (doStepR d k n t x).2]) ∧ DiskO w' w.heap.size y (doStepR d k n t x).1 ∧ Below w.heap.size w w' := by
 have HV : Hid (DiskV w B v d) := hv
 have HB : Hid (B ≤ w.heap.size) := hB
 have HF : Hid (Fits d) := hf
 have HI : Hid (IntsOk d) := hi
 have HW : Hid (wtD d ≤ 1048576) := hw
 have HN : Hid (n.size ≤ maxLen) := hn
 have HT : Hid (t.size ≤ maxLen) := ht
 have HX : Hid (x.size ≤ maxLen) := hx
 obtain ⟨v1, v2, v3, rfl, h1, h2, h3⟩ := hv
 clear h1 h2 h3 hB hf hi hw hn ht hx
 go_enter Tryz.func25, Tryz.ntmps25
 go_wp2_with fail
 have hb0 : Below w.heap.size w (((w.alloc (.cells #[.int .i64 d.room, .int .i64 d.next, v1, v2, v3] 28)).alloc (.cells #[.int .i64 k, .string n, .string t, .string x] 55)).alloc (.cells #[.int .i64 0, .int .i64 0, .slice none 0 0, .slice none 0 0, .slice none 0 0] 28)) := (((Below.refl _ w).alloc (Nat.le_refl _) _).alloc (by simp only [World.size_alloc]; omega) _).alloc (by simp only [World.size_alloc]; omega) _
 have bA := ((Blk.new w #[.int .i64 d.room, .int .i64 d.next, v1, v2, v3] 28).alloc (.cells #[.int .i64 k, .string n, .string t, .string x] 55)).alloc (.cells #[.int .i64 0, .int .i64 0, .slice none 0 0, .slice none 0 0, .slice none 0 0] 28)
 have bJ := (Blk.new (w.alloc (.cells #[.int .i64 d.room, .int .i64 d.next, v1, v2, v3] 28)) #[.int .i64 k, .string n, .string t, .string x] 55).alloc (.cells #[.int .i64 0, .int .i64 0, .slice none 0 0, .slice none 0 0, .slice none 0 0] 28)
 have bR := Blk.new ((w.alloc (.cells #[.int .i64 d.room, .int .i64 d.next, v1, v2, v3] 28)).alloc (.cells #[.int .i64 k, .string n, .string t, .string x] 55)) #[.int .i64 0, .int .i64 0, .slice none 0 0, .slice none 0 0, .slice none 0 0] 28
 simp only [World.size_alloc] at bR bJ
 generalize (((w.alloc (.cells #[.int .i64 d.room, .int .i64 d.next, v1, v2, v3] 28)).alloc (.cells #[.int .i64 k, .string n, .string t, .string x] 55)).alloc (.cells #[.int .i64 0, .int .i64 0, .slice none 0 0, .slice none 0 0, .slice none 0 0] 28)) = W at *
 have BW : Hid (Below w.heap.size w W) := hb0
 have KW : Hid (Blk W w.heap.size #[.int .i64 d.room, .int .i64 d.next, v1, v2, v3] 28) := bA
 have JW : Hid (Blk W (w.heap.size + 1) #[.int .i64 k, .string n, .string t, .string x] 55) := bJ
 have RW : Hid (Blk W (w.heap.size + 1 + 1) #[.int .i64 0, .int .i64 0, .slice none 0 0, .slice none 0 0, .slice none 0 0] 28) := bR
 clear hb0 bA bJ bR
 refine wp_region_until (fun w' => w'.cell? ⟨w.heap.size, 0, none⟩ = some (.int .i64 d.room) ∧ w'.cell? ⟨w.heap.size, 1, none⟩ = some (.int .i64 d.next) ∧ w'.cell? ⟨w.heap.size, 2, none⟩ = some (v1) ∧ w'.cell? ⟨w.heap.size, 3, none⟩ = some (v2) ∧ w'.cell? ⟨w.heap.size, 4, none⟩ = some (v3) ∧ w'.cell? ⟨w.heap.size + 1, 0, none⟩ = some (.int .i64 k) ∧ w'.cell? ⟨w.heap.size + 1, 1, none⟩ = some (.string n) ∧ w'.cell? ⟨w.heap.size + 1, 2, none⟩ = some (.string t) ∧ w'.cell? ⟨w.heap.size + 1, 3, none⟩ = some (.string x)) (fun i => i == 6) 8 (by rfl) (by kernel_rfl) ?_
 have BX : Hid (Below w.heap.size w W.drew) := BW.out.drew
 have KX : Hid (Blk W.drew w.heap.size #[.int .i64 d.room, .int .i64 d.next, v1, v2, v3] 28) := KW.out
 have JX : Hid (Blk W.drew (w.heap.size + 1) #[.int .i64 k, .string n, .string t, .string x] 55) := JW.out
 have RX : Hid (Blk W.drew (w.heap.size + 1 + 1) #[.int .i64 0, .int .i64 0, .slice none 0 0, .slice none 0 0, .slice none 0 0] 28) := RW.out
 clear BW KW JW RW
 generalize W.drew = X at *
 have S0 : Hid (X.cell? ⟨w.heap.size, 0, none⟩ = some (.int .i64 d.room) ∧ X.cell? ⟨w.heap.size, 1, none⟩ = some (.int .i64 d.next) ∧ X.cell? ⟨w.heap.size, 2, none⟩ = some (v1) ∧ X.cell? ⟨w.heap.size, 3, none⟩ = some (v2) ∧ X.cell? ⟨w.heap.size, 4, none⟩ = some (v3) ∧ X.cell? ⟨w.heap.size + 1, 0, none⟩ = some (.int .i64 k) ∧ X.cell? ⟨w.heap.size + 1, 1, none⟩ = some (.string n) ∧ X.cell? ⟨w.heap.size + 1, 2, none⟩ = some (.string t) ∧ X.cell? ⟨w.heap.size + 1, 3, none⟩ = some (.string x)) := ⟨KX.out.cell 0 _ rfl, KX.out.cell 1 _ rfl, KX.out.cell 2 _ rfl, KX.out.cell 3 _ rfl, KX.out.cell 4 _ rfl, JX.out.cell 0 _ rfl, JX.out.cell 1 _ rfl, JX.out.cell 2 _ rfl, JX.out.cell 3 _ rfl⟩
 refine tKf 0 S0.out ?_
 refine tKf 1 S0.out ?_
 refine uNe 2 (fun K hK => ?_)
 go_simp
 refine (actOfV d k n t x X HW.out HN.out HT.out HX.out).mono ?_
 rintro e w1 ⟨F, caps, rfl, hA, hbx, hb1⟩
 have Bw1 : Hid (Below w.heap.size w w1) := BX.out.trans (hb1.mono BX.out.size)
 have Kw1 : Hid (Blk w1 w.heap.size #[.int .i64 d.room, .int .i64 d.next, v1, v2, v3] 28) := KX.out.on hb1 KX.out.lt
 have Jw1 : Hid (Blk w1 (w.heap.size + 1) #[.int .i64 k, .string n, .string t, .string x] 55) := JX.out.on hb1 JX.out.lt
 have Rw1 : Hid (Blk w1 (w.heap.size + 1 + 1) #[.int .i64 0, .int .i64 0, .slice none 0 0, .slice none 0 0, .slice none 0 0] 28) := RX.out.on hb1 RX.out.lt
 have A1 : Hid (ActOk d k n t x X.heap.size F caps) := hA
 have P1 : Hid (Blk w1 X.heap.size #[.int .i64 k, .string n, .string t, .string x] 55) := hbx
 clear hb1 hA hbx S0
 clear BX KX JX RX
 go_wp2_with fail
 refine hK.out _ _ (fun _ _ => ⟨Kw1.out.cell 0 _ rfl, Kw1.out.cell 1 _ rfl, Kw1.out.cell 2 _ rfl, Kw1.out.cell 3 _ rfl, Kw1.out.cell 4 _ rfl, Jw1.out.cell 0 _ rfl, Jw1.out.cell 1 _ rfl, Jw1.out.cell 2 _ rfl, Jw1.out.cell 3 _ rfl⟩) ?_
 clear hK K
 try simp only [Act.put, zQ1, zQ2, zQ3]
 refine uNe 3 (fun K hK => ?_)
 go_simp
 refine (changedV d (.agg #[.int .i64 d.room, .int .i64 d.next, v1, v2, v3]) w1 B (HV.out.on (Bw1.out.mono HB.out)) HF.out HI.out HW.out (Nat.le_trans HB.out Bw1.out.size) F caps (stepY d k n t x).1 (stepY d k n t x).2 A1.out.1 (fun w2 base p bi bd bw gs u hd hb hl hl2 hO => A1.out.2 w2 base p bi bd bw gs u hd hl2 (P1.out.on hb P1.out.lt) hO)).mono ?_
 rintro e w3 ⟨y, c, rfl, hx, hb3⟩
 have Bw3 : Hid (Below w.heap.size w w3) := Bw1.out.trans (hb3.mono Bw1.out.size)
 have Kw3 : Hid (Blk w3 w.heap.size #[.int .i64 d.room, .int .i64 d.next, v1, v2, v3] 28) := Kw1.out.on hb3 Kw1.out.lt
 have Jw3 : Hid (Blk w3 (w.heap.size + 1) #[.int .i64 k, .string n, .string t, .string x] 55) := Jw1.out.on hb3 Jw1.out.lt
 have Rw3 : Hid (Blk w3 (w.heap.size + 1 + 1) #[.int .i64 0, .int .i64 0, .slice none 0 0, .slice none 0 0, .slice none 0 0] 28) := Rw1.out.on hb3 Rw1.out.lt
 have HY : Hid (c = (doStepR d k n t x).2 ∧ DiskO w3 w.heap.size y (doStepR d k n t x).1) := by
  rcases hx with ⟨hk, rfl, ho⟩ | ⟨hk, rfl, ho⟩
  ·rw [doStepR_yes hk]
   exact ⟨rfl, ho.mono Bw1.out.size⟩
  ·rw [doStepR_no hk]
   exact ⟨rfl, ho.mono Bw1.out.size⟩
 clear hx hb3 A1 P1
 clear Bw1 Kw1 Jw1 Rw1
 generalize hRR : doStepR d k n t x = RR at HY
 obtain ⟨rfl, hO3⟩ := HY.out
 obtain ⟨x1, x2, x3, rfl, o1, o2, o3⟩ := hO3
 obtain ⟨A1, m1, k1, rfl⟩ := o1.shape
 obtain ⟨A2, m2, k2, rfl⟩ := o2.shape
 obtain ⟨A3, m3, k3, rfl⟩ := o3.shape
 have O1 : Hid (Owns w3 w.heap.size 47 3 (.slice A1 m1 k1) (nodR RR.1.nods)) := o1
 have O2 : Hid (Owns w3 w.heap.size 49 2 (.slice A2 m2 k2) (lnkR RR.1.dir)) := o2
 have O3 : Hid (Owns w3 w.heap.size 51 4 (.slice A3 m3 k3) (movR RR.1.movs)) := o3
 clear HY o1 o2 o3
 go_wp2_with fail
 refine hK.out _ _ (fun _ _ => ⟨Kw3.out.cell 0 _ rfl, Kw3.out.cell 1 _ rfl, Kw3.out.cell 2 _ rfl, Kw3.out.cell 3 _ rfl, Kw3.out.cell 4 _ rfl, Jw3.out.cell 0 _ rfl, Jw3.out.cell 1 _ rfl, Jw3.out.cell 2 _ rfl, Jw3.out.cell 3 _ rfl⟩) ?_
 clear hK K
 try simp only [Act.put, zQ1, zQ2, zQ3]
 refine pUf 4 ?_
 refine pUf 5 ?_
 have g0 := Rw3.out.cell 0 _ rfl
 have f0 := Rw3.out.free 0
 have g1 := Rw3.out.cell 1 _ rfl
 have f1 := Rw3.out.free 1
 have g2 := Rw3.out.cell 2 _ rfl
 have f2 := Rw3.out.free 2
 have g3 := Rw3.out.cell 3 _ rfl
 have f3 := Rw3.out.free 3
 have g4 := Rw3.out.cell 4 _ rfl
 have f4 := Rw3.out.free 4
 refine uNe 6 (fun K hK => ?_)
 go_simp
 try go_wp2_with fail
 refine hK.out _ _ (fun h => by cases h) ?_
 clear hK K
 try simp only [Act.put, zQ1, zQ2, zQ3]
 have hg : w.heap.size ≤ w.heap.size + 1 + 1 := by omega
 have hB := Bw3.out
 have FB := (((((hB.setCell hg (.int .i64 RR.1.room) (p := ⟨_, 0, none⟩)).setCell hg (.int .i64 RR.1.next) (p := ⟨_, 1, none⟩)).setCell hg (.slice A1 m1 k1) (p := ⟨_, 2, none⟩)).setCell hg (.slice A2 m2 k2) (p := ⟨_, 3, none⟩)).setCell hg (.slice A3 m3 k3) (p := ⟨_, 4, none⟩))
 have hF := (((((Rw3.out.set 0 (.int .i64 RR.1.room)).set 1 (.int .i64 RR.1.next)).set 2 (.slice A1 m1 k1)).set 3 (.slice A2 m2 k2)).set 4 (.slice A3 m3 k3))
 have mm0 := O1.out.notBlk Rw3.out (by decide)
 have F0 := (((((O1.out.other mm0 0 (.int .i64 RR.1.room)).other mm0 1 (.int .i64 RR.1.next)).other mm0 2 (.slice A1 m1 k1)).other mm0 3 (.slice A2 m2 k2)).other mm0 4 (.slice A3 m3 k3))
 have mm1 := O2.out.notBlk Rw3.out (by decide)
 have F1 := (((((O2.out.other mm1 0 (.int .i64 RR.1.room)).other mm1 1 (.int .i64 RR.1.next)).other mm1 2 (.slice A1 m1 k1)).other mm1 3 (.slice A2 m2 k2)).other mm1 4 (.slice A3 m3 k3))
 have mm2 := O3.out.notBlk Rw3.out (by decide)
 have F2 := (((((O3.out.other mm2 0 (.int .i64 RR.1.room)).other mm2 1 (.int .i64 RR.1.next)).other mm2 2 (.slice A1 m1 k1)).other mm2 3 (.slice A2 m2 k2)).other mm2 4 (.slice A3 m3 k3))
 clear g0 f0 g1 f1 g2 f2 g3 f3 g4 f4
 generalize (((((w3.setCell ⟨w.heap.size + 1 + 1, 0, none⟩ (.int .i64 RR.1.room)).setCell ⟨w.heap.size + 1 + 1, 1, none⟩ (.int .i64 RR.1.next)).setCell ⟨w.heap.size + 1 + 1, 2, none⟩ (.slice A1 m1 k1)).setCell ⟨w.heap.size + 1 + 1, 3, none⟩ (.slice A2 m2 k2)).setCell ⟨w.heap.size + 1 + 1, 4, none⟩ (.slice A3 m3 k3)) = WF at *
 have hG : Blk WF (w.heap.size + 1 + 1) #[.int .i64 RR.1.room, .int .i64 RR.1.next, .slice A1 m1 k1, .slice A2 m2 k2, .slice A3 m3 k3] 28 := hF
 have l0 := hG.cell 0 (.int .i64 RR.1.room) rfl
 have l1 := hG.cell 1 (.int .i64 RR.1.next) rfl
 have l2 := hG.cell 2 (.slice A1 m1 k1) rfl
 have l3 := hG.cell 3 (.slice A2 m2 k2) rfl
 have l4 := hG.cell 4 (.slice A3 m3 k3) rfl
 refine pUf 7 ?_
 refine until_done (by kernel_rfl) ?_ _
 try go_wp2_with fail
 exact bodyPost_ret (v := .tuple #[.agg #[.int .i64 RR.1.room, .int .i64 RR.1.next, .slice A1 m1 k1, .slice A2 m2 k2, .slice A3 m3 k3], .int .i64 RR.2]) (by simp [results, go_sem, l0, l1, l2, l3, l4]) rfl (by rw [hRR]; exact ⟨_, rfl, ⟨_, _, _, rfl, F0, F1, F2⟩, FB⟩)
end Go.Proofs.YtgjilgecklhglaaGreat
