/- EgMath EgDef EgRow -/
import Derived.Test.YtpmgndgkmffcnaaGreatDoorQd6
import Derived.Test.YtpmgndgkmffcnaaGreatDoorQd11
import Derived.Test.YtpmgndgkmffcnaaGreatDoorQd15
import Derived.Test.YtpmgndgkmffcnaaGreatDoorRows
import Derived.Test.YtpmgndgkmffcnaaGreatDoorQd4
import Derived.Test.YtpmgndgkmffcnaaGreatDoorQd5
namespace Go.Proofs.YtpmgndgkmffcnaaGreatDoor
open Go.RowKit Go.PlainAid
def RiseK (l : List ByteArray) : Prop := l.Pairwise fun a b => ahd a b = true
theorem ahd_ne {a b : ByteArray} (h : ahd a b = true) : a ≠ b := fun e => by rw [e, ahd_irrefl] at h; cases h
theorem ahd_tri {a b : ByteArray} (h : ahd a b = false) (hne : a ≠ b) : ahd b a = true := by
 rcases ahd_no h with h | h
 ·exact h
 ·exact absurd h.symm hne
theorem riseK_ext : ∀ {l m : List ByteArray}, RiseK l → RiseK m → (∀ p, p ∈ l ↔ p ∈ m) → l = m
 | [], [], _, _, _ => rfl
 | [], y :: m, _, _, h => by have := (h y).2 (by simp); simp at this
 | x :: l, [], _, _, h => by have := (h x).1 (by simp); simp at this
 | x :: l, y :: m, hl, hm, h => by
  have hl' := List.pairwise_cons.1 hl
  have hm' := List.pairwise_cons.1 hm
  have hxy : x = y := by
   rcases List.mem_cons.1 ((h x).1 (by simp)) with e | h1
   ·exact e
   ·rcases List.mem_cons.1 ((h y).2 (by simp)) with e | h2
    ·exact e.symm
    ·exact absurd rfl (ahd_ne (ahd_trans (hm'.1 x h1) (hl'.1 y h2)))
  subst hxy
  congr 1
  refine riseK_ext hl'.2 hm'.2 fun p => ⟨fun hp => ?_, fun hp => ?_⟩
  ·rcases List.mem_cons.1 ((h p).1 (by simp [hp])) with e | h1
   ·subst e; exact absurd rfl (ahd_ne (hl'.1 p hp))
   ·exact h1
  ·rcases List.mem_cons.1 ((h p).2 (by simp [hp])) with e | h1
   ·subst e; exact absurd rfl (ahd_ne (hm'.1 p hp))
   ·exact h1
open Classical in
noncomputable def insK : List ByteArray → ByteArray → List ByteArray
 | [], k => [k]
 | x :: l, k => if x = k then x :: l else if ahd k x = true then k :: x :: l else x :: insK l k
theorem mem_insK (p k : ByteArray) : ∀ l, p ∈ insK l k ↔ p = k ∨ p ∈ l
 | [] => by simp [insK]
 | x :: l => by
  by_cases h : x = k
  ·rw [insK, if_pos h, List.mem_cons, h]
   constructor
   ·intro h; exact .inr h
   ·rintro (h | h)
    ·exact .inl h
    ·exact h
  ·by_cases h2 : ahd k x = true
   ·rw [insK, if_neg h, if_pos h2, List.mem_cons]
   ·rw [insK, if_neg h, if_neg h2, List.mem_cons, mem_insK p k l, List.mem_cons]
    constructor
    ·rintro (h | h | h)
     ·exact .inr (.inl h)
     ·exact .inl h
     ·exact .inr (.inr h)
    ·rintro (h | h | h)
     ·exact .inr (.inl h)
     ·exact .inl h
     ·exact .inr (.inr h)
theorem rise_insK (k : ByteArray) : ∀ l, RiseK l → RiseK (insK l k)
 | [], _ => by simp [insK, RiseK]
 | x :: l, hl => by
  have hl' := List.pairwise_cons.1 hl
  by_cases h : x = k
  ·rw [insK, if_pos h]; exact hl
  ·by_cases h2 : ahd k x = true
   ·rw [insK, if_neg h, if_pos h2]
    refine List.pairwise_cons.2 ⟨fun y hy => ?_, hl⟩
    rcases List.mem_cons.1 hy with e | hy
    ·rw [e]; exact h2
    ·exact ahd_trans h2 (hl'.1 y hy)
   ·rw [insK, if_neg h, if_neg h2]
    refine List.pairwise_cons.2 ⟨fun y hy => ?_, rise_insK k l hl'.2⟩
    rcases (mem_insK y k l).1 hy with e | hy
    ·rw [e]; exact ahd_tri (by simpa using h2) (fun e => h e.symm)
    ·exact hl'.1 y hy
noncomputable def allK (ks : List ByteArray) : List ByteArray := ks.foldl insK []
theorem mem_foldK (p : ByteArray) : ∀ (ks a : List ByteArray), p ∈ ks.foldl insK a ↔ p ∈ a ∨ p ∈ ks
 | [], a => by simp
 | k :: ks, a => by
  rw [List.foldl_cons, mem_foldK p ks, mem_insK, List.mem_cons]
  constructor
  ·rintro ((h | h) | h)
   ·exact .inr (.inl h)
   ·exact .inl h
   ·exact .inr (.inr h)
  ·rintro (h | h | h)
   ·exact .inl (.inr h)
   ·exact .inl (.inl h)
   ·exact .inr h
theorem rise_foldK : ∀ (ks a : List ByteArray), RiseK a → RiseK (ks.foldl insK a)
 | [], _, h => h
 | k :: ks, a, h => rise_foldK ks _ (rise_insK k a h)
theorem mem_allK (p : ByteArray) (ks : List ByteArray) : p ∈ allK ks ↔ p ∈ ks := by rw [allK, mem_foldK]; simp
theorem rise_allK (ks : List ByteArray) : RiseK (allK ks) := rise_foldK ks [] (by simp [RiseK])
open Classical in
noncomputable def ptsAt : List Ser → ByteArray → List Pnt
 | [], _ => []
 | x :: l, k => if x.key = k then x.pts else ptsAt l k
theorem ptsAt_none {k : ByteArray} : ∀ {l : List Ser}, (∀ x ∈ l, x.key ≠ k) → ptsAt l k = []
 | [], _ => rfl
 | x :: l, h => by rw [ptsAt, if_neg (h x (by simp)), ptsAt_none fun y hy => h y (by simp [hy])]
theorem ptsAt_some {k : ByteArray} : ∀ {l : List Ser}, ptsAt l k = [] ∨ ∃ x ∈ l, x.key = k ∧ ptsAt l k = x.pts
 | [] => .inl rfl
 | x :: l => by
  by_cases h : x.key = k
  ·exact .inr ⟨x, by simp, h, by rw [ptsAt, if_pos h]⟩
  ·rw [ptsAt, if_neg h]
   rcases ptsAt_some (k := k) (l := l) with h | ⟨y, hy, h⟩
   ·exact .inl h
   ·exact .inr ⟨y, by simp [hy], h⟩
theorem ptsAt_mem : ∀ {l : List Ser}, RiseK (l.map Ser.key) → ∀ x ∈ l, ptsAt l x.key = x.pts
 | y :: l, hl, x, hx => by
  have hl' := List.pairwise_cons.1 hl
  rcases List.mem_cons.1 hx with e | hx
  ·rw [e, ptsAt, if_pos rfl]
  ·rw [ptsAt, if_neg (ahd_ne (hl'.1 x.key (List.mem_map_of_mem hx))), ptsAt_mem hl'.2 x hx]
theorem ptsAt_rising {l : List Ser} (h : ∀ x ∈ l, Rising x.pts) (k : ByteArray) : Rising (ptsAt l k) := by
 rcases ptsAt_some (k := k) (l := l) with e | ⟨x, hx, _, e⟩
 ·rw [e]; simp [Rising]
 ·rw [e]; exact h x hx
noncomputable def hasAll (ls : List (List Ser)) (k : ByteArray) : List Pnt := ls.foldl (fun a l => mrg a (ptsAt l k)) []
def fromF (f : Int) (l : List Pnt) : List Pnt := l.filter fun p => decide (f ≤ p.t)
noncomputable def has (ls : List (List Ser)) (f : Int) (k : ByteArray) : List Pnt := fromF f (hasAll ls k)
theorem hasAll_snoc (ls : List (List Ser)) (l : List Ser) (k : ByteArray) : hasAll (ls ++ [l]) k = mrg (hasAll ls k) (ptsAt l k) := by rw [hasAll, List.foldl_append]; rfl
theorem mrg_nil (a : List Pnt) : mrg a [] = a := rfl
def LRis (ls : List (List Ser)) : Prop := ∀ l ∈ ls, ∀ x ∈ l, Rising x.pts
theorem fold_rising (k : ByteArray) : ∀ (ls : List (List Ser)) (a : List Pnt), Rising a → Rising (ls.foldl (fun a l => mrg a (ptsAt l k)) a)
 | [], _, h => h
 | _ :: ls, _, h => fold_rising k ls _ (rising_mrg _ _ h)
theorem rising_hasAll (ls : List (List Ser)) (k : ByteArray) : Rising (hasAll ls k) := fold_rising k ls [] (by simp [Rising])
theorem rising_from (f : Int) {l : List Pnt} (h : Rising l) : Rising (fromF f l) := h.sublist List.filter_sublist
theorem rising_has (ls : List (List Ser)) (f : Int) (k : ByteArray) : Rising (has ls f k) := rising_from f (rising_hasAll ls k)
theorem mem_hasAll {p : Pnt} {k : ByteArray} : ∀ {ls : List (List Ser)} {a : List Pnt}, LRis ls → p ∈ ls.foldl (fun a l => mrg a (ptsAt l k)) a → p ∈ a ∨ ∃ l ∈ ls, p ∈ ptsAt l k
 | [], _, _, h => .inl h
 | l :: ls, a, hr, h => by
  rcases mem_hasAll (ls := ls) (fun m hm => hr m (by simp [hm])) h with h1 | ⟨m, hm, h1⟩
  ·rcases (mem_mrg p _ a (ptsAt_rising (hr l (by simp)) k)).1 h1 with h2 | ⟨h2, _⟩
   ·exact .inr ⟨l, by simp, h2⟩
   ·exact .inl h2
  ·exact .inr ⟨m, by simp [hm], h1⟩
theorem hasAll_len (k : ByteArray) (n : Nat) : ∀ (ls : List (List Ser)) (a : List Pnt), (∀ l ∈ ls, (ptsAt l k).length ≤ n) → (ls.foldl (fun a l => mrg a (ptsAt l k)) a).length ≤ a.length + n * ls.length
 | [], a, _ => by simp
 | l :: ls, a, h => by
  have h1 := hasAll_len k n ls (mrg a (ptsAt l k)) fun m hm => h m (by simp [hm])
  have h2 := mrg_length (ptsAt l k) a
  have h3 := h l (by simp)
  rw [List.foldl_cons, List.length_cons, Nat.mul_succ]
  omega
theorem hasAll_none {k : ByteArray} : ∀ {ls : List (List Ser)} {a : List Pnt}, (∀ l ∈ ls, ∀ x ∈ l, x.key ≠ k) → ls.foldl (fun a l => mrg a (ptsAt l k)) a = a
 | [], _, _ => rfl
 | l :: ls, a, h => by
  rw [List.foldl_cons, ptsAt_none (h l (by simp)), mrg_nil]
  exact hasAll_none fun m hm => h m (by simp [hm])
theorem from_id {f : Int} {l : List Pnt} (h : ∀ p ∈ l, f ≤ p.t) : fromF f l = l := List.filter_eq_self.2 fun p hp => by simpa using h p hp
open Classical in
noncomputable def serK (ls : List (List Ser)) (f : Int) (k : ByteArray) : Option Ser := if has ls f k = [] then none else some ⟨k, has ls f k⟩
def keysOf (ls : List (List Ser)) : List ByteArray := ls.flatten.map Ser.key
noncomputable def keysL (ls : List (List Ser)) : List ByteArray := allK (keysOf ls)
noncomputable def plainK (ls : List (List Ser)) (f : Int) (ks : List ByteArray) : List Ser := ks.filterMap (serK ls f)
noncomputable def plainR (ls : List (List Ser)) (f : Int) : List Ser := plainK ls f (keysL ls)
theorem mem_keysL {k : ByteArray} {ls : List (List Ser)} : k ∈ keysL ls ↔ ∃ l ∈ ls, ∃ x ∈ l, x.key = k := by
 rw [keysL, mem_allK, keysOf, List.mem_map]
 constructor
 ·rintro ⟨x, hx, e⟩
  obtain ⟨l, hl, hx⟩ := List.mem_flatten.1 hx
  exact ⟨l, hl, x, hx, e⟩
 ·rintro ⟨l, hl, x, hx, e⟩
  exact ⟨x, List.mem_flatten.2 ⟨l, hl, hx⟩, e⟩
theorem ptsAt_plainK (ls : List (List Ser)) (f : Int) (k : ByteArray) : ∀ ks, (k ∈ ks → ptsAt (plainK ls f ks) k = has ls f k) ∧ (k ∉ ks → ptsAt (plainK ls f ks) k = [])
 | [] => ⟨fun h => by simp at h, fun _ => rfl⟩
 | h :: ks => by
  have ih := ptsAt_plainK ls f k ks
  by_cases he : has ls f h = []
  ·have e : plainK ls f (h :: ks) = plainK ls f ks := by unfold plainK; rw [List.filterMap_cons, serK, if_pos he]
   rw [e]
   refine ⟨fun hk => ?_, fun hk => ih.2 fun h' => hk (by simp [h'])⟩
   by_cases hm : k ∈ ks
   ·exact ih.1 hm
   ·rcases List.mem_cons.1 hk with e | h'
    ·rw [ih.2 hm, e, he]
    ·exact absurd h' hm
  ·have e : plainK ls f (h :: ks) = ⟨h, has ls f h⟩ :: plainK ls f ks := by unfold plainK; rw [List.filterMap_cons, serK, if_neg he]
   rw [e, ptsAt]
   by_cases hh : h = k
   ·rw [if_pos hh, hh]
    exact ⟨fun _ => rfl, fun hk => absurd (by simp) hk⟩
   ·rw [if_neg hh]
    refine ⟨fun hk => ih.1 ?_, fun hk => ih.2 fun h' => hk (by simp [h'])⟩
    rcases List.mem_cons.1 hk with e | h'
    ·exact absurd e.symm hh
    ·exact h'
theorem ptsAt_plain (ls : List (List Ser)) (f : Int) (k : ByteArray) : ptsAt (plainR ls f) k = has ls f k := by
 by_cases hk : k ∈ keysL ls
 ·exact (ptsAt_plainK ls f k _).1 hk
 ·rw [plainR, (ptsAt_plainK ls f k _).2 hk, has, hasAll, hasAll_none]
  ·rfl
  ·intro l hl x hx e
   exact hk (mem_keysL.2 ⟨l, hl, x, hx, e⟩)
def Neat (f : Int) (l : List Ser) : Prop := RiseK (l.map Ser.key) ∧ ∀ x ∈ l, x.pts ≠ [] ∧ Rising x.pts ∧ ∀ p ∈ x.pts, f ≤ p.t
theorem mem_plainK {ls : List (List Ser)} {f : Int} {ks : List ByteArray} {x : Ser} (h : x ∈ plainK ls f ks) : x.key ∈ ks ∧ x.pts = has ls f x.key ∧ x.pts ≠ [] := by
 obtain ⟨k, hk, e⟩ := List.mem_filterMap.1 h
 unfold serK at e
 split at e
 ·cases e
 ·rename_i hne
  cases e
  exact ⟨hk, rfl, hne⟩
theorem rise_plainK (ls : List (List Ser)) (f : Int) : ∀ ks, RiseK ks → RiseK ((plainK ls f ks).map Ser.key)
 | [], _ => by simp [plainK, RiseK]
 | h :: ks, hk => by
  have hk' := List.pairwise_cons.1 hk
  have ih := rise_plainK ls f ks hk'.2
  by_cases he : has ls f h = []
  ·have e : plainK ls f (h :: ks) = plainK ls f ks := by unfold plainK; rw [List.filterMap_cons, serK, if_pos he]
   rw [e]; exact ih
  ·have e : plainK ls f (h :: ks) = ⟨h, has ls f h⟩ :: plainK ls f ks := by unfold plainK; rw [List.filterMap_cons, serK, if_neg he]
   rw [e, List.map_cons]
   refine List.pairwise_cons.2 ⟨fun y hy => ?_, ih⟩
   obtain ⟨x, hx, rfl⟩ := List.mem_map.1 hy
   exact hk'.1 _ (mem_plainK hx).1
theorem neat_plain (ls : List (List Ser)) (f : Int) : Neat f (plainR ls f) := by
 refine ⟨rise_plainK ls f _ (rise_allK _), fun x hx => ?_⟩
 obtain ⟨_, h2, h3⟩ := mem_plainK hx
 refine ⟨h3, by rw [h2]; exact rising_has ls f x.key, fun p hp => ?_⟩
 rw [h2] at hp
 simpa using (List.mem_filter.1 hp).2
theorem neat_form {f : Int} {l : List Ser} (h : Neat f l) : l = (l.map Ser.key).map fun k => ⟨k, ptsAt l k⟩ := by
 rw [List.map_map]
 conv => lhs; rw [← List.map_id l]
 refine List.map_congr_left fun x hx => ?_
 have := ptsAt_mem h.1 x hx
 refine Ser.same rfl ?_
 exact this.symm
theorem neat_key {f : Int} {l : List Ser} (h : Neat f l) (k : ByteArray) : k ∈ l.map Ser.key ↔ ptsAt l k ≠ [] := by
 constructor
 ·intro hk
  obtain ⟨x, hx, rfl⟩ := List.mem_map.1 hk
  rw [ptsAt_mem h.1 x hx]
  exact (h.2 x hx).1
 ·intro hne
  rcases ptsAt_some (k := k) (l := l) with e | ⟨x, hx, e, _⟩
  ·exact absurd e hne
  ·rw [← e]; exact List.mem_map_of_mem hx
theorem neat_ext {f g : Int} {l m : List Ser} (hl : Neat f l) (hm : Neat g m) (h : ∀ k, ptsAt l k = ptsAt m k) : l = m := by
 have hk : l.map Ser.key = m.map Ser.key := riseK_ext hl.1 hm.1 fun k => by rw [neat_key hl, neat_key hm, h]
 rw [neat_form hl, neat_form hm, hk]
 exact List.map_congr_left fun k _ => by rw [h]
theorem has_empty (ls : List (List Ser)) (f : Int) (k : ByteArray) : has (ls ++ [[]]) f k = has ls f k := by rw [has, hasAll_snoc]; rfl
theorem plain_empty (ls : List (List Ser)) (f : Int) : plainR (ls ++ [[]]) f = plainR ls f := neat_ext (neat_plain _ f) (neat_plain _ f) fun k => by rw [ptsAt_plain, ptsAt_plain, has_empty]
theorem plain_neat {f : Int} {l : List Ser} (h : Neat f l) : plainR [l] f = l := neat_ext (neat_plain _ f) h fun k => by
 rw [ptsAt_plain, has, hasAll, List.foldl_cons, List.foldl_nil, mrg_nil_left _ (ptsAt_rising (fun x hx => (h.2 x hx).2.1) k)]
 refine from_id fun p hp => ?_
 rcases ptsAt_some (k := k) (l := l) with e | ⟨x, hx, _, e⟩
 ·rw [e] at hp; cases hp
 ·rw [e] at hp; exact (h.2 x hx).2.2 p hp
theorem SOk_iff (l : List Ser) : SOk l ↔ l.length ≤ 5 ∧ RiseK (l.map Ser.key) ∧ ∀ x ∈ l, KOk x.key ∧ x.pts ≠ [] ∧ POk x.pts := by
 have at_get : ∀ j (h : j < l.length), sAt l j = l[j] := fun j h => by rw [sAt, ← getD_at l j h]
 constructor
 ·intro h
  refine ⟨h.1, ?_, fun x hx => ?_⟩
  ·unfold RiseK
   rw [List.pairwise_iff_getElem]
   have key : ∀ d i, i + d + 1 < l.length → ahd (sAt l i).key (sAt l (i + d + 1)).key = true := by
    intro d
    induction d with
    | zero => intro i hi; have := (h.2 (i + 0 + 1) hi).1.2 (by omega); simpa using this
    | succ d ih =>
     intro i hi
     have h1 := ih i (by omega)
     have h2 := (h.2 (i + (d + 1) + 1) hi).1.2 (by omega)
     rw [show i + (d + 1) + 1 - 1 = i + d + 1 by omega] at h2
     exact ahd_trans h1 h2
   intro i j hi hj hij
   rw [List.length_map] at hi hj
   have := key (j - i - 1) i (by omega)
   rw [show i + (j - i - 1) + 1 = j by omega, at_get i hi, at_get j hj] at this
   rw [List.getElem_map, List.getElem_map]
   exact this
  ·obtain ⟨j, hj, rfl⟩ := List.getElem_of_mem hx
   have := h.2 j hj
   rw [at_get j hj] at this
   exact ⟨this.1.1, fun e => by rw [e] at this; simp at this, this.2.2⟩
 ·rintro ⟨h1, h2, h3⟩
  refine ⟨h1, fun j hj => ⟨⟨?_, fun h0 => ?_⟩, ?_, ?_⟩⟩
  ·rw [at_get j hj]; exact (h3 _ (List.getElem_mem hj)).1
  ·rw [at_get j hj, at_get (j - 1) (by omega)]
   have := (List.pairwise_iff_getElem.1 h2) (j - 1) j (by rw [List.length_map]; omega) (by rw [List.length_map]; exact hj) (by omega)
   rw [List.getElem_map, List.getElem_map] at this
   exact this
  ·rw [at_get j hj]
   have := (h3 _ (List.getElem_mem hj)).2.1
   cases e : (l[j]).pts with
   | nil => exact absurd e this
   | cons y r => simp
  ·rw [at_get j hj]; exact (h3 _ (List.getElem_mem hj)).2.2
theorem SOk.neat {l : List Ser} (h : SOk l) {f : Int} (hf : ∀ x ∈ l, f ≤ tAt x.pts 0) : Neat f l := by
 obtain ⟨_, h2, h3⟩ := (SOk_iff l).1 h
 refine ⟨h2, fun x hx => ?_⟩
 obtain ⟨_, h4, h5⟩ := h3 x hx
 have hr := ((POk_iff _).1 h5).2.1
 refine ⟨h4, hr, fun p hp => ?_⟩
 obtain ⟨j, hj, rfl⟩ := List.getElem_of_mem hp
 have h0 := hf x hx
 rw [tAt_get x.pts 0 (by omega)] at h0
 rcases Nat.eq_zero_or_pos j with e | e
 ·subst e; exact h0
 ·have := (List.pairwise_iff_getElem.1 hr) 0 j (by omega) hj e
  omega
end Go.Proofs.YtpmgndgkmffcnaaGreatDoor
namespace Go.Proofs.YtpmgndgkmffcnaaGreatDoor
open Go.RowKit Go.PlainAid
structure Eng where
 floor : Int
 cache : List Ser
 files : List ByteArray
theorem Eng.same {x y : Eng} (h1 : x.floor = y.floor) (h2 : x.cache = y.cache) (h3 : x.files = y.files) : x = y := by
 cases x
 cases y
 simp only at h1 h2 h3
 subst h1
 subst h2
 subst h3
 rfl
def zeroE : Eng := ⟨0, [], []⟩
def isF (s : ByteArray) : Prop := ∃ m, GoodF s m
open Classical in
noncomputable def fileM (s : ByteArray) : List Ser := if h : ∃ m, GoodF s m then Classical.choose h else []
theorem fileM_is {s : ByteArray} {m : List Ser} (h : GoodF s m) : fileM s = m := by
 have hx : ∃ m, GoodF s m := ⟨m, h⟩
 unfold fileM
 rw [dif_pos hx]
 exact (Classical.choose_spec hx).one h
theorem isF.good {s : ByteArray} (h : isF s) : GoodF s (fileM s) := by
 obtain ⟨m, hm⟩ := h
 rw [fileM_is hm]
 exact hm
noncomputable def laysF (fs : List ByteArray) : List (List Ser) := fs.map fileM
noncomputable def lays (e : Eng) : List (List Ser) := laysF e.files ++ [e.cache]
theorem laysF_snoc (fs : List ByteArray) (s : ByteArray) : laysF (fs ++ [s]) = laysF fs ++ [fileM s] := by unfold laysF; rw [List.map_append]; rfl
noncomputable def plainE (e : Eng) : List Ser := plainR (lays e) e.floor
def cntS (l : List Ser) : Nat := (l.map fun x => x.pts.length).sum
theorem cntS_snoc (l : List Ser) (k : Nat) (h : k < l.length) : cntS (l.take (k + 1)) = cntS (l.take k) + (l.getD k default).pts.length := by
 unfold cntS
 rw [take_getD l k h, List.map_append, List.sum_append]
 simp
def PreOk (e : Eng) : Prop := (0 ≤ e.floor ∧ e.floor ≤ 1099511627776) ∧ e.files.length ≤ 4 ∧ SOk e.cache ∧ cntS e.cache ≤ 40 ∧ ∀ x ∈ e.cache, e.floor ≤ tAt x.pts 0
def EOk (e : Eng) : Prop := PreOk e ∧ (∀ s ∈ e.files, isF s) ∧ SOk (plainE e)
theorem EOk.neat {e : Eng} (h : EOk e) : Neat e.floor e.cache := h.1.2.2.1.neat h.1.2.2.2.2
open Classical in
noncomputable def packA (f : Int) (all : List Ser) : Eng := ⟨f, [], if all = [] then [] else [fileT all]⟩
open Classical in
noncomputable def flushA (e : Eng) (all : List Ser) : Eng := if e.cache = [] then e else if e.files.length = 4 then packA e.floor all else ⟨e.floor, [], e.files ++ [fileT e.cache]⟩
open Classical in
noncomputable def plainX (e : Eng) : List Ser := if EOk e then plainE e else []
open Classical in
noncomputable def flushX (e : Eng) : Eng := if EOk e then flushA e (plainE e) else zeroE
open Classical in
noncomputable def packX (e : Eng) : Eng := if EOk e then packA e.floor (plainE e) else zeroE
open Classical in
noncomputable def oneS (e : Eng) : Eng := ⟨e.floor, e.cache, if fileT (plainE e) = ⟨#[]⟩ then [] else [fileT (plainE e)]⟩
open Classical in
noncomputable def awayS (e : Eng) : Eng := if e.cache = [] then e else ⟨e.floor, [], e.files ++ [fileT e.cache]⟩
open Classical in
noncomputable def flushS (e : Eng) : Eng := if 4 < (awayS e).files.length then oneS (awayS e) else awayS e
theorem len_pos {α : Type} {l : List α} (h : l ≠ []) : 1 ≤ l.length := by
 cases l with
 | nil => exact absurd rfl h
 | cons x l => simp
theorem fileT_ne {l : List Ser} (h : SOk l) (hn : l ≠ []) : fileT l ≠ ⟨#[]⟩ := by
 have hg : GoodF (fileT l) l := ⟨len_pos hn, h, rfl⟩
 intro e
 have h1 := hg.text
 have h2 := (begin_read hg.2.1).2
 rw [← h1, e] at h2
 exact absurd h2 (by decide)
theorem fileT_nil : fileT [] = ⟨#[]⟩ := by unfold fileT; rw [if_neg (by simp)]; rfl
theorem one_files {l : List Ser} (h : SOk l) : (if fileT l = ⟨#[]⟩ then [] else [fileT l]) = if l = [] then [] else [fileT l] := by
 by_cases e : l = []
 ·rw [if_pos e, e, if_pos fileT_nil]
 ·rw [if_neg e, if_neg (fileT_ne h e)]
theorem away_plain {e : Eng} (hc : e.cache = [] ∨ SOk e.cache) : plainE (awayS e) = plainE e := by
 unfold awayS
 by_cases h : e.cache = []
 ·rw [if_pos h]
 ·rw [if_neg h]
  have hs : SOk e.cache := hc.resolve_left h
  have hg : GoodF (fileT e.cache) e.cache := ⟨len_pos h, hs, rfl⟩
  unfold plainE lays
  rw [laysF_snoc, fileM_is hg, plain_empty]
theorem away_files {e : Eng} (hc : e.cache = [] ∨ SOk e.cache) (hf : ∀ s ∈ e.files, isF s) : ∀ s ∈ (awayS e).files, isF s := by
 unfold awayS
 by_cases h : e.cache = []
 ·rw [if_pos h]; exact hf
 ·rw [if_neg h]
  intro s hs
  rcases List.mem_append.1 hs with hs | hs
  ·exact hf s hs
  ·rw [List.mem_singleton.1 hs]
   exact ⟨e.cache, len_pos h, hc.resolve_left h, rfl⟩
theorem away_cache (e : Eng) : (awayS e).cache = [] := by
 unfold awayS
 by_cases h : e.cache = []
 ·rw [if_pos h]; exact h
 ·rw [if_neg h]
theorem away_floor (e : Eng) : (awayS e).floor = e.floor := by
 unfold awayS
 split <;> rfl
theorem flush_same {e : Eng} (hf : e.files.length ≤ 4) (hc : e.cache = [] ∨ SOk e.cache) (hp : SOk (plainE e)) : flushS e = flushA e (plainE e) := by
 unfold flushS flushA
 by_cases h : e.cache = []
 ·have ha : awayS e = e := by unfold awayS; rw [if_pos h]
  rw [ha, if_neg (by omega), if_pos h]
 ·have ha : awayS e = ⟨e.floor, [], e.files ++ [fileT e.cache]⟩ := by unfold awayS; rw [if_neg h]
  have hpl := away_plain hc
  rw [if_neg h]
  by_cases h4 : e.files.length = 4
  ·rw [if_pos h4, ha, if_pos (by simp; omega)]
   rw [ha] at hpl
   unfold oneS packA
   rw [hpl, one_files hp]
  ·rw [if_neg h4, ha, if_neg (by simp; omega)]
theorem pack_self {f : Int} {all : List Ser} (hn : Neat f all) (hp : SOk all) : oneS (packA f all) = packA f all := by
 unfold packA
 by_cases h : all = []
 ·rw [if_pos h]
  have e : plainE ⟨f, [], []⟩ = [] := rfl
  unfold oneS
  rw [e, fileT_nil, if_pos rfl]
 ·rw [if_neg h]
  have hg : GoodF (fileT all) all := ⟨len_pos h, hp, rfl⟩
  have e : plainE ⟨f, [], [fileT all]⟩ = all := by
   show plainR ([fileM (fileT all)] ++ [[]]) f = all
   rw [fileM_is hg, plain_empty, plain_neat hn]
  unfold oneS
  rw [e, if_neg (fileT_ne hp h)]
theorem pack_same {e : Eng} (hf : e.files.length ≤ 4) (hc : e.cache = [] ∨ SOk e.cache) (hp : SOk (plainE e)) : oneS (flushS e) = packA e.floor (plainE e) := by
 by_cases h4 : 4 < (awayS e).files.length
 ·rw [flush_same hf hc hp]
  unfold flushA
  by_cases h : e.cache = []
  ·unfold awayS at h4
   rw [if_pos h] at h4
   omega
  ·unfold awayS at h4
   rw [if_neg h] at h4
   simp at h4
   rw [if_neg h, if_pos (by omega)]
   exact pack_self (neat_plain _ _) hp
 ·unfold flushS
  rw [if_neg h4]
  unfold oneS packA
  rw [away_plain hc, away_floor, away_cache, one_files hp]
end Go.Proofs.YtpmgndgkmffcnaaGreatDoor
namespace Go.Proofs.YtpmgndgkmffcnaaGreatDoor
open Go.RowKit Go.PlainAid
def stC (s : ByteArray) : List Value := [.string s]
def stR (l : List ByteArray) : List (List Value) := l.map stC
theorem stR_length (l : List ByteArray) : (stR l).length = l.length := by simp [stR]
theorem stR_append (l m : List ByteArray) : stR (l ++ m) = stR l ++ stR m := by simp [stR]
theorem stR_flat (l : List ByteArray) : (stR l).flatten = strCells l := by
 induction l with
 | nil => rfl
 | cons x l ih => simp only [stR, strCells, List.map_cons, List.flatten_cons] at ih ⊢; rw [ih]; rfl
theorem stR_sz (l : List ByteArray) : ∀ r ∈ stR l, r.length = 1 := by
 intro r hr
 obtain ⟨x, _, rfl⟩ := List.mem_map.1 hr
 rfl
theorem st_one (l : List ByteArray) : ∀ r ∈ stR l, ∀ y ∈ r, y.oneCell' = true := by
 intro r hr y hy
 obtain ⟨x, _, rfl⟩ := List.mem_map.1 hr
 simp only [stC, List.mem_cons, List.not_mem_nil, or_false] at hy
 rw [hy]; rfl
theorem owns_strs {w : World} {base : Nat} {v : Value} {l : List ByteArray} (h : Owns w base 9 1 v (stR l)) : Strs w base v l := by
 have := h.2
 rw [stR_length, stR_flat] at this
 exact this
theorem strs_owns {w : World} {base : Nat} {v : Value} {l : List ByteArray} (h : Strs w base v l) : Owns w base 9 1 v (stR l) := ⟨stR_sz l, by rw [stR_length, stR_flat]; exact h⟩
theorem st_look {w : World} {B : Nat} {v : Value} {l : List ByteArray} (h : Lies w B 1 v (stR l)) : ∃ A cap, v = .slice A l.length cap ∧ ∀ j, j < l.length → ∃ g off, A = some ⟨g, off, none⟩ ∧ g < B ∧ w.cell? ⟨g, off + j, none⟩ = some (.string (l.getD j default)) := by
 obtain ⟨A, cap, e, h⟩ := h.look
 refine ⟨A, cap, by rw [e]; simp [stR], fun j hj => ?_⟩
 rw [← getD_at l j hj]
 obtain ⟨g, off, e, hg, hc⟩ := h j (by simpa [stR] using hj)
 refine ⟨g, off, e, hg, ?_⟩
 have := hc 0 _ (by omega) (by simp [stR, stC]; rfl)
 simpa using this
theorem st_cells {w : World} {B n c : Nat} {A : Option Addr} {l : List ByteArray} (h : Lies w B 1 (.slice A n c) (stR l)) : ∀ j, j < l.length → ∃ g off, A = some ⟨g, off, none⟩ ∧ g < B ∧ w.cell? ⟨g, off + j, none⟩ = some (.string (l.getD j default)) := by
 obtain ⟨A', c', e, hl⟩ := st_look h
 cases e
 exact hl
def laR (us : List Value) : List (List Value) := us.map fun u => [u]
theorem laR_length (us : List Value) : (laR us).length = us.length := by simp [laR]
theorem laR_append (l m : List Value) : laR (l ++ m) = laR l ++ laR m := by simp [laR]
theorem la_look {w : World} {B : Nat} {v : Value} {us : List Value} (h : Lies w B 1 v (laR us)) : ∃ A cap, v = .slice A us.length cap ∧ ∀ j, j < us.length → ∃ g off, A = some ⟨g, off, none⟩ ∧ g < B ∧ w.cell? ⟨g, off + j, none⟩ = some (us.getD j default) := by
 obtain ⟨A, cap, e, h⟩ := h.look
 refine ⟨A, cap, by rw [e]; simp [laR], fun j hj => ?_⟩
 rw [← getD_at us j hj]
 obtain ⟨g, off, e, hg, hc⟩ := h j (by simpa [laR] using hj)
 refine ⟨g, off, e, hg, ?_⟩
 have := hc 0 _ (by omega) (by simp [laR]; rfl)
 simpa using this
def LayL (w : World) (B : Nat) (us : List Value) (ls : List (List Ser)) : Prop := us.length = ls.length ∧ ∀ j, j < ls.length → SerV w B (us.getD j default) (ls.getD j [])
def LayV (w : World) (B : Nat) (v : Value) (ls : List (List Ser)) : Prop := ∃ us, Lies w B 1 v (laR us) ∧ LayL w B us ls
theorem LayL.on {w w' : World} {B : Nat} {us : List Value} {ls : List (List Ser)} (h : LayL w B us ls) (hb : Below B w w') : LayL w' B us ls := ⟨h.1, fun j hj => (h.2 j hj).on hb⟩
theorem LayL.mono {w : World} {B C : Nat} {us : List Value} {ls : List (List Ser)} (h : LayL w B us ls) (hB : B ≤ C) : LayL w C us ls := ⟨h.1, fun j hj => (h.2 j hj).mono hB⟩
theorem LayV.on {w w' : World} {B : Nat} {v : Value} {ls : List (List Ser)} (h : LayV w B v ls) (hb : Below B w w') : LayV w' B v ls := h.imp fun _ h => ⟨h.1.on hb, h.2.on hb⟩
theorem LayV.mono {w : World} {B C : Nat} {v : Value} {ls : List (List Ser)} (h : LayV w B v ls) (hB : B ≤ C) : LayV w C v ls := h.imp fun _ h => ⟨h.1.mono hB, h.2.mono hB⟩
theorem LayL.snoc {w : World} {B : Nat} {us : List Value} {ls : List (List Ser)} (h : LayL w B us ls) {u : Value} {l : List Ser} (hu : SerV w B u l) : LayL w B (us ++ [u]) (ls ++ [l]) := by
 refine ⟨by simp [h.1], fun j hj => ?_⟩
 rw [List.length_append, List.length_singleton] at hj
 by_cases e : j < ls.length
 ·rw [List.getD_eq_getElem?_getD, List.getD_eq_getElem?_getD, List.getElem?_append_left (by rw [h.1]; exact e), List.getElem?_append_left e, ← List.getD_eq_getElem?_getD, ← List.getD_eq_getElem?_getD]
  exact h.2 j e
 ·obtain rfl : j = ls.length := by omega
  rw [List.getD_eq_getElem?_getD, List.getD_eq_getElem?_getD, List.getElem?_append_right (by rw [h.1]; exact Nat.le_refl _), List.getElem?_append_right (Nat.le_refl _), h.1, Nat.sub_self]
  exact hu
theorem LayV.look {w : World} {B : Nat} {v : Value} {ls : List (List Ser)} (h : LayV w B v ls) : ∃ A cap, v = .slice A ls.length cap ∧ ∀ j, j < ls.length → ∃ g off u, A = some ⟨g, off, none⟩ ∧ g < B ∧ w.cell? ⟨g, off + j, none⟩ = some u ∧ SerV w B u (ls.getD j []) := by
 obtain ⟨us, h1, h2⟩ := h
 obtain ⟨A, cap, e, hl⟩ := la_look h1
 refine ⟨A, cap, by rw [e, h2.1], fun j hj => ?_⟩
 obtain ⟨g, off, e, hg, hc⟩ := hl j (by rw [h2.1]; exact hj)
 exact ⟨g, off, _, e, hg, hc, h2.2 j hj⟩
def vE (f : Int) (vc vf : Value) : Value := .agg #[.int .i64 f, vc, vf]
def EngV (w : World) (B : Nat) (v : Value) (e : Eng) : Prop := ∃ vc vf, v = vE e.floor vc vf ∧ SerV w B vc e.cache ∧ Lies w B 1 vf (stR e.files)
theorem EngV.on {w w' : World} {B : Nat} {v : Value} {e : Eng} (h : EngV w B v e) (hb : Below B w w') : EngV w' B v e := by
 obtain ⟨vc, vf, h1, h2, h3⟩ := h
 exact ⟨vc, vf, h1, h2.on hb, h3.on hb⟩
theorem EngV.mono {w : World} {B C : Nat} {v : Value} {e : Eng} (h : EngV w B v e) (hB : B ≤ C) : EngV w C v e := by
 obtain ⟨vc, vf, h1, h2, h3⟩ := h
 exact ⟨vc, vf, h1, h2.mono hB, h3.mono hB⟩
def EngO (w : World) (base : Nat) (v : Value) (e : Eng) : Prop := ∃ vc vf L, v = vE e.floor vc vf ∧ L.map Prod.fst = e.cache ∧ SerO w base vc L ∧ Strs w base vf e.files
theorem EngO.view {w : World} {base : Nat} {v : Value} {e : Eng} (h : EngO w base v e) : EngV w w.heap.size v e := by
 obtain ⟨vc, vf, L, h1, h2, h3, h4⟩ := h
 exact ⟨vc, vf, h1, by rw [← h2]; exact h3.view, (strs_owns h4).lies⟩
theorem EngO.on {w w' : World} {base : Nat} {v : Value} {e : Eng} (h : EngO w base v e) (hb : Below w.heap.size w w') : EngO w' base v e := by
 obtain ⟨vc, vf, L, h1, h2, h3, h4⟩ := h
 exact ⟨vc, vf, L, h1, h2, h3.on hb, h4.on hb⟩
theorem EngO.mono {w : World} {base base' : Nat} {v : Value} {e : Eng} (h : EngO w base v e) (hb : base' ≤ base) : EngO w base' v e := by
 obtain ⟨vc, vf, L, h1, h2, h3, h4⟩ := h
 exact ⟨vc, vf, L, h1, h2, h3.mono hb, h4.mono hb⟩
def EShort (e : Eng) : Prop := SShort e.cache ∧ (∀ x ∈ e.cache, x.key.size ≤ maxLen) ∧ e.files.length ≤ 1048576 ∧ ∀ s ∈ e.files, s.size ≤ 1048576
end Go.Proofs.YtpmgndgkmffcnaaGreatDoor
