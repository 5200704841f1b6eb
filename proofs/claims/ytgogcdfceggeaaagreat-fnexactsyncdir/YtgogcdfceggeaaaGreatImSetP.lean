/-
  The inodes that a table of names leads to: what is gathered in no order is what is left of the inodes in order (no program in sight, no condition).
-/
import Derived.Test.YtgogcdfceggeaaaGreatRows
import Derived.Test.YtgogcdfceggeaaaGreatImTakeI
import Derived.Maps.Ext
namespace Go.Proofs.YtgogcdfceggeaaaGreat
open Go.RowKit Go.PlainAid Go.Maps

/-- What is gathered so far: the numbers of the names that have come, each as in the table P. -/
structure Gath (l : List Lnk) (P : List (Int × Nat)) (left : Lit → Bool) (D : DataW Unit) : Prop where
  has : ∀ kl, has D kl = true ↔ ∃ x ∈ l, left (nameK x.name) = false ∧ kl = .int .i64 x.id
  at_ : ∀ kl z, Maps.has D kl = true → D.atKey kl z = (ptrD P).atKey kl z
theorem gath_start (l : List Lnk) (P : List (Int × Nat)) : Gath l P (has (linkD l)) (.map []) := by
  refine ⟨fun kl => ⟨fun h => (by cases h), ?_⟩, fun kl z h => (by cases h)⟩
  rintro ⟨x, hx, h1, rfl⟩
  have h2 : Maps.has (linkD l) (nameK x.name) = true := by
    unfold linkD
    rw [has_eq, List.any_eq_true]
    exact ⟨(nameK x.name, .lit (.int .i64 x.id)), List.mem_map.2 ⟨x, hx, rfl⟩, by rw [nameK_same]; simp⟩
  rw [h2] at h1
  cases h1
theorem link_of {l : List Lnk} {s : ByteArray} {c : Int} (h : ∀ z, (linkD l).atKey (nameK s) z = .lit (.int .i64 c)) : ∃ x ∈ l, x.name = s ∧ x.id = c := by
  rcases e : linkAt l s with _ | i
  · have := h .nil
    rw [linkD_none l s e] at this
    cases this
  · have := h .nil
    rw [linkD_at l s i e] at this
    injection this with this
    injection this with _ this
    unfold linkAt at e
    rw [List.findIdx?_eq_some_iff_getElem] at e
    obtain ⟨hi, hp, _⟩ := e
    refine ⟨l[i], List.getElem_mem hi, by simpa using hp, ?_⟩
    rw [← this, List.getD_eq_getElem?_getD, List.getElem?_eq_getElem hi]
    rfl
theorem gath_step {l : List Lnk} {P : List (Int × Nat)} {left : Lit → Bool} {D : DataW Unit} {s : ByteArray} {c : Int} {g : Nat} (h : Gath l P left D) (hm : IsMap D) (hu : ∀ x ∈ l, ∀ y ∈ l, x.name = y.name → x = y) (hl : ∀ z, (linkD l).atKey (nameK s) z = .lit (.int .i64 c)) (hp : ptrAt P c = some g) :
    Gath l P (fun z => left z && !z.sameKey (nameK s)) (D.put (.int .i64 c) (.lit (.int .i64 (g : Int)))) := by
  obtain ⟨y, hy, rfl, rfl⟩ := link_of hl
  refine ⟨fun kl => ?_, fun kl z hk => ?_⟩
  · by_cases e : kl = .int .i64 y.id
    · subst e
      rw [has_put_same hm (show WideAt.IsKeyLit (.int .i64 y.id) from trivial)]
      refine ⟨fun _ => ⟨y, hy, ?_, rfl⟩, fun _ => rfl⟩
      rw [nameK_same]
      simp
    · rw [has_put_other e, h.has]
      constructor
      · rintro ⟨x, hx, h1, h2⟩
        exact ⟨x, hx, by rw [h1]; rfl, h2⟩
      · rintro ⟨x, hx, h1, h2⟩
        refine ⟨x, hx, ?_, h2⟩
        rw [nameK_same] at h1
        by_cases hn : x.name = y.name
        · have := hu x hx y hy hn
          subst this
          exact absurd h2 e
        · rw [decide_eq_false hn] at h1
          simpa using h1
  · by_cases e : kl = .int .i64 y.id
    · subst e
      rw [atKey_put_same hm (show WideAt.IsKeyLit (.int .i64 y.id) from trivial), ptrD_at, hp]
    · rw [has_put_other e] at hk
      rw [atKey_put_other e, h.at_ kl z hk]
/-- The pairs whose number some name leads to. -/
def keptP (l : List Lnk) (P : List (Int × Nat)) : List (Int × Nat) := P.filter fun p => linked l p.1
theorem linked_iff (l : List Lnk) (id : Int) : linked l id = true ↔ ∃ x ∈ l, x.id = id := by
  unfold linked
  rw [List.any_eq_true]
  constructor
  · rintro ⟨x, hx, h⟩; exact ⟨x, hx, by simpa using h⟩
  · rintro ⟨x, hx, h⟩; exact ⟨x, hx, by simpa using h⟩
theorem ptrAt_kept (l : List Lnk) (P : List (Int × Nat)) (id : Int) : ptrAt (keptP l P) id = if linked l id = true then ptrAt P id else none := by
  unfold ptrAt keptP
  induction P with
  | nil => simp
  | cons p r ih =>
    by_cases h : linked l p.1 = true
    · rw [List.filter_cons, if_pos h, List.find?_cons, List.find?_cons]
      by_cases e : p.1 = id
      · rw [decide_eq_true e, ← e, if_pos h]
      · rw [decide_eq_false e]
        exact ih
    · rw [List.filter_cons, if_neg h, ih]
      by_cases e : p.1 = id
      · subst e
        rw [if_neg h, if_neg h]
      · rw [List.find?_cons, decide_eq_false e]
theorem canon_ptrD {P : List (Int × Nat)} (h : P.Pairwise fun a b => a.1 < b.1) : Canon (ptrD P) := by
  refine ⟨_, rfl, ?_, ?_⟩
  · rw [List.pairwise_map]
    exact h.imp fun {a b} hab => by show decide (a.1 < b.1) = true; exact decide_eq_true hab
  · intro p hp
    obtain ⟨q, _, rfl⟩ := List.mem_map.1 hp
    trivial
theorem has_ptrD {P : List (Int × Nat)} {kl : Lit} (h : Maps.has (ptrD P) kl = true) : ∃ id, kl = .int .i64 id ∧ (ptrAt P id).isSome = true := by
  have h0 := h
  unfold ptrD at h
  rw [has_eq, List.any_eq_true] at h
  obtain ⟨q, hq, hs⟩ := h
  obtain ⟨p, _, rfl⟩ := List.mem_map.1 hq
  have e := WideAt.sameKey_eq hs
  refine ⟨p.1, e.symm, ?_⟩
  rw [← e, ptrD_has] at h0
  exact h0
/-- Where nothing is to come any more, it is what is kept. -/
theorem gath_end {l : List Lnk} {P : List (Int × Nat)} {left : Lit → Bool} {D : DataW Unit} (h : Gath l P left D) (hl : ∀ k, left k = false) (hc : Canon D) (hP : P.Pairwise fun a b => a.1 < b.1) (hin : ∀ x ∈ l, (ptrAt P x.id).isSome = true) : D = ptrD (keptP l P) := by
  have key : ∀ kl, Maps.has D kl = Maps.has (ptrD (keptP l P)) kl := by
    intro kl
    rw [Bool.eq_iff_iff, h.has]
    constructor
    · rintro ⟨x, hx, _, rfl⟩
      rw [ptrD_has, ptrAt_kept, if_pos ((linked_iff l x.id).2 ⟨x, hx, rfl⟩)]
      exact hin x hx
    · intro hk
      obtain ⟨id, rfl, hs⟩ := has_ptrD hk
      rw [ptrAt_kept] at hs
      by_cases hlk : linked l id = true
      · obtain ⟨x, hx, rfl⟩ := (linked_iff l id).1 hlk
        exact ⟨x, hx, hl _, rfl⟩
      · rw [if_neg hlk] at hs
        cases hs
  refine ext hc (canon_ptrD (hP.filter _)) key fun kl z hk => ?_
  rw [h.at_ kl z hk]
  rw [key] at hk
  obtain ⟨id, rfl, hs⟩ := has_ptrD hk
  rw [ptrD_at, ptrD_at]
  rw [ptrAt_kept] at hs ⊢
  by_cases hlk : linked l id = true
  · rw [if_pos hlk]
  · rw [if_neg hlk] at hs
    cases hs
/-- What is kept of the inodes, with their places. -/
def keptN (l : List Lnk) (ns : List Nod) : List Nod := ns.filter fun x => linked l x.id
def keptG (l : List Lnk) : List Nod → List Nat → List Nat
  | x :: r, g :: s => if linked l x.id = true then g :: keptG l r s else keptG l r s
  | _, _ => []
theorem prs_kept (l : List Lnk) : ∀ (ns : List Nod) (gs : List Nat), gs.length = ns.length → keptP l (prs ns gs) = prs (keptN l ns) (keptG l ns gs) ∧ (keptG l ns gs).length = (keptN l ns).length
  | [], [], _ => ⟨rfl, rfl⟩
  | [], _ :: _, h => by cases h
  | _ :: _, [], h => by cases h
  | x :: r, g :: s, h => by
    have ih := prs_kept l r s (by simpa using h)
    have eg : keptG l (x :: r) (g :: s) = if linked l x.id = true then g :: keptG l r s else keptG l r s := by rw [keptG]
    rw [eg]
    unfold keptP prs keptN at *
    simp only [List.map_cons, List.zip_cons_cons]
    by_cases hx : linked l x.id = true
    · rw [List.filter_cons, if_pos hx, List.filter_cons, if_pos hx, if_pos hx, List.map_cons, List.zip_cons_cons, ih.1]
      exact ⟨rfl, by rw [List.length_cons, List.length_cons, ih.2]⟩
    · rw [List.filter_cons, if_neg hx, List.filter_cons, if_neg hx, if_neg hx]
      exact ih
theorem keptG_sub (l : List Lnk) : ∀ (ns : List Nod) (gs : List Nat), ∀ g ∈ keptG l ns gs, g ∈ gs
  | [], _, g, hg => by unfold keptG at hg; cases hg
  | _ :: _, [], g, hg => by unfold keptG at hg; cases hg
  | x :: r, h :: s, g, hg => by
    unfold keptG at hg
    by_cases hx : linked l x.id = true
    · rw [if_pos hx] at hg
      rcases List.mem_cons.1 hg with rfl | hg
      · exact List.mem_cons_self
      · exact List.mem_cons_of_mem _ (keptG_sub l r s g hg)
    · rw [if_neg hx] at hg
      exact List.mem_cons_of_mem _ (keptG_sub l r s g hg)
end Go.Proofs.YtgogcdfceggeaaaGreat
