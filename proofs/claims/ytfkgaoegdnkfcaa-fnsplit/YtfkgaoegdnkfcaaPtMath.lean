/-
  Rows of points that rise, and what merging them comes to (no program in sight, no condition).
-/
import Derived.Test.YtfkgaoegdnkfcaaPtAid
namespace Go.Proofs.Ytfkgaoegdnkfcaa
open Go.RowKit Go.PlainAid

/-- The times rise. -/
def Rising (l : List Pnt) : Prop := l.Pairwise fun p q => p.t < q.t
/-- Time and value are in their bounds. -/
def inB (p : Pnt) : Prop := (0 ≤ p.t ∧ p.t ≤ 1099511627776) ∧ (-1099511627776 ≤ p.v ∧ p.v ≤ 1099511627776)
theorem tAt_get (l : List Pnt) (j : Nat) (h : j < l.length) : tAt l j = (l[j]).t := by rw [tAt, ← getD_at l j h]
theorem vAt_get (l : List Pnt) (j : Nat) (h : j < l.length) : vAt l j = (l[j]).v := by rw [vAt, ← getD_at l j h]
theorem rising_of_next (l : List Pnt) (h : ∀ j, j < l.length → 0 < j → tAt l (j - 1) < tAt l j) : Rising l := by
  unfold Rising
  rw [List.pairwise_iff_getElem]
  have key : ∀ d i, i + d + 1 < l.length → tAt l i < tAt l (i + d + 1) := by
    intro d
    induction d with
    | zero => intro i hi; have := h (i + 0 + 1) hi (by omega); simpa using this
    | succ d ih =>
      intro i hi
      have h1 := ih i (by omega)
      have h2 := h (i + (d + 1) + 1) hi (by omega)
      rw [show i + (d + 1) + 1 - 1 = i + d + 1 by omega] at h2
      omega
  intro i j hi hj hij
  have := key (j - i - 1) i (by omega)
  rw [show i + (j - i - 1) + 1 = j by omega] at this
  rw [tAt_get l i hi, tAt_get l j hj] at this
  exact this
theorem POk_iff (l : List Pnt) : POk l ↔ l.length ≤ 60 ∧ Rising l ∧ ∀ p ∈ l, inB p := by
  constructor
  · intro h
    refine ⟨h.1, rising_of_next l fun j hj h0 => (h.2 j hj).2 h0, fun p hp => ?_⟩
    obtain ⟨j, hj, rfl⟩ := List.getElem_of_mem hp
    have := (h.2 j hj).1
    rw [tAt_get l j hj, vAt_get l j hj] at this
    exact this
  · rintro ⟨h1, h2, h3⟩
    refine ⟨h1, fun j hj => ⟨?_, fun h0 => ?_⟩⟩
    · rw [tAt_get l j hj, vAt_get l j hj]
      exact h3 _ (List.getElem_mem hj)
    · rw [tAt_get l j hj, tAt_get l (j - 1) (by omega)]
      exact (List.pairwise_iff_getElem.1 h2) (j - 1) j (by omega) hj (by omega)
/-- Rows that rise and hold the same are one. -/
theorem rising_ext : ∀ {l m : List Pnt}, Rising l → Rising m → (∀ p, p ∈ l ↔ p ∈ m) → l = m
  | [], [], _, _, _ => rfl
  | [], y :: m, _, _, h => by have := (h y).2 (by simp); simp at this
  | x :: l, [], _, _, h => by have := (h x).1 (by simp); simp at this
  | x :: l, y :: m, hl, hm, h => by
    have hl' := List.pairwise_cons.1 hl
    have hm' := List.pairwise_cons.1 hm
    have hxy : x = y := by
      rcases List.mem_cons.1 ((h x).1 (by simp)) with e | h1
      · exact e
      · rcases List.mem_cons.1 ((h y).2 (by simp)) with e | h2
        · exact e.symm
        · have := hm'.1 x h1
          have := hl'.1 y h2
          omega
    subst hxy
    congr 1
    refine rising_ext hl'.2 hm'.2 fun p => ⟨fun hp => ?_, fun hp => ?_⟩
    · rcases List.mem_cons.1 ((h p).1 (by simp [hp])) with e | h1
      · subst e; have := hl'.1 p hp; omega
      · exact h1
    · rcases List.mem_cons.1 ((h p).2 (by simp [hp])) with e | h1
      · subst e; have := hm'.1 p hp; omega
      · exact h1

/-! ### One more point -/
/-- One step of l8Put. -/
def stepF (p : Pnt) (s : List Pnt × Bool) (q : Pnt) : List Pnt × Bool :=
  let o := if s.2 = false ∧ p.t ≤ q.t then (s.1 ++ [p], true) else s
  if q.t = p.t then o else (o.1 ++ [q], o.2)
/-- What l8Put has behind the first k. -/
def putS (l : List Pnt) (p : Pnt) (k : Nat) : List Pnt × Bool := (l.take k).foldl (stepF p) ([], false)
theorem putS_succ (l : List Pnt) (p : Pnt) (k : Nat) (h : k < l.length) : putS l p (k + 1) = stepF p (putS l p k) (l.getD k default) := by
  unfold putS
  rw [take_getD l k h, List.foldl_append]
  rfl
/-- What l8Put answers. -/
def putL (l : List Pnt) (p : Pnt) : List Pnt := if (putS l p l.length).2 then (putS l p l.length).1 else (putS l p l.length).1 ++ [p]
/-- The same, point by point. -/
def putP : List Pnt → Pnt → List Pnt
  | [], p => [p]
  | q :: r, p => if p.t ≤ q.t then p :: (q :: r).filter (fun x => decide (x.t ≠ p.t)) else q :: putP r p
theorem fold_done (p : Pnt) : ∀ (l o : List Pnt), l.foldl (stepF p) (o, true) = (o ++ l.filter (fun x => decide (x.t ≠ p.t)), true)
  | [], o => by simp
  | q :: r, o => by
    rw [List.foldl_cons]
    by_cases h : q.t = p.t
    · have e : stepF p (o, true) q = (o, true) := by simp [stepF, h]
      rw [e, fold_done p r o, List.filter_cons, if_neg (by simp [h])]
    · have e : stepF p (o, true) q = (o ++ [q], true) := by simp [stepF, h]
      rw [e, fold_done p r (o ++ [q]), List.filter_cons, if_pos (by simp [h]), List.append_assoc]
      rfl
/-- What l8Put makes of where it stands. -/
def fin (p : Pnt) (s : List Pnt × Bool) : List Pnt := if s.2 then s.1 else s.1 ++ [p]
theorem fold_open (p : Pnt) : ∀ (l o : List Pnt), fin p (l.foldl (stepF p) (o, false)) = o ++ putP l p
  | [], o => by simp [fin, putP]
  | q :: r, o => by
    rw [List.foldl_cons]
    by_cases h : p.t ≤ q.t
    · rw [putP, if_pos h]
      by_cases h2 : q.t = p.t
      · have e : stepF p (o, false) q = (o ++ [p], true) := by simp [stepF, h2]
        rw [e, fold_done p r (o ++ [p]), List.filter_cons, if_neg (by simp [h2])]
        simp [fin]
      · have e : stepF p (o, false) q = (o ++ [p] ++ [q], true) := by simp [stepF, h, h2]
        rw [e, fold_done p r (o ++ [p] ++ [q]), List.filter_cons, if_pos (by simp [h2])]
        simp [fin]
    · have e : stepF p (o, false) q = (o ++ [q], false) := by simp [stepF, h, show ¬ q.t = p.t by omega]
      rw [putP, if_neg h, e, fold_open p r (o ++ [q])]
      simp
theorem putL_eq (l : List Pnt) (p : Pnt) : putL l p = putP l p := by
  have := fold_open p l []
  unfold putL putS
  rw [List.take_length]
  exact this
theorem mem_putP (p x : Pnt) : ∀ l : List Pnt, x ∈ putP l p ↔ x = p ∨ (x ∈ l ∧ x.t ≠ p.t)
  | [] => by simp [putP]
  | q :: r => by
    by_cases h : p.t ≤ q.t
    · rw [putP, if_pos h, List.mem_cons, List.mem_filter]
      simp
    · rw [putP, if_neg h, List.mem_cons, mem_putP p x r, List.mem_cons]
      constructor
      · rintro (e | e | ⟨e1, e2⟩)
        · subst e; exact .inr ⟨.inl rfl, by omega⟩
        · exact .inl e
        · exact .inr ⟨.inr e1, e2⟩
      · rintro (e | ⟨e | e1, e2⟩)
        · exact .inr (.inl e)
        · exact .inl e
        · exact .inr (.inr ⟨e1, e2⟩)
theorem rising_putP (p : Pnt) : ∀ l : List Pnt, Rising l → Rising (putP l p)
  | [], _ => by simp [putP, Rising]
  | q :: r, hl => by
    have hl' := List.pairwise_cons.1 hl
    by_cases h : p.t ≤ q.t
    · rw [putP, if_pos h]
      refine List.pairwise_cons.2 ⟨fun x hx => ?_, hl.sublist List.filter_sublist⟩
      obtain ⟨h1, h2⟩ := List.mem_filter.1 hx
      have h3 : x.t ≠ p.t := by simpa using h2
      rcases List.mem_cons.1 h1 with e | h4
      · subst e; omega
      · have := hl'.1 x h4; omega
    · rw [putP, if_neg h]
      refine List.pairwise_cons.2 ⟨fun x hx => ?_, rising_putP p r hl'.2⟩
      rcases (mem_putP p x r).1 hx with e | ⟨h4, _⟩
      · subst e; omega
      · exact hl'.1 x h4
theorem putP_length (p : Pnt) : ∀ l : List Pnt, (putP l p).length ≤ l.length + 1
  | [] => by simp [putP]
  | q :: r => by
    by_cases h : p.t ≤ q.t
    · rw [putP, if_pos h]
      have := List.length_filter_le (fun x => decide (x.t ≠ p.t)) (q :: r)
      simp only [List.length_cons] at this ⊢
      omega
    · rw [putP, if_neg h]
      have := putP_length p r
      simp only [List.length_cons]
      omega

/-! ### Merging -/
/-- All points of both, of two with one time that of b. -/
def mrg (a b : List Pnt) : List Pnt := b.foldl putP a
theorem mem_mrg (x : Pnt) : ∀ (b a : List Pnt), Rising b → (x ∈ mrg a b ↔ x ∈ b ∨ (x ∈ a ∧ ∀ q ∈ b, q.t ≠ x.t))
  | [], a, _ => by simp [mrg]
  | y :: b, a, hb => by
    have hb' := List.pairwise_cons.1 hb
    have ih := mem_mrg x b (putP a y) hb'.2
    have e : mrg a (y :: b) = mrg (putP a y) b := rfl
    rw [e, ih, mem_putP]
    constructor
    · rintro (h | ⟨h | ⟨h1, h2⟩, h3⟩)
      · exact .inl (by simp [h])
      · exact .inl (by simp [h])
      · refine .inr ⟨h1, fun q hq => ?_⟩
        rcases List.mem_cons.1 hq with e | hq
        · subst e; omega
        · exact h3 q hq
    · rintro (h | ⟨h1, h2⟩)
      · rcases List.mem_cons.1 h with e | h
        · subst e
          exact .inr ⟨.inl rfl, fun q hq => by have := hb'.1 q hq; omega⟩
        · exact .inl h
      · exact .inr ⟨.inr ⟨h1, fun e => h2 y (by simp) e.symm⟩, fun q hq => h2 q (by simp [hq])⟩
theorem rising_mrg : ∀ (b a : List Pnt), Rising a → Rising (mrg a b)
  | [], _, ha => ha
  | y :: b, a, ha => rising_mrg b (putP a y) (rising_putP y a ha)
theorem mrg_length : ∀ (b a : List Pnt), (mrg a b).length ≤ a.length + b.length
  | [], a => by simp [mrg]
  | y :: b, a => by
    have h1 := mrg_length b (putP a y)
    have h2 := putP_length y a
    have e : mrg a (y :: b) = mrg (putP a y) b := rfl
    rw [e]
    simp only [List.length_cons]
    omega
theorem mrg_nil_left (b : List Pnt) (hb : Rising b) : mrg [] b = b :=
  rising_ext (rising_mrg b [] (by simp [Rising])) hb fun p => by rw [mem_mrg p b [] hb]; simp
theorem mrg_less {x y : Pnt} {a b : List Pnt} (ha : Rising (x :: a)) (hb : Rising (y :: b)) (h : x.t < y.t) : mrg (x :: a) (y :: b) = x :: mrg a (y :: b) := by
  have ha' := List.pairwise_cons.1 ha
  have hb' := List.pairwise_cons.1 hb
  refine rising_ext (rising_mrg _ _ ha) (List.pairwise_cons.2 ⟨fun p hp => ?_, rising_mrg _ _ ha'.2⟩) fun p => ?_
  · rcases (mem_mrg p (y :: b) a hb).1 hp with h1 | ⟨h1, _⟩
    · rcases List.mem_cons.1 h1 with e | h1
      · subst e; exact h
      · have := hb'.1 p h1; omega
    · exact ha'.1 p h1
  · rw [List.mem_cons, mem_mrg p _ _ hb, mem_mrg p _ _ hb]
    constructor
    · rintro (h1 | ⟨h1, h2⟩)
      · exact .inr (.inl h1)
      · rcases List.mem_cons.1 h1 with e | h1
        · exact .inl e
        · exact .inr (.inr ⟨h1, h2⟩)
    · rintro (e | h1 | ⟨h1, h2⟩)
      · subst e
        refine .inr ⟨by simp, fun q hq => ?_⟩
        rcases List.mem_cons.1 hq with e | hq
        · subst e; omega
        · have := hb'.1 q hq; omega
      · exact .inl h1
      · exact .inr ⟨by simp [h1], h2⟩
theorem mrg_same {x y : Pnt} {a b : List Pnt} (ha : Rising (x :: a)) (hb : Rising (y :: b)) (h : x.t = y.t) : mrg (x :: a) (y :: b) = y :: mrg a b := by
  have ha' := List.pairwise_cons.1 ha
  have hb' := List.pairwise_cons.1 hb
  refine rising_ext (rising_mrg _ _ ha) (List.pairwise_cons.2 ⟨fun p hp => ?_, rising_mrg _ _ ha'.2⟩) fun p => ?_
  · rcases (mem_mrg p b a hb'.2).1 hp with h1 | ⟨h1, _⟩
    · exact hb'.1 p h1
    · have := ha'.1 p h1; omega
  · rw [List.mem_cons, mem_mrg p _ _ hb, mem_mrg p _ _ hb'.2]
    constructor
    · rintro (h1 | ⟨h1, h2⟩)
      · rcases List.mem_cons.1 h1 with e | h1
        · exact .inl e
        · exact .inr (.inl h1)
      · rcases List.mem_cons.1 h1 with e | h1
        · subst e; exact absurd h.symm (h2 y (by simp))
        · exact .inr (.inr ⟨h1, fun q hq => h2 q (by simp [hq])⟩)
    · rintro (e | h1 | ⟨h1, h2⟩)
      · exact .inl (by simp [e])
      · exact .inl (by simp [h1])
      · refine .inr ⟨by simp [h1], fun q hq => ?_⟩
        rcases List.mem_cons.1 hq with e | hq
        · subst e; have := ha'.1 p h1; omega
        · exact h2 q hq
theorem mrg_more {x y : Pnt} {a b : List Pnt} (ha : Rising (x :: a)) (hb : Rising (y :: b)) (h : y.t < x.t) : mrg (x :: a) (y :: b) = y :: mrg (x :: a) b := by
  have ha' := List.pairwise_cons.1 ha
  have hb' := List.pairwise_cons.1 hb
  refine rising_ext (rising_mrg _ _ ha) (List.pairwise_cons.2 ⟨fun p hp => ?_, rising_mrg _ _ ha⟩) fun p => ?_
  · rcases (mem_mrg p b (x :: a) hb'.2).1 hp with h1 | ⟨h1, _⟩
    · exact hb'.1 p h1
    · rcases List.mem_cons.1 h1 with e | h1
      · subst e; exact h
      · have := ha'.1 p h1; omega
  · rw [List.mem_cons, mem_mrg p _ _ hb, mem_mrg p _ _ hb'.2]
    constructor
    · rintro (h1 | ⟨h1, h2⟩)
      · rcases List.mem_cons.1 h1 with e | h1
        · exact .inl e
        · exact .inr (.inl h1)
      · exact .inr (.inr ⟨h1, fun q hq => h2 q (by simp [hq])⟩)
    · rintro (e | h1 | ⟨h1, h2⟩)
      · exact .inl (by simp [e])
      · exact .inl (by simp [h1])
      · refine .inr ⟨h1, fun q hq => ?_⟩
        rcases List.mem_cons.1 hq with e | hq
        · subst e
          rcases List.mem_cons.1 h1 with e | h1
          · subst e; omega
          · have := ha'.1 p h1; omega
        · exact h2 q hq
end Go.Proofs.Ytfkgaoegdnkfcaa
