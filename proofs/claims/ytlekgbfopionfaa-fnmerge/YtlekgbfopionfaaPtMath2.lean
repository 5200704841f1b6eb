/-
  What merging promises: each time once, any grouping (no program in sight, no condition).
-/
import Derived.Test.YtlekgbfopionfaaPtMath
import Derived.Test.YtlekgbfopionfaaPtMrgS
namespace Go.Proofs.Ytlekgbfopionfaa
open Go.RowKit Go.PlainAid

/-- Has no point of l this time? -/
def noT (l : List Pnt) (p : Pnt) : Bool := l.all fun q => decide (q.t ≠ p.t)
theorem noT_iff (l : List Pnt) (p : Pnt) : noT l p = true ↔ ∀ q ∈ l, q.t ≠ p.t := by simp [noT]
theorem noT_cons (y : Pnt) (l : List Pnt) (p : Pnt) (h : y.t ≠ p.t) : noT (y :: l) p = noT l p := by simp [noT, h]
theorem filter_same {α : Type} (f g : α → Bool) : ∀ l : List α, (∀ x ∈ l, f x = g x) → l.filter f = l.filter g
  | [], _ => rfl
  | x :: l, h => by
    have h1 := h x (by simp)
    have h2 := filter_same f g l fun y hy => h y (by simp [hy])
    rw [List.filter_cons, List.filter_cons, h1, h2]
/-- How many there are of both. -/
theorem mrg_count : ∀ (n : Nat) (a b : List Pnt), a.length + b.length ≤ n → Rising a → Rising b → (mrg a b).length = b.length + (a.filter (noT b)).length
  | _, [], b, _, _, hb => by rw [mrg_nil_left b hb]; simp
  | _, x :: a, [], _, _, _ => by
    have : (x :: a).filter (noT []) = x :: a := List.filter_eq_self.2 fun p _ => rfl
    rw [this]
    simp [mrg]
  | 0, x :: a, y :: b, h, _, _ => by simp at h
  | n + 1, x :: a, y :: b, h, ha, hb => by
    have ha' := List.pairwise_cons.1 ha
    have hb' := List.pairwise_cons.1 hb
    simp only [List.length_cons] at h
    by_cases h1 : x.t < y.t
    · have hx : noT (y :: b) x = true := (noT_iff _ _).2 fun q hq => by
        rcases List.mem_cons.1 hq with e | hq
        · subst e; omega
        · have := hb'.1 q hq; omega
      rw [mrg_less ha hb h1, List.filter_cons, if_pos hx, List.length_cons, mrg_count n a (y :: b) (by simp only [List.length_cons]; omega) ha'.2 hb]
      simp only [List.length_cons]
      omega
    · by_cases h2 : x.t = y.t
      · have hx : noT (y :: b) x = false := by
          cases e : noT (y :: b) x with
          | false => rfl
          | true => exact absurd h2.symm ((noT_iff _ _).1 e y (by simp))
        have hs : a.filter (noT (y :: b)) = a.filter (noT b) := filter_same _ _ a fun p hp => noT_cons y b p (by have := ha'.1 p hp; omega)
        rw [mrg_same ha hb h2, List.filter_cons, hx, hs, List.length_cons, mrg_count n a b (by omega) ha'.2 hb'.2]
        simp only [List.length_cons, Bool.false_eq_true, if_false]
        omega
      · have h3 : y.t < x.t := by omega
        have hs : (x :: a).filter (noT (y :: b)) = (x :: a).filter (noT b) := filter_same _ _ (x :: a) fun p hp => noT_cons y b p (by
          rcases List.mem_cons.1 hp with e | hp
          · subst e; omega
          · have := ha'.1 p hp; omega)
        rw [mrg_more ha hb h3, hs, List.length_cons, mrg_count n (x :: a) b (by simp only [List.length_cons]; omega) ha hb'.2]
        simp only [List.length_cons]
        omega
/-- What is merged is right. -/
theorem mrg_ok {a b : List Pnt} (ha : POk a) (hb : POk b) (h : (mrg a b).length ≤ 60) : POk (mrg a b) := by
  obtain ⟨_, ra, ba⟩ := (POk_iff a).1 ha
  obtain ⟨_, rb, bb⟩ := (POk_iff b).1 hb
  refine (POk_iff _).2 ⟨h, rising_mrg b a ra, fun p hp => ?_⟩
  rcases (mem_mrg p b a rb).1 hp with h1 | ⟨h1, _⟩
  · exact bb p h1
  · exact ba p h1
theorem rising_one {l : List Pnt} (hl : Rising l) {p : Pnt} (hp : p ∈ l) : l.filter (fun q => decide (p.t ≤ q.t) && decide (q.t < p.t + 1)) = [p] := by
  refine rising_ext (hl.sublist List.filter_sublist) (by simp [Rising]) fun q => ?_
  rw [List.mem_filter, List.mem_singleton]
  constructor
  · rintro ⟨h1, h2⟩
    simp only [Bool.and_eq_true, decide_eq_true_eq] at h2
    obtain ⟨i, hi, rfl⟩ := List.getElem_of_mem h1
    obtain ⟨j, hj, rfl⟩ := List.getElem_of_mem hp
    have hpw := List.pairwise_iff_getElem.1 hl
    rcases Nat.lt_trichotomy i j with h | h | h
    · have := hpw i j hi hj h; omega
    · subst h; rfl
    · have := hpw j i hj hi h; omega
  · rintro rfl
    exact ⟨hp, by simp; omega⟩
/-- The slice of one time. -/
theorem slice_one {l : List Pnt} (h : POk l) {p : Pnt} (hp : p ∈ l) : sliceR l p.t (p.t + 1) = [p] := by
  unfold sliceR
  rw [if_pos h]
  exact rising_one ((POk_iff l).1 h).2.1 hp
theorem slice_noT {l : List Pnt} (h : POk l) (p : Pnt) : ((sliceR l p.t (p.t + 1)).length = 0) ↔ noT l p = true := by
  unfold sliceR
  rw [if_pos h, noT_iff]
  constructor
  · intro h0 q hq e
    have : q ∈ l.filter (inP p.t (p.t + 1)) := List.mem_filter.2 ⟨hq, by unfold inP; simp; omega⟩
    rw [List.eq_nil_of_length_eq_zero h0] at this
    cases this
  · intro h0
    rw [List.length_eq_zero_iff, List.filter_eq_nil_iff]
    intro q hq
    have := h0 q hq
    unfold inP
    simp
    omega
theorem mrg_self {l : List Pnt} (h : Rising l) : mrg l l = l :=
  rising_ext (rising_mrg l l h) h fun p => by
    rw [mem_mrg p l l h]
    constructor
    · rintro (h1 | ⟨h1, _⟩) <;> exact h1
    · exact .inl
/-- Merging in any grouping is one. -/
theorem mrg_assoc {a b c : List Pnt} (ha : Rising a) (hb : Rising b) (hc : Rising c) : mrg (mrg a b) c = mrg a (mrg b c) := by
  have hbc := rising_mrg c b hb
  refine rising_ext (rising_mrg _ _ (rising_mrg _ _ ha)) (rising_mrg _ _ ha) fun p => ?_
  rw [mem_mrg p c _ hc, mem_mrg p b a hb, mem_mrg p (mrg b c) a hbc, mem_mrg p c b hc]
  constructor
  · rintro (h | ⟨h | ⟨h1, h2⟩, h3⟩)
    · exact .inl (.inl h)
    · exact .inl (.inr ⟨h, h3⟩)
    · refine .inr ⟨h1, fun q hq => ?_⟩
      rcases (mem_mrg q c b hc).1 hq with h4 | ⟨h4, _⟩
      · exact h3 q h4
      · exact h2 q h4
  · rintro ((h | ⟨h, h3⟩) | ⟨h1, h2⟩)
    · exact .inl h
    · exact .inr ⟨.inl h, h3⟩
    · by_cases hx : ∃ q ∈ c, q.t = p.t
      · obtain ⟨q, hq, e⟩ := hx
        exact absurd e (h2 q ((mem_mrg q c b hc).2 (.inl hq)))
      · have hx' : ∀ q ∈ c, q.t ≠ p.t := fun q hq e => hx ⟨q, hq, e⟩
        refine .inr ⟨.inr ⟨h1, fun q hq e => h2 q ((mem_mrg q c b hc).2 (.inr ⟨hq, fun r hr e2 => hx' r hr (by omega)⟩)) e⟩, hx'⟩
theorem mergeR_self {l : List Pnt} (h : POk l) : mergeR l l = l := by
  have hr := ((POk_iff l).1 h).2.1
  unfold mergeR
  rw [mrg_self hr, if_pos ⟨h, h, h.1⟩]
theorem mergeB_iff (a b : List Pnt) : mergeB a b = true ↔ POk a ∧ POk b ∧ (mrg a b).length ≤ 60 := by simp [mergeB]
theorem mergeR_of {a b : List Pnt} (h : mergeB a b = true) : mergeR a b = mrg a b := if_pos ((mergeB_iff a b).1 h)
theorem merge_assoc {a b c : List Pnt} (h1 : mergeB a b = true) (h2 : mergeB (mergeR a b) c = true) (h3 : mergeB b c = true) (h4 : mergeB a (mergeR b c) = true) : mergeR (mergeR a b) c = mergeR a (mergeR b c) := by
  have k1 := (mergeB_iff _ _).1 h1
  have k3 := (mergeB_iff _ _).1 h3
  rw [mergeR_of h2, mergeR_of h4, mergeR_of h1, mergeR_of h3]
  exact mrg_assoc ((POk_iff a).1 k1.1).2.1 ((POk_iff b).1 k1.2.1).2.1 ((POk_iff c).1 k3.2.1).2.1
/-- How many of the first k of a have a time that b has not. -/
def cnt (a b : List Pnt) (k : Nat) : Nat := ((a.take k).filter (noT b)).length
theorem cnt_succ (a b : List Pnt) (k : Nat) (h : k < a.length) : cnt a b (k + 1) = cnt a b k + (if noT b (a.getD k default) then 1 else 0) := by
  unfold cnt
  rw [filter_snoc a (noT b) k h]
  split <;> simp
theorem cnt_le (a b : List Pnt) (k : Nat) : cnt a b k ≤ k := by
  unfold cnt
  have h1 := List.length_filter_le (noT b) (a.take k)
  rw [List.length_take] at h1
  omega
end Go.Proofs.Ytlekgbfopionfaa
