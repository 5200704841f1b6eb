/-
  Plain lemmas on what ReadDec accepts, as the specification says it and as the program says it (no program in sight).
-/
import Derived.Test.YtaplbjobhlbcoabDoorDecAid
namespace Go.Proofs.YtaplbjobhlbcoabDoor
open Go.RowKit Go.PlainAid

/-- The digits among the first k bytes: their number, and how many they are. -/
def sk (s : ByteArray) : Nat → Nat × Nat
  | 0 => (0, 0)
  | k + 1 => if 48 ≤ bn s k ∧ bn s k ≤ 57 then ((sk s k).1 * 10 + (bn s k - 48), (sk s k).2 + 1) else sk s k
theorem sk_digits (s : ByteArray) (k : Nat) (h : ∀ j, j < k → 48 ≤ bn s (0 + j) ∧ bn s (0 + j) ≤ 57) : sk s k = (valO s 0 k, k) := by
  induction k with
  | zero => rfl
  | succ k ih =>
    have hk := h k (by omega)
    rw [Nat.zero_add] at hk
    rw [sk, if_pos hk, ih (fun j hj => h j (by omega)), valO, Nat.zero_add, Nat.mul_comm]
theorem sk_minus (s : ByteArray) (k : Nat) (h0 : bn s 0 = 45) (h : ∀ j, j < k → 48 ≤ bn s (1 + j) ∧ bn s (1 + j) ≤ 57) : sk s (k + 1) = (valO s 1 k, k) := by
  induction k with
  | zero => rw [sk, if_neg (by omega)]; rfl
  | succ k ih =>
    have hk := h k (by omega)
    rw [Nat.add_comm 1 k] at hk
    rw [sk, if_pos hk, ih (fun j hj => h j (by omega)), valO, Nat.add_comm 1 k, Nat.mul_comm]
theorem sk_bd (s : ByteArray) (k : Nat) : (sk s k).1 < 10 ^ (sk s k).2 ∧ (sk s k).2 ≤ k := by
  induction k with
  | zero => simp [sk]
  | succ k ih =>
    rw [sk]
    split
    · simp only [Nat.pow_succ]
      omega
    · omega
theorem sk_le (s : ByteArray) (k : Nat) (h : k ≤ 11) : (sk s k).1 < 100000000000 := by
  have h1 := sk_bd s k
  have h2 : 10 ^ (sk s k).2 ≤ 10 ^ 11 := Nat.pow_le_pow_right (by omega) (by omega)
  omega
/-- The number with its sign. -/
def sgn (s : ByteArray) (n : Nat) : Int := if 1 ≤ s.size ∧ bn s 0 = 45 then -(n : Int) else (n : Int)
/-- What ReadDec accepts, and as which number. -/
def AccI (s : ByteArray) (v : Int) : Prop :=
  (GoodO s 0 s.size ∧ v = (valO s 0 s.size : Int)) ∨ (1 ≤ s.size ∧ bn s 0 = 45 ∧ GoodO s 1 (s.size - 1) ∧ valO s 1 (s.size - 1) ≠ 0 ∧ v = -(valO s 1 (s.size - 1) : Int))
theorem AccI.one {s : ByteArray} {v v' : Int} (h : AccI s v) (h' : AccI s v') : v = v' := by
  rcases h with ⟨a, rfl⟩ | ⟨a1, a2, a3, a4, rfl⟩ <;> rcases h' with ⟨b, rfl⟩ | ⟨b1, b2, b3, b4, rfl⟩
  · rfl
  · have := a.2.2.1 0 (by have := a.1; omega); simp at this; omega
  · have := b.2.2.1 0 (by have := b.1; omega); simp at this; omega
  · rfl
theorem sg_whole (s : ByteArray) : txt (sg s 0 s.size) = s := by
  rw [← sg_extract s s.size (Nat.le_refl _)]
  apply ByteArray.ext
  apply Array.toList_inj.1
  rw [Lib.extract_data]
  simp only [List.drop_zero, Nat.sub_zero]
  exact List.take_of_length_le (by rw [← Lib.size_eq]; exact Nat.le_refl _)
theorem acc_spec (s : ByteArray) (v : Int) (h : AccI s v) : s.size ≤ 10 ∧ (sk s s.size).2 ≤ 9 ∧ v = sgn s (sk s s.size).1 ∧ txt (decI v) = s := by
  rcases h with ⟨g, rfl⟩ | ⟨h1, h2, g, h4, rfl⟩
  · have g' := g
    obtain ⟨g1, g2, g3, g4⟩ := g
    have hs := sk_digits s s.size g3
    have h0 := g3 0 (by omega)
    rw [hs]
    refine ⟨by omega, g2, ?_, ?_⟩
    · unfold sgn
      rw [if_neg (by rintro ⟨_, h⟩; simp at h0; omega)]
    · unfold decI
      rw [if_neg (by omega), Int.toNat_natCast, decN_good s 0 s.size g', sg_whole]
  · have g' := g
    obtain ⟨g1, g2, g3, g4⟩ := g
    have e : s.size = s.size - 1 + 1 := by omega
    have hs : sk s s.size = (valO s 1 (s.size - 1), s.size - 1) := by
      have := sk_minus s (s.size - 1) h2 g3
      rwa [← e] at this
    rw [hs]
    refine ⟨by omega, g2, ?_, ?_⟩
    · unfold sgn
      rw [if_pos ⟨h1, h2⟩]
    · unfold decI
      rw [if_pos (by omega), Int.natAbs_neg, Int.natAbs_natCast]
      have hd := decN_good s 1 (s.size - 1) g'
      rw [decN, if_neg h4] at hd
      rw [hd]
      have : sg s 0 s.size = 45 :: sg s 1 (s.size - 1) := by
        rw [e, sg, h2]
        rfl
      rw [← this, sg_whole]
theorem pow9 (c : Nat) (h : c ≤ 9) : 10 ^ c ≤ 10 ^ 20 := Nat.pow_le_pow_right (by omega) (by omega)
theorem spec_acc (s : ByteArray) (hc : (sk s s.size).2 ≤ 9) (h : txt (decI (sgn s (sk s s.size).1)) = s) : AccI s (sgn s (sk s s.size).1) := by
  have hb := sk_bd s s.size
  have hp := pow9 _ hc
  generalize hn : (sk s s.size).1 = n at *
  have hn20 : n < 10 ^ 20 := by omega
  obtain ⟨d1, d2, d3⟩ := dF_good 20 n hn20
  by_cases hm : 1 ≤ s.size ∧ bn s 0 = 45
  · have es : sgn s n = -(n : Int) := by unfold sgn; rw [if_pos hm]
    rw [es] at h ⊢
    by_cases h0 : n = 0
    · subst h0
      have e : decI (-((0 : Nat) : Int)) = [48] := by decide
      rw [e] at h
      have := bn_txt [48] 0 (by simp)
      rw [h] at this
      simp at this
      omega
    · have e : decI (-(n : Int)) = 45 :: dF 20 n := by unfold decI; rw [if_pos (by omega), Int.natAbs_neg, Int.natAbs_natCast]
      rw [e] at h
      obtain ⟨d4, d5⟩ := d3 h0
      generalize hL : dF 20 n = L at *
      have hsz : s.size = L.length + 1 := by rw [← h, txt_size]; simp
      have hbn : ∀ j, j < L.length → bn s (1 + j) = bn (txt L) (0 + j) := by
        intro j hj
        rw [← h, Nat.zero_add, bn_txt _ _ (by simp; omega), bn_txt _ _ hj]
        have e1 : 1 + j = j + 1 := by omega
        simp [e1]
      have hdig : ∀ j, j < L.length → 48 ≤ bn s (1 + j) ∧ bn s (1 + j) ≤ 57 := by
        intro j hj
        rw [hbn j hj, Nat.zero_add]
        exact d1 j hj
      have hs := sk_minus s L.length hm.2 hdig
      rw [← hsz] at hs
      have hv : valO s 1 L.length = n := by rw [valO_congr s (txt L) 1 0 L.length hbn, d2]
      have hc' : L.length ≤ 9 := by rw [hs] at hc; exact hc
      have e2 : s.size - 1 = L.length := by omega
      refine .inr ⟨hm.1, hm.2, ?_, ?_, ?_⟩
      · rw [e2]
        refine ⟨d4, hc', hdig, .inr ?_⟩
        have := hbn 0 (by omega)
        simp at this
        rw [this]
        exact d5
      · rw [e2, hv]; exact h0
      · rw [e2, hv]
  · have es : sgn s n = (n : Int) := by unfold sgn; rw [if_neg hm]
    rw [es] at h ⊢
    have e : decI (n : Int) = decN n := by unfold decI; rw [if_neg (by omega), Int.toNat_natCast]
    rw [e] at h
    by_cases h0 : n = 0
    · subst h0
      have e : decN 0 = [48] := rfl
      rw [e] at h
      have hb0 := bn_txt [48] 0 (by simp)
      rw [h] at hb0
      simp at hb0
      have hsz : s.size = 1 := by rw [← h]; rfl
      refine .inl ⟨⟨by omega, by omega, ?_, .inl hsz⟩, ?_⟩
      · intro j hj
        have : j = 0 := by omega
        subst this
        simp
        omega
      · rw [hsz]
        simp [valO, hb0]
    · rw [decN, if_neg h0] at h
      obtain ⟨d4, d5⟩ := d3 h0
      generalize hL : dF 20 n = L at *
      have hsz : s.size = L.length := by rw [← h, txt_size]
      rw [h] at d1 d2 d5
      have hdig : ∀ j, j < L.length → 48 ≤ bn s (0 + j) ∧ bn s (0 + j) ≤ 57 := by
        intro j hj
        rw [Nat.zero_add]
        exact d1 j hj
      have hs := sk_digits s L.length hdig
      rw [← hsz] at hs
      have hc' : s.size ≤ 9 := by rw [hs] at hc; exact hc
      refine .inl ⟨⟨by omega, hc', by rw [hsz]; exact hdig, .inr d5⟩, ?_⟩
      rw [hsz, d2]
end Go.Proofs.YtaplbjobhlbcoabDoor
