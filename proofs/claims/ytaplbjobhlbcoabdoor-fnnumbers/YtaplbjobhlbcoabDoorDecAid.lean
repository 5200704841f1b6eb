/-
  Plain lemmas on decimal texts (no program in sight, no condition).
-/
import Derived.Test.YtaplbjobhlbcoabDoorAid
namespace Go.Proofs.YtaplbjobhlbcoabDoor
open Go.RowKit Go.PlainAid

/-- The digits of n, with fuel (n below ten to the power fuel); none of 0. -/
def dF : Nat → Nat → List UInt8
  | 0, _ => []
  | f + 1, n => if n = 0 then [] else dF f (n / 10) ++ [byt (48 + n % 10)]
theorem dF_zero (f : Nat) : dF f 0 = [] := by cases f <;> simp [dF]
theorem dF_length (f n : Nat) : (dF f n).length ≤ f := by
  induction f generalizing n with
  | zero => simp [dF]
  | succ f ih =>
    rw [dF]
    split
    · simp
    · have := ih (n / 10)
      simp
      omega
theorem dF_round (f m : Nat) (out : List UInt8) (hm : m < 10 ^ f) (h : m ≠ 0) :
    ∃ g, m / 10 < 10 ^ g ∧ dF g (m / 10) ++ (byt (48 + m % 10) :: out) = dF f m ++ out ∧ g + 1 = f := by
  cases f with
  | zero => simp at hm; omega
  | succ g =>
    refine ⟨g, ?_, ?_, rfl⟩
    · rw [Nat.pow_succ] at hm
      exact Nat.div_lt_of_lt_mul (by rw [Nat.mul_comm]; exact hm)
    · rw [dF, if_neg h]
      simp
/-- Decimal text of a natural number, of an int. -/
def decN (n : Nat) : List UInt8 := if n = 0 then [48] else dF 20 n
def decI (v : Int) : List UInt8 := if v < 0 then 45 :: dF 20 v.natAbs else decN v.toNat

/-- The number of k digits from place o on. -/
def valO (s : ByteArray) (o : Nat) : Nat → Nat
  | 0 => 0
  | k + 1 => 10 * valO s o k + (bn s (o + k) - 48)
theorem valO_lt (s : ByteArray) (o k : Nat) (h : ∀ j, j < k → bn s (o + j) ≤ 57) : valO s o k < 10 ^ k := by
  induction k with
  | zero => simp [valO]
  | succ k ih =>
    have h1 := ih (fun j hj => h j (by omega))
    have h2 := h k (by omega)
    rw [valO, Nat.pow_succ]
    omega
theorem valO_congr (s t : ByteArray) (o p k : Nat) (h : ∀ j, j < k → bn s (o + j) = bn t (p + j)) : valO s o k = valO t p k := by
  induction k with
  | zero => rfl
  | succ k ih => rw [valO, valO, ih (fun j hj => h j (by omega)), h k (by omega)]
theorem sg_snoc (s : ByteArray) (d : Nat) : ∀ i, sg s i (d + 1) = sg s i d ++ [byt (bn s (i + d))] := by
  induction d with
  | zero => intro i; simp [sg]
  | succ d ih =>
    intro i
    rw [sg, ih (i + 1), sg, show i + 1 + d = i + (d + 1) by omega]
    simp
/-- k digits from place o on, no needless nought ahead. -/
def GoodO (s : ByteArray) (o k : Nat) : Prop := 1 ≤ k ∧ k ≤ 9 ∧ (∀ j, j < k → 48 ≤ bn s (o + j) ∧ bn s (o + j) ≤ 57) ∧ (k = 1 ∨ bn s o ≠ 48)
theorem valO_pos (s : ByteArray) (o k : Nat) (hk : 1 ≤ k) (hd : 48 ≤ bn s o) (h : bn s o ≠ 48) : 0 < valO s o k := by
  induction k with
  | zero => omega
  | succ k ih =>
    rw [valO]
    by_cases e : k = 0
    · subst e; simp; omega
    · have := ih (by omega); omega
/-- Digits without a needless nought are what their number is written as. -/
theorem dF_val (s : ByteArray) (o k : Nat) (hd : ∀ j, j < k → 48 ≤ bn s (o + j) ∧ bn s (o + j) ≤ 57) (h0 : bn s o ≠ 48) (f : Nat) (hf : k ≤ f) : dF f (valO s o k) = sg s o k := by
  induction k generalizing f with
  | zero => simp [valO, sg, dF_zero]
  | succ k ih =>
    obtain ⟨g, rfl⟩ : ∃ g, f = g + 1 := ⟨f - 1, by omega⟩
    have hp := valO_pos s o (k + 1) (by omega) (by have := hd 0 (by omega); simpa using this.1) h0
    have hdk := hd k (by omega)
    rw [dF, if_neg (by omega), sg_snoc, valO]
    rw [show (10 * valO s o k + (bn s (o + k) - 48)) / 10 = valO s o k by omega, show 48 + (10 * valO s o k + (bn s (o + k) - 48)) % 10 = bn s (o + k) by omega]
    rw [ih (fun j hj => hd j (by omega)) g (by omega)]
theorem decN_good (s : ByteArray) (o k : Nat) (h : GoodO s o k) : decN (valO s o k) = sg s o k := by
  obtain ⟨h1, h2, h3, h4⟩ := h
  by_cases e : bn s o = 48
  · have hk : k = 1 := by
      rcases h4 with h4 | h4
      · exact h4
      · exact absurd e h4
    subst hk
    simp [valO, decN, sg, e, byt]
  · have hp := valO_pos s o k h1 (by have := h3 0 (by omega); simpa using this.1) e
    rw [decN, if_neg (by omega), dF_val s o k h3 e 20 (by omega)]
theorem bn_txt (l : List UInt8) (j : Nat) (h : j < l.length) : bn (txt l) j = (l[j]).toNat := by
  have hg := get_bn (txt l) j (by rw [txt_size]; exact h)
  have e : ((txt l)[j]'(by rw [txt_size]; exact h)) = l[j] := by simp [txt]; rfl
  rw [e] at hg
  omega
theorem bn_txt_append (l m : List UInt8) (j : Nat) (h : j < l.length) : bn (txt (l ++ m)) j = bn (txt l) j := by
  rw [bn_txt _ _ (by simp; omega), bn_txt _ _ h, List.getElem_append_left h]
theorem bn_txt_last (l : List UInt8) (b : UInt8) : bn (txt (l ++ [b])) l.length = b.toNat := by
  rw [bn_txt _ _ (by simp)]
  simp
/-- What dF writes: digits, without a nought ahead, and read as the number. -/
theorem dF_good (f n : Nat) (hn : n < 10 ^ f) :
    (∀ j, j < (dF f n).length → 48 ≤ bn (txt (dF f n)) j ∧ bn (txt (dF f n)) j ≤ 57) ∧ valO (txt (dF f n)) 0 (dF f n).length = n ∧ (n ≠ 0 → 1 ≤ (dF f n).length ∧ bn (txt (dF f n)) 0 ≠ 48) := by
  induction f generalizing n with
  | zero =>
    simp at hn
    subst hn
    simp [dF, valO]
  | succ f ih =>
    by_cases h0 : n = 0
    · subst h0
      rw [dF_zero]
      simp [valO]
    · have hd : n / 10 < 10 ^ f := by
        rw [Nat.pow_succ] at hn
        exact Nat.div_lt_of_lt_mul (by rw [Nat.mul_comm]; exact hn)
      obtain ⟨i1, i2, i3⟩ := ih (n / 10) hd
      have e : dF (f + 1) n = dF f (n / 10) ++ [byt (48 + n % 10)] := by rw [dF, if_neg h0]
      rw [e]
      generalize hL : dF f (n / 10) = L at *
      have hb : (byt (48 + n % 10)).toNat = 48 + n % 10 := by rw [byt_toNat]; omega
      have hlast : bn (txt (L ++ [byt (48 + n % 10)])) L.length = 48 + n % 10 := by rw [bn_txt_last, hb]
      refine ⟨?_, ?_, ?_⟩
      · intro j hj
        simp at hj
        by_cases hjl : j < L.length
        · rw [bn_txt_append _ _ _ hjl]; exact i1 j hjl
        · have : j = L.length := by omega
          subst this
          rw [hlast]
          omega
      · rw [List.length_append]
        show valO _ 0 (L.length + 1) = n
        rw [valO, valO_congr _ (txt L) 0 0 L.length (by intro j hj; rw [Nat.zero_add]; exact bn_txt_append _ _ _ hj), i2, Nat.zero_add, hlast]
        omega
      · intro _
        refine ⟨by simp, ?_⟩
        by_cases hz : n / 10 = 0
        · have hl : L = [] := by rw [← hL, hz, dF_zero]
          subst hl
          have := hlast
          simp at this
          simp only [List.nil_append]
          rw [this]
          omega
        · obtain ⟨k1, k2⟩ := i3 hz
          rw [bn_txt_append _ _ _ (by omega)]
          exact k2
end Go.Proofs.YtaplbjobhlbcoabDoor
