/-
  The numbers with whose Vars a text goes on from a place, as plain data (no program in sight).
-/
import Derived.Test.YtaaefceknjhloaaRows
import Derived.Test.YtaaefceknjhloaaAid
import Derived.Test.YtaaefceknjhloaaNumR
namespace Go.Proofs.Ytaaefceknjhloaa
open Go.ChangeShapes Go.WideShapes Go.ChangeAt Go.RowKit Go.PlainAid
set_option linter.unusedVariables false

/-- What is left of a text from a place on. -/
def lf (s : ByteArray) (i : Nat) : ByteArray := s.extract i s.size
theorem lf_size (s : ByteArray) (i : Nat) : (lf s i).size = s.size - i := by rw [lf, ByteArray.size_extract]; omega
theorem lf_zero (s : ByteArray) : lf s 0 = s := ByteArray.extract_zero_size
theorem lf_lf (s : ByteArray) (i j : Nat) : (lf s i).extract j (lf s i).size = lf s (i + j) := by
  rw [lf_size]
  unfold lf
  rw [ByteArray.extract_extract]
  by_cases h : i ≤ s.size
  · congr 1 <;> omega
  · have e1 : (s.extract (i + j) (min (i + (s.size - i)) s.size)).size = 0 := by rw [ByteArray.size_extract]; omega
    have e2 : (s.extract (i + j) s.size).size = 0 := by rw [ByteArray.size_extract]; omega
    rw [ByteArray.size_eq_zero_iff] at e1 e2
    rw [e1, e2]
/-- From place a on the text goes on with the Vars of the k numbers l, up to place n. -/
def RdF (s : ByteArray) (a : Nat) : Nat → List Int → Nat → Prop
  | 0, l, n => l = [] ∧ n = a
  | k + 1, l, n => ∃ l' n' m, RdF s a k l' n' ∧ FindV (lf s n') m ∧ l = l' ++ [(vvS (lf s n') 0 m : Int)] ∧ n = n' + m
theorem RdF.one {s : ByteArray} {a : Nat} : ∀ {k : Nat} {l l' : List Int} {n n' : Nat}, RdF s a k l n → RdF s a k l' n' → l = l' ∧ n = n'
  | 0, _, _, _, _, h, h' => ⟨h.1.trans h'.1.symm, h.2.trans h'.2.symm⟩
  | k + 1, _, _, _, _, ⟨a, b, m, h1, h2, h3, h4⟩, ⟨a', b', m', h1', h2', h3', h4'⟩ => by
    obtain ⟨rfl, rfl⟩ := RdF.one h1 h1'
    have := h2.one h2'
    subst this
    exact ⟨h3.trans h3'.symm, h4.trans h4'.symm⟩
theorem RdF.before {s : ByteArray} {a : Nat} : ∀ {k : Nat} {l : List Int} {n : Nat}, RdF s a k l n → ∀ j, j < k → ∃ l' n' m, RdF s a j l' n' ∧ FindV (lf s n') m
  | 0, _, _, _, j, hj => by omega
  | k + 1, _, _, ⟨a, b, m, h1, h2, h3, h4⟩, j, hj => by
    by_cases e : j = k
    · subst e; exact ⟨a, b, m, h1, h2⟩
    · exact RdF.before h1 j (by omega)
theorem RdF.no {s : ByteArray} {a k j : Nat} {l : List Int} {n : Nat} (h1 : RdF s a j l n) (hj : j < k) (h2 : ∀ m, ¬ FindV (lf s n) m) : ∀ l' n', ¬ RdF s a k l' n' := by
  intro l' n' h
  obtain ⟨l2, n2, m, h3, h4⟩ := h.before j hj
  obtain ⟨rfl, rfl⟩ := h1.one h3
  exact h2 m h4
theorem RdF.length {s : ByteArray} {a : Nat} : ∀ {k : Nat} {l : List Int} {n : Nat}, RdF s a k l n → l.length = k
  | 0, _, _, h => by rw [h.1]; rfl
  | k + 1, _, _, ⟨a, b, m, h1, h2, h3, h4⟩ => by rw [h3, List.length_append, RdF.length h1]; rfl
theorem RdF.ge {s : ByteArray} {a : Nat} : ∀ {k : Nat} {l : List Int} {n : Nat}, RdF s a k l n → a + k ≤ n ∧ (1 ≤ k → n ≤ s.size)
  | 0, _, _, h => ⟨by rw [h.2]; omega, by omega⟩
  | k + 1, _, _, ⟨a, b, m, h1, h2, h3, h4⟩ => by
    have h5 := RdF.ge h1
    obtain ⟨h6, h7, h8, _⟩ := h2
    rw [lf_size] at h8
    exact ⟨by omega, by omega⟩
theorem RdF.le {s : ByteArray} {a : Nat} : ∀ {k : Nat} {l : List Int} {n : Nat}, RdF s a k l n → n ≤ a + 7 * k
  | 0, _, _, h => by rw [h.2]; omega
  | k + 1, _, _, ⟨a, b, m, h1, h2, h3, h4⟩ => by
    have h5 := RdF.le h1
    obtain ⟨h6, h7, h8, _⟩ := h2
    omega
theorem RdF.bound {s : ByteArray} {a : Nat} : ∀ {k : Nat} {l : List Int} {n : Nat}, RdF s a k l n → ∀ z ∈ l, 0 ≤ z ∧ z ≤ 562949953421311
  | 0, _, _, h, z, hz => by rw [h.1] at hz; cases hz
  | k + 1, _, _, ⟨a, b, m, h1, h2, h3, h4⟩, z, hz => by
    rw [h3] at hz
    rcases List.mem_append.1 hz with hz | hz
    · exact RdF.bound h1 z hz
    · simp at hz
      have := vvS_le (lf s b) m h2.2.1 0
      omega
theorem find_text {t : ByteArray} {m : Nat} (h : FindV t m) : txt (vF 6 (vvS t 0 m)) = t.extract 0 m := by
  obtain ⟨h1, h7, h8, h9⟩ := h
  obtain ⟨d, rfl⟩ : ∃ d, m = d + 1 := ⟨m - 1, by omega⟩
  rw [sg_extract t _ h8, (canonS_iff t d 0 6 (by omega)).2 h9]
/-- The Vars of these numbers, one behind the other. -/
def varsT : List Int → ByteArray
  | [] => ByteArray.empty
  | z :: l => txt (vF 6 z.toNat) ++ varsT l
theorem varsT_append (l m : List Int) : varsT (l ++ m) = varsT l ++ varsT m := by
  induction l with
  | nil => simp [varsT]
  | cons z l ih => simp [varsT, ih, ByteArray.append_assoc]
theorem RdF.text {s : ByteArray} {a : Nat} : ∀ {k : Nat} {l : List Int} {n : Nat}, RdF s a k l n → s.extract a n = varsT l
  | 0, _, _, h => by rw [h.1, h.2]; apply ByteArray.ext; simp [varsT]
  | k + 1, _, _, ⟨l, b, m, h1, h2, h3, h4⟩ => by
    have h5 := RdF.text h1
    have hge := RdF.ge h1
    have h8 := h2.2.2.1
    have h61 := h2.1
    rw [lf_size] at h8
    have e : s.extract a (b + m) = s.extract a b ++ s.extract b (b + m) := by
      rw [ByteArray.extract_append_extract]
      congr 1 <;> omega
    have e2 : (lf s b).extract 0 m = s.extract b (b + m) := by
      unfold lf
      rw [ByteArray.extract_extract]
      congr 1
      omega
    rw [h3, h4, e, h5, varsT_append, ← e2, ← find_text h2]
    simp [varsT]
theorem cut_in_two (s : ByteArray) (n : Nat) (h : n ≤ s.size) : s = s.extract 0 n ++ lf s n := by
  unfold lf
  rw [ByteArray.extract_append_extract]
  have e1 : min 0 n = 0 := by omega
  have e2 : max n s.size = s.size := by omega
  rw [e1, e2]
  exact ByteArray.extract_zero_size.symm
theorem varsT_size (l : List Int) : (varsT l).size ≤ 7 * l.length := by
  induction l with
  | nil => simp [varsT]
  | cons z l ih =>
    have := vF_length 6 z.toNat
    simp [varsT, txt_size]
    omega
end Go.Proofs.Ytaaefceknjhloaa
