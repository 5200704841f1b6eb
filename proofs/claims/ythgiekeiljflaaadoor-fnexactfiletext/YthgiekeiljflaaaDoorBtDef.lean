/-
  What ReadValues and ReadTimes answer, as plain data (no program in sight, no condition).
-/
import Derived.Test.YthgiekeiljflaaaDoorBtRd
import Derived.Test.YthgiekeiljflaaaDoorBtRow
namespace Go.Proofs.YthgiekeiljflaaaDoor
open Go.RowKit Go.PlainAid

/-- The value at place i, made of the numbers that are read. -/
def rv (v : List Int) : Nat → Int
  | 0 => unz (v.getD 0 0)
  | i + 1 => rv v i + unz (v.getD (i + 1) 0)
def rowV (v : List Int) : List Int := rowOf (rv v) v.length
/-- How much the time at place i is above the one ahead of it. -/
def gp (v : List Int) : Nat → Int
  | 0 => 0
  | i + 1 => gp v i + if i = 0 then v.getD 1 0 else unz (v.getD (i + 1) 0)
/-- The time at place i. -/
def rt (v : List Int) : Nat → Int
  | 0 => v.getD 0 0
  | i + 1 => rt v i + gp v (i + 1)
def rowT (v : List Int) : List Int := rowOf (rt v) v.length
theorem rv_bound (v : List Int) (i : Nat) : -140737488355328 * ((i : Int) + 1) ≤ rv v i ∧ rv v i ≤ 140737488355328 * ((i : Int) + 1) := by
  induction i with
  | zero => have := unz_range (v.getD 0 0); unfold rv; omega
  | succ i ih => have := unz_range (v.getD (i + 1) 0); unfold rv; omega
theorem gp_bound (v : List Int) (hv : ∀ j, 0 ≤ v.getD j 0 ∧ v.getD j 0 ≤ 562949953421311) (i : Nat) : -140737488355328 * (i : Int) ≤ gp v i ∧ gp v i ≤ 562949953421311 + 140737488355328 * (i : Int) := by
  induction i with
  | zero => unfold gp; omega
  | succ i ih =>
    have h1 := hv 1
    have h2 := unz_range (v.getD (i + 1) 0)
    by_cases h0 : i = 0
    · subst h0
      rw [gp, if_pos rfl]
      have : gp v 0 = 0 := rfl
      omega
    · rw [gp, if_neg h0]
      omega
theorem rt_bound (v : List Int) (hv : ∀ j, 0 ≤ v.getD j 0 ∧ v.getD j 0 ≤ 562949953421311) (i : Nat) (hi : i ≤ 60) : -9007199254740992 * ((i : Int) + 1) ≤ rt v i ∧ rt v i ≤ 9007199254740992 * ((i : Int) + 1) := by
  induction i with
  | zero => have := hv 0; unfold rt; omega
  | succ i ih =>
    have := gp_bound v hv (i + 1)
    have := ih (by omega)
    unfold rt
    omega
/-- The row of values, as the program makes it. -/
theorem rowV_made (v : List Int) : rowOf (auF 0 (rowOf (uzF 0 v) v.length)) v.length = rowV v := by
  have key : ∀ i, i < v.length → auF 0 (rowOf (uzF 0 v) v.length) i = rv v i := by
    intro i
    induction i with
    | zero =>
      intro h
      rw [auF, rowOf_get _ _ _ h]
      rfl
    | succ i ih =>
      intro h
      rw [auF_gt _ _ _ (by omega), Nat.add_sub_cancel, ih (by omega), rowOf_get _ _ _ h]
      rfl
  apply nums_ext
  · rw [rowOf_length, rowV, rowOf_length]
  · intro j hj
    rw [rowOf_length] at hj
    rw [rowOf_get _ _ _ hj, rowV, rowOf_get _ _ _ hj, key j hj]
theorem gaps_made (v : List Int) (hv : 1 ≤ v.length) (i : Nat) (hi : i < v.length) (h1 : 1 ≤ i) : auF 1 (rowOf (uzF (min 2 v.length) v) v.length) i = gp v i := by
  induction i with
  | zero => omega
  | succ i ih =>
    by_cases h0 : i = 0
    · subst h0
      rw [auF_le _ _ _ (by omega), rowOf_get _ _ _ hi]
      unfold uzF
      rw [if_neg (by omega)]
      simp [gp]
    · rw [auF_gt _ _ _ (by omega), Nat.add_sub_cancel, ih (by omega) (by omega), rowOf_get _ _ _ hi]
      conv => rhs; unfold gp
      rw [if_neg h0]
      unfold uzF
      rw [if_pos (by omega)]
theorem gaps_zero (v : List Int) (hv : 1 ≤ v.length) : auF 1 (rowOf (uzF (min 2 v.length) v) v.length) 0 = v.getD 0 0 := by
  rw [auF, rowOf_get _ _ _ (by omega)]
  unfold uzF
  rw [if_neg (by omega)]
theorem times_made (v : List Int) (hv : 1 ≤ v.length) (i : Nat) (hi : i < v.length) : auF 0 (rowOf (auF 1 (rowOf (uzF (min 2 v.length) v) v.length)) v.length) i = rt v i := by
  induction i with
  | zero =>
    rw [auF, rowOf_get _ _ _ hi, gaps_zero v hv]
    rfl
  | succ i ih =>
    rw [auF_gt _ _ _ (by omega), Nat.add_sub_cancel, ih (by omega), rowOf_get _ _ _ hi, gaps_made v hv _ hi (by omega)]
    rfl
/-- The row of times, as the program makes it. -/
theorem rowT_made (v : List Int) (hv : 1 ≤ v.length) : rowOf (auF 0 (rowOf (auF 1 (rowOf (uzF (min 2 v.length) v) v.length)) v.length)) v.length = rowT v := by
  apply nums_ext
  · rw [rowOf_length, rowT, rowOf_length]
  · intro j hj
    rw [rowOf_length] at hj
    rw [rowOf_get _ _ _ hj, rowT, rowOf_get _ _ _ hj, times_made v hv j hj]

/-- What is answered to a text and a count. -/
def RdAns (shw : List Int → ByteArray) (row : List Int → List Int) (s : ByteArray) (n : Int) (l : List Int) (k : Nat) : Prop :=
  (∃ (m : Nat) (v : List Int), n = (m : Int) ∧ 1 ≤ m ∧ m ≤ 60 ∧ Rd s m v k ∧ shw (row v) = s.extract 0 k ∧ l = row v) ∨
  ((∀ (m : Nat) (v : List Int) (u : Nat), n = (m : Int) → 1 ≤ m → m ≤ 60 → Rd s m v u → shw (row v) ≠ s.extract 0 u) ∧ l = [] ∧ k = 0)
theorem RdAns.one {shw : List Int → ByteArray} {row : List Int → List Int} {s : ByteArray} {n : Int} {l l' : List Int} {k k' : Nat} (h : RdAns shw row s n l k) (h' : RdAns shw row s n l' k') : l = l' ∧ k = k' := by
  rcases h with ⟨m, v, h1, h2, h3, h4, h5, h6⟩ | ⟨h1, h2, h3⟩ <;> rcases h' with ⟨m', v', h1', h2', h3', h4', h5', h6'⟩ | ⟨h1', h2', h3'⟩
  · obtain rfl : m = m' := by omega
    obtain ⟨rfl, rfl⟩ := h4.one h4'
    exact ⟨h6.trans h6'.symm, rfl⟩
  · exact absurd h5 (h1' m v k h1 h2 h3 h4)
  · exact absurd h5' (h1 m' v' k' h1' h2' h3' h4')
  · exact ⟨h2.trans h2'.symm, h3.trans h3'.symm⟩
theorem extract_ne (s : ByteArray) (u : Nat) (h1 : 1 ≤ u) (h2 : u ≤ s.size) : txt [] ≠ s.extract 0 u := by
  intro h
  have := congrArg ByteArray.size h
  rw [ByteArray.size_extract, txt_size] at this
  simp at this
  omega
theorem rowV_length (v : List Int) : (rowV v).length = v.length := by rw [rowV, rowOf_length]
theorem rowT_length (v : List Int) : (rowT v).length = v.length := by rw [rowT, rowOf_length]
theorem showV_out (v : List Int) (j : Nat) (hj : j < v.length) (h : rv v j < -1099511627776 ∨ 1099511627776 < rv v j) : showV (rowV v) = txt [] := by
  unfold showV
  rw [if_neg]
  intro ho
  have := ho.2.2 j (by rw [rowV_length]; exact hj)
  rw [rowV, rowOf_get _ _ _ hj] at this
  omega
theorem showT_out (v : List Int) (j : Nat) (hj : j < v.length) (h : rt v j < 0 ∨ 1099511627776 < rt v j) : showT (rowT v) = txt [] := by
  unfold showT
  rw [if_neg]
  intro ho
  have := (ho.2.2 j (by rw [rowT_length]; exact hj)).1
  rw [rowT, rowOf_get _ _ _ hj] at this
  omega
/-- Where less numbers are read, none is answered. -/
theorem RdAns.few {shw : List Int → ByteArray} {row : List Int → List Int} {s : ByteArray} {m : Nat} (h : RdNo s m) : RdAns shw row s (m : Int) [] 0 := by
  refine .inr ⟨fun m' v u e _ _ hr => ?_, rfl, rfl⟩
  obtain rfl : m = m' := by omega
  exact absurd h hr.no
theorem RdAns.none {shw : List Int → ByteArray} {row : List Int → List Int} {s : ByteArray} {n : Int} (h : n < 1 ∨ 60 < n) : RdAns shw row s n [] 0 :=
  .inr ⟨fun m' v u e _ _ hr => by omega, rfl, rfl⟩
theorem RdAns.other {shw : List Int → ByteArray} {row : List Int → List Int} {s : ByteArray} {m : Nat} {v : List Int} {u : Nat} (hr : Rd s m v u) (h : shw (row v) ≠ s.extract 0 u) : RdAns shw row s (m : Int) [] 0 := by
  refine .inr ⟨fun m' v' u' e _ _ hr' => ?_, rfl, rfl⟩
  obtain rfl : m = m' := by omega
  obtain ⟨rfl, rfl⟩ := hr.one hr'
  exact h
theorem RdAns.yes {shw : List Int → ByteArray} {row : List Int → List Int} {s : ByteArray} {m : Nat} {v : List Int} {u : Nat} (h1 : 1 ≤ m) (h2 : m ≤ 60) (hr : Rd s m v u) (h : shw (row v) = s.extract 0 u) : RdAns shw row s (m : Int) (row v) u :=
  .inl ⟨m, v, rfl, h1, h2, hr, h, rfl⟩
theorem RdAns.short {shw : List Int → ByteArray} {row : List Int → List Int} {s : ByteArray} {n : Int} {l : List Int} {k : Nat} (hrow : ∀ v, (row v).length = v.length) (h : RdAns shw row s n l k) : l.length ≤ 60 ∧ k ≤ s.size := by
  rcases h with ⟨m, v, h1, h2, h3, h4, h5, h6⟩ | ⟨_, rfl, rfl⟩
  · rw [h6, hrow, h4.length]
    exact ⟨h3, h4.le.2⟩
  · simp
theorem bytes_ne {a b : ByteArray} (h : a ≠ b) : (a.toList == b.toList) = false := by
  rw [beq_eq_false_iff_ne]
  intro e
  apply h
  rw [Lib.toList_data, Lib.toList_data] at e
  cases a
  cases b
  simp only at e
  congr 1
  exact Array.ext' e
theorem bytes_eq {a b : ByteArray} (h : a = b) : (a.toList == b.toList) = true := by rw [h]; simp
end Go.Proofs.YthgiekeiljflaaaDoor
