/-
  Rows are read from what they are shown as, whatever stands behind (no program in sight, no condition).
-/
import Derived.Test.YthgiekeiljflaaaDoorBtVar
import Derived.Test.YthgiekeiljflaaaDoorBtDef
namespace Go.Proofs.YthgiekeiljflaaaDoor
open Go.RowKit Go.PlainAid

theorem cat_split (f : Nat → List UInt8) (k n : Nat) (hk : k < n) : ∃ rest, cat f n = cat f k ++ (f k ++ rest) := by
  induction n with
  | zero => omega
  | succ n ih =>
    by_cases e : k = n
    · subst e
      exact ⟨[], by rw [cat_succ, List.append_nil]⟩
    · obtain ⟨rest, h⟩ := ih (by omega)
      exact ⟨rest ++ f n, by rw [cat_succ, h]; simp⟩
theorem extract_back (a b : List UInt8) : (txt (a ++ b)).extract a.length (txt (a ++ b)).size = txt b := by
  rw [txt_size]
  apply ByteArray.ext
  apply Array.toList_inj.1
  rw [Lib.extract_data]
  simp [txt]
theorem extract_front (a b : List UInt8) : (txt (a ++ b)).extract 0 a.length = txt a := by
  apply ByteArray.ext
  apply Array.toList_inj.1
  rw [Lib.extract_data]
  simp [txt]
theorem rd_cat (x : Nat → Nat) (n : Nat) (hx : ∀ i, i < n → x i ≤ 562949953421311) (tl : List UInt8) (k : Nat) (hk : k ≤ n) : Rd (txt (cat (fun i => vF 6 (x i)) n ++ tl)) k (rowOf (fun i => (x i : Int)) k) (cat (fun i => vF 6 (x i)) k).length := by
  induction k with
  | zero => exact ⟨rfl, rfl⟩
  | succ k ih =>
    obtain ⟨rest, h⟩ := cat_split (fun i => vF 6 (x i)) k n (by omega)
    have e : txt (cat (fun i => vF 6 (x i)) n ++ tl) = txt (cat (fun i => vF 6 (x i)) k ++ (vF 6 (x k) ++ (rest ++ tl))) := by rw [h]; simp
    have hf := find_var (x k) (rest ++ tl) (hx k (by omega))
    refine ⟨_, _, (vF 6 (x k)).length, ih (by omega), ?_, ?_, ?_⟩
    · rw [e, extract_back]
      exact hf.1
    · rw [e, extract_back, hf.2, rowOf_succ]
    · rw [cat_succ, List.length_append]
theorem rowOf_ext (f g : Nat → Int) (n : Nat) (h : ∀ i, i < n → f i = g i) : rowOf f n = rowOf g n := by
  apply nums_ext
  · rw [rowOf_length, rowOf_length]
  · intro j hj
    rw [rowOf_length] at hj
    rw [rowOf_get _ _ _ hj, rowOf_get _ _ _ hj, h j hj]
theorem gp_turn (l : List Int) (h : TOk l) (i : Nat) (h1 : 1 ≤ i) (hi : i < l.length) : gp (rowOf (turn l) l.length) i = dif l i := by
  induction i with
  | zero => omega
  | succ i ih =>
    by_cases h0 : i = 0
    · subst h0
      rw [gp, if_pos rfl, rowOf_get _ _ _ hi]
      have : gp (rowOf (turn l) l.length) 0 = 0 := rfl
      rw [this]
      unfold turn
      rw [if_pos (by omega)]
      omega
    · rw [gp, if_neg h0, ih (by omega) (by omega), rowOf_get _ _ _ hi]
      have d1 := h.dif (i + 1) hi
      have d2 := h.dif i (by omega)
      unfold turn
      rw [if_neg (by omega), Nat.add_sub_cancel, unz_zig _ (by omega) (by omega)]
      omega
theorem rt_turn (l : List Int) (h : TOk l) (i : Nat) (hi : i < l.length) : rt (rowOf (turn l) l.length) i = l.getD i 0 := by
  induction i with
  | zero =>
    rw [rt, rowOf_get _ _ _ hi]
    unfold turn dif prv
    simp
  | succ i ih =>
    rw [rt, ih (by omega), gp_turn l h (i + 1) (by omega) hi]
    unfold dif
    rw [prv_succ]
    omega
theorem rowT_turn (l : List Int) (h : TOk l) : rowT (rowOf (turn l) l.length) = l := by
  unfold rowT
  rw [rowOf_length]
  apply nums_ext
  · rw [rowOf_length]
  · intro j hj
    rw [rowOf_length] at hj
    rw [rowOf_get _ _ _ hj, rt_turn l h j hj]
theorem readT_back (l : List Int) (h : TOk l) (tl : List UInt8) : RdAns showT rowT (txt (cat (tPiece l) l.length ++ tl)) (l.length : Int) l (cat (tPiece l) l.length).length := by
  have hr := rd_cat (fun i => (turn l i).toNat) l.length (fun i hi => by have := h.turn i hi; omega) tl l.length (Nat.le_refl _)
  rw [rowOf_ext (fun i => (((turn l i).toNat : Nat) : Int)) (turn l) l.length (fun i hi => Int.toNat_of_nonneg (h.turn i hi).1)] at hr
  have hy := RdAns.yes (shw := showT) (row := rowT) h.1 h.2.1 hr (by rw [rowT_turn l h]; unfold showT; rw [if_pos h]; exact (extract_front _ _).symm)
  rw [rowT_turn l h] at hy
  exact hy
theorem rv_zig (l : List Int) (h : VOk l) (i : Nat) (hi : i < l.length) : rv (rowOf (fun i => zig (dif l i)) l.length) i = l.getD i 0 := by
  induction i with
  | zero =>
    have d := h.dif 0 hi
    rw [rv, rowOf_get _ _ _ hi, unz_zig _ (by omega) (by omega)]
    unfold dif prv
    simp
  | succ i ih =>
    have d := h.dif (i + 1) hi
    rw [rv, ih (by omega), rowOf_get _ _ _ hi, unz_zig _ (by omega) (by omega)]
    unfold dif
    rw [prv_succ]
    omega
theorem rowV_zig (l : List Int) (h : VOk l) : rowV (rowOf (fun i => zig (dif l i)) l.length) = l := by
  unfold rowV
  rw [rowOf_length]
  apply nums_ext
  · rw [rowOf_length]
  · intro j hj
    rw [rowOf_length] at hj
    rw [rowOf_get _ _ _ hj, rv_zig l h j hj]
theorem readV_back (l : List Int) (h : VOk l) (tl : List UInt8) : RdAns showV rowV (txt (cat (vPiece l) l.length ++ tl)) (l.length : Int) l (cat (vPiece l) l.length).length := by
  have hz : ∀ i, i < l.length → 0 ≤ zig (dif l i) := fun i hi => zig_pos _ (by have := h.dif i hi; omega) (by have := h.dif i hi; omega)
  have hr := rd_cat (fun i => (zig (dif l i)).toNat) l.length (fun i hi => by have := (zig_range (dif l i)).2; omega) tl l.length (Nat.le_refl _)
  rw [rowOf_ext (fun i => (((zig (dif l i)).toNat : Nat) : Int)) (fun i => zig (dif l i)) l.length (fun i hi => Int.toNat_of_nonneg (hz i hi))] at hr
  have hy := RdAns.yes (shw := showV) (row := rowV) h.1 h.2.1 hr (by rw [rowV_zig l h]; unfold showV; rw [if_pos h]; exact (extract_front _ _).symm)
  rw [rowV_zig l h] at hy
  exact hy
theorem showT_size (l : List Int) : (showT l).size ≤ 420 := by
  unfold showT
  split
  · rename_i h
    rw [txt_size]
    have := cat_length (tPiece l) (tPiece_length l) l.length
    have := h.2.1
    omega
  · rw [txt_size]; simp
theorem showV_size (l : List Int) : (showV l).size ≤ 420 := by
  unfold showV
  split
  · rename_i h
    rw [txt_size]
    have := cat_length (vPiece l) (vPiece_length l) l.length
    have := h.2.1
    omega
  · rw [txt_size]; simp
theorem cat_pos (f : Nat → List UInt8) (n : Nat) (h1 : 1 ≤ n) (h : 1 ≤ (f 0).length) : 1 ≤ (cat f n).length := by
  obtain ⟨rest, e⟩ := cat_split f 0 n (by omega)
  rw [e, cat_zero, List.nil_append, List.length_append]
  omega
end Go.Proofs.YthgiekeiljflaaaDoor
