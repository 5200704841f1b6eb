/-
  Points that come evenly, and how long their block is (no program in sight, no condition).
-/
import Derived.Test.YtlknemfnacnleaaDoorBkMath
namespace Go.Proofs.YtlknemfnacnleaaDoor
open Go.RowKit Go.PlainAid

/-- n points that come evenly. -/
def evenP (step : Int) (n : Nat) : List Pnt := (List.range n).map fun (i : Nat) => ⟨1000 + (i : Int) * step, 5 + (i : Int)⟩
theorem evenP_length (step : Int) (n : Nat) : (evenP step n).length = n := by simp [evenP]
theorem evenP_snoc (step : Int) (n : Nat) : evenP step (n + 1) = evenP step n ++ [⟨1000 + (n : Int) * step, 5 + (n : Int)⟩] := by simp [evenP, List.range_succ]
theorem evenP_t (step : Int) (n j : Nat) (h : j < n) : tAt (evenP step n) j = 1000 + (j : Int) * step := by simp [tAt, evenP, List.getD, h]
theorem evenP_v (step : Int) (n j : Nat) (h : j < n) : vAt (evenP step n) j = 5 + (j : Int) := by simp [vAt, evenP, List.getD, h]
theorem mul_step (step : Int) (j : Nat) (h1 : 1 ≤ step) (h2 : step ≤ 256) (hj : j ≤ 60) : 0 ≤ (j : Int) * step ∧ (j : Int) * step ≤ 15360 := by
  refine ⟨Int.mul_nonneg (by omega) (by omega), ?_⟩
  have h3 : (j : Int) * step ≤ (j : Int) * 256 := Int.mul_le_mul_of_nonneg_left h2 (by omega)
  omega
theorem succ_step (step : Int) (j : Nat) : ((j + 1 : Nat) : Int) * step = (j : Int) * step + step := by
  rw [Int.natCast_add, Int.add_mul]
  simp
theorem evenP_ok (step : Int) (n : Nat) (h1 : 1 ≤ step) (h2 : step ≤ 256) (hn : n ≤ 60) : POk (evenP step n) := by
  refine ⟨by rw [evenP_length]; exact hn, fun j hj => ?_⟩
  rw [evenP_length] at hj
  rw [evenP_t step n j hj, evenP_v step n j hj]
  have hm := mul_step step j h1 h2 (by omega)
  refine ⟨by omega, fun h0 => ?_⟩
  rw [evenP_t step n (j - 1) (by omega)]
  obtain ⟨i, rfl⟩ : ∃ i, j = i + 1 := ⟨j - 1, by omega⟩
  rw [Nat.add_sub_cancel, succ_step]
  omega
theorem vF_two (n : Nat) (h : n < 16384) : (vF 6 n).length ≤ 2 := by
  by_cases h1 : n < 128
  · rw [vF_small 6 n h1]; simp
  · rw [vF, if_neg h1, List.length_cons, vF_small 5 (n / 128) (by omega)]
    simp
theorem vF_one (n : Nat) (h : n < 128) : (vF 6 n).length = 1 := by rw [vF_small 6 n h]; rfl
theorem even_dif (step : Int) (n j : Nat) (hj : j < n) : dif (ts (evenP step n)) j = if j = 0 then 1000 else step := by
  unfold dif
  rw [ts_get _ j (by rw [evenP_length]; exact hj), evenP_t step n j hj]
  by_cases h0 : j = 0
  · subst h0
    rw [if_pos rfl]
    simp [prv]
  · obtain ⟨i, rfl⟩ : ∃ i, j = i + 1 := ⟨j - 1, by omega⟩
    rw [if_neg h0, prv_succ, ts_get _ i (by rw [evenP_length]; omega), evenP_t step n i (by omega), succ_step]
    omega
theorem even_vdif (step : Int) (n j : Nat) (hj : j < n) : dif (vs (evenP step n)) j = if j = 0 then 5 else 1 := by
  unfold dif
  rw [vs_get _ j (by rw [evenP_length]; exact hj), evenP_v step n j hj]
  by_cases h0 : j = 0
  · subst h0
    rw [if_pos rfl]
    simp [prv]
  · obtain ⟨i, rfl⟩ : ∃ i, j = i + 1 := ⟨j - 1, by omega⟩
    rw [if_neg h0, prv_succ, vs_get _ i (by rw [evenP_length]; omega), evenP_v step n i (by omega)]
    omega
theorem even_times (step : Int) (n : Nat) (h1 : 1 ≤ step) (h2 : step ≤ 256) : ∀ k, k ≤ n → (cat (tPiece (ts (evenP step n))) k).length ≤ k + min k 2
  | 0, _ => by simp [cat_zero]
  | k + 1, hk => by
    have ih := even_times step n h1 h2 k (by omega)
    rw [cat_succ, List.length_append]
    by_cases hk1 : k ≤ 1
    · have hp : (tPiece (ts (evenP step n)) k).length ≤ 2 := by
        unfold tPiece turn
        rw [if_pos hk1, even_dif step n k (by omega)]
        refine vF_two _ ?_
        split <;> omega
      omega
    · have hp : (tPiece (ts (evenP step n)) k).length = 1 := by
        unfold tPiece turn
        rw [if_neg hk1, even_dif step n k (by omega), even_dif step n (k - 1) (by omega), if_neg (by omega), if_neg (by omega), Int.sub_self]
        exact vF_one _ (by decide)
      omega
theorem even_values (step : Int) (n : Nat) : ∀ k, k ≤ n → (cat (vPiece (vs (evenP step n))) k).length ≤ k
  | 0, _ => by simp [cat_zero]
  | k + 1, hk => by
    have ih := even_values step n k (by omega)
    rw [cat_succ, List.length_append]
    have hp : (vPiece (vs (evenP step n)) k).length = 1 := by
      unfold vPiece
      rw [even_vdif step n k (by omega)]
      refine vF_one _ ?_
      split <;> decide
    omega
theorem even_show (step : Int) (n : Nat) (h1 : 1 ≤ step) (h2 : step ≤ 256) (hn1 : 1 ≤ n) (hn : n ≤ 60) : showB (evenP step n) = frameOf (txt (bodyB (evenP step n))) ∧ (bodyB (evenP step n)).length ≤ 2 * n + 3 ∧ 1 ≤ (bodyB (evenP step n)).length := by
  have hok := evenP_ok step n h1 h2 hn
  have hg : Good (showB (evenP step n)) (evenP step n) := ⟨by rw [evenP_length]; exact hn1, hok, rfl⟩
  refine ⟨hg.frame, ?_, (bodyB_size hok).1⟩
  have ht := even_times step n h1 h2 n (Nat.le_refl _)
  have hv := even_values step n n (Nat.le_refl _)
  have hf := vF_one n (by omega)
  unfold bodyB
  rw [evenP_length]
  simp only [List.length_append]
  omega
/-- A block that is cut off is none. -/
theorem even_cut (b : List UInt8) (hb : b.length ≤ 2000) (k : Nat) (hk : k < 8 + b.length) : ∀ m, ¬ Good ((frameOf (txt b)).extract 0 k) m := fun m hm => by
  have h1 := hm.read.1
  exact code_cut (txt b) k (by rw [txt_size]; exact hb) (by rw [txt_size]; exact hk) h1
theorem empty_not_good (m : List Pnt) : ¬ Good (txt []) m := fun h => by
  have h1 := h.frame
  have h2 := congrArg ByteArray.size h1
  rw [frameOf_size, txt_size] at h2
  simp at h2
  omega
theorem frame_size (b : ByteArray) : (frame b).size ≤ 8 + b.size := by
  unfold frame
  split
  · rw [txt_size]; simp
  · rw [frameOf_size]; exact Nat.le_refl _
end Go.Proofs.YtlknemfnacnleaaDoor
