/-
  Plain lemmas on frames one behind the other, cut off anywhere: those that are whole are read (no program in sight, no condition).
-/
import Derived.Test.YteplojoondhkhaaDoorFrAid
namespace Go.Proofs.YteplojoondhkhaaDoor
open Go.RowKit Go.PlainAid

/-- The frames of bodies, one behind the other. -/
def cat : List ByteArray → ByteArray
  | [] => ByteArray.empty
  | b :: r => frameOf b ++ cat r
theorem cat_append (l m : List ByteArray) : cat (l ++ m) = cat l ++ cat m := by
  induction l with
  | nil => rw [List.nil_append, cat, ByteArray.empty_append]
  | cons b r ih => rw [List.cons_append, cat, cat, ih, ByteArray.append_assoc]
theorem cat_snoc (l : List ByteArray) (b : ByteArray) : cat (l ++ [b]) = cat l ++ frameOf b := by
  rw [cat_append, cat, cat, ByteArray.append_empty]
/-- Where the first j frames end. -/
def endAt (l : List ByteArray) (j : Nat) : Nat := (cat (l.take j)).size
theorem endAt_zero (l : List ByteArray) : endAt l 0 = 0 := by rw [endAt, List.take_zero]; rfl
theorem endAt_all (l : List ByteArray) : endAt l l.length = (cat l).size := by rw [endAt, List.take_length]
theorem take_succ_get (l : List ByteArray) (j : Nat) (h : j < l.length) : l.take (j + 1) = l.take j ++ [l[j]] := by
  rw [List.take_add_one, List.getElem?_eq_getElem h]
  rfl
theorem endAt_succ (l : List ByteArray) (j : Nat) (h : j < l.length) : endAt l (j + 1) = endAt l j + (8 + (l[j]).size) := by
  rw [endAt, take_succ_get l j h, cat_snoc, ByteArray.size_append, frameOf_size]
  rfl
theorem cat_split (l : List ByteArray) (j : Nat) (h : j < l.length) : cat l = cat (l.take j) ++ (frameOf l[j] ++ cat (l.drop (j + 1))) := by
  conv => lhs; rw [← List.take_append_drop j l, List.drop_eq_getElem_cons h, cat_append, cat]
theorem endAt_mono (l : List ByteArray) (i j : Nat) (h : i ≤ j) (hj : j ≤ l.length) : endAt l i ≤ endAt l j := by
  induction j with
  | zero => rw [Nat.le_zero.1 h]; exact Nat.le_refl _
  | succ j ih =>
    rcases Nat.lt_or_ge i (j + 1) with h' | h'
    · have := ih (by omega) (by omega)
      rw [endAt_succ l j (by omega)]
      omega
    · rw [Nat.le_antisymm h h']
      exact Nat.le_refl _
/-- What is behind the first j frames of a beginning. -/
theorem rest_cut (l : List ByteArray) (j k : Nat) (h : j < l.length) (hk : k ≤ (cat l).size) : rest ((cat l).extract 0 k) (endAt l j) = (frameOf l[j] ++ cat (l.drop (j + 1))).extract 0 (k - endAt l j) := by
  have hz : ((cat l).extract 0 k).size = k := by rw [ByteArray.size_extract]; omega
  rw [rest, hz, ByteArray.extract_extract, cat_split l j h, ByteArray.extract_append]
  have e : (cat (l.take j)).size = endAt l j := rfl
  rw [ByteArray.extract_eq_empty_iff.2 (by omega), ByteArray.empty_append, e]
  congr 1 <;> omega
theorem extract_full (a : ByteArray) (m : Nat) (h : a.size ≤ m) : a.extract 0 m = a := by
  apply ByteArray.ext
  apply Array.toList_inj.1
  rw [Lib.extract_data, List.drop_zero, List.take_of_length_le]
  have : a.data.toList.length = a.size := by rw [Lib.size_eq]
  omega
theorem rest_whole (l : List ByteArray) (j k : Nat) (h : j < l.length) (hk : k ≤ (cat l).size) (he : endAt l (j + 1) ≤ k) : ∃ t, rest ((cat l).extract 0 k) (endAt l j) = frameOf l[j] ++ t := by
  rw [endAt_succ l j h] at he
  refine ⟨(cat (l.drop (j + 1))).extract 0 (k - endAt l j - (frameOf l[j]).size), ?_⟩
  rw [rest_cut l j k h hk, ByteArray.extract_append]
  have e : (frameOf l[j]).extract 0 (k - endAt l j) = frameOf l[j] := by
    have hs := frameOf_size l[j]
    exact extract_full _ _ (by omega)
  rw [e]
  congr 2
  omega
theorem rest_part (l : List ByteArray) (j k : Nat) (h : j < l.length) (hk : k ≤ (cat l).size) (he : k < endAt l (j + 1)) : rest ((cat l).extract 0 k) (endAt l j) = (frameOf l[j]).extract 0 (k - endAt l j) := by
  rw [endAt_succ l j h] at he
  have hs := frameOf_size l[j]
  rw [rest_cut l j k h hk, ByteArray.extract_append]
  have e : (cat (l.drop (j + 1))).extract (0 - (frameOf l[j]).size) (k - endAt l j - (frameOf l[j]).size) = ByteArray.empty := ByteArray.extract_eq_empty_iff.2 (by omega)
  rw [e, ByteArray.append_empty]
/-- The first j frames of a beginning that has them. -/
theorem cut_runs (l : List ByteArray) (k : Nat) (hk : k ≤ (cat l).size) (hl : ∀ b ∈ l, 1 ≤ b.size ∧ b.size ≤ 2000) (j : Nat) (hj : j ≤ l.length) (he : endAt l j ≤ k) :
    Runs ((cat l).extract 0 k) j ∧ pos ((cat l).extract 0 k) j = endAt l j ∧ bods ((cat l).extract 0 k) j = l.take j := by
  induction j with
  | zero => exact ⟨Runs.zero _, (endAt_zero l).symm, rfl⟩
  | succ j ih =>
    have hlt : j < l.length := by omega
    have hm := endAt_mono l j (j + 1) (by omega) hj
    obtain ⟨h1, h2, h3⟩ := ih (by omega) (by omega)
    obtain ⟨t, ht⟩ := rest_whole l j k hlt hk he
    have hb := hl l[j] (List.getElem_mem hlt)
    refine ⟨h1.succ ?_, ?_, ?_⟩
    · rw [h2, ht]
      exact code_frameOf _ _ hb.1 hb.2
    · rw [pos_succ, h2, ht, rdv_frameOf _ _ hb.2, endAt_succ l j hlt]
    · rw [bods_succ, h3, h2, ht, bodyOf_frameOf _ _ hb.2, take_succ_get l j hlt]
theorem cut_last (l : List ByteArray) (k n : Nat) : ∃ J, J ≤ n ∧ endAt l J ≤ k ∧ (J = n ∨ k < endAt l (J + 1)) := by
  induction n with
  | zero => exact ⟨0, Nat.le_refl _, by rw [endAt_zero]; omega, .inl rfl⟩
  | succ n ih =>
    obtain ⟨J, h1, h2, h3⟩ := ih
    rcases h3 with rfl | h3
    · rcases Nat.lt_or_ge k (endAt l (J + 1)) with h | h
      · exact ⟨J, by omega, h2, .inr h⟩
      · exact ⟨J + 1, Nat.le_refl _, h, .inl rfl⟩
    · exact ⟨J, by omega, h2, .inr h3⟩
/-- Cut off anywhere, those that are whole are read. -/
theorem cut_ends (l : List ByteArray) (k K : Nat) (hk : k ≤ (cat l).size) (hl : ∀ b ∈ l, 1 ≤ b.size ∧ b.size ≤ 2000) (hK : Ends ((cat l).extract 0 k) K) :
    K ≤ l.length ∧ pos ((cat l).extract 0 k) K = endAt l K ∧ bods ((cat l).extract 0 k) K = l.take K ∧ endAt l K ≤ k ∧ (K = l.length ∨ k < endAt l (K + 1)) := by
  obtain ⟨J, h1, h2, h3⟩ := cut_last l k l.length
  obtain ⟨r1, r2, r3⟩ := cut_runs l k hk hl J h1 h2
  have hz : ((cat l).extract 0 k).size = k := by rw [ByteArray.size_extract]; omega
  have hE : Ends ((cat l).extract 0 k) J := by
    refine ⟨r1, ?_⟩
    rw [r2]
    rcases Nat.lt_or_ge J l.length with hlt | hge
    · rcases h3 with rfl | h3
      · omega
      · rw [rest_part l J k hlt hk h3]
        have hb := hl l[J] (List.getElem_mem hlt)
        refine code_cut _ _ hb.2 ?_
        rw [endAt_succ l J hlt] at h3
        omega
    · have e : J = l.length := by omega
      subst e
      rw [endAt_all] at h2 ⊢
      rw [code, if_pos (by rw [rest_size, hz]; omega)]
      omega
  obtain rfl := hK.one hE
  exact ⟨h1, r2, r3, h2, h3⟩
/-- The list of the ends. -/
def endsL (l : List ByteArray) : List Nat := (List.range (l.length + 1)).map (endAt l)
theorem endsL_length (l : List ByteArray) : (endsL l).length = l.length + 1 := by simp [endsL]
theorem endsL_get (l : List ByteArray) (j : Nat) (h : j < (endsL l).length) : (endsL l)[j] = endAt l j := by simp [endsL]
theorem endsL_nil : endsL [] = [0] := rfl
theorem endsL_snoc (l : List ByteArray) (b : ByteArray) : endsL (l ++ [b]) = endsL l ++ [(cat (l ++ [b])).size] := by
  unfold endsL
  rw [List.length_append, List.length_singleton, List.range_succ, List.map_append]
  congr 1
  · apply List.map_congr_left
    intro j hj
    have : j ≤ l.length := by have := List.mem_range.1 hj; omega
    rw [endAt, endAt, List.take_append_of_le_length this]
  · rw [List.map_singleton, endAt, List.take_of_length_le (by simp)]
theorem cat_size (l : List ByteArray) (hl : ∀ b ∈ l, b.size ≤ 41) : (cat l).size ≤ 49 * l.length := by
  induction l with
  | nil => exact Nat.zero_le _
  | cons b r ih =>
    have h1 := hl b (by simp)
    have h2 := ih (fun x hx => hl x (by simp [hx]))
    rw [cat, ByteArray.size_append, frameOf_size, List.length_cons]
    omega
end Go.Proofs.YteplojoondhkhaaDoor
