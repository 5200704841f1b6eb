/-
  Stores into rows of structs of the call's own (no program in sight, no condition).
-/
import Derived.Test.YtjejcpieajeflaaWkRow
namespace Go.Proofs.Ytjejcpieajeflaa
open Go.RowKit Go.PlainAid

theorem flat_parts (sz : Nat) (rows : List (List Value)) (hs : ∀ r ∈ rows, r.length = sz) (k : Nat) (hk : k < rows.length) :
    ∃ F1 F2 : List Value, F1.length = k * sz ∧ rows.flatten = F1 ++ (rows[k] ++ F2) ∧ ∀ r, (rows.set k r).flatten = F1 ++ (r ++ F2) := by
  refine ⟨(rows.take k).flatten, (rows.drop (k + 1)).flatten, ?_, ?_, ?_⟩
  · rw [flat_length sz _ (fun r hr => hs r (List.mem_of_mem_take hr)), List.length_take, Nat.min_eq_left (by omega)]
  · conv => lhs; rw [← List.take_append_drop k rows, List.drop_eq_getElem_cons hk]
    rw [List.flatten_append, List.flatten_cons]
  · intro r
    rw [List.set_eq_take_append_cons_drop, if_pos hk, List.flatten_append, List.flatten_cons]
theorem set_len {rows : List (List Value)} {sz k : Nat} {r : List Value} (hs : ∀ r ∈ rows, r.length = sz) (hr : r.length = sz) : ∀ x ∈ rows.set k r, x.length = sz := by
  intro x hx
  rcases List.mem_or_eq_of_mem_set hx with h | rfl
  · exact hs x h
  · exact hr

section
variable {w : World} {base : Nat} {e : TypeId} {sz g cap : Nat} {rows : List (List Value)}
theorem Owns.cellX (h : Owns w base e sz (.slice (some ⟨g, 0, none⟩) rows.length cap) rows) (k f : Nat) (hk : k < rows.length) (hf : f < sz) : ∃ y, w.cell? ⟨g, k * sz + f, none⟩ = some y := by
  have hlt : k * sz + f < rows.length * sz := by
    have : (k + 1) * sz ≤ rows.length * sz := Nat.mul_le_mul_right sz hk
    rw [Nat.succ_mul] at this
    omega
  rw [World.ownsRow.cellAt h.2 (k * sz + f) hlt]
  exact ⟨_, List.getElem?_eq_getElem (by rw [h.2.1]; exact hlt)⟩
theorem Owns.free (h : Owns w base e sz (.slice (some ⟨g, 0, none⟩) rows.length cap) rows) (j : Nat) : w.frozen? ⟨g, j, none⟩ = false := World.ownsRow.frozenAt h.2 j

theorem Owns.put2 (h : Owns w base e 2 (.slice (some ⟨g, 0, none⟩) rows.length cap) rows) (k : Nat) (hk : k < rows.length) (a b : Value) :
    Owns ((w.setCell ⟨g, k * 2, none⟩ a).setCell ⟨g, k * 2 + 1, none⟩ b) base e 2 (.slice (some ⟨g, 0, none⟩) rows.length cap) (rows.set k [a, b]) := by
  have h1 := (World.ownsRow.stored h.2 (k * 2) a).1
  have h2 := (World.ownsRow.stored h1 (k * 2 + 1) b).1
  refine ⟨set_len h.1 rfl, ?_⟩
  rw [List.length_set]
  obtain ⟨F1, F2, l1, e1, e2⟩ := flat_parts 2 rows h.1 k hk
  have hr := h.1 rows[k] (List.getElem_mem hk)
  obtain ⟨x, y, hxy⟩ : ∃ x y, rows[k] = [x, y] := by
    match hh : rows[k], hr with
    | [x, y], _ => exact ⟨x, y, rfl⟩
  rw [e2]
  rw [e1, hxy] at h2
  have : ((F1 ++ ([x, y] ++ F2)).set (k * 2) a).set (k * 2 + 1) b = F1 ++ ([a, b] ++ F2) := by
    rw [← l1, List.set_append_right _ _ (by omega), List.set_append_right _ _ (by omega)]
    simp
  rw [this] at h2
  exact h2
theorem Owns.put3 (h : Owns w base e 3 (.slice (some ⟨g, 0, none⟩) rows.length cap) rows) (k : Nat) (hk : k < rows.length) (a b c : Value) :
    Owns (((w.setCell ⟨g, k * 3, none⟩ a).setCell ⟨g, k * 3 + 1, none⟩ b).setCell ⟨g, k * 3 + 2, none⟩ c) base e 3 (.slice (some ⟨g, 0, none⟩) rows.length cap) (rows.set k [a, b, c]) := by
  have h1 := (World.ownsRow.stored h.2 (k * 3) a).1
  have h2 := (World.ownsRow.stored h1 (k * 3 + 1) b).1
  have h3 := (World.ownsRow.stored h2 (k * 3 + 2) c).1
  refine ⟨set_len h.1 rfl, ?_⟩
  rw [List.length_set]
  obtain ⟨F1, F2, l1, e1, e2⟩ := flat_parts 3 rows h.1 k hk
  have hr := h.1 rows[k] (List.getElem_mem hk)
  obtain ⟨x, y, z, hxy⟩ : ∃ x y z, rows[k] = [x, y, z] := by
    match hh : rows[k], hr with
    | [x, y, z], _ => exact ⟨x, y, z, rfl⟩
  rw [e2]
  rw [e1, hxy] at h3
  have : (((F1 ++ ([x, y, z] ++ F2)).set (k * 3) a).set (k * 3 + 1) b).set (k * 3 + 2) c = F1 ++ ([a, b, c] ++ F2) := by
    rw [← l1, List.set_append_right _ _ (by omega), List.set_append_right _ _ (by omega), List.set_append_right _ _ (by omega)]
    simp
  rw [this] at h3
  exact h3
theorem Owns.put4 (h : Owns w base e 4 (.slice (some ⟨g, 0, none⟩) rows.length cap) rows) (k : Nat) (hk : k < rows.length) (a b c d : Value) :
    Owns ((((w.setCell ⟨g, k * 4, none⟩ a).setCell ⟨g, k * 4 + 1, none⟩ b).setCell ⟨g, k * 4 + 2, none⟩ c).setCell ⟨g, k * 4 + 3, none⟩ d) base e 4 (.slice (some ⟨g, 0, none⟩) rows.length cap) (rows.set k [a, b, c, d]) := by
  have h1 := (World.ownsRow.stored h.2 (k * 4) a).1
  have h2 := (World.ownsRow.stored h1 (k * 4 + 1) b).1
  have h3 := (World.ownsRow.stored h2 (k * 4 + 2) c).1
  have h4 := (World.ownsRow.stored h3 (k * 4 + 3) d).1
  refine ⟨set_len h.1 rfl, ?_⟩
  rw [List.length_set]
  obtain ⟨F1, F2, l1, e1, e2⟩ := flat_parts 4 rows h.1 k hk
  have hr := h.1 rows[k] (List.getElem_mem hk)
  obtain ⟨x, y, z, t, hxy⟩ : ∃ x y z t, rows[k] = [x, y, z, t] := by
    match hh : rows[k], hr with
    | [x, y, z, t], _ => exact ⟨x, y, z, t, rfl⟩
  rw [e2]
  rw [e1, hxy] at h4
  have : ((((F1 ++ ([x, y, z, t] ++ F2)).set (k * 4) a).set (k * 4 + 1) b).set (k * 4 + 2) c).set (k * 4 + 3) d = F1 ++ ([a, b, c, d] ++ F2) := by
    rw [← l1, List.set_append_right _ _ (by omega), List.set_append_right _ _ (by omega), List.set_append_right _ _ (by omega), List.set_append_right _ _ (by omega)]
    simp
  rw [this] at h4
  exact h4
end

theorem set_self {R : List (List Value)} (j : Nat) (hj : j < R.length) : R.set j R[j] = R := List.set_getElem_self hj
section
variable {w : World} {base : Nat} {e : TypeId} {sz g cap n j : Nat} {R : List (List Value)} {r : List Value}
theorem Owns.pokeAt (h : Owns w base e sz (.slice (some ⟨g, 0, none⟩) n cap) (R.set j r)) (hn : R.length = n) (hj : j < n) (f : Nat) (hf : f < sz) (x : Value) :
    Owns (w.setCell ⟨g, j * sz + f, none⟩ x) base e sz (.slice (some ⟨g, 0, none⟩) n cap) (R.set j (r.set f x)) := by
  subst hn
  have hl : (R.set j r).length = R.length := List.length_set
  have h2 := h.2
  rw [hl] at h2
  have h1 := (World.ownsRow.stored h2 (j * sz + f) x).1
  obtain ⟨F1, F2, l1, e1, e2⟩ := flat_parts sz (R.set j r) h.1 j (by rw [hl]; exact hj)
  have hrr : (R.set j r)[j]'(by rw [hl]; exact hj) = r := by simp
  have hr : r.length = sz := by rw [← hrr]; exact h.1 _ (List.getElem_mem _)
  have e3 := e2 (r.set f x)
  rw [List.set_set] at e3
  refine ⟨?_, ?_⟩
  · intro y hy
    obtain ⟨i, hi, rfl⟩ := List.getElem_of_mem hy
    have hi2 : i < R.length := by simpa using hi
    by_cases hij : i = j
    · subst hij
      rw [List.getElem_set_self, List.length_set]
      exact hr
    · have : (R.set j (r.set f x))[i]'hi = (R.set j r)[i]'(by rw [hl]; exact hi2) := by rw [List.getElem_set_ne (Ne.symm hij), List.getElem_set_ne (Ne.symm hij)]
      rw [this]
      exact h.1 _ (List.getElem_mem _)
  · rw [List.length_set, e3]
    rw [e1, hrr] at h1
    have : (F1 ++ (r ++ F2)).set (j * sz + f) x = F1 ++ (r.set f x ++ F2) := by
      rw [← l1, List.set_append_right _ _ (by omega), List.set_append_left _ _ (by omega)]
      simp
    rw [this] at h1
    exact h1
theorem Owns.cellAt2 (h : Owns w base e sz (.slice (some ⟨g, 0, none⟩) n cap) (R.set j r)) (hn : R.length = n) (hj : j < n) (f : Nat) (hf : f < sz) : ∃ y, w.cell? ⟨g, j * sz + f, none⟩ = some y := by
  subst hn
  have hl : (R.set j r).length = R.length := List.length_set
  have h2 := h
  rw [← hl] at h2
  exact h2.cellX j f (by rw [hl]; exact hj) hf
theorem Owns.free2 (h : Owns w base e sz (.slice (some ⟨g, 0, none⟩) n cap) (R.set j r)) (hn : R.length = n) (k : Nat) : w.frozen? ⟨g, k, none⟩ = false := by
  subst hn
  have hl : (R.set j r).length = R.length := List.length_set
  have h2 := h
  rw [← hl] at h2
  exact h2.free k
end
/-- The first j rows written anew. -/
def newR (f : Nat → List Value) (j : Nat) : List (List Value) := (List.range j).map f
theorem newR_length (f : Nat → List Value) (j : Nat) : (newR f j).length = j := by simp [newR]
def partR (f : Nat → List Value) (R : List (List Value)) (j : Nat) : List (List Value) := newR f j ++ R.drop j
theorem partR_zero (f : Nat → List Value) (R : List (List Value)) : partR f R 0 = R := by simp [partR, newR]
theorem partR_all (f : Nat → List Value) (R : List (List Value)) : partR f R R.length = newR f R.length := by simp [partR]
theorem partR_length (f : Nat → List Value) (R : List (List Value)) (j : Nat) (h : j ≤ R.length) : (partR f R j).length = R.length := by
  simp [partR, newR]
  omega
theorem partR_set (f : Nat → List Value) (R : List (List Value)) (j : Nat) (h : j < R.length) : (partR f R j).set j (f j) = partR f R (j + 1) := by
  unfold partR
  rw [List.set_append_right _ _ (by rw [newR_length]; omega), newR_length, Nat.sub_self, List.drop_eq_getElem_cons h, List.set_cons_zero]
  unfold newR
  rw [List.range_succ, List.map_append]
  simp
/-- One row more is right. -/
theorem fill_step (Z : List Value) (done : List (List Value)) (r : List Value) (n k : Nat) (hk : done.length = k) (hn : k < n) :
    (done ++ List.replicate (n - k) Z).set k r = (done ++ [r]) ++ List.replicate (n - (k + 1)) Z := by
  obtain ⟨m, rfl⟩ : ∃ m, n = k + 1 + m := ⟨n - (k + 1), by omega⟩
  rw [show k + 1 + m - k = m + 1 by omega, show k + 1 + m - (k + 1) = m by omega, List.set_append_right _ _ (by omega), hk, Nat.sub_self, List.replicate_succ, List.set_cons_zero]
  simp
end Go.Proofs.Ytjejcpieajeflaa
