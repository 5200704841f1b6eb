/-
  Slices of structs as rows of cells: what they hold, read from wherever they lie, and those of the call's own (no program in sight, no condition).
-/
import Derived.Test.YthgiekeiljflaaaDoorAid
import Derived.WalkKit
import Derived.ProofKit
import Derived.Laws.OwnMore
import Derived.Below
import Derived.OwnWalk
import Derived.WalkSmall
import Derived.Deep.RegionHeld3
import Derived.Test.YthgiekeiljflaaaDoorRows
import Derived.OpenShut
import Derived.WalkLawsBesides
import Derived.Outline
import Derived.BigQuiet
import Derived.Deep.QuietTactic
import Derived.Deep.RegionWith
import Derived.Deep.Slices
import Derived.ChangeArms
namespace Go.Proofs.YthgiekeiljflaaaDoor
open Go.RowKit Go.PlainAid

/-- A point. -/
structure Pnt where
  t : Int
  v : Int
instance : Inhabited Pnt := ⟨⟨0, 0⟩⟩
theorem Pnt.same {x y : Pnt} (h1 : x.t = y.t) (h2 : x.v = y.v) : x = y := by
  cases x
  cases y
  simp only at h1 h2
  subst h1
  subst h2
  rfl

/-- The slice v holds rows of sz cells each, in a block below B. -/
def Lies (w : World) (B sz : Nat) (v : Value) (rows : List (List Value)) : Prop :=
  ∃ A cap, v = .slice A rows.length cap ∧ ((A = none → cap = 0) ∧ rows.length ≤ cap) ∧ (∀ r ∈ rows, r.length = sz) ∧ (rows.length = 0 ∨ ∃ g off, A = some ⟨g, off, none⟩ ∧ g < B ∧ ∀ k x, rows.flatten[k]? = some x → w.cell? ⟨g, off + k, none⟩ = some x)
theorem Lies.on {w w' : World} {B sz : Nat} {v : Value} {rows : List (List Value)} (h : Lies w B sz v rows) (hb : Below B w w') : Lies w' B sz v rows := by
  obtain ⟨A, cap, e, hz, hs, h⟩ := h
  refine ⟨A, cap, e, hz, hs, h.imp id ?_⟩
  rintro ⟨g, off, rfl, hg, hc⟩
  refine ⟨g, off, rfl, hg, fun k x hx => ?_⟩
  rw [← hc k x hx]
  exact World.cell?_of_block (w := w) (hb.block g hg)
theorem Lies.heap {w w' : World} {B sz : Nat} {v : Value} {rows : List (List Value)} (h : Lies w B sz v rows) (hh : w'.heap = w.heap) : Lies w' B sz v rows := by
  obtain ⟨A, cap, e, hz, hs, h⟩ := h
  refine ⟨A, cap, e, hz, hs, h.imp id ?_⟩
  rintro ⟨g, off, rfl, hg, hc⟩
  refine ⟨g, off, rfl, hg, fun k x hx => ?_⟩
  rw [← hc k x hx]
  exact World.cell?_of_block (w := w) (by rw [hh])
theorem Lies.mono {w : World} {B C sz : Nat} {v : Value} {rows : List (List Value)} (h : Lies w B sz v rows) (hB : B ≤ C) : Lies w C sz v rows := by
  obtain ⟨A, cap, e, hz, hs, h⟩ := h
  refine ⟨A, cap, e, hz, hs, h.imp id ?_⟩
  rintro ⟨g, off, rfl, hg, hc⟩
  exact ⟨g, off, rfl, by omega, hc⟩
theorem flat_at (sz : Nat) : ∀ (rows : List (List Value)), (∀ r ∈ rows, r.length = sz) → ∀ (j f : Nat) (hj : j < rows.length), f < sz → rows.flatten[j * sz + f]? = (rows[j])[f]?
  | [], _, j, f, hj, _ => by simp at hj
  | r :: rs, hs, 0, f, _, hf => by
    have := hs r (by simp)
    simp only [List.flatten_cons, Nat.zero_mul, Nat.zero_add, List.getElem_cons_zero]
    rw [List.getElem?_append_left (by omega)]
  | r :: rs, hs, j + 1, f, hj, hf => by
    have hr := hs r (by simp)
    have ih := flat_at sz rs (fun r hr => hs r (by simp [hr])) j f (by simp at hj; omega) hf
    simp only [List.flatten_cons, List.getElem_cons_succ]
    rw [List.getElem?_append_right (by rw [hr, Nat.succ_mul]; omega), ← ih, hr]
    congr 1
    rw [Nat.succ_mul]
    omega
theorem flat_length (sz : Nat) (rows : List (List Value)) (hs : ∀ r ∈ rows, r.length = sz) : rows.flatten.length = rows.length * sz := by
  induction rows with
  | nil => simp
  | cons r rs ih =>
    rw [List.flatten_cons, List.length_append, ih (fun r hr => hs r (by simp [hr])), hs r (by simp), List.length_cons, Nat.succ_mul]
    omega
theorem Lies.look {w : World} {B sz : Nat} {v : Value} {rows : List (List Value)} (h : Lies w B sz v rows) : ∃ A cap, v = .slice A rows.length cap ∧ ∀ j (hj : j < rows.length), ∃ g off, A = some ⟨g, off, none⟩ ∧ g < B ∧ ∀ f x, f < sz → (rows[j])[f]? = some x → w.cell? ⟨g, off + (j * sz + f), none⟩ = some x := by
  obtain ⟨A, cap, rfl, _, hs, h⟩ := h
  refine ⟨A, cap, rfl, fun j hj => ?_⟩
  rcases h with h | ⟨g, off, rfl, hg, hc⟩
  · omega
  · exact ⟨g, off, rfl, hg, fun f x hf hx => hc _ x (by rw [flat_at sz rows hs j f hj hf]; exact hx)⟩

theorem Lies.room {w : World} {B sz : Nat} {A : Option Addr} {n c : Nat} {rows : List (List Value)} (h : Lies w B sz (.slice A n c) rows) : n = rows.length ∧ n ≤ c := by
  obtain ⟨A', c', e, hz, _⟩ := h
  cases e
  exact ⟨rfl, hz.2⟩
/-- The first k of a slice. -/
theorem Lies.first {w : World} {B sz : Nat} {A : Option Addr} {n c : Nat} {rows : List (List Value)} (h : Lies w B sz (.slice A n c) rows) (k : Nat) (hk : k ≤ rows.length) : Lies w B sz (.slice A k c) (rows.take k) := by
  obtain ⟨A', c', e, hz, hs, h⟩ := h
  cases e
  have hl : (rows.take k).length = k := by rw [List.length_take]; omega
  refine ⟨A, c, by rw [hl], ⟨hz.1, by rw [hl]; exact Nat.le_trans hk hz.2⟩, fun r hr => hs r (List.mem_of_mem_take hr), ?_⟩
  rw [hl]
  rcases h with h | ⟨g, off, rfl, hg, hc⟩
  · exact .inl (by omega)
  · refine .inr ⟨g, off, rfl, hg, fun j x hx => hc j x ?_⟩
    rw [← List.take_append_drop k rows, List.flatten_append, List.getElem?_append_left ((List.getElem?_eq_some_iff.1 hx).1)]
    exact hx

/-- The slice v is the call's own (its block is base or behind it), of elements of type e, and holds rows of sz cells. -/
def Owns (w : World) (base : Nat) (e : TypeId) (sz : Nat) (v : Value) (rows : List (List Value)) : Prop := (∀ r ∈ rows, r.length = sz) ∧ w.ownsRow base e sz v rows.length rows.flatten
theorem Owns.lt {w : World} {base : Nat} {e : TypeId} {sz : Nat} {v : Value} {rows : List (List Value)} (h : Owns w base e sz v rows) : ∀ k, v.ownBlock = some k → base ≤ k ∧ k < w.heap.size := World.ownsRow.lt h.2
theorem Owns.lies {w : World} {base : Nat} {e : TypeId} {sz : Nat} {v : Value} {rows : List (List Value)} (h : Owns w base e sz v rows) : Lies w w.heap.size sz v rows := by
  have hlt := h.lt
  have hc := fun g hg => World.ownsRow.cells h.2 (g := g) hg
  rcases h.2.2 with ⟨rfl, h0⟩ | ⟨g, cap, cur, rfl, _, _, hcap, _⟩
  · exact ⟨none, 0, by rw [h0], ⟨fun _ => rfl, by omega⟩, h.1, .inl h0⟩
  · refine ⟨_, cap, rfl, ⟨fun e => (by cases e), hcap⟩, h.1, .inr ⟨g, 0, rfl, (hlt g rfl).2, fun k x hx => ?_⟩⟩
    have e : (⟨g, 0, none⟩ : Addr).add k = ⟨g, 0 + k, none⟩ := by cases k <;> simp [Addr.add]
    rw [← e]
    exact hc g rfl k x hx
theorem Owns.kept {w w' : World} {base : Nat} {e : TypeId} {sz : Nat} {v : Value} {rows : List (List Value)} (h : Owns w base e sz v rows) (hk : ∀ g, g < w.heap.size → v.ownBlock = some g → w'.heap[g]? = w.heap[g]?) : Owns w' base e sz v rows := by
  have hl := h.lt
  refine ⟨h.1, h.2.1, h.2.2.imp id ?_⟩
  rintro ⟨g, cap, cur, rfl, hg, hh, r⟩
  refine ⟨g, cap, cur, rfl, hg, ?_, r⟩
  rw [hk g (hl g rfl).2 rfl]
  exact hh
theorem Owns.on {w w' : World} {base : Nat} {e : TypeId} {sz : Nat} {v : Value} {rows : List (List Value)} (h : Owns w base e sz v rows) (hb : Below w.heap.size w w') : Owns w' base e sz v rows := h.kept fun g hg _ => hb.block g hg
theorem Owns.heap {w w' : World} {base : Nat} {e : TypeId} {sz : Nat} {v : Value} {rows : List (List Value)} (h : Owns w base e sz v rows) (hh : w'.heap = w.heap) : Owns w' base e sz v rows := h.kept fun g _ _ => by rw [hh]
theorem Owns.mono {w : World} {base base' : Nat} {e : TypeId} {sz : Nat} {v : Value} {rows : List (List Value)} (h : Owns w base e sz v rows) (hb : base' ≤ base) : Owns w base' e sz v rows :=
  ⟨h.1, h.2.1, h.2.2.imp id fun ⟨g, cap, cur, e, hg, r⟩ => ⟨g, cap, cur, e, Nat.le_trans hb hg, r⟩⟩

/-! ### Points -/
theorem getD_mem {α : Type} [Inhabited α] (l : List α) (j : Nat) (h : j < l.length) : l.getD j default ∈ l := by
  rw [List.getD_eq_getElem?_getD, List.getElem?_eq_getElem h]
  exact List.getElem_mem h
theorem getD_at {α : Type} [Inhabited α] (l : List α) (j : Nat) (h : j < l.length) : l[j] = l.getD j default := by
  rw [List.getD_eq_getElem?_getD, List.getElem?_eq_getElem h]
  rfl
theorem take_getD {α : Type} [Inhabited α] (l : List α) (j : Nat) (h : j < l.length) : l.take (j + 1) = l.take j ++ [l.getD j default] := by
  rw [List.take_add_one, List.getElem?_eq_getElem h, ← getD_at l j h]
  rfl
def ptC (x : Pnt) : List Value := [.int .i64 x.t, .int .i64 x.v]
def ptR (l : List Pnt) : List (List Value) := l.map ptC
theorem ptR_snoc (l : List Pnt) (k : Nat) (h : k < l.length) : ptR (l.take (k + 1)) = ptR (l.take k) ++ [ptC (l.getD k default)] := by
  unfold ptR
  rw [take_getD l k h, List.map_append]
  rfl
theorem ptR_length (l : List Pnt) : (ptR l).length = l.length := by simp [ptR]
theorem ptR_sz (l : List Pnt) : ∀ r ∈ ptR l, r.length = 2 := by
  intro r hr
  obtain ⟨x, _, rfl⟩ := List.mem_map.1 hr
  rfl
theorem ptR_append (l m : List Pnt) : ptR (l ++ m) = ptR l ++ ptR m := by simp [ptR]
theorem pt_look {w : World} {B : Nat} {v : Value} {l : List Pnt} (h : Lies w B 2 v (ptR l)) : ∃ A cap, v = .slice A l.length cap ∧ ∀ j, j < l.length → ∃ g off, A = some ⟨g, off, none⟩ ∧ g < B ∧
    w.cell? ⟨g, off + j * 2, none⟩ = some (.int .i64 (l.getD j default).t) ∧ w.cell? ⟨g, off + j * 2 + 1, none⟩ = some (.int .i64 (l.getD j default).v) := by
  obtain ⟨A, cap, e, h⟩ := h.look
  refine ⟨A, cap, by rw [e]; simp [ptR], fun j hj => ?_⟩
  rw [← getD_at l j hj]
  obtain ⟨g, off, e, hg, hc⟩ := h j (by simpa [ptR] using hj)
  refine ⟨g, off, e, hg, ?_, ?_⟩
  · have := hc 0 _ (by omega) (by simp [ptR, ptC]; rfl); simpa [Nat.add_assoc] using this
  · have := hc 1 _ (by omega) (by simp [ptR, ptC]; rfl); simpa [Nat.add_assoc] using this
/-- A slice behind its first k. -/
theorem Lies.behind {w : World} {B sz g off n c : Nat} {rows : List (List Value)} (h : Lies w B sz (.slice (some ⟨g, off, none⟩) n c) rows) (k : Nat) (hk : k ≤ rows.length) : Lies w B sz (.slice (some ⟨g, off + k * sz, none⟩) (n - k) (c - k)) (rows.drop k) := by
  obtain ⟨A', c', e, hz, hs, h⟩ := h
  cases e
  have hl : (rows.drop k).length = rows.length - k := List.length_drop
  refine ⟨_, c - k, by rw [hl], ⟨fun e => (by cases e), by rw [hl]; have := hz.2; omega⟩, fun r hr => hs r (List.mem_of_mem_drop hr), ?_⟩
  rw [hl]
  rcases h with h | ⟨g', off', e, hg, hc⟩
  · exact .inl (by omega)
  · cases e
    refine .inr ⟨g, off + k * sz, rfl, hg, fun j x hx => ?_⟩
    have hl2 : (rows.take k).flatten.length = k * sz := by rw [flat_length sz _ (fun r hr => hs r (List.mem_of_mem_take hr)), List.length_take, Nat.min_eq_left hk]
    have := hc (k * sz + j) x (by
      rw [← List.take_append_drop k rows, List.flatten_append, List.getElem?_append_right (by omega), hl2, Nat.add_sub_cancel_left]
      exact hx)
    rw [← Nat.add_assoc] at this
    exact this
/-- The value of one. -/
def vPt (x : Pnt) : Value := .agg #[.int .i64 x.t, .int .i64 x.v]
theorem pt_ext {l m : List Pnt} (h : l.length = m.length) (hj : ∀ j, j < l.length → l.getD j default = m.getD j default) : l = m := by
  apply List.ext_getElem h
  intro j h1 h2
  have := hj j h1
  rwa [← getD_at l j h1, ← getD_at m j h2] at this
end Go.Proofs.YthgiekeiljflaaaDoor

/-
  Stores into rows of structs of the call's own (no program in sight, no condition).
-/
namespace Go.Proofs.YthgiekeiljflaaaDoor
open Go.RowKit Go.PlainAid

theorem flat_parts (sz : Nat) (rows : List (List Value)) (hs : ∀ r ∈ rows, r.length = sz) (k : Nat) (hk : k < rows.length) :
    ∃ F1 F2 : List Value, F1.length = k * sz ∧ rows.flatten = F1 ++ (rows[k] ++ F2) ∧ ∀ r, (rows.set k r).flatten = F1 ++ (r ++ F2) := by
  refine ⟨(rows.take k).flatten, (rows.drop (k + 1)).flatten, ?_, ?_, ?_⟩
  · rw [flat_length sz _ (fun r hr => hs r (List.mem_of_mem_take hr)), List.length_take, Nat.min_eq_left (by omega)]
  · conv => lhs; rw [← List.take_append_drop k rows, List.drop_eq_getElem_cons hk]
    rw [List.flatten_append, List.flatten_cons]
  · intro r
    rw [List.set_eq_take_append_cons_drop, if_pos hk, List.flatten_append, List.flatten_cons]
theorem set_len {rows : List (List Value)} {sz k : Nat} {r : List Value} (hs : ∀ r ∈ rows, r.length = sz) (hr : r.length = sz) : ∀ x ∈ rows.set k r, x.length = sz := by
  intro x hx
  rcases List.mem_or_eq_of_mem_set hx with h | rfl
  · exact hs x h
  · exact hr

section
variable {w : World} {base : Nat} {e : TypeId} {sz g cap : Nat} {rows : List (List Value)}
theorem Owns.cellX (h : Owns w base e sz (.slice (some ⟨g, 0, none⟩) rows.length cap) rows) (k f : Nat) (hk : k < rows.length) (hf : f < sz) : ∃ y, w.cell? ⟨g, k * sz + f, none⟩ = some y := by
  have hlt : k * sz + f < rows.length * sz := by
    have : (k + 1) * sz ≤ rows.length * sz := Nat.mul_le_mul_right sz hk
    rw [Nat.succ_mul] at this
    omega
  rw [World.ownsRow.cellAt h.2 (k * sz + f) hlt]
  exact ⟨_, List.getElem?_eq_getElem (by rw [h.2.1]; exact hlt)⟩
theorem Owns.free (h : Owns w base e sz (.slice (some ⟨g, 0, none⟩) rows.length cap) rows) (j : Nat) : w.frozen? ⟨g, j, none⟩ = false := World.ownsRow.frozenAt h.2 j

theorem Owns.put2 (h : Owns w base e 2 (.slice (some ⟨g, 0, none⟩) rows.length cap) rows) (k : Nat) (hk : k < rows.length) (a b : Value) :
    Owns ((w.setCell ⟨g, k * 2, none⟩ a).setCell ⟨g, k * 2 + 1, none⟩ b) base e 2 (.slice (some ⟨g, 0, none⟩) rows.length cap) (rows.set k [a, b]) := by
  have h1 := (World.ownsRow.stored h.2 (k * 2) a).1
  have h2 := (World.ownsRow.stored h1 (k * 2 + 1) b).1
  refine ⟨set_len h.1 rfl, ?_⟩
  rw [List.length_set]
  obtain ⟨F1, F2, l1, e1, e2⟩ := flat_parts 2 rows h.1 k hk
  have hr := h.1 rows[k] (List.getElem_mem hk)
  obtain ⟨x, y, hxy⟩ : ∃ x y, rows[k] = [x, y] := by
    match hh : rows[k], hr with
    | [x, y], _ => exact ⟨x, y, rfl⟩
  rw [e2]
  rw [e1, hxy] at h2
  have : ((F1 ++ ([x, y] ++ F2)).set (k * 2) a).set (k * 2 + 1) b = F1 ++ ([a, b] ++ F2) := by
    rw [← l1, List.set_append_right _ _ (by omega), List.set_append_right _ _ (by omega)]
    simp
  rw [this] at h2
  exact h2
end

theorem set_self {R : List (List Value)} (j : Nat) (hj : j < R.length) : R.set j R[j] = R := List.set_getElem_self hj
section
variable {w : World} {base : Nat} {e : TypeId} {sz g cap n j : Nat} {R : List (List Value)} {r : List Value}
theorem Owns.pokeAt (h : Owns w base e sz (.slice (some ⟨g, 0, none⟩) n cap) (R.set j r)) (hn : R.length = n) (hj : j < n) (f : Nat) (hf : f < sz) (x : Value) :
    Owns (w.setCell ⟨g, j * sz + f, none⟩ x) base e sz (.slice (some ⟨g, 0, none⟩) n cap) (R.set j (r.set f x)) := by
  subst hn
  have hl : (R.set j r).length = R.length := List.length_set
  have h2 := h.2
  rw [hl] at h2
  have h1 := (World.ownsRow.stored h2 (j * sz + f) x).1
  obtain ⟨F1, F2, l1, e1, e2⟩ := flat_parts sz (R.set j r) h.1 j (by rw [hl]; exact hj)
  have hrr : (R.set j r)[j]'(by rw [hl]; exact hj) = r := by simp
  have hr : r.length = sz := by rw [← hrr]; exact h.1 _ (List.getElem_mem _)
  have e3 := e2 (r.set f x)
  rw [List.set_set] at e3
  refine ⟨?_, ?_⟩
  · intro y hy
    obtain ⟨i, hi, rfl⟩ := List.getElem_of_mem hy
    have hi2 : i < R.length := by simpa using hi
    by_cases hij : i = j
    · subst hij
      rw [List.getElem_set_self, List.length_set]
      exact hr
    · have : (R.set j (r.set f x))[i]'hi = (R.set j r)[i]'(by rw [hl]; exact hi2) := by rw [List.getElem_set_ne (Ne.symm hij), List.getElem_set_ne (Ne.symm hij)]
      rw [this]
      exact h.1 _ (List.getElem_mem _)
  · rw [List.length_set, e3]
    rw [e1, hrr] at h1
    have : (F1 ++ (r ++ F2)).set (j * sz + f) x = F1 ++ (r.set f x ++ F2) := by
      rw [← l1, List.set_append_right _ _ (by omega), List.set_append_left _ _ (by omega)]
      simp
    rw [this] at h1
    exact h1
theorem Owns.cellAt2 (h : Owns w base e sz (.slice (some ⟨g, 0, none⟩) n cap) (R.set j r)) (hn : R.length = n) (hj : j < n) (f : Nat) (hf : f < sz) : ∃ y, w.cell? ⟨g, j * sz + f, none⟩ = some y := by
  subst hn
  have hl : (R.set j r).length = R.length := List.length_set
  have h2 := h
  rw [← hl] at h2
  exact h2.cellX j f (by rw [hl]; exact hj) hf
theorem Owns.free2 (h : Owns w base e sz (.slice (some ⟨g, 0, none⟩) n cap) (R.set j r)) (hn : R.length = n) (k : Nat) : w.frozen? ⟨g, k, none⟩ = false := by
  subst hn
  have hl : (R.set j r).length = R.length := List.length_set
  have h2 := h
  rw [← hl] at h2
  exact h2.free k
end
/-- The first j rows written anew. -/
def newR (f : Nat → List Value) (j : Nat) : List (List Value) := (List.range j).map f
theorem newR_length (f : Nat → List Value) (j : Nat) : (newR f j).length = j := by simp [newR]
def partR (f : Nat → List Value) (R : List (List Value)) (j : Nat) : List (List Value) := newR f j ++ R.drop j
theorem partR_zero (f : Nat → List Value) (R : List (List Value)) : partR f R 0 = R := by simp [partR, newR]
theorem partR_all (f : Nat → List Value) (R : List (List Value)) : partR f R R.length = newR f R.length := by simp [partR]
theorem partR_length (f : Nat → List Value) (R : List (List Value)) (j : Nat) (h : j ≤ R.length) : (partR f R j).length = R.length := by
  simp [partR, newR]
  omega
theorem partR_set (f : Nat → List Value) (R : List (List Value)) (j : Nat) (h : j < R.length) : (partR f R j).set j (f j) = partR f R (j + 1) := by
  unfold partR
  rw [List.set_append_right _ _ (by rw [newR_length]; omega), newR_length, Nat.sub_self, List.drop_eq_getElem_cons h, List.set_cons_zero]
  unfold newR
  rw [List.range_succ, List.map_append]
  simp
/-- One row more is right. -/
theorem fill_step (Z : List Value) (done : List (List Value)) (r : List Value) (n k : Nat) (hk : done.length = k) (hn : k < n) :
    (done ++ List.replicate (n - k) Z).set k r = (done ++ [r]) ++ List.replicate (n - (k + 1)) Z := by
  obtain ⟨m, rfl⟩ : ∃ m, n = k + 1 + m := ⟨n - (k + 1), by omega⟩
  rw [show k + 1 + m - k = m + 1 by omega, show k + 1 + m - (k + 1) = m by omega, List.set_append_right _ _ (by omega), hk, Nat.sub_self, List.replicate_succ, List.set_cons_zero]
  simp
/-- Block g holds these cells. -/
def Blk (w : World) (g : Nat) (cs : Array Value) (t : TypeId) : Prop := w.heap[g]? = some (.cells cs t (0, 0))
theorem Blk.lt {w : World} {g : Nat} {cs : Array Value} {t : TypeId} (h : Blk w g cs t) : g < w.heap.size := lt_of_block h
theorem Blk.cell {w : World} {g : Nat} {cs : Array Value} {t : TypeId} (h : Blk w g cs t) (i : Nat) (x : Value) (hx : cs[i]? = some x) : w.cell? ⟨g, i, none⟩ = some x := by
  rw [cell_of_row w g i cs t (0, 0) h]
  exact hx
theorem Blk.free {w : World} {g : Nat} {cs : Array Value} {t : TypeId} (h : Blk w g cs t) (i : Nat) : w.frozen? ⟨g, i, none⟩ = false := frozen_of_row w g i cs t h
theorem Blk.set {w : World} {g : Nat} {cs : Array Value} {t : TypeId} (h : Blk w g cs t) (i : Nat) (x : Value) : Blk (w.setCell ⟨g, i, none⟩ x) g (cs.setIfInBounds i x) t := heap_setCell_same w g i cs t x h
theorem Blk.other {w : World} {g g' : Nat} {cs : Array Value} {t : TypeId} (h : Blk w g cs t) (hne : g ≠ g') (i : Nat) (x : Value) : Blk (w.setCell ⟨g', i, none⟩ x) g cs t := by
  unfold Blk
  rw [Below.heap_setCell _ _ _ _ hne]
  exact h
theorem Blk.on {w w' : World} {B g : Nat} {cs : Array Value} {t : TypeId} (h : Blk w g cs t) (hb : Below B w w') (hg : g < B) : Blk w' g cs t := by
  unfold Blk
  rw [hb.block g hg]
  exact h
theorem Blk.new (w : World) (cs : Array Value) (t : TypeId) : Blk (w.alloc (.cells cs t)) w.heap.size cs t := heap_alloc_new w _
theorem Blk.alloc {w : World} {g : Nat} {cs : Array Value} {t : TypeId} (h : Blk w g cs t) (o : Obj) : Blk (w.alloc o) g cs t := by
  unfold Blk
  rw [Below.heap_alloc w o g h.lt]
  exact h
theorem Owns.other {w : World} {base : Nat} {e : TypeId} {sz : Nat} {v : Value} {rows : List (List Value)} (h : Owns w base e sz v rows) {g : Nat} (hne : v.ownBlock ≠ some g) (i : Nat) (x : Value) : Owns (w.setCell ⟨g, i, none⟩ x) base e sz v rows :=
  h.kept fun k _ hk => Below.heap_setCell _ _ _ _ (fun e => hne (by rw [hk]; exact congrArg some e))
theorem Owns.below {w : World} {base : Nat} {e : TypeId} {sz : Nat} {v : Value} {rows : List (List Value)} (h : Owns w base e sz v rows) {g : Nat} (hg : g < base) : v.ownBlock ≠ some g := fun e => by
  have := (h.lt g e).1
  omega

theorem Owns.shape {w : World} {base : Nat} {e : TypeId} {sz : Nat} {v : Value} {rows : List (List Value)} (h : Owns w base e sz v rows) : ∃ A m c, v = .slice A m c := by
  rcases h.2.2 with ⟨rfl, _⟩ | ⟨g, cap, cur, rfl, _⟩
  · exact ⟨_, _, _, rfl⟩
  · exact ⟨_, _, _, rfl⟩

end Go.Proofs.YthgiekeiljflaaaDoor

/-
  Appends to rows of structs of the call's own: one row, or all of another slice's (no program in sight, no condition).
-/
namespace Go.Proofs.YthgiekeiljflaaaDoor
open Go.RowKit Go.PlainAid

theorem Owns.empty (w : World) (base : Nat) (e : TypeId) (sz : Nat) (hb : base ≤ w.heap.size) : Owns (w.alloc (.cells #[] e)) base e sz (.slice (some ⟨w.heap.size, 0, none⟩) 0 0) [] :=
  ⟨fun r hr => by simp at hr, World.ownsRow_lit w #[] 0 hb (by unfold maxLen; omega) (by simp)⟩
theorem Owns.nil (w : World) (base : Nat) (e : TypeId) (sz : Nat) : Owns w base e sz (.slice none 0 0) [] := ⟨fun r hr => by simp at hr, World.ownsRow_nil w base e sz⟩
theorem Owns.alloc {w : World} {base : Nat} {e : TypeId} {sz : Nat} {v : Value} {rows : List (List Value)} (h : Owns w base e sz v rows) (o : Obj) : Owns (w.alloc o) base e sz v rows := ⟨h.1, World.ownsRow.alloc h.2 o⟩

/-- Where an append lays its answer: where the slice lay, or in a new block. -/
theorem run_append_where {P : Program} (w : World) (base : Nat) (t ty e : TypeId) (i : TypeInfo) (z : Value) (size bytes : Nat) (ht : P.underlying t = some (.slice e)) (hi : P.info? e = some i) (hz : i.zero = some z)
    (hsize : i.size = size) (hby : i.bytes = bytes)
    (v : Value) (n : Nat) (xs : List Value) (hown : w.ownsRow base e size v n xs)
    (a : Addr) (m c : Nat) (news : List Value) (hl : news.length = m * size) (hnews : ∀ j u, news[j]? = some u → w.cell? (a.add j) = some u) (h1 : ∀ u ∈ news, u.oneCell' = true)
    (h63 : n + m ≤ maxLen) (hbytes : (n + m) * bytes ≤ 140737488355328) (v' : Value) (w' : World)
    (h : (Builtin.append_ #[t, t] ty #[v, .slice (some a) m c]).run P w = .ok v' w') : v'.ownBlock = v.ownBlock ∨ v'.ownBlock = some w.heap.size := by
  subst hsize
  subst hby
  have hsmall : n + m ≤ 9223372036854775807 := by simp only [maxLen] at h63; omega
  rcases hown.2 with ⟨rfl, rfl⟩ | ⟨g, cap, cur, rfl, hbg, hg, hnc, hcm, hcs, htake⟩
  · by_cases hm : m = 0
    · subst hm
      have hn : news = [] := List.eq_nil_of_length_eq_zero (by simpa using hl)
      subst hn
      have hr : (Builtin.append_ #[t, t] ty #[.slice none 0 0, .slice (some a) 0 c]).run P w = .ok (.slice none 0 0) w := by
        simp [Builtin.append_, run_underlying ht, sizeOf, typeInfo, hi, Builtin.lenOf, Builtin.firstCells, loadCells, loadCellsFrom]
      rw [hr] at h
      cases h
      exact .inl rfl
    · have hr := run_append_nil (P := P) w t ty e i z ht hi hz a m c news hl hnews (by omega) (by omega) (by have hb := hbytes; simp only [Nat.zero_add] at hb; omega)
      rw [hr] at h
      cases h
      exact .inr rfl
  · by_cases hroom : n + m ≤ cap
    · have hfit : n * i.size + news.length ≤ cur.size := by rw [hl, hcs, ← Nat.add_mul]; exact Nat.mul_le_mul_right _ hroom
      have hr := run_append_room (P := P) w t ty e i ht hi g n cap cur hg a m c news hl hnews h1 hroom hfit
      rw [hr] at h
      cases h
      exact .inl rfl
    · have holds : ∀ j u, xs[j]? = some u → w.cell? ((⟨g, 0, none⟩ : Addr).add j) = some u := hown.cells (g := g) rfl
      have hr := run_append_grow (P := P) w t ty e i z ht hi hz ⟨g, 0, none⟩ n cap xs hown.1 holds a m c news hl hnews (by omega) (by omega) (growslice_fits (by omega) hbytes)
      rw [hr] at h
      cases h
      exact .inr rfl
theorem wpList_append_own2 {P : Program} {w : World} {ops : Array Oper} {rest : List Oper} {o : Oper} {a : Act} {Q : Exit → Act → World → Prop} (hgd : o.guard = none) (s x : Operand) (t : TypeId)
    (ho : o.op = .call { callee := .builtin .append, args := #[s, x], argTypes := #[t, t] })
    (base : Nat) (e : TypeId) (i : TypeInfo) (z : Value) (size bytes : Nat) (ht : P.underlying t = some (.slice e)) (hi : P.info? e = some i) (hz : i.zero = some z)
    (hsize : i.size = size) (hby : i.bytes = bytes) (hzs : z.cells.size = size) (hsz : 0 < size)
    (v : Value) (n : Nat) (xs : List Value) (hs : a.eval s = v) (hown : w.ownsRow base e size v n xs)
    (ad : Addr) (m c : Nat) (news : List Value) (hx : a.eval x = .slice (some ad) m c) (hl : news.length = m * size) (hnews : ∀ j u, news[j]? = some u → w.cell? (ad.add j) = some u) (h1 : ∀ u ∈ news, u.oneCell' = true)
    (h63 : n + m ≤ maxLen) (hbytes : (n + m) * bytes ≤ 140737488355328) (hbase : base ≤ w.heap.size)
    (h : ∀ v' w', w'.ownsRow base e size v' (n + m) (xs ++ news) → w.grownBy w' v.ownBlock → (v'.ownBlock = v.ownBlock ∨ v'.ownBlock = some w.heap.size) → wpList P ops Q rest (a.put o.dst v') w') : wpList P ops Q (o :: rest) a w := by
  obtain ⟨v', w', hr, h2, h3, _⟩ := run_append_own (P := P) w base t o.type e i z size bytes ht hi hz hsize hby hzs hsz v n xs hown ad m c news hl hnews h1 h63 hbytes hbase
  have h5 := run_append_where (P := P) w base t o.type e i z size bytes ht hi hz hsize hby v n xs hown ad m c news hl hnews h1 h63 hbytes v' w' hr
  refine wpList_plain hgd fun K hK => ?_
  unfold Oper.wp execOp
  simp only [ho, resolve, invoke, builtin, Sem.run_bind, Sem.run_pure, Result.andThen_ok, List.map_toArray, List.map_cons, List.map_nil, hs, hx, hr]
  exact hK _ _ (h v' w' h2 h3 h5)

/-- 'append(out, x)', x's cells lying in a new block. -/
theorem wpList_append_row {P : Program} {w : World} {ops : Array Oper} {rest : List Oper} {o : Oper} {a : Act} {Q : Exit → Act → World → Prop} (hgd : o.guard = none) (s x : Operand) (t e : TypeId) (z : Value) (sz bytes : Nat)
    (ho : o.op = .call { callee := .builtin .append, args := #[s, x], argTypes := #[t, t] })
    (ht : P.underlying t = some (.slice e)) (hinfo : (P.info? e).map (fun i => (i.zero, i.size, i.bytes)) = some (some z, sz, bytes)) (hzs : z.cells.size = sz) (hsz : 0 < sz)
    (base : Nat) (v : Value) (rows : List (List Value)) (hs : a.eval s = v) (hown : Owns w base e sz v rows) (r : List Value) (hr : r.length = sz) (h1 : ∀ u ∈ r, u.oneCell' = true)
    (hx : a.eval x = .slice (some ⟨w.heap.size, 0, none⟩) 1 1) (hlen : rows.length ≤ 2097152) (hby : bytes ≤ 1000) (hbase : base ≤ w.heap.size)
    (h : ∀ v' w', Owns w' base e sz v' (rows ++ [r]) → Below base w w' → (∀ g, g < w.heap.size → v.ownBlock ≠ some g → w'.heap[g]? = w.heap[g]?) → (v'.ownBlock = v.ownBlock ∨ ∀ g, v'.ownBlock = some g → w.heap.size ≤ g) → wpList P ops Q rest (a.put o.dst v') w') : wpList P ops Q (o :: rest) a (w.alloc (.cells r.toArray e)) := by
  obtain ⟨i0, hi, hz0, hz1, hz2⟩ := info_parts hinfo
  have hb1 : (rows.length + 1) * bytes ≤ 140737488355328 := Nat.le_trans (Nat.mul_le_mul (show rows.length + 1 ≤ 2097153 by omega) hby) (by omega)
  refine wpList_append_own2 (w := w.alloc (.cells r.toArray e)) hgd s x t ho base e i0 z sz bytes ht hi hz0 hz1 hz2 hzs hsz v rows.length rows.flatten hs (World.ownsRow.alloc hown.2 _) ⟨w.heap.size, 0, none⟩ 1 1 r hx (by rw [hr]; omega) ?_ h1 (by unfold maxLen; omega) hb1 (by simp; omega) ?_
  · intro j u hj
    have e1 : (⟨w.heap.size, 0, none⟩ : Addr).add j = ⟨w.heap.size, j, none⟩ := by cases j <;> simp [Addr.add]
    rw [e1, World.cell?_alloc_mark]
    simpa using hj
  · intro v' w' h2 h3 h5
    have hb0 : ∀ k, v.ownBlock = some k → base ≤ k := fun k hk => (hown.lt k hk).1
    refine h v' w' ⟨?_, ?_⟩ ?_ ?_ (h5.imp id fun e g hg => by rw [e] at hg; cases hg; simp)
    · intro y hy
      rcases List.mem_append.1 hy with hy | hy
      · exact hown.1 y hy
      · rw [List.mem_singleton.1 hy]; exact hr
    · rw [List.length_append, List.flatten_append]
      simpa using h2
    · exact ((Below.refl base w).alloc hbase _).grown h3 (by simp; omega) hb0
    · intro g hg hne
      rw [h3.block g (by simp; omega) (fun e => hne e.symm)]
      exact Below.heap_alloc w _ g hg

/-- 'append(out, xs...)'. -/
theorem wpList_append_all {P : Program} {w : World} {ops : Array Oper} {rest : List Oper} {o : Oper} {a : Act} {Q : Exit → Act → World → Prop} (hgd : o.guard = none) (s x : Operand) (t e : TypeId) (z : Value) (sz bytes : Nat)
    (ho : o.op = .call { callee := .builtin .append, args := #[s, x], argTypes := #[t, t] })
    (ht : P.underlying t = some (.slice e)) (hinfo : (P.info? e).map (fun i => (i.zero, i.size, i.bytes)) = some (some z, sz, bytes)) (hzs : z.cells.size = sz) (hsz : 0 < sz)
    (base : Nat) (v u : Value) (rows more : List (List Value)) (B : Nat) (hs : a.eval s = v) (hown : Owns w base e sz v rows) (hu : Lies w B sz u more) (h1 : ∀ r ∈ more, ∀ y ∈ r, y.oneCell' = true)
    (hx : a.eval x = u) (hlen : rows.length + more.length ≤ 2097152) (hby : bytes ≤ 1000) (hbase : base ≤ w.heap.size)
    (h : ∀ v' w', Owns w' base e sz v' (rows ++ more) → Below base w w' → (∀ g, g < w.heap.size → v.ownBlock ≠ some g → w'.heap[g]? = w.heap[g]?) → (v'.ownBlock = v.ownBlock ∨ ∀ g, v'.ownBlock = some g → w.heap.size ≤ g) → wpList P ops Q rest (a.put o.dst v') w') : wpList P ops Q (o :: rest) a w := by
  obtain ⟨i0, hi, hz0, hz1, hz2⟩ := info_parts hinfo
  have hb1 : (rows.length + more.length) * bytes ≤ 140737488355328 := Nat.le_trans (Nat.mul_le_mul hlen hby) (by omega)
  obtain ⟨A, cap, rfl, hz, hms, hm⟩ := hu
  have fin : ∀ v' w', w'.ownsRow base e sz v' (rows.length + more.length) (rows.flatten ++ more.flatten) → w.grownBy w' v.ownBlock → (v'.ownBlock = v.ownBlock ∨ v'.ownBlock = some w.heap.size) → wpList P ops Q rest (a.put o.dst v') w' := by
    intro v' w' h2 h3 h5
    have hb0 : ∀ k, v.ownBlock = some k → base ≤ k := fun k hk => (hown.lt k hk).1
    refine h v' w' ⟨?_, ?_⟩ ?_ ?_ (h5.imp id fun e g hg => by rw [e] at hg; cases hg; exact Nat.le_refl _)
    · intro y hy
      rcases List.mem_append.1 hy with hy | hy
      · exact hown.1 y hy
      · exact hms y hy
    · rw [List.length_append, List.flatten_append]
      exact h2
    · exact (Below.refl base w).grown h3 hbase hb0
    · intro g hg hne
      exact h3.block g hg (fun e => hne e.symm)
  match A, hz, hx, hm with
  | none, hz, hx, hm =>
    have h0 : more.length = 0 := by
      rcases hm with h0 | ⟨g, off, e, _⟩
      · exact h0
      · cases e
    have hc0 := hz.1 rfl
    subst hc0
    have hnil : more = [] := List.eq_nil_of_length_eq_zero h0
    subst hnil
    refine wpList_plain hgd fun K hK => ?_
    have hr := run_append_owned_none (P := P) w base t o.type e i0 sz ht hi v rows.length rows.flatten hown.2
    unfold Oper.wp
    simp [execOp, ho, resolve, invoke, builtin, hs, hx, hr, Result.andThen]
    refine hK _ _ (fin v w ?_ ⟨rfl, rfl, rfl, Nat.le_refl _, fun _ _ _ => rfl⟩ (.inl rfl))
    simpa using hown.2
  | some ad, hz, hx, hm =>
    refine wpList_append_own2 (w := w) hgd s x t ho base e i0 z sz bytes ht hi hz0 hz1 hz2 hzs hsz v rows.length rows.flatten hs hown.2 ad more.length cap more.flatten hx (flat_length sz more hms) ?_ ?_ (by unfold maxLen; omega) hb1 hbase ?_
    · intro j y hj
      rcases hm with h0 | ⟨g, off, e, hg, hc⟩
      · rw [List.eq_nil_of_length_eq_zero h0] at hj
        simp at hj
      · cases e
        have e1 : (⟨g, off, none⟩ : Addr).add j = ⟨g, off + j, none⟩ := by cases j <;> simp [Addr.add]
        rw [e1]
        exact hc j y hj
    · intro y hy
      obtain ⟨r, hr, hyr⟩ := List.mem_flatten.1 hy
      exact h1 r hr y hyr
    · intro v' w' h2 h3 h5
      exact fin v' w' h2 h3 h5
theorem pt_one (l : List Pnt) : ∀ r ∈ ptR l, ∀ y ∈ r, y.oneCell' = true := by
  intro r hr y hy
  obtain ⟨x, _, rfl⟩ := List.mem_map.1 hr
  simp [ptC] at hy
  rcases hy with rfl | rfl <;> rfl
/-- The first k rows of the call's own. -/
theorem Owns.first {w : World} {base : Nat} {e : TypeId} {sz : Nat} {A : Option Addr} {n c : Nat} {rows : List (List Value)} (h : Owns w base e sz (.slice A n c) rows) (k : Nat) (hk : k ≤ rows.length) : Owns w base e sz (.slice A k c) (rows.take k) := by
  obtain ⟨hs, hl, h⟩ := h
  have hkl : (rows.take k).length = k := by rw [List.length_take]; omega
  have hs' : ∀ r ∈ rows.take k, r.length = sz := fun r hr => hs r (List.mem_of_mem_take hr)
  have hft : (rows.take k).flatten = rows.flatten.take (k * sz) := by
    have h1 : rows.flatten = (rows.take k).flatten ++ (rows.drop k).flatten := by rw [← List.flatten_append, List.take_append_drop]
    have hl2 : (rows.take k).flatten.length = k * sz := by rw [flat_length sz _ hs', hkl]
    rw [h1]
    exact (List.take_left' hl2).symm
  refine ⟨hs', ?_, ?_⟩
  · rw [flat_length sz _ hs']
  rcases h with ⟨e1, h0⟩ | ⟨g, cap, cur, e1, hb, hh, hn, hm, hz, ht⟩
  · cases e1
    have : k = 0 := by omega
    subst this
    exact .inl ⟨rfl, by simp⟩
  · cases e1
    refine .inr ⟨g, c, cur, by rw [hkl], hb, hh, by rw [hkl]; omega, hm, hz, ?_⟩
    rw [hkl, hft, ← ht, List.take_take]
    congr 1
    have : k * sz ≤ rows.length * sz := Nat.mul_le_mul_right sz hk
    omega
end Go.Proofs.YthgiekeiljflaaaDoor

/-
  Appends to rows of structs as run equations, for regions that are led by hand (no program in sight, no condition).
-/
namespace Go.Proofs.YthgiekeiljflaaaDoor
open Go.RowKit Go.PlainAid

/-- An append of one row, as an equation on its run. -/
theorem run_append_row {P : Program} (w : World) (t ty e : TypeId) (z : Value) (sz bytes : Nat)
    (ht : P.underlying t = some (.slice e)) (hinfo : (P.info? e).map (fun i => (i.zero, i.size, i.bytes)) = some (some z, sz, bytes)) (hzs : z.cells.size = sz) (hsz : 0 < sz)
    (base : Nat) (v : Value) (rows : List (List Value)) (hown : Owns w base e sz v rows) (r : List Value) (hr : r.length = sz) (h1 : ∀ u ∈ r, u.oneCell' = true)
    (hlen : rows.length ≤ 2097152) (hby : bytes ≤ 1000) (hbase : base ≤ w.heap.size) :
    ∃ A m c w', (Builtin.append_ #[t, t] ty #[v, .slice (some ⟨w.heap.size, 0, none⟩) 1 1]).run P (w.alloc (.cells r.toArray e)) = .ok (.slice A m c) w' ∧ Owns w' base e sz (.slice A m c) (rows ++ [r]) ∧ Below base w w' ∧ (∀ g, g < w.heap.size → v.ownBlock ≠ some g → w'.heap[g]? = w.heap[g]?) ∧ ((Value.slice A m c).ownBlock = v.ownBlock ∨ ∀ g, (Value.slice A m c).ownBlock = some g → w.heap.size ≤ g) := by
  obtain ⟨i0, hi, hz0, hz1, hz2⟩ := info_parts hinfo
  have hb1 : (rows.length + 1) * bytes ≤ 140737488355328 := Nat.le_trans (Nat.mul_le_mul (show rows.length + 1 ≤ 2097153 by omega) hby) (by omega)
  have hnews : ∀ j u, r[j]? = some u → (w.alloc (.cells r.toArray e)).cell? ((⟨w.heap.size, 0, none⟩ : Addr).add j) = some u := by
    intro j u hj
    have e1 : (⟨w.heap.size, 0, none⟩ : Addr).add j = ⟨w.heap.size, j, none⟩ := by cases j <;> simp [Addr.add]
    rw [e1, World.cell?_alloc_mark]
    simpa using hj
  obtain ⟨v', w', hrun, h2, h3, _⟩ := run_append_own (P := P) (w.alloc (.cells r.toArray e)) base t ty e i0 z sz bytes ht hi hz0 hz1 hz2 hzs hsz v rows.length rows.flatten (World.ownsRow.alloc hown.2 _) ⟨w.heap.size, 0, none⟩ 1 1 r (by rw [hr]; omega) hnews h1 (by unfold maxLen; omega) hb1 (by simp; omega)
  have h5 := run_append_where (P := P) (w.alloc (.cells r.toArray e)) base t ty e i0 z sz bytes ht hi hz0 hz1 hz2 v rows.length rows.flatten (World.ownsRow.alloc hown.2 _) ⟨w.heap.size, 0, none⟩ 1 1 r (by rw [hr]; omega) hnews h1 (by unfold maxLen; omega) hb1 v' w' hrun
  have hb0 : ∀ k, v.ownBlock = some k → base ≤ k := fun k hk => (hown.lt k hk).1
  have hO : Owns w' base e sz v' (rows ++ [r]) := by
    refine ⟨?_, ?_⟩
    · intro y hy
      rcases List.mem_append.1 hy with hy | hy
      · exact hown.1 y hy
      · rw [List.mem_singleton.1 hy]; exact hr
    · rw [List.length_append, List.flatten_append]
      simpa using h2
  obtain ⟨A, m, c, rfl⟩ := hO.shape
  refine ⟨A, m, c, w', hrun, hO, ((Below.refl base w).alloc hbase _).grown h3 (by simp; omega) hb0, ?_, h5.imp id fun e g hg => by rw [e] at hg; cases hg; simp⟩
  intro g hg hne
  rw [h3.block g (by simp; omega) (fun e => hne e.symm)]
  exact Below.heap_alloc w _ g hg
/-- An append whose run is known, at a step of a region that draws its order. -/
theorem step_append_run {P : Program} {ops : Array Oper} {o : Oper} {a : Act} {w : World} {K : Act → World → Prop} {Q : Exit → Act → World → Prop} {E : Prop}
    (hg : o.guard = none) (s x : Operand) (t : TypeId) (hop : o.op = Op.call { callee := Callee.builtin Builtin.append, args := #[s, x], argTypes := #[t, t] })
    (v y r : Value) (w' : World) (hs : a.eval s = v) (hx : a.eval x = y) (hrun : (Builtin.append_ #[t, t] o.type #[v, y]).run P w = .ok r w') (hK : K (a.put o.dst r) w') :
    if Region.wanted o (yielded ops a.tmps) = true then Oper.wp P o a w K Q else E := by
  have hw : Region.wanted o (yielded ops a.tmps) = true := by simp [Region.wanted, hg]
  rw [if_pos hw]
  unfold Oper.wp
  simp [execOp, hop, resolve, invoke, builtin, hs, hx, hrun, Result.andThen]
  exact hK
end Go.Proofs.YthgiekeiljflaaaDoor

/-
  Right points, as plain data (no program in sight, no condition).
-/
namespace Go.Proofs.YthgiekeiljflaaaDoor
open Go.RowKit Go.PlainAid

/-- Time and value of the j-th point. -/
def tAt (l : List Pnt) (j : Nat) : Int := (l.getD j default).t
def vAt (l : List Pnt) (j : Nat) : Int := (l.getD j default).v
/-- Right points. -/
def POk (l : List Pnt) : Prop := l.length ≤ 60 ∧ ∀ j, j < l.length → ((0 ≤ tAt l j ∧ tAt l j ≤ 1099511627776) ∧ (-1099511627776 ≤ vAt l j ∧ vAt l j ≤ 1099511627776)) ∧ (0 < j → tAt l (j - 1) < tAt l j)
instance (l : List Pnt) : Decidable (POk l) := by unfold POk; infer_instance
theorem POk.nil : POk [] := ⟨by simp, fun j hj => by simp at hj⟩
end Go.Proofs.YthgiekeiljflaaaDoor

/-
  Contracts of the laws' own helpers over slices of points: szPointS, toPoint, toPointS, eqPoint, eqPointS, markPointS, heldPointS (no condition but that the slices are short).
-/
namespace Go.Proofs.YthgiekeiljflaaaDoor
open Go.ChangeShapes Go.WideShapes Go.ChangeAt Go.RowKit Go.PlainAid
set_option linter.unusedVariables false

set_option maxHeartbeats 400000 in
theorem szPointS (l : List Pnt) (v : Value) (left : Int) (w : World) (B : Nat) (hv : Lies w B 2 v (ptR l)) (hn : l.length ≤ maxLen) (h0 : 0 ≤ left) (h1 : left ≤ 1048576) :
    Calls Tryd.prog 60 #[v, .int .i64 left] w fun e w' => (∃ r : Int, e = .returned (.int .i64 r) ∧ Hid (r = -1 ∨ 0 ≤ r ∧ r + (l.length : Int) = left)) ∧ w = w' := by
  unfold maxLen at hn
  obtain ⟨A, cap, rfl, _⟩ := pt_look hv
  clear hv
  generalize l.length = n at *
  have q1 : (n : Int) ≤ 9223372036854775807 := by omega
  have w2 : wrap64 (left - (n : Int)) = left - (n : Int) := by unfold wrap64; omega
  by_cases hl : left < (n : Int)
  · have q2 : left - (n : Int) < 0 := by omega
    go_enter Tryd.func60, Tryd.ntmps60
    go_wp2
    go_ret
    exact ⟨⟨_, rfl, .inl rfl⟩, rfl⟩
  · have HL : Hid ((n : Int) ≤ left) := by unfold Hid; omega
    have q2 : 0 ≤ left - (n : Int) := by omega
    have q3 : decide (left - (n : Int) < 0) = false := decide_eq_false (by omega)
    go_enter Tryd.func60, Tryd.ntmps60
    go_wp2
    go_ret
    exact ⟨⟨_, rfl, .inr ⟨by have := HL.out; omega, by omega⟩⟩, rfl⟩

theorem below_alloc3 (w : World) (a b c : Obj) : Below w.heap.size w (((w.alloc a).alloc b).alloc c) := (((Below.refl _ w).alloc (Nat.le_refl _) a).alloc (by simp) b).alloc (by simp; omega) c
set_option maxHeartbeats 400000 in
theorem toPoint (x : Pnt) (w : World) : Calls Tryd.prog 81 #[vPt x] w fun e w' => e = .returned (vPt x) ∧ Below w.heap.size w w' := by
  unfold vPt
  go_enter Tryd.func81, Tryd.ntmps81
  go_wp2
  exact bodyPost_ret (v := .agg #[.int .i64 x.t, .int .i64 x.v]) (by simp [results, go_sem]) rfl ⟨rfl, below_alloc3 _ _ _ _⟩
theorem Tryd.infoPt : (Tryd.prog.info? 39).map (fun i => (i.zero, i.size, i.bytes)) = some (some (.agg #[.int .i64 0, .int .i64 0]), 2, 16) := by kernel_rfl
/-- A row of noughts. -/
def ptZ : List Value := [.int .i64 0, .int .i64 0]
theorem pt_made (n : Nat) : madeCells #[.int .i64 0, .int .i64 0] (n * 2) = (List.replicate n ptZ).flatten.toArray := by
  apply Array.ext'
  rw [List.toList_toArray]
  apply List.ext_getElem?
  intro k
  have hz : ∀ r ∈ List.replicate n ptZ, r.length = 2 := fun r hr => by rw [List.eq_of_mem_replicate hr]; rfl
  by_cases hk : k < n * 2
  · have e : k = k / 2 * 2 + k % 2 := by omega
    have hf : k % 2 < 2 := Nat.mod_lt _ (by omega)
    have hj : k / 2 < n := Nat.div_lt_of_lt_mul (by omega)
    have := flat_at 2 (List.replicate n ptZ) hz (k / 2) (k % 2) (by simpa using hj) hf
    rw [← e] at this
    have hr : (List.replicate n ptZ)[k / 2]'(by simpa using hj) = ptZ := by simp
    rw [this, hr]
    have hs : (madeCells #[.int .i64 0, .int .i64 0] (n * 2)).toList[k]? = some (#[.int .i64 0, .int .i64 0].getD (k % 2) default) := by simp [madeCells, hk]
    rw [hs]
    have : k % 2 = 0 ∨ k % 2 = 1 := by omega
    rcases this with h | h <;> rw [h] <;> rfl
  · have hl : (List.replicate n ptZ).flatten.length = n * 2 := by rw [flat_length 2 _ hz]; simp
    have hr : (List.replicate n ptZ).flatten[k]? = none := List.getElem?_eq_none (by omega)
    rw [hr]
    apply List.getElem?_eq_none
    rw [Array.length_toList, size_madeCells]
    omega

set_option maxHeartbeats 1000000 in
theorem toPointS (l : List Pnt) (v : Value) (w : World) (B : Nat) (hv : Lies w B 2 v (ptR l)) (hn : l.length ≤ 1048576) (hB : B ≤ w.heap.size) :
    Calls Tryd.prog 64 #[v] w fun e w' => ∃ u, e = .returned u ∧ Owns w' w.heap.size 39 2 u (ptR l) ∧ Below w.heap.size w w' := by
  obtain ⟨A, cap, rfl, hl⟩ := pt_look hv
  have HL : Hid (∀ j, j < l.length → ∃ g off, A = some ⟨g, off, none⟩ ∧ g < B ∧ _) := hl
  have HB : Hid (B ≤ w.heap.size) := hB
  clear hl hB hv
  have q1 : (l.length : Int) ≤ 1048576 := by omega
  generalize hN : l.length = n at *
  obtain ⟨i0, hi, hz0, hz1, hz2⟩ := info_parts Tryd.infoPt
  have hmk : ∀ wx : World, (Instr.makeSlice 32 (.int .i64 (n : Int)) (.int .i64 (n : Int))).run Tryd.prog wx = .ok (.slice (some ⟨wx.heap.size, 0, none⟩) n n) (wx.alloc (.cells (List.replicate n ptZ).flatten.toArray 39)) := fun wx => by
    have h := run_make (P := Tryd.prog) wx 32 39 i0 _ Tryd.underlying32 hi hz0 .i64 .i64 (n : Int) (n : Int) (by omega) (by omega) (by rw [hz2]; omega) (by omega)
    rw [hz1] at h
    have e : (Value.agg #[.int .i64 0, .int .i64 0]).cells = #[.int .i64 0, .int .i64 0] := rfl
    rw [e, Int.toNat_natCast, pt_made] at h
    exact h
  clear hi hz0 hz1 hz2
  go_enter Tryd.func64, Tryd.ntmps64
  go_wp2_with fail
  go_loopw [4] (fun v4 wr => ∃ k : Nat, k ≤ n ∧ v4 = .int .i64 (k : Int) ∧ Owns wr w.heap.size 39 2 (.slice (some ⟨w.heap.size, 0, none⟩) n n) (ptR (l.take k) ++ List.replicate (n - k) ptZ) ∧ Below w.heap.size w wr) (fun i _ => n - (intOf i).toNat)
  case atStart =>
    refine ⟨0, by omega, rfl, ?_, (Below.refl _ _).alloc (Nat.le_refl _) _⟩
    rw [List.take_zero, Nat.sub_zero, show ptR [] = [] from rfl, List.nil_append]
    refine ⟨fun r hr => by rw [List.eq_of_mem_replicate hr]; rfl, ?_⟩
    have hz : ∀ r ∈ List.replicate n ptZ, r.length = 2 := fun r hr => by rw [List.eq_of_mem_replicate hr]; rfl
    have hl := flat_length 2 (List.replicate n ptZ) hz
    rw [List.length_replicate] at hl ⊢
    exact World.ownsRow_lit w (List.replicate n ptZ).flatten.toArray n (Nat.le_refl _) (by unfold maxLen; omega) (by simpa using hl)
  case round =>
    obtain ⟨k, hk, rfl, hO, hb⟩ := hrel
    have HO : Hid (Owns wr w.heap.size 39 2 (.slice (some ⟨w.heap.size, 0, none⟩) n n) (ptR (l.take k) ++ List.replicate (n - k) ptZ)) := hO
    have HB1 : Hid (Below w.heap.size w wr) := hb
    clear hO hb
    by_cases hlt : k < n
    · have q4 : (k : Int) < (n : Int) := by omega
      obtain ⟨g, off, rfl, hg, hc0, hc1⟩ := HL.out k (by omega)
      have hgw : g < w.heap.size := Nat.lt_of_lt_of_le hg HB.out
      rw [← HB1.out.cell (p := ⟨_, _, none⟩) hgw] at hc0
      rw [← HB1.out.cell (p := ⟨_, _, none⟩) hgw] at hc1
      have c1 := fun wx => toPoint (l.getD k default) wx
      unfold vPt at c1
      generalize hx : l.getD k default = x at *
      have HX : Hid (l.getD k default = x) := hx
      clear hx
      go_wp2_with fail
      refine (c1 _).mono ?_
      rintro e w2 ⟨rfl, hb2⟩
      have hlen : (ptR (l.take k) ++ List.replicate (n - k) ptZ).length = n := by rw [List.length_append, List.length_replicate]; simp [ptR]; omega
      have hdl : (ptR (l.take k)).length = k := by simp [ptR]; omega
      have hO2 := HO.out.on hb2
      have hO3 := hO2
      rw [show (Value.slice (some ⟨w.heap.size, 0, none⟩) n n) = .slice (some ⟨w.heap.size, 0, none⟩) (ptR (l.take k) ++ List.replicate (n - k) ptZ).length n by rw [hlen]] at hO2
      obtain ⟨y0, d0⟩ := hO2.cellX k 0 (by rw [hlen]; exact hlt) (by omega)
      have f0 := hO2.free (k * 2)
      obtain ⟨y1, d1⟩ := hO2.cellX k 1 (by rw [hlen]; exact hlt) (by omega)
      have f1 := hO2.free (k * 2 + 1)
      rw [Nat.add_zero] at d0
      have hP := hO2.put2 k (by rw [hlen]; exact hlt) (.int .i64 x.t) (.int .i64 x.v)
      rw [hlen, fill_step _ _ _ n k hdl hlt, show ptR (l.take k) ++ [[.int .i64 x.t, .int .i64 x.v]] = ptR (l.take (k + 1)) by rw [ptR_snoc l k (by omega), HX.out]; rfl] at hP
      have HP : Hid (Owns (((w2).setCell ⟨w.heap.size, k * 2, none⟩ (.int .i64 x.t)).setCell ⟨w.heap.size, k * 2 + 1, none⟩ (.int .i64 x.v)) w.heap.size 39 2 (.slice (some ⟨w.heap.size, 0, none⟩) n n) (ptR (l.take (k + 1)) ++ List.replicate (n - (k + 1)) ptZ)) := hP
      have HB2 : Hid (Below w.heap.size w w2) := HB1.out.trans (hb2.mono HB1.out.size)
      clear hO2 hO3 hP hb2 hlen hdl
      go_wp2_with fail
      go_roundw
      case rel => exact ⟨k + 1, by omega, by go_num, HP.out, ((HB2.out).setCell (Nat.le_refl _) _).setCell (Nat.le_refl _) _⟩
      case measure => simp [intOf]; omega
    · obtain rfl : k = n := by omega
      go_wp2_with fail
      go_ret
      refine ⟨_, rfl, ?_, HB1.out⟩
      have := HO.out
      rw [← hN, List.take_length, Nat.sub_self, List.replicate_zero, List.append_nil] at this
      rw [← hN]
      exact this
theorem below_alloc2 (w : World) (a b : Obj) : Below w.heap.size w ((w.alloc a).alloc b) := ((Below.refl _ w).alloc (Nat.le_refl _) a).alloc (by simp) b
set_option maxHeartbeats 400000 in
theorem eqPoint (x : Pnt) (w : World) : Calls Tryd.prog 82 #[vPt x, vPt x] w fun e w' => e = .returned (.bool true) ∧ Below w.heap.size w w' := by
  unfold vPt
  go_enter Tryd.func82, Tryd.ntmps82
  go_wp2
  go_ret
  exact ⟨rfl, below_alloc2 _ _ _⟩

set_option maxHeartbeats 1000000 in
theorem eqPointS (l : List Pnt) (va vb : Value) (w : World) (B : Nat) (ha : Lies w B 2 va (ptR l)) (hb : Lies w B 2 vb (ptR l)) (hn : l.length ≤ 1048576) (hB : B ≤ w.heap.size) :
    Calls Tryd.prog 65 #[va, vb] w fun e w' => e = .returned (.bool true) ∧ Below w.heap.size w w' := by
  obtain ⟨A, cap, rfl, hl⟩ := pt_look ha
  obtain ⟨A', cap', rfl, hl'⟩ := pt_look hb
  have HL : Hid (∀ j, j < l.length → ∃ g off, A = some ⟨g, off, none⟩ ∧ g < B ∧ _) := hl
  have HL' : Hid (∀ j, j < l.length → ∃ g off, A' = some ⟨g, off, none⟩ ∧ g < B ∧ _) := hl'
  have HB : Hid (B ≤ w.heap.size) := hB
  clear hl hl' hB ha hb
  have q1 : (l.length : Int) ≤ 1048576 := by omega
  generalize hN : l.length = n at *
  go_enter Tryd.func65, Tryd.ntmps65
  go_wp2_with fail
  go_loopw [5] (fun v5 wr => ∃ k : Nat, k ≤ n ∧ v5 = .int .i64 (k : Int) ∧ Below w.heap.size w wr) (fun i _ => n - (intOf i).toNat)
  case atStart => exact ⟨0, by omega, rfl, Below.refl _ _⟩
  case round =>
    obtain ⟨k, hk, rfl, hb⟩ := hrel
    have HB1 : Hid (Below w.heap.size w wr) := hb
    clear hb
    by_cases hlt : k < n
    · have q4 : (k : Int) < (n : Int) := by omega
      obtain ⟨g, off, rfl, hg, ha0, ha1⟩ := HL.out k hlt
      obtain ⟨g', off', rfl, hg', hb0, hb1⟩ := HL'.out k hlt
      have hgw : g < w.heap.size := Nat.lt_of_lt_of_le hg HB.out
      have hgw' : g' < w.heap.size := Nat.lt_of_lt_of_le hg' HB.out
      rw [← HB1.out.cell (p := ⟨_, _, none⟩) hgw] at ha0
      rw [← HB1.out.cell (p := ⟨_, _, none⟩) hgw'] at hb0
      rw [← HB1.out.cell (p := ⟨_, _, none⟩) hgw] at ha1
      rw [← HB1.out.cell (p := ⟨_, _, none⟩) hgw'] at hb1
      have c1 := fun wx => eqPoint (l.getD k default) wx
      unfold vPt at c1
      generalize l.getD k default = x at *
      have hsz := HB1.out.size
      go_wp2_with fail
      go_region_with (go_at_call 82; refine (c1 _).mono ?_; rintro e w1 ⟨rfl, hb1⟩)
      all_goals go_wp2_with fail
      all_goals exact ⟨⟨k + 1, by omega, by go_num, HB1.out.trans (((Below.refl _ wr).drew.trans hb1).mono hsz)⟩, by simp [intOf]; omega⟩
    · obtain rfl : k = n := by omega
      go_wp2_with fail
      go_ret
      exact ⟨rfl, HB1.out⟩

/-- The j-th of the marks from k on. -/
def mkPt (k j : Nat) : List Value := [.int .i64 ((k + 2 * j : Nat) : Int), .int .i64 (((k + 2 * j : Nat) : Int) + 1)]
theorem newR_szPt (k n : Nat) : ∀ r ∈ newR (mkPt k) n, r.length = 2 := by
  intro r hr
  obtain ⟨j, _, rfl⟩ := List.mem_map.1 hr
  rfl
theorem mkPt_look {w : World} {B k n : Nat} {v : Value} (h : Lies w B 2 v (newR (mkPt k) n)) : ∃ A cap, v = .slice A n cap ∧ ∀ j, j < n → ∃ g off, A = some ⟨g, off, none⟩ ∧ g < B ∧ w.cell? ⟨g, off + j * 2, none⟩ = some (.int .i64 (((k + 2 * j : Nat) : Int))) ∧ w.cell? ⟨g, off + j * 2 + 1, none⟩ = some (.int .i64 (((k + 2 * j : Nat) : Int) + 1)) := by
  obtain ⟨A, cap, e, h⟩ := h.look
  rw [newR_length] at e
  refine ⟨A, cap, e, fun j hj => ?_⟩
  obtain ⟨g, off, e, hg, hc⟩ := h j (by rw [newR_length]; exact hj)
  have hr : (newR (mkPt k) n)[j]'(by rw [newR_length]; exact hj) = mkPt k j := by simp [newR]
  rw [hr] at hc
  refine ⟨g, off, e, hg, ?_, ?_⟩
  · have := hc 0 _ (by omega) rfl; simpa [Nat.add_assoc] using this
  · have := hc 1 _ (by omega) rfl; simpa [Nat.add_assoc] using this

end Go.Proofs.YthgiekeiljflaaaDoor

/-
  An argument that is a slice of points, as it came in (no condition).
-/
namespace Go.Proofs.YthgiekeiljflaaaDoor
open Go.ChangeShapes Go.WideShapes Go.ChangeAt Go.RowKit Go.PlainAid
set_option linter.unusedVariables false

/-- Two values do not share a block. -/
def Apart (u v : Value) : Prop := ∀ g, u.ownBlock = some g → v.ownBlock ≠ some g
theorem Apart.symm {u v : Value} (h : Apart u v) : Apart v u := fun g h1 h2 => h g h2 h1
/-- What was there before shares no block with what is laid anew. -/
theorem Apart.of {w w' : World} {b : Nat} {e : TypeId} {sz : Nat} {u v : Value} {r r' : List (List Value)} (h : Owns w b e sz u r) (h' : Owns w' w.heap.size e sz v r') : Apart u v := fun g h1 h2 => by
  have := (h.lt g h1).2
  have := (h'.lt g h2).1
  omega

section
variable {H : Type} {enc : TypeId × Value → H} {P : Program} {w : World} {base : Nat} {spare : Nat → Bool} {held : Bool}

/-- A slice of structs that came in, its elements told one by one. -/
theorem open_rows {α : Type} [Inhabited α] {t e : TypeId} {fuel : Nat} {v : Value} {x : DataW H × List MemPlace} (ht : P.underlying t = some (.slice e)) (sz : Nat) (hsz : P.cellsOf e = sz) (hpos : 0 < sz) (C : α → List Value) (hC : ∀ y, (C y).length = sz) (G : α → Prop)
    (hel : ∀ n cs y, DataW.trod enc P w base spare held n e cs = some y → ∃ z, cs = C z ∧ G z)
    (h : DataW.trod enc P w base spare held fuel t [v] = some x) : ∃ l : List α, Lies w w.heap.size sz v (l.map C) ∧ l.length ≤ maxLen ∧ ∀ z ∈ l, G z := by
  rcases Go.Deep.open_slice ht h with ⟨hv, _⟩ | ⟨a, len, cap, m, n, D, Pl, hv, hb, hl, hm, hmm, _, hx⟩
  · obtain rfl : v = .slice none 0 0 := by simpa using hv
    exact ⟨[], ⟨none, 0, rfl, ⟨fun _ => rfl, Nat.le_refl _⟩, fun r hr => (by cases hr), .inl rfl⟩, Nat.zero_le _, fun z hz => (by cases hz)⟩
  · obtain rfl : v = .slice (some a) len cap := by simpa using hv
    have hlm : len ≤ m := by rw [hmm]; split <;> omega
    have hp : ∀ i, i < len → ∃ z, (∀ f, f < sz → w.cell? (a.add (i * sz + f)) = (C z)[f]?) ∧ G z := fun i hi => by
      obtain ⟨cs', h1, h2⟩ := hx i (by omega)
      obtain ⟨_, hlen, hc⟩ := World.cells?_some h1
      obtain ⟨z, rfl, hg⟩ := hel n cs' _ h2
      refine ⟨z, fun f hf => ?_, hg⟩
      have := hc f (by rw [hsz]; exact hf)
      rw [hsz, Go.Deep.add_add] at this
      exact this
    obtain ⟨X, hX⟩ := Go.Deep.choose_lt (α := α) (p := fun i z => (∀ f, f < sz → w.cell? (a.add (i * sz + f)) = (C z)[f]?) ∧ G z) hp
    have hll : ((List.range len).map X).length = len := by simp
    refine ⟨(List.range len).map X, ⟨some a, cap, by simp, ⟨fun e => (by cases e), by simpa using hl⟩, fun r hr => ?_, ?_⟩, by rw [hll]; omega, fun z hz => ?_⟩
    · obtain ⟨y, _, rfl⟩ := List.mem_map.1 hr
      exact hC y
    · by_cases h0 : len = 0
      · exact .inl (by simp [h0])
      · right
        obtain ⟨b, off, spot⟩ := a
        have hc0 := (hX 0 (by omega)).1 0 hpos
        have hlt0 : 0 < (C (X 0)).length := by rw [hC]; exact hpos
        rw [List.getElem?_eq_getElem hlt0] at hc0
        have hspot : spot = none := by simpa [Addr.add] using World.cell?_spot hc0
        subst hspot
        have hadd : ∀ j, (⟨b, off, none⟩ : Addr).add j = ⟨b, off + j, none⟩ := by intro j; cases j <;> simp [Addr.add]
        refine ⟨b, off, rfl, ?_, fun k x hk => ?_⟩
        · rw [hadd] at hc0
          rcases Nat.lt_or_ge b w.heap.size with h | h
          · exact h
          · simp [World.cell?, Array.getElem?_eq_none h] at hc0
        · have hkl : k < (((List.range len).map X).map C).flatten.length := (List.getElem?_eq_some_iff.1 hk).1
          have hrow : ∀ r ∈ ((List.range len).map X).map C, r.length = sz := fun r hr => by
            obtain ⟨y, _, rfl⟩ := List.mem_map.1 hr
            exact hC y
          rw [flat_length sz _ hrow, List.length_map, hll] at hkl
          have hdiv : k / sz < len := (Nat.div_lt_iff_lt_mul hpos).2 hkl
          have hmod : k % sz < sz := Nat.mod_lt _ hpos
          have hke : k / sz * sz + k % sz = k := by rw [Nat.mul_comm]; exact Nat.div_add_mod k sz
          have hfa := flat_at sz (((List.range len).map X).map C) hrow (k / sz) (k % sz) (by rw [List.length_map, hll]; exact hdiv) hmod
          rw [hke, hk] at hfa
          have hcx := (hX (k / sz) hdiv).1 (k % sz) hmod
          rw [hke, hadd] at hcx
          rw [hcx, hfa]
          simp
    · obtain ⟨i, hi, rfl⟩ := List.mem_map.1 hz
      exact (hX i (by simpa using hi)).2
end

theorem list2 {α : Type} {l : List α} (h : l.length = 2) : ∃ a b, l = [a, b] := by
  match l, h with
  | [a, b], _ => exact ⟨a, b, rfl⟩
/-- A number of 64 bits. -/
def IntOk (x : Int) : Prop := -9223372036854775808 ≤ x ∧ x ≤ 9223372036854775807
theorem cPt : Tryd.prog.cellsOf 117 = 2 := by kernel_rfl

section
variable {H : Type} {enc : TypeId × Value → H} {w : World} {base : Nat} {spare : Nat → Bool} {held : Bool}

set_option maxRecDepth 100000 in
theorem open_pt (n : Nat) (cs : List Value) (y : DataW H × List MemPlace) (h : DataW.trod enc Tryd.prog w base spare held n 117 cs = some y) : ∃ z : Pnt, cs = ptC z ∧ (IntOk z.t ∧ IntOk z.v) := by
  obtain ⟨xs, m, _, _, hl, hlen, hf⟩ := DataW.trod_struct Tryd.underlying117 h
  rw [cPt] at hl
  obtain ⟨a, b, rfl⟩ := list2 hl
  obtain ⟨x0, x1, rfl⟩ := list2 (show xs.length = 2 from hlen)
  have f0 := hf 0 _ rfl
  have f1 := hf 1 _ rfl
  simp only [List.getElem?_cons_zero, List.getElem?_cons_succ] at f0 f1
  obtain ⟨i0, e0, _, h0⟩ := DataW.trod_int Tryd.underlying3 f0
  obtain ⟨i1, e1, _, h1⟩ := DataW.trod_int Tryd.underlying3 f1
  cases e0
  cases e1
  exact ⟨⟨i0, i1⟩, rfl, bounds_i64 h0, bounds_i64 h1⟩
set_option maxRecDepth 100000 in
/-- Points that came in. -/
theorem open_pts {r : Reach} {b0 : Nat} {v : Value} {dd : DataW H} {ps : List MemPlace} (hval : Value.okWide Tryd.prog w r b0 71 v) (hd : DataW.Trod enc Tryd.prog w base spare held 71 v dd ps) : ∃ l : List Pnt, Lies w w.heap.size 2 v (ptR l) ∧ l.length ≤ maxLen := by
  obtain ⟨a0, len0, cap0, rfl⟩ := okWide_slice Tryd.underlying71 hval
  obtain ⟨fuel, hf⟩ := hd
  obtain ⟨ls, l1, l2, _⟩ := open_rows Tryd.underlying71 2 cPt (by omega) ptC (fun _ => rfl) _ open_pt hf
  exact ⟨ls, l1, l2⟩
end
end Go.Proofs.YthgiekeiljflaaaDoor

/-
  Slices of series: what they hold, read from wherever they lie, and those of the call's own (no program in sight, no condition).
-/
namespace Go.Proofs.YthgiekeiljflaaaDoor
open Go.RowKit Go.PlainAid

/-- A series. -/
structure Ser where
  key : ByteArray
  pts : List Pnt
instance : Inhabited Ser := ⟨⟨⟨#[]⟩, []⟩⟩
theorem Ser.same {x y : Ser} (h1 : x.key = y.key) (h2 : x.pts = y.pts) : x = y := by
  cases x
  cases y
  simp only at h1 h2
  subst h1
  subst h2
  rfl
instance : Inhabited (Ser × Value) := ⟨⟨default, .slice none 0 0⟩⟩
/-- The cells of a series whose points lie at a slice. -/
def srC (p : Ser × Value) : List Value := [.string p.1.key, p.2]
def srR (L : List (Ser × Value)) : List (List Value) := L.map srC
theorem srR_length (L : List (Ser × Value)) : (srR L).length = L.length := by simp [srR]
theorem srR_append (L M : List (Ser × Value)) : srR (L ++ M) = srR L ++ srR M := by simp [srR]
theorem srR_sz (L : List (Ser × Value)) : ∀ r ∈ srR L, r.length = 2 := by
  intro r hr
  obtain ⟨x, _, rfl⟩ := List.mem_map.1 hr
  rfl
theorem sr_look {w : World} {B : Nat} {v : Value} {L : List (Ser × Value)} (h : Lies w B 2 v (srR L)) : ∃ A cap, v = .slice A L.length cap ∧ ∀ j, j < L.length → ∃ g off, A = some ⟨g, off, none⟩ ∧ g < B ∧
    w.cell? ⟨g, off + j * 2, none⟩ = some (.string (L.getD j default).1.key) ∧ w.cell? ⟨g, off + j * 2 + 1, none⟩ = some (L.getD j default).2 := by
  obtain ⟨A, cap, e, h⟩ := h.look
  refine ⟨A, cap, by rw [e]; simp [srR], fun j hj => ?_⟩
  rw [← getD_at L j hj]
  obtain ⟨g, off, e, hg, hc⟩ := h j (by simpa [srR] using hj)
  refine ⟨g, off, e, hg, ?_, ?_⟩
  · have := hc 0 _ (by omega) (by simp [srR, srC]; rfl); simpa [Nat.add_assoc] using this
  · have := hc 1 _ (by omega) (by simp [srR, srC]; rfl); simpa [Nat.add_assoc] using this
/-- The series that lie at a slice, each with the slice of its points. -/
def SerL (w : World) (B : Nat) (v : Value) (L : List (Ser × Value)) : Prop := Lies w B 2 v (srR L) ∧ ∀ p ∈ L, Lies w B 2 p.2 (ptR p.1.pts)
theorem SerL.on {w w' : World} {B : Nat} {v : Value} {L : List (Ser × Value)} (h : SerL w B v L) (hb : Below B w w') : SerL w' B v L := ⟨h.1.on hb, fun p hp => (h.2 p hp).on hb⟩
theorem SerL.mono {w : World} {B C : Nat} {v : Value} {L : List (Ser × Value)} (h : SerL w B v L) (hB : B ≤ C) : SerL w C v L := ⟨h.1.mono hB, fun p hp => (h.2 p hp).mono hB⟩
theorem SerL.heap {w w' : World} {B : Nat} {v : Value} {L : List (Ser × Value)} (h : SerL w B v L) (hh : w'.heap = w.heap) : SerL w' B v L := ⟨h.1.heap hh, fun p hp => (h.2 p hp).heap hh⟩
/-- The series that lie at a slice. -/
def SerV (w : World) (B : Nat) (v : Value) (l : List Ser) : Prop := ∃ L : List (Ser × Value), L.map Prod.fst = l ∧ SerL w B v L
theorem SerV.on {w w' : World} {B : Nat} {v : Value} {l : List Ser} (h : SerV w B v l) (hb : Below B w w') : SerV w' B v l := h.imp fun _ h => ⟨h.1, h.2.on hb⟩
theorem SerV.mono {w : World} {B C : Nat} {v : Value} {l : List Ser} (h : SerV w B v l) (hB : B ≤ C) : SerV w C v l := h.imp fun _ h => ⟨h.1, h.2.mono hB⟩
theorem SerV.heap {w w' : World} {B : Nat} {v : Value} {l : List Ser} (h : SerV w B v l) (hh : w'.heap = w.heap) : SerV w' B v l := h.imp fun _ h => ⟨h.1, h.2.heap hh⟩
/-- Each of them: its cells, and its points. -/
theorem SerV.look {w : World} {B : Nat} {v : Value} {l : List Ser} (h : SerV w B v l) : ∃ A cap, v = .slice A l.length cap ∧ ∀ j, j < l.length → ∃ g off u, A = some ⟨g, off, none⟩ ∧ g < B ∧
    w.cell? ⟨g, off + j * 2, none⟩ = some (.string (l.getD j default).key) ∧ w.cell? ⟨g, off + j * 2 + 1, none⟩ = some u ∧ Lies w B 2 u (ptR (l.getD j default).pts) := by
  obtain ⟨L, rfl, h, hp⟩ := h
  obtain ⟨A, cap, e, hl⟩ := sr_look h
  refine ⟨A, cap, by rw [e]; simp, fun j hj => ?_⟩
  have hj' : j < L.length := by simpa using hj
  obtain ⟨g, off, e, hg, h1, h2⟩ := hl j hj'
  have hd : (L.map Prod.fst).getD j default = (L.getD j default).1 := by rw [← getD_at _ j hj, ← getD_at _ j hj', List.getElem_map]
  rw [hd]
  exact ⟨g, off, _, e, hg, h1, h2, hp _ (getD_mem L j hj')⟩
/-- The series of the call's own: the slice, and the points of each apart from the others'. -/
def SerO (w : World) (base : Nat) (v : Value) (L : List (Ser × Value)) : Prop := Owns w base 36 2 v (srR L) ∧ (∀ p ∈ L, Owns w base 39 2 p.2 (ptR p.1.pts)) ∧ L.Pairwise fun p q => Apart p.2 q.2
theorem SerO.lies {w : World} {base : Nat} {v : Value} {L : List (Ser × Value)} (h : SerO w base v L) : SerL w w.heap.size v L := ⟨h.1.lies, fun p hp => (h.2.1 p hp).lies⟩
theorem SerO.view {w : World} {base : Nat} {v : Value} {L : List (Ser × Value)} (h : SerO w base v L) : SerV w w.heap.size v (L.map Prod.fst) := ⟨L, rfl, h.lies⟩
theorem SerO.on {w w' : World} {base : Nat} {v : Value} {L : List (Ser × Value)} (h : SerO w base v L) (hb : Below w.heap.size w w') : SerO w' base v L := ⟨h.1.on hb, fun p hp => (h.2.1 p hp).on hb, h.2.2⟩
theorem SerO.mono {w : World} {base base' : Nat} {v : Value} {L : List (Ser × Value)} (h : SerO w base v L) (hb : base' ≤ base) : SerO w base' v L := ⟨h.1.mono hb, fun p hp => (h.2.1 p hp).mono hb, h.2.2⟩
/-- Rows of two types share no block. -/
theorem Owns.apartT {w : World} {b b' : Nat} {e e' : TypeId} {sz sz' : Nat} {u v : Value} {r r' : List (List Value)} (h : Owns w b e sz u r) (h' : Owns w b' e' sz' v r') (hne : e ≠ e') : Apart u v := fun g h1 h2 => by
  rcases h.2.2 with ⟨rfl, _⟩ | ⟨g1, c1, cur1, rfl, _, k1, _⟩
  · cases h1
  rcases h'.2.2 with ⟨rfl, _⟩ | ⟨g2, c2, cur2, rfl, _, k2, _⟩
  · cases h2
  cases h1
  cases h2
  rw [k1] at k2
  cases k2
  exact hne rfl
/-- A row of noughts. -/
def srZ : List Value := [.string ⟨#[]⟩, .slice none 0 0]
theorem sr_one (L : List (Ser × Value)) (h : ∀ p ∈ L, p.2.oneCell' = true) : ∀ r ∈ srR L, ∀ y ∈ r, y.oneCell' = true := by
  intro r hr y hy
  obtain ⟨x, hx, rfl⟩ := List.mem_map.1 hr
  simp only [srC, List.mem_cons, List.not_mem_nil, or_false] at hy
  rcases hy with rfl | rfl
  · rfl
  · exact h x hx
theorem Owns.oneCell {w : World} {b : Nat} {e : TypeId} {sz : Nat} {u : Value} {r : List (List Value)} (h : Owns w b e sz u r) : u.oneCell' = true := by
  obtain ⟨A, m, c, rfl⟩ := h.shape
  rfl
/-- The value of one. -/
def vSr (k : ByteArray) (u : Value) : Value := .agg #[.string k, u]
end Go.Proofs.YthgiekeiljflaaaDoor

/-
  What right series are (no program in sight, no condition).
-/
namespace Go.Proofs.YthgiekeiljflaaaDoor
open Go.RowKit Go.PlainAid

/-- A key: 1 to 8 bytes, each a to z. -/
def KOk (s : ByteArray) : Prop := 1 ≤ s.size ∧ s.size ≤ 8 ∧ ∀ j, j < s.size → 97 ≤ bn s j ∧ bn s j ≤ 122
/-- A text stands ahead of another one. -/
def ahd (a b : ByteArray) : Bool := Op.bytesLess a.toList b.toList
theorem less_irrefl : ∀ a : List UInt8, Op.bytesLess a a = false
  | [] => rfl
  | a :: x => by
    unfold Op.bytesLess
    rw [less_irrefl x]
    simp
theorem less_cons (a b : UInt8) (x y : List UInt8) : Op.bytesLess (a :: x) (b :: y) = true ↔ a < b ∨ (a = b ∧ Op.bytesLess x y = true) := by
  rw [Op.bytesLess]
  simp
theorem less_trans : ∀ {a b c : List UInt8}, Op.bytesLess a b = true → Op.bytesLess b c = true → Op.bytesLess a c = true
  | _, _, [], _, h => by
    unfold Op.bytesLess at h
    cases h
  | [], _, _ :: _, _, _ => rfl
  | _ :: _, [], _ :: _, h, _ => by
    unfold Op.bytesLess at h
    cases h
  | a :: x, b :: y, c :: z, h, k => by
    rw [less_cons] at h k ⊢
    rcases h with h | ⟨rfl, h⟩
    · rcases k with k | ⟨rfl, k⟩
      · exact .inl (UInt8.lt_trans h k)
      · exact .inl h
    · rcases k with k | ⟨rfl, k⟩
      · exact .inl k
      · exact .inr ⟨rfl, less_trans h k⟩
theorem less_tri : ∀ {a b : List UInt8}, Op.bytesLess a b = false → Op.bytesLess b a = false → a = b
  | [], [], _, _ => rfl
  | [], _ :: _, h, _ => by
    unfold Op.bytesLess at h
    cases h
  | _ :: _, [], _, h => by
    unfold Op.bytesLess at h
    cases h
  | a :: x, b :: y, h, k => by
    have h' : ¬ (a < b ∨ (a = b ∧ Op.bytesLess x y = true)) := fun e => by
      rw [← less_cons, h] at e
      cases e
    have k' : ¬ (b < a ∨ (b = a ∧ Op.bytesLess y x = true)) := fun e => by
      rw [← less_cons, k] at e
      cases e
    have hab : a = b := by
      rcases Nat.lt_trichotomy a.toNat b.toNat with e | e | e
      · exact absurd (.inl (UInt8.lt_iff_toNat_lt.2 e)) h'
      · exact UInt8.toNat_inj.1 e
      · exact absurd (.inl (UInt8.lt_iff_toNat_lt.2 e)) k'
    subst hab
    have h1 : Op.bytesLess x y = false := by
      cases e : Op.bytesLess x y with
      | false => rfl
      | true => exact absurd (.inr ⟨rfl, e⟩) h'
    have k1 : Op.bytesLess y x = false := by
      cases e : Op.bytesLess y x with
      | false => rfl
      | true => exact absurd (.inr ⟨rfl, e⟩) k'
    rw [less_tri h1 k1]
theorem ahd_irrefl (a : ByteArray) : ahd a a = false := less_irrefl _
theorem ahd_trans {a b c : ByteArray} (h : ahd a b = true) (k : ahd b c = true) : ahd a c = true := less_trans h k
theorem toList_inj {a b : ByteArray} (h : a.toList = b.toList) : a = b := by
  rw [Lib.toList_data, Lib.toList_data] at h
  rw [← txt_toList a, ← txt_toList b, h]
/-- Where one stands ahead of the other, the other doesn't, and they are two. -/
theorem ahd_yes {a b : ByteArray} (h : ahd a b = true) : Op.bytesLess b.toList a.toList = false ∧ (b.toList == a.toList) = false := by
  refine ⟨?_, ?_⟩
  · cases e : Op.bytesLess b.toList a.toList with
    | false => rfl
    | true =>
      have := less_trans h e
      rw [less_irrefl] at this
      cases this
  · rw [beq_eq_false_iff_ne]
    intro e
    unfold ahd at h
    rw [e, less_irrefl] at h
    cases h
/-- Where it does not, the other does, or they are one. -/
theorem ahd_no {a b : ByteArray} (h : ahd a b = false) : Op.bytesLess b.toList a.toList = true ∨ b = a := by
  cases e : Op.bytesLess b.toList a.toList with
  | true => exact .inl rfl
  | false => exact .inr (toList_inj (less_tri e h))
theorem ahd_empty (s : ByteArray) (h : 1 ≤ s.size) : ahd ⟨#[]⟩ s = true := by
  unfold ahd
  have e : (ByteArray.mk #[]).toList = [] := by rw [Lib.toList_data]
  rw [e, Lib.toList_data]
  match hl : s.data.toList with
  | [] =>
    have : s.size = 0 := by rw [ByteArray.size, ← Array.length_toList, hl]; rfl
    omega
  | a :: l => rfl
def sAt (l : List Ser) (j : Nat) : Ser := l.getD j default
/-- Right series. -/
def SOk (l : List Ser) : Prop := l.length ≤ 5 ∧ ∀ j, j < l.length → (KOk (sAt l j).key ∧ (0 < j → ahd (sAt l (j - 1)).key (sAt l j).key = true)) ∧ 1 ≤ (sAt l j).pts.length ∧ POk (sAt l j).pts
instance (s : ByteArray) : Decidable (KOk s) := by unfold KOk; infer_instance
instance (l : List Ser) : Decidable (SOk l) := by unfold SOk; infer_instance
theorem SOk.nil : SOk [] := ⟨by simp, fun j hj => by simp at hj⟩
end Go.Proofs.YthgiekeiljflaaaDoor
