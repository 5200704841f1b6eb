/-
  Slices of structs as rows of cells: what they hold, read from wherever they lie, and those of the call's own (no program in sight, no condition).
-/
import Derived.Test.YtaaefceknjhloaaAid
import Derived.WalkKit
import Derived.ProofKit
import Derived.Laws.OwnMore
import Derived.Below
import Derived.OwnWalk
import Derived.WalkSmall
namespace Go.Proofs.Ytaaefceknjhloaa
open Go.RowKit Go.PlainAid

/-- A point. -/
structure Pnt where
  t : Int
  v : Int
instance : Inhabited Pnt := ⟨⟨0, 0⟩⟩
theorem Pnt.same {x y : Pnt} (h1 : x.t = y.t) (h2 : x.v = y.v) : x = y := by
  cases x
  cases y
  simp only at h1 h2
  subst h1
  subst h2
  rfl

/-- The slice v holds rows of sz cells each, in a block below B. -/
def Lies (w : World) (B sz : Nat) (v : Value) (rows : List (List Value)) : Prop :=
  ∃ A cap, v = .slice A rows.length cap ∧ ((A = none → cap = 0) ∧ rows.length ≤ cap) ∧ (∀ r ∈ rows, r.length = sz) ∧ (rows.length = 0 ∨ ∃ g off, A = some ⟨g, off, none⟩ ∧ g < B ∧ ∀ k x, rows.flatten[k]? = some x → w.cell? ⟨g, off + k, none⟩ = some x)
theorem Lies.on {w w' : World} {B sz : Nat} {v : Value} {rows : List (List Value)} (h : Lies w B sz v rows) (hb : Below B w w') : Lies w' B sz v rows := by
  obtain ⟨A, cap, e, hz, hs, h⟩ := h
  refine ⟨A, cap, e, hz, hs, h.imp id ?_⟩
  rintro ⟨g, off, rfl, hg, hc⟩
  refine ⟨g, off, rfl, hg, fun k x hx => ?_⟩
  rw [← hc k x hx]
  exact World.cell?_of_block (w := w) (hb.block g hg)
theorem Lies.heap {w w' : World} {B sz : Nat} {v : Value} {rows : List (List Value)} (h : Lies w B sz v rows) (hh : w'.heap = w.heap) : Lies w' B sz v rows := by
  obtain ⟨A, cap, e, hz, hs, h⟩ := h
  refine ⟨A, cap, e, hz, hs, h.imp id ?_⟩
  rintro ⟨g, off, rfl, hg, hc⟩
  refine ⟨g, off, rfl, hg, fun k x hx => ?_⟩
  rw [← hc k x hx]
  exact World.cell?_of_block (w := w) (by rw [hh])
theorem Lies.mono {w : World} {B C sz : Nat} {v : Value} {rows : List (List Value)} (h : Lies w B sz v rows) (hB : B ≤ C) : Lies w C sz v rows := by
  obtain ⟨A, cap, e, hz, hs, h⟩ := h
  refine ⟨A, cap, e, hz, hs, h.imp id ?_⟩
  rintro ⟨g, off, rfl, hg, hc⟩
  exact ⟨g, off, rfl, by omega, hc⟩
theorem flat_at (sz : Nat) : ∀ (rows : List (List Value)), (∀ r ∈ rows, r.length = sz) → ∀ (j f : Nat) (hj : j < rows.length), f < sz → rows.flatten[j * sz + f]? = (rows[j])[f]?
  | [], _, j, f, hj, _ => by simp at hj
  | r :: rs, hs, 0, f, _, hf => by
    have := hs r (by simp)
    simp only [List.flatten_cons, Nat.zero_mul, Nat.zero_add, List.getElem_cons_zero]
    rw [List.getElem?_append_left (by omega)]
  | r :: rs, hs, j + 1, f, hj, hf => by
    have hr := hs r (by simp)
    have ih := flat_at sz rs (fun r hr => hs r (by simp [hr])) j f (by simp at hj; omega) hf
    simp only [List.flatten_cons, List.getElem_cons_succ]
    rw [List.getElem?_append_right (by rw [hr, Nat.succ_mul]; omega), ← ih, hr]
    congr 1
    rw [Nat.succ_mul]
    omega
theorem flat_length (sz : Nat) (rows : List (List Value)) (hs : ∀ r ∈ rows, r.length = sz) : rows.flatten.length = rows.length * sz := by
  induction rows with
  | nil => simp
  | cons r rs ih =>
    rw [List.flatten_cons, List.length_append, ih (fun r hr => hs r (by simp [hr])), hs r (by simp), List.length_cons, Nat.succ_mul]
    omega
theorem Lies.look {w : World} {B sz : Nat} {v : Value} {rows : List (List Value)} (h : Lies w B sz v rows) : ∃ A cap, v = .slice A rows.length cap ∧ ∀ j (hj : j < rows.length), ∃ g off, A = some ⟨g, off, none⟩ ∧ g < B ∧ ∀ f x, f < sz → (rows[j])[f]? = some x → w.cell? ⟨g, off + (j * sz + f), none⟩ = some x := by
  obtain ⟨A, cap, rfl, _, hs, h⟩ := h
  refine ⟨A, cap, rfl, fun j hj => ?_⟩
  rcases h with h | ⟨g, off, rfl, hg, hc⟩
  · omega
  · exact ⟨g, off, rfl, hg, fun f x hf hx => hc _ x (by rw [flat_at sz rows hs j f hj hf]; exact hx)⟩

theorem Lies.room {w : World} {B sz : Nat} {A : Option Addr} {n c : Nat} {rows : List (List Value)} (h : Lies w B sz (.slice A n c) rows) : n = rows.length ∧ n ≤ c := by
  obtain ⟨A', c', e, hz, _⟩ := h
  cases e
  exact ⟨rfl, hz.2⟩
/-- The first k of a slice. -/
theorem Lies.first {w : World} {B sz : Nat} {A : Option Addr} {n c : Nat} {rows : List (List Value)} (h : Lies w B sz (.slice A n c) rows) (k : Nat) (hk : k ≤ rows.length) : Lies w B sz (.slice A k c) (rows.take k) := by
  obtain ⟨A', c', e, hz, hs, h⟩ := h
  cases e
  have hl : (rows.take k).length = k := by rw [List.length_take]; omega
  refine ⟨A, c, by rw [hl], ⟨hz.1, by rw [hl]; exact Nat.le_trans hk hz.2⟩, fun r hr => hs r (List.mem_of_mem_take hr), ?_⟩
  rw [hl]
  rcases h with h | ⟨g, off, rfl, hg, hc⟩
  · exact .inl (by omega)
  · refine .inr ⟨g, off, rfl, hg, fun j x hx => hc j x ?_⟩
    rw [← List.take_append_drop k rows, List.flatten_append, List.getElem?_append_left ((List.getElem?_eq_some_iff.1 hx).1)]
    exact hx

/-- The slice v is the call's own (its block is base or behind it), of elements of type e, and holds rows of sz cells. -/
def Owns (w : World) (base : Nat) (e : TypeId) (sz : Nat) (v : Value) (rows : List (List Value)) : Prop := (∀ r ∈ rows, r.length = sz) ∧ w.ownsRow base e sz v rows.length rows.flatten
theorem Owns.lt {w : World} {base : Nat} {e : TypeId} {sz : Nat} {v : Value} {rows : List (List Value)} (h : Owns w base e sz v rows) : ∀ k, v.ownBlock = some k → base ≤ k ∧ k < w.heap.size := World.ownsRow.lt h.2
theorem Owns.lies {w : World} {base : Nat} {e : TypeId} {sz : Nat} {v : Value} {rows : List (List Value)} (h : Owns w base e sz v rows) : Lies w w.heap.size sz v rows := by
  have hlt := h.lt
  have hc := fun g hg => World.ownsRow.cells h.2 (g := g) hg
  rcases h.2.2 with ⟨rfl, h0⟩ | ⟨g, cap, cur, rfl, _, _, hcap, _⟩
  · exact ⟨none, 0, by rw [h0], ⟨fun _ => rfl, by omega⟩, h.1, .inl h0⟩
  · refine ⟨_, cap, rfl, ⟨fun e => (by cases e), hcap⟩, h.1, .inr ⟨g, 0, rfl, (hlt g rfl).2, fun k x hx => ?_⟩⟩
    have e : (⟨g, 0, none⟩ : Addr).add k = ⟨g, 0 + k, none⟩ := by cases k <;> simp [Addr.add]
    rw [← e]
    exact hc g rfl k x hx
theorem Owns.kept {w w' : World} {base : Nat} {e : TypeId} {sz : Nat} {v : Value} {rows : List (List Value)} (h : Owns w base e sz v rows) (hk : ∀ g, g < w.heap.size → v.ownBlock = some g → w'.heap[g]? = w.heap[g]?) : Owns w' base e sz v rows := by
  have hl := h.lt
  refine ⟨h.1, h.2.1, h.2.2.imp id ?_⟩
  rintro ⟨g, cap, cur, rfl, hg, hh, r⟩
  refine ⟨g, cap, cur, rfl, hg, ?_, r⟩
  rw [hk g (hl g rfl).2 rfl]
  exact hh
theorem Owns.on {w w' : World} {base : Nat} {e : TypeId} {sz : Nat} {v : Value} {rows : List (List Value)} (h : Owns w base e sz v rows) (hb : Below w.heap.size w w') : Owns w' base e sz v rows := h.kept fun g hg _ => hb.block g hg
theorem Owns.heap {w w' : World} {base : Nat} {e : TypeId} {sz : Nat} {v : Value} {rows : List (List Value)} (h : Owns w base e sz v rows) (hh : w'.heap = w.heap) : Owns w' base e sz v rows := h.kept fun g _ _ => by rw [hh]
theorem Owns.mono {w : World} {base base' : Nat} {e : TypeId} {sz : Nat} {v : Value} {rows : List (List Value)} (h : Owns w base e sz v rows) (hb : base' ≤ base) : Owns w base' e sz v rows :=
  ⟨h.1, h.2.1, h.2.2.imp id fun ⟨g, cap, cur, e, hg, r⟩ => ⟨g, cap, cur, e, Nat.le_trans hb hg, r⟩⟩

/-! ### Points -/
theorem getD_mem {α : Type} [Inhabited α] (l : List α) (j : Nat) (h : j < l.length) : l.getD j default ∈ l := by
  rw [List.getD_eq_getElem?_getD, List.getElem?_eq_getElem h]
  exact List.getElem_mem h
theorem getD_at {α : Type} [Inhabited α] (l : List α) (j : Nat) (h : j < l.length) : l[j] = l.getD j default := by
  rw [List.getD_eq_getElem?_getD, List.getElem?_eq_getElem h]
  rfl
theorem take_getD {α : Type} [Inhabited α] (l : List α) (j : Nat) (h : j < l.length) : l.take (j + 1) = l.take j ++ [l.getD j default] := by
  rw [List.take_add_one, List.getElem?_eq_getElem h, ← getD_at l j h]
  rfl
def ptC (x : Pnt) : List Value := [.int .i64 x.t, .int .i64 x.v]
def ptR (l : List Pnt) : List (List Value) := l.map ptC
theorem ptR_snoc (l : List Pnt) (k : Nat) (h : k < l.length) : ptR (l.take (k + 1)) = ptR (l.take k) ++ [ptC (l.getD k default)] := by
  unfold ptR
  rw [take_getD l k h, List.map_append]
  rfl
theorem ptR_length (l : List Pnt) : (ptR l).length = l.length := by simp [ptR]
theorem ptR_sz (l : List Pnt) : ∀ r ∈ ptR l, r.length = 2 := by
  intro r hr
  obtain ⟨x, _, rfl⟩ := List.mem_map.1 hr
  rfl
theorem ptR_append (l m : List Pnt) : ptR (l ++ m) = ptR l ++ ptR m := by simp [ptR]
theorem pt_look {w : World} {B : Nat} {v : Value} {l : List Pnt} (h : Lies w B 2 v (ptR l)) : ∃ A cap, v = .slice A l.length cap ∧ ∀ j, j < l.length → ∃ g off, A = some ⟨g, off, none⟩ ∧ g < B ∧
    w.cell? ⟨g, off + j * 2, none⟩ = some (.int .i64 (l.getD j default).t) ∧ w.cell? ⟨g, off + j * 2 + 1, none⟩ = some (.int .i64 (l.getD j default).v) := by
  obtain ⟨A, cap, e, h⟩ := h.look
  refine ⟨A, cap, by rw [e]; simp [ptR], fun j hj => ?_⟩
  rw [← getD_at l j hj]
  obtain ⟨g, off, e, hg, hc⟩ := h j (by simpa [ptR] using hj)
  refine ⟨g, off, e, hg, ?_, ?_⟩
  · have := hc 0 _ (by omega) (by simp [ptR, ptC]; rfl); simpa [Nat.add_assoc] using this
  · have := hc 1 _ (by omega) (by simp [ptR, ptC]; rfl); simpa [Nat.add_assoc] using this
/-- A slice behind its first k. -/
theorem Lies.behind {w : World} {B sz g off n c : Nat} {rows : List (List Value)} (h : Lies w B sz (.slice (some ⟨g, off, none⟩) n c) rows) (k : Nat) (hk : k ≤ rows.length) : Lies w B sz (.slice (some ⟨g, off + k * sz, none⟩) (n - k) (c - k)) (rows.drop k) := by
  obtain ⟨A', c', e, hz, hs, h⟩ := h
  cases e
  have hl : (rows.drop k).length = rows.length - k := List.length_drop
  refine ⟨_, c - k, by rw [hl], ⟨fun e => (by cases e), by rw [hl]; have := hz.2; omega⟩, fun r hr => hs r (List.mem_of_mem_drop hr), ?_⟩
  rw [hl]
  rcases h with h | ⟨g', off', e, hg, hc⟩
  · exact .inl (by omega)
  · cases e
    refine .inr ⟨g, off + k * sz, rfl, hg, fun j x hx => ?_⟩
    have hl2 : (rows.take k).flatten.length = k * sz := by rw [flat_length sz _ (fun r hr => hs r (List.mem_of_mem_take hr)), List.length_take, Nat.min_eq_left hk]
    have := hc (k * sz + j) x (by
      rw [← List.take_append_drop k rows, List.flatten_append, List.getElem?_append_right (by omega), hl2, Nat.add_sub_cancel_left]
      exact hx)
    rw [← Nat.add_assoc] at this
    exact this
/-- The value of one. -/
def vPt (x : Pnt) : Value := .agg #[.int .i64 x.t, .int .i64 x.v]
theorem pt_ext {l m : List Pnt} (h : l.length = m.length) (hj : ∀ j, j < l.length → l.getD j default = m.getD j default) : l = m := by
  apply List.ext_getElem h
  intro j h1 h2
  have := hj j h1
  rwa [← getD_at l j h1, ← getD_at m j h2] at this
end Go.Proofs.Ytaaefceknjhloaa
