/-
  Slices of series: what they hold, read from wherever they lie, and those of the call's own (no program in sight, no condition).
-/
import Derived.Test.YthgiekeiljflaaaDoorRows
import Derived.Test.YthgiekeiljflaaaDoorPtApp
import Derived.Test.YthgiekeiljflaaaDoorPtAid
import Derived.Test.YthgiekeiljflaaaDoorPtArg
namespace Go.Proofs.YthgiekeiljflaaaDoor
open Go.RowKit Go.PlainAid

/-- A series. -/
structure Ser where
  key : ByteArray
  pts : List Pnt
instance : Inhabited Ser := ⟨⟨⟨#[]⟩, []⟩⟩
theorem Ser.same {x y : Ser} (h1 : x.key = y.key) (h2 : x.pts = y.pts) : x = y := by
  cases x
  cases y
  simp only at h1 h2
  subst h1
  subst h2
  rfl
instance : Inhabited (Ser × Value) := ⟨⟨default, .slice none 0 0⟩⟩
/-- The cells of a series whose points lie at a slice. -/
def srC (p : Ser × Value) : List Value := [.string p.1.key, p.2]
def srR (L : List (Ser × Value)) : List (List Value) := L.map srC
theorem srR_length (L : List (Ser × Value)) : (srR L).length = L.length := by simp [srR]
theorem srR_append (L M : List (Ser × Value)) : srR (L ++ M) = srR L ++ srR M := by simp [srR]
theorem srR_sz (L : List (Ser × Value)) : ∀ r ∈ srR L, r.length = 2 := by
  intro r hr
  obtain ⟨x, _, rfl⟩ := List.mem_map.1 hr
  rfl
theorem sr_look {w : World} {B : Nat} {v : Value} {L : List (Ser × Value)} (h : Lies w B 2 v (srR L)) : ∃ A cap, v = .slice A L.length cap ∧ ∀ j, j < L.length → ∃ g off, A = some ⟨g, off, none⟩ ∧ g < B ∧
    w.cell? ⟨g, off + j * 2, none⟩ = some (.string (L.getD j default).1.key) ∧ w.cell? ⟨g, off + j * 2 + 1, none⟩ = some (L.getD j default).2 := by
  obtain ⟨A, cap, e, h⟩ := h.look
  refine ⟨A, cap, by rw [e]; simp [srR], fun j hj => ?_⟩
  rw [← getD_at L j hj]
  obtain ⟨g, off, e, hg, hc⟩ := h j (by simpa [srR] using hj)
  refine ⟨g, off, e, hg, ?_, ?_⟩
  · have := hc 0 _ (by omega) (by simp [srR, srC]; rfl); simpa [Nat.add_assoc] using this
  · have := hc 1 _ (by omega) (by simp [srR, srC]; rfl); simpa [Nat.add_assoc] using this
/-- The series that lie at a slice, each with the slice of its points. -/
def SerL (w : World) (B : Nat) (v : Value) (L : List (Ser × Value)) : Prop := Lies w B 2 v (srR L) ∧ ∀ p ∈ L, Lies w B 2 p.2 (ptR p.1.pts)
theorem SerL.on {w w' : World} {B : Nat} {v : Value} {L : List (Ser × Value)} (h : SerL w B v L) (hb : Below B w w') : SerL w' B v L := ⟨h.1.on hb, fun p hp => (h.2 p hp).on hb⟩
theorem SerL.mono {w : World} {B C : Nat} {v : Value} {L : List (Ser × Value)} (h : SerL w B v L) (hB : B ≤ C) : SerL w C v L := ⟨h.1.mono hB, fun p hp => (h.2 p hp).mono hB⟩
theorem SerL.heap {w w' : World} {B : Nat} {v : Value} {L : List (Ser × Value)} (h : SerL w B v L) (hh : w'.heap = w.heap) : SerL w' B v L := ⟨h.1.heap hh, fun p hp => (h.2 p hp).heap hh⟩
/-- The series that lie at a slice. -/
def SerV (w : World) (B : Nat) (v : Value) (l : List Ser) : Prop := ∃ L : List (Ser × Value), L.map Prod.fst = l ∧ SerL w B v L
theorem SerV.on {w w' : World} {B : Nat} {v : Value} {l : List Ser} (h : SerV w B v l) (hb : Below B w w') : SerV w' B v l := h.imp fun _ h => ⟨h.1, h.2.on hb⟩
theorem SerV.mono {w : World} {B C : Nat} {v : Value} {l : List Ser} (h : SerV w B v l) (hB : B ≤ C) : SerV w C v l := h.imp fun _ h => ⟨h.1, h.2.mono hB⟩
theorem SerV.heap {w w' : World} {B : Nat} {v : Value} {l : List Ser} (h : SerV w B v l) (hh : w'.heap = w.heap) : SerV w' B v l := h.imp fun _ h => ⟨h.1, h.2.heap hh⟩
/-- Each of them: its cells, and its points. -/
theorem SerV.look {w : World} {B : Nat} {v : Value} {l : List Ser} (h : SerV w B v l) : ∃ A cap, v = .slice A l.length cap ∧ ∀ j, j < l.length → ∃ g off u, A = some ⟨g, off, none⟩ ∧ g < B ∧
    w.cell? ⟨g, off + j * 2, none⟩ = some (.string (l.getD j default).key) ∧ w.cell? ⟨g, off + j * 2 + 1, none⟩ = some u ∧ Lies w B 2 u (ptR (l.getD j default).pts) := by
  obtain ⟨L, rfl, h, hp⟩ := h
  obtain ⟨A, cap, e, hl⟩ := sr_look h
  refine ⟨A, cap, by rw [e]; simp, fun j hj => ?_⟩
  have hj' : j < L.length := by simpa using hj
  obtain ⟨g, off, e, hg, h1, h2⟩ := hl j hj'
  have hd : (L.map Prod.fst).getD j default = (L.getD j default).1 := by rw [← getD_at _ j hj, ← getD_at _ j hj', List.getElem_map]
  rw [hd]
  exact ⟨g, off, _, e, hg, h1, h2, hp _ (getD_mem L j hj')⟩
/-- The series of the call's own: the slice, and the points of each apart from the others'. -/
def SerO (w : World) (base : Nat) (v : Value) (L : List (Ser × Value)) : Prop := Owns w base 36 2 v (srR L) ∧ (∀ p ∈ L, Owns w base 39 2 p.2 (ptR p.1.pts)) ∧ L.Pairwise fun p q => Apart p.2 q.2
theorem SerO.lies {w : World} {base : Nat} {v : Value} {L : List (Ser × Value)} (h : SerO w base v L) : SerL w w.heap.size v L := ⟨h.1.lies, fun p hp => (h.2.1 p hp).lies⟩
theorem SerO.view {w : World} {base : Nat} {v : Value} {L : List (Ser × Value)} (h : SerO w base v L) : SerV w w.heap.size v (L.map Prod.fst) := ⟨L, rfl, h.lies⟩
theorem SerO.on {w w' : World} {base : Nat} {v : Value} {L : List (Ser × Value)} (h : SerO w base v L) (hb : Below w.heap.size w w') : SerO w' base v L := ⟨h.1.on hb, fun p hp => (h.2.1 p hp).on hb, h.2.2⟩
theorem SerO.mono {w : World} {base base' : Nat} {v : Value} {L : List (Ser × Value)} (h : SerO w base v L) (hb : base' ≤ base) : SerO w base' v L := ⟨h.1.mono hb, fun p hp => (h.2.1 p hp).mono hb, h.2.2⟩
/-- Rows of two types share no block. -/
theorem Owns.apartT {w : World} {b b' : Nat} {e e' : TypeId} {sz sz' : Nat} {u v : Value} {r r' : List (List Value)} (h : Owns w b e sz u r) (h' : Owns w b' e' sz' v r') (hne : e ≠ e') : Apart u v := fun g h1 h2 => by
  rcases h.2.2 with ⟨rfl, _⟩ | ⟨g1, c1, cur1, rfl, _, k1, _⟩
  · cases h1
  rcases h'.2.2 with ⟨rfl, _⟩ | ⟨g2, c2, cur2, rfl, _, k2, _⟩
  · cases h2
  cases h1
  cases h2
  rw [k1] at k2
  cases k2
  exact hne rfl
/-- A row of noughts. -/
def srZ : List Value := [.string ⟨#[]⟩, .slice none 0 0]
theorem sr_one (L : List (Ser × Value)) (h : ∀ p ∈ L, p.2.oneCell' = true) : ∀ r ∈ srR L, ∀ y ∈ r, y.oneCell' = true := by
  intro r hr y hy
  obtain ⟨x, hx, rfl⟩ := List.mem_map.1 hr
  simp only [srC, List.mem_cons, List.not_mem_nil, or_false] at hy
  rcases hy with rfl | rfl
  · rfl
  · exact h x hx
theorem Owns.oneCell {w : World} {b : Nat} {e : TypeId} {sz : Nat} {u : Value} {r : List (List Value)} (h : Owns w b e sz u r) : u.oneCell' = true := by
  obtain ⟨A, m, c, rfl⟩ := h.shape
  rfl
/-- The value of one. -/
def vSr (k : ByteArray) (u : Value) : Value := .agg #[.string k, u]
end Go.Proofs.YthgiekeiljflaaaDoor
