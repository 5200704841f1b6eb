/-
  Slices of parts: what they hold, read from wherever they lie, and those of the call's own (no program in sight, no condition).
-/
import Derived.Test.YtfkgaoegdnkfcaaRows
import Derived.Test.YtfkgaoegdnkfcaaPtApp
import Derived.Test.YtfkgaoegdnkfcaaPtAid
import Derived.Test.YtfkgaoegdnkfcaaPtArg
namespace Go.Proofs.Ytfkgaoegdnkfcaa
open Go.RowKit Go.PlainAid

/-- A parts. -/
structure Prt where
  num : Int
  pts : List Pnt
instance : Inhabited Prt := ⟨⟨0, []⟩⟩
theorem Prt.same {x y : Prt} (h1 : x.num = y.num) (h2 : x.pts = y.pts) : x = y := by
  cases x
  cases y
  simp only at h1 h2
  subst h1
  subst h2
  rfl
instance : Inhabited (Prt × Value) := ⟨⟨default, .slice none 0 0⟩⟩
/-- The cells of a parts whose points lie at a slice. -/
def prC (p : Prt × Value) : List Value := [.int .i64 p.1.num, p.2]
def prR (L : List (Prt × Value)) : List (List Value) := L.map prC
theorem prR_length (L : List (Prt × Value)) : (prR L).length = L.length := by simp [prR]
theorem prR_append (L M : List (Prt × Value)) : prR (L ++ M) = prR L ++ prR M := by simp [prR]
theorem prR_sz (L : List (Prt × Value)) : ∀ r ∈ prR L, r.length = 2 := by
  intro r hr
  obtain ⟨x, _, rfl⟩ := List.mem_map.1 hr
  rfl
theorem pr_look {w : World} {B : Nat} {v : Value} {L : List (Prt × Value)} (h : Lies w B 2 v (prR L)) : ∃ A cap, v = .slice A L.length cap ∧ ∀ j, j < L.length → ∃ g off, A = some ⟨g, off, none⟩ ∧ g < B ∧
    w.cell? ⟨g, off + j * 2, none⟩ = some (.int .i64 (L.getD j default).1.num) ∧ w.cell? ⟨g, off + j * 2 + 1, none⟩ = some (L.getD j default).2 := by
  obtain ⟨A, cap, e, h⟩ := h.look
  refine ⟨A, cap, by rw [e]; simp [prR], fun j hj => ?_⟩
  rw [← getD_at L j hj]
  obtain ⟨g, off, e, hg, hc⟩ := h j (by simpa [prR] using hj)
  refine ⟨g, off, e, hg, ?_, ?_⟩
  · have := hc 0 _ (by omega) (by simp [prR, prC]; rfl); simpa [Nat.add_assoc] using this
  · have := hc 1 _ (by omega) (by simp [prR, prC]; rfl); simpa [Nat.add_assoc] using this
/-- The parts that lie at a slice, each with the slice of its points. -/
def PrtL (w : World) (B : Nat) (v : Value) (L : List (Prt × Value)) : Prop := Lies w B 2 v (prR L) ∧ ∀ p ∈ L, Lies w B 2 p.2 (ptR p.1.pts)
theorem PrtL.on {w w' : World} {B : Nat} {v : Value} {L : List (Prt × Value)} (h : PrtL w B v L) (hb : Below B w w') : PrtL w' B v L := ⟨h.1.on hb, fun p hp => (h.2 p hp).on hb⟩
theorem PrtL.mono {w : World} {B C : Nat} {v : Value} {L : List (Prt × Value)} (h : PrtL w B v L) (hB : B ≤ C) : PrtL w C v L := ⟨h.1.mono hB, fun p hp => (h.2 p hp).mono hB⟩
theorem PrtL.heap {w w' : World} {B : Nat} {v : Value} {L : List (Prt × Value)} (h : PrtL w B v L) (hh : w'.heap = w.heap) : PrtL w' B v L := ⟨h.1.heap hh, fun p hp => (h.2 p hp).heap hh⟩
/-- The parts that lie at a slice. -/
def PrtV (w : World) (B : Nat) (v : Value) (l : List Prt) : Prop := ∃ L : List (Prt × Value), L.map Prod.fst = l ∧ PrtL w B v L
theorem PrtV.on {w w' : World} {B : Nat} {v : Value} {l : List Prt} (h : PrtV w B v l) (hb : Below B w w') : PrtV w' B v l := h.imp fun _ h => ⟨h.1, h.2.on hb⟩
theorem PrtV.mono {w : World} {B C : Nat} {v : Value} {l : List Prt} (h : PrtV w B v l) (hB : B ≤ C) : PrtV w C v l := h.imp fun _ h => ⟨h.1, h.2.mono hB⟩
theorem PrtV.heap {w w' : World} {B : Nat} {v : Value} {l : List Prt} (h : PrtV w B v l) (hh : w'.heap = w.heap) : PrtV w' B v l := h.imp fun _ h => ⟨h.1, h.2.heap hh⟩
/-- Each of them: its cells, and its points. -/
theorem PrtV.look {w : World} {B : Nat} {v : Value} {l : List Prt} (h : PrtV w B v l) : ∃ A cap, v = .slice A l.length cap ∧ ∀ j, j < l.length → ∃ g off u, A = some ⟨g, off, none⟩ ∧ g < B ∧
    w.cell? ⟨g, off + j * 2, none⟩ = some (.int .i64 (l.getD j default).num) ∧ w.cell? ⟨g, off + j * 2 + 1, none⟩ = some u ∧ Lies w B 2 u (ptR (l.getD j default).pts) := by
  obtain ⟨L, rfl, h, hp⟩ := h
  obtain ⟨A, cap, e, hl⟩ := pr_look h
  refine ⟨A, cap, by rw [e]; simp, fun j hj => ?_⟩
  have hj' : j < L.length := by simpa using hj
  obtain ⟨g, off, e, hg, h1, h2⟩ := hl j hj'
  have hd : (L.map Prod.fst).getD j default = (L.getD j default).1 := by rw [← getD_at _ j hj, ← getD_at _ j hj', List.getElem_map]
  rw [hd]
  exact ⟨g, off, _, e, hg, h1, h2, hp _ (getD_mem L j hj')⟩
/-- The parts of the call's own: the slice, and the points of each apart from the others'. -/
def PrtO (w : World) (base : Nat) (v : Value) (L : List (Prt × Value)) : Prop := Owns w base 30 2 v (prR L) ∧ (∀ p ∈ L, Owns w base 33 2 p.2 (ptR p.1.pts)) ∧ L.Pairwise fun p q => Apart p.2 q.2
theorem PrtO.lies {w : World} {base : Nat} {v : Value} {L : List (Prt × Value)} (h : PrtO w base v L) : PrtL w w.heap.size v L := ⟨h.1.lies, fun p hp => (h.2.1 p hp).lies⟩
theorem PrtO.view {w : World} {base : Nat} {v : Value} {L : List (Prt × Value)} (h : PrtO w base v L) : PrtV w w.heap.size v (L.map Prod.fst) := ⟨L, rfl, h.lies⟩
theorem PrtO.on {w w' : World} {base : Nat} {v : Value} {L : List (Prt × Value)} (h : PrtO w base v L) (hb : Below w.heap.size w w') : PrtO w' base v L := ⟨h.1.on hb, fun p hp => (h.2.1 p hp).on hb, h.2.2⟩
theorem PrtO.mono {w : World} {base base' : Nat} {v : Value} {L : List (Prt × Value)} (h : PrtO w base v L) (hb : base' ≤ base) : PrtO w base' v L := ⟨h.1.mono hb, fun p hp => (h.2.1 p hp).mono hb, h.2.2⟩
/-- Rows of two types share no block. -/
theorem Owns.apartT {w : World} {b b' : Nat} {e e' : TypeId} {sz sz' : Nat} {u v : Value} {r r' : List (List Value)} (h : Owns w b e sz u r) (h' : Owns w b' e' sz' v r') (hne : e ≠ e') : Apart u v := fun g h1 h2 => by
  rcases h.2.2 with ⟨rfl, _⟩ | ⟨g1, c1, cur1, rfl, _, k1, _⟩
  · cases h1
  rcases h'.2.2 with ⟨rfl, _⟩ | ⟨g2, c2, cur2, rfl, _, k2, _⟩
  · cases h2
  cases h1
  cases h2
  rw [k1] at k2
  cases k2
  exact hne rfl
/-- A row of noughts. -/
def prZ : List Value := [.int .i64 0, .slice none 0 0]
theorem pr_one (L : List (Prt × Value)) (h : ∀ p ∈ L, p.2.oneCell' = true) : ∀ r ∈ prR L, ∀ y ∈ r, y.oneCell' = true := by
  intro r hr y hy
  obtain ⟨x, hx, rfl⟩ := List.mem_map.1 hr
  simp only [prC, List.mem_cons, List.not_mem_nil, or_false] at hy
  rcases hy with rfl | rfl
  · rfl
  · exact h x hx
theorem Owns.oneCell {w : World} {b : Nat} {e : TypeId} {sz : Nat} {u : Value} {r : List (List Value)} (h : Owns w b e sz u r) : u.oneCell' = true := by
  obtain ⟨A, m, c, rfl⟩ := h.shape
  rfl
/-- The value of one. -/
def vPr (k : Int) (u : Value) : Value := .agg #[.int .i64 k, u]
end Go.Proofs.Ytfkgaoegdnkfcaa
