/-
  Rows of steps.
-/
import Derived.Test.YtcghclaobodgjaaDoorWkEq
namespace Go.Proofs.YtcghclaobodgjaaDoor
open Go.ChangeShapes Go.WideShapes Go.ChangeAt Go.RowKit Go.PlainAid
set_option linter.unusedVariables false

/-- One step. -/
structure Stp where
  kind : Int
  name : ByteArray
  dest : ByteArray
  data : ByteArray
deriving Inhabited
def stpC (x : Stp) : List Value := [.int .i64 x.kind, .string x.name, .string x.dest, .string x.data]
def stpR (l : List Stp) : List (List Value) := l.map stpC
theorem stpR_snoc (l : List Stp) (k : Nat) (h : k < l.length) : stpR (l.take (k + 1)) = stpR (l.take k) ++ [stpC (l.getD k default)] := by
  unfold stpR
  rw [take_getD l k h, List.map_append]
  rfl
theorem stpR_length (l : List Stp) : (stpR l).length = l.length := by simp [stpR]
theorem stpR_sz (l : List Stp) : ∀ r ∈ stpR l, r.length = 4 := by
  intro r hr
  obtain ⟨x, _, rfl⟩ := List.mem_map.1 hr
  rfl
theorem stpR_append (l m : List Stp) : stpR (l ++ m) = stpR l ++ stpR m := by simp [stpR]
theorem stp_look {w : World} {B : Nat} {v : Value} {l : List Stp} (h : Lies w B 4 v (stpR l)) : ∃ A cap, v = .slice A l.length cap ∧ ∀ j, j < l.length → ∃ g off, A = some ⟨g, off, none⟩ ∧ g < B ∧
    w.cell? ⟨g, off + j * 4, none⟩ = some (.int .i64 (l.getD j default).kind) ∧ w.cell? ⟨g, off + j * 4 + 1, none⟩ = some (.string (l.getD j default).name) ∧ w.cell? ⟨g, off + j * 4 + 2, none⟩ = some (.string (l.getD j default).dest) ∧ w.cell? ⟨g, off + j * 4 + 3, none⟩ = some (.string (l.getD j default).data) := by
  obtain ⟨A, cap, e, h⟩ := h.look
  refine ⟨A, cap, by rw [e]; simp [stpR], fun j hj => ?_⟩
  rw [← getD_at l j hj]
  obtain ⟨g, off, e, hg, hc⟩ := h j (by simpa [stpR] using hj)
  refine ⟨g, off, e, hg, ?_, ?_, ?_, ?_⟩
  · have := hc 0 _ (by omega) (by simp [stpR, stpC]; rfl); simpa [Nat.add_assoc] using this
  · have := hc 1 _ (by omega) (by simp [stpR, stpC]; rfl); simpa [Nat.add_assoc] using this
  · have := hc 2 _ (by omega) (by simp [stpR, stpC]; rfl); simpa [Nat.add_assoc] using this
  · have := hc 3 _ (by omega) (by simp [stpR, stpC]; rfl); simpa [Nat.add_assoc] using this
/-- The value of one. -/
def vStp (x : Stp) : Value := .agg #[.int .i64 x.kind, .string x.name, .string x.dest, .string x.data]
end Go.Proofs.YtcghclaobodgjaaDoor
