/-
  Blocks that change alone, and rows of spots (no program in sight, no condition).
-/
import Derived.Test.YthgiekeiljflaaaDoorRows
import Derived.Test.YthgiekeiljflaaaDoorFlMath
import Derived.Test.YthgiekeiljflaaaDoorPtApp
import Derived.WalkKit
import Derived.ProofKit
import Derived.OpenShut
import Derived.Below
import Derived.WalkSmall
import Derived.BigQuiet
import Derived.Deep.QuietTactic
import Derived.Deep.RegionWith
import Derived.Handy
namespace Go.Proofs.YthgiekeiljflaaaDoor
open Go.ChangeShapes Go.WideShapes Go.ChangeAt Go.RowKit Go.PlainAid
set_option linter.unusedVariables false

/-- All but one block is as it was. -/
def KeptBut (g : Nat) (w w' : World) : Prop := Below g w w' ∧ ∀ b, b ≠ g → b < w.heap.size → w'.heap[b]? = w.heap[b]?
theorem KeptBut.of {g : Nat} {w w' : World} (h : Below w.heap.size w w') (hg : g < w.heap.size) : KeptBut g w w' := ⟨h.mono (Nat.le_of_lt hg), fun b _ hb => h.block b hb⟩
theorem KeptBut.refl (g : Nat) (w : World) : KeptBut g w w := ⟨Below.refl _ _, fun _ _ _ => rfl⟩
theorem KeptBut.trans {g : Nat} {w w' w'' : World} (h : KeptBut g w w') (h' : KeptBut g w' w'') : KeptBut g w w'' := ⟨h.1.trans h'.1, fun b hb hl => by rw [h'.2 b hb (Nat.lt_of_lt_of_le hl h.1.size), h.2 b hb hl]⟩
theorem KeptBut.set {g : Nat} {w w' : World} (h : KeptBut g w w') (i : Nat) (x : Value) : KeptBut g w (w'.setCell ⟨g, i, none⟩ x) := ⟨h.1.setCell (Nat.le_refl _) _, fun b hb hl => by rw [Below.heap_setCell _ _ _ _ hb]; exact h.2 b hb hl⟩
theorem KeptBut.setNew {g k : Nat} {w w' : World} (h : KeptBut g w w') (hk : w.heap.size ≤ k) (hg : g ≤ k) (i : Nat) (x : Value) : KeptBut g w (w'.setCell ⟨k, i, none⟩ x) := ⟨h.1.setCell hg _, fun b hb hl => by rw [Below.heap_setCell _ _ _ _ (show b ≠ k by omega)]; exact h.2 b hb hl⟩
theorem KeptBut.drew {g : Nat} {w w' : World} (h : KeptBut g w w') : KeptBut g w w'.drew := ⟨h.1.drew, h.2⟩
theorem KeptBut.size {g : Nat} {w w' : World} (h : KeptBut g w w') : w.heap.size ≤ w'.heap.size := h.1.size
theorem KeptBut.owns {g : Nat} {w w' : World} {base : Nat} {e : TypeId} {sz : Nat} {v : Value} {rows : List (List Value)} (h : KeptBut g w w') (ho : Owns w base e sz v rows) (hne : v.ownBlock ≠ some g) : Owns w' base e sz v rows := ho.kept fun k hk hv => h.2 k (fun e => hne (by rw [hv, e])) hk
theorem KeptBut.blk {g b : Nat} {w w' : World} {cs : Array Value} {t : TypeId} (h : KeptBut g w w') (hb : Blk w b cs t) (hne : b ≠ g) : Blk w' b cs t := (h.2 b hne hb.lt).trans hb
theorem Owns.notBlk {w : World} {base : Nat} {e t : TypeId} {sz g : Nat} {cs : Array Value} {v : Value} {rows : List (List Value)} (h : Owns w base e sz v rows) (hb : Blk w g cs t) (hne : e ≠ t) : v.ownBlock ≠ some g := fun hv => by
  rcases h.2.2 with ⟨rfl, _⟩ | ⟨g1, c1, cur1, rfl, _, k1, _⟩
  · cases hv
  · cases hv
    rw [hb] at k1
    cases k1
    exact hne rfl
/-- The cells of a spot. -/
def spC (x : Spot) : List Value := [.string x.key, .int .i64 (x.at' : Int), .int .i64 (x.size : Int), .int .i64 (x.first : Int), .int .i64 (x.last : Int)]
def spR (l : List Spot) : List (List Value) := l.map spC
theorem spR_length (l : List Spot) : (spR l).length = l.length := by simp [spR]
theorem spR_append (l m : List Spot) : spR (l ++ m) = spR l ++ spR m := by simp [spR]
theorem sp_one (x : Spot) : ∀ u ∈ spC x, u.oneCell' = true := by
  intro u hu
  simp only [spC, List.mem_cons, List.not_mem_nil, or_false] at hu
  rcases hu with rfl | rfl | rfl | rfl | rfl <;> rfl
theorem sp_look {w : World} {B : Nat} {v : Value} {l : List Spot} (h : Lies w B 5 v (spR l)) : ∃ A cap, v = .slice A l.length cap ∧ ∀ j, j < l.length → ∃ g off, A = some ⟨g, off, none⟩ ∧ g < B ∧
    w.cell? ⟨g, off + j * 5, none⟩ = some (.string (l.getD j default).key) ∧ w.cell? ⟨g, off + j * 5 + 1, none⟩ = some (.int .i64 ((l.getD j default).at' : Int)) ∧ w.cell? ⟨g, off + j * 5 + 2, none⟩ = some (.int .i64 ((l.getD j default).size : Int)) ∧
    w.cell? ⟨g, off + j * 5 + 3, none⟩ = some (.int .i64 ((l.getD j default).first : Int)) ∧ w.cell? ⟨g, off + j * 5 + 4, none⟩ = some (.int .i64 ((l.getD j default).last : Int)) := by
  obtain ⟨A, cap, e, h⟩ := h.look
  refine ⟨A, cap, by rw [e]; simp [spR], fun j hj => ?_⟩
  rw [← getD_at l j hj]
  obtain ⟨g, off, e, hg, hc⟩ := h j (by simpa [spR] using hj)
  refine ⟨g, off, e, hg, ?_, ?_, ?_, ?_, ?_⟩
  · have := hc 0 _ (by omega) (by simp [spR, spC]; rfl); simpa [Nat.add_assoc] using this
  · have := hc 1 _ (by omega) (by simp [spR, spC]; rfl); simpa [Nat.add_assoc] using this
  · have := hc 2 _ (by omega) (by simp [spR, spC]; rfl); simpa [Nat.add_assoc] using this
  · have := hc 3 _ (by omega) (by simp [spR, spC]; rfl); simpa [Nat.add_assoc] using this
  · have := hc 4 _ (by omega) (by simp [spR, spC]; rfl); simpa [Nat.add_assoc] using this
/-- The value of one. -/
def vSp (x : Spot) : Value := .agg #[.string x.key, .int .i64 (x.at' : Int), .int .i64 (x.size : Int), .int .i64 (x.first : Int), .int .i64 (x.last : Int)]
theorem Tryd.infoSp : (Tryd.prog.info? 56).map (fun i => (i.zero, i.size, i.bytes)) = some (some (.agg #[.string ⟨#[]⟩, .int .i64 0, .int .i64 0, .int .i64 0, .int .i64 0]), 5, 48) := by kernel_rfl
/-- The numbers of a spot are small. -/
def SpFits (x : Spot) : Prop := x.key.size ≤ 1048576 ∧ x.at' ≤ 562949953421311 ∧ x.size ≤ 562949953421311 ∧ x.first ≤ 562949953421311 ∧ x.last ≤ 562949953421311
/-- What a writer or a reader holds. -/
def CurB (w : World) (g : Nat) (t : ByteArray) (p : Nat) (ty : TypeId) : Prop := Blk w g #[.string t, .int .i64 (p : Int)] ty
end Go.Proofs.YthgiekeiljflaaaDoor
