/-
  Rows of numbers as plain data: what is right, and what they are shown as (no program in sight, no condition).
-/
import Derived.Test.YtfloihegggkonaaNmAid
import Derived.Test.YtfloihegggkonaaBtZig
namespace Go.Proofs.Ytfloihegggkonaa
open Go.RowKit Go.PlainAid

/-- The number ahead of place k; 0 ahead of the first. -/
def prv (l : List Int) (k : Nat) : Int := if k = 0 then 0 else l.getD (k - 1) 0
/-- How much the number at place k is above the one ahead of it. -/
def dif (l : List Int) (k : Nat) : Int := l.getD k 0 - prv l k
theorem prv_zero (l : List Int) : prv l 0 = 0 := rfl
theorem prv_succ (l : List Int) (k : Nat) : prv l (k + 1) = l.getD k 0 := by simp [prv]
/-- What is shown at place i of a row of values. -/
def vPiece (l : List Int) (i : Nat) : List UInt8 := vF 6 (zig (dif l i)).toNat
/-- The number that is shown at place i of a row of times. -/
def turn (l : List Int) (i : Nat) : Int := if i ≤ 1 then dif l i else zig (dif l i - dif l (i - 1))
def tPiece (l : List Int) (i : Nat) : List UInt8 := vF 6 (turn l i).toNat
/-- k pieces, one behind the other. -/
def cat (f : Nat → List UInt8) (k : Nat) : List UInt8 := (List.range k).flatMap f
theorem cat_zero (f : Nat → List UInt8) : cat f 0 = [] := rfl
theorem cat_succ (f : Nat → List UInt8) (k : Nat) : cat f (k + 1) = cat f k ++ f k := by simp [cat, List.range_succ, List.flatMap_append]
theorem cat_length (f : Nat → List UInt8) (hf : ∀ i, (f i).length ≤ 7) (k : Nat) : (cat f k).length ≤ 7 * k := by
  induction k with
  | zero => simp [cat_zero]
  | succ k ih => rw [cat_succ, List.length_append]; have := hf k; omega
theorem vPiece_length (l : List Int) (i : Nat) : (vPiece l i).length ≤ 7 := by have := vF_length 6 (zig (dif l i)).toNat; unfold vPiece; omega
theorem tPiece_length (l : List Int) (i : Nat) : (tPiece l i).length ≤ 7 := by have := vF_length 6 (turn l i).toNat; unfold tPiece; omega

/-- A right row of values. -/
def VOk (l : List Int) : Prop := 1 ≤ l.length ∧ l.length ≤ 60 ∧ ∀ j, j < l.length → -1099511627776 ≤ l.getD j 0 ∧ l.getD j 0 ≤ 1099511627776
instance (l : List Int) : Decidable (VOk l) := by unfold VOk; infer_instance
/-- A right row of times. -/
def TOk (l : List Int) : Prop := 1 ≤ l.length ∧ l.length ≤ 60 ∧ ∀ j, j < l.length → (0 ≤ l.getD j 0 ∧ l.getD j 0 ≤ 1099511627776) ∧ (0 < j → l.getD (j - 1) 0 < l.getD j 0)
instance (l : List Int) : Decidable (TOk l) := by unfold TOk; infer_instance
/-- What ShowValues answers. -/
def showV (l : List Int) : ByteArray := if VOk l then txt (cat (vPiece l) l.length) else txt []
/-- What ShowTimes answers. -/
def showT (l : List Int) : ByteArray := if TOk l then txt (cat (tPiece l) l.length) else txt []
theorem VOk.prv {l : List Int} (h : VOk l) (j : Nat) (hj : j ≤ l.length) : -1099511627776 ≤ prv l j ∧ prv l j ≤ 1099511627776 := by
  unfold Go.Proofs.Ytfloihegggkonaa.prv
  split
  · omega
  · exact h.2.2 (j - 1) (by omega)
theorem VOk.dif {l : List Int} (h : VOk l) (j : Nat) (hj : j < l.length) : -2199023255552 ≤ dif l j ∧ dif l j ≤ 2199023255552 := by
  have h1 := h.prv j (by omega)
  have h2 := h.2.2 j hj
  unfold Go.Proofs.Ytfloihegggkonaa.dif
  omega
theorem TOk.prv {l : List Int} (h : TOk l) (j : Nat) (hj : j ≤ l.length) : 0 ≤ prv l j ∧ prv l j ≤ 1099511627776 := by
  unfold Go.Proofs.Ytfloihegggkonaa.prv
  split
  · omega
  · exact (h.2.2 (j - 1) (by omega)).1
theorem TOk.dif {l : List Int} (h : TOk l) (j : Nat) (hj : j < l.length) : 0 ≤ dif l j ∧ dif l j ≤ 1099511627776 := by
  have h1 := h.prv j (by omega)
  have h2 := h.2.2 j hj
  unfold Go.Proofs.Ytfloihegggkonaa.dif
  refine ⟨?_, by omega⟩
  unfold Go.Proofs.Ytfloihegggkonaa.prv
  split
  · omega
  · have := h2.2 (by omega)
    omega
theorem TOk.turn {l : List Int} (h : TOk l) (j : Nat) (hj : j < l.length) : 0 ≤ turn l j ∧ turn l j ≤ 281474976710656 := by
  unfold Go.Proofs.Ytfloihegggkonaa.turn
  have h1 := h.dif j hj
  split
  · omega
  · have h2 := h.dif (j - 1) (by omega)
    exact ⟨zig_pos _ (by omega) (by omega), (zig_range _).2⟩
end Go.Proofs.Ytfloihegggkonaa
