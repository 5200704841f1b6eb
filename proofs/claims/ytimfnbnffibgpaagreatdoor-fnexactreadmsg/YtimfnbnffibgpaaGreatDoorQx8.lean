/- CmMath CmRes CmPart CmOp CmAns MgAid RcSpec -/
import Derived.Test.YtimfnbnffibgpaaGreatDoorRows
import Derived.Test.YtimfnbnffibgpaaGreatDoorQx0
import Derived.Test.YtimfnbnffibgpaaGreatDoorQx2
import Derived.Test.YtimfnbnffibgpaaGreatDoorQx1
import Derived.WalkKit
import Derived.ProofKit
import Derived.Below
import Derived.OpenShut
import Derived.WalkSmall
import Derived.WalkLawsBesides
import Derived.Laws.DeepStrings4
import Derived.Outline
import Derived.Handy
import Derived.Defers
import Derived.Recover
import Derived.Test.YtimfnbnffibgpaaGreatDoorQx4
import Derived.Test.YtimfnbnffibgpaaGreatDoorQx7
import Derived.Test.YtimfnbnffibgpaaGreatDoorQx6
namespace Go.Proofs.YtimfnbnffibgpaaGreatDoor
open Go.ChangeShapes Go.WideShapes Go.ChangeAt Go.RowKit Go.PlainAid
set_option linter.unusedVariables false
def lf (s : ByteArray) (i : Nat) : ByteArray := s.extract i s.size
theorem lf_size (s : ByteArray) (i : Nat) : (lf s i).size = s.size - i := by rw [lf, ByteArray.size_extract]; omega
theorem lf_zero (s : ByteArray) : lf s 0 = s := ByteArray.extract_zero_size
theorem lf_lf (s : ByteArray) (i j : Nat) : (lf s i).extract j (lf s i).size = lf s (i + j) := by
 rw [lf_size]
 unfold lf
 rw [ByteArray.extract_extract]
 by_cases h : i ≤ s.size
 ·congr 1 <;> omega
 ·have e1 : (s.extract (i + j) (min (i + (s.size - i)) s.size)).size = 0 := by rw [ByteArray.size_extract]; omega
  have e2 : (s.extract (i + j) s.size).size = 0 := by rw [ByteArray.size_extract]; omega
  rw [ByteArray.size_eq_zero_iff] at e1 e2
  rw [e1, e2]
def RdF (s : ByteArray) (a : Nat) : Nat → List Int → Nat → Prop
 | 0, l, n => l = [] ∧ n = a
 | k + 1, l, n => ∃ l' n' m, RdF s a k l' n' ∧ FindV (lf s n') m ∧ l = l' ++ [(vvS (lf s n') 0 m : Int)] ∧ n = n' + m
theorem RdF.one {s : ByteArray} {a : Nat} : ∀ {k : Nat} {l l' : List Int} {n n' : Nat}, RdF s a k l n → RdF s a k l' n' → l = l' ∧ n = n'
 | 0, _, _, _, _, h, h' => ⟨h.1.trans h'.1.symm, h.2.trans h'.2.symm⟩
 | k + 1, _, _, _, _, ⟨a, b, m, h1, h2, h3, h4⟩, ⟨a', b', m', h1', h2', h3', h4'⟩ => by
  obtain ⟨rfl, rfl⟩ := RdF.one h1 h1'
  have := h2.one h2'
  subst this
  exact ⟨h3.trans h3'.symm, h4.trans h4'.symm⟩
theorem RdF.before {s : ByteArray} {a : Nat} : ∀ {k : Nat} {l : List Int} {n : Nat}, RdF s a k l n → ∀ j, j < k → ∃ l' n' m, RdF s a j l' n' ∧ FindV (lf s n') m
 | 0, _, _, _, j, hj => by omega
 | k + 1, _, _, ⟨a, b, m, h1, h2, h3, h4⟩, j, hj => by
  by_cases e : j = k
  ·subst e; exact ⟨a, b, m, h1, h2⟩
  ·exact RdF.before h1 j (by omega)
theorem RdF.no {s : ByteArray} {a k j : Nat} {l : List Int} {n : Nat} (h1 : RdF s a j l n) (hj : j < k) (h2 : ∀ m, ¬ FindV (lf s n) m) : ∀ l' n', ¬ RdF s a k l' n' := by
 intro l' n' h
 obtain ⟨l2, n2, m, h3, h4⟩ := h.before j hj
 obtain ⟨rfl, rfl⟩ := h1.one h3
 exact h2 m h4
theorem RdF.length {s : ByteArray} {a : Nat} : ∀ {k : Nat} {l : List Int} {n : Nat}, RdF s a k l n → l.length = k
 | 0, _, _, h => by rw [h.1]; rfl
 | k + 1, _, _, ⟨a, b, m, h1, h2, h3, h4⟩ => by rw [h3, List.length_append, RdF.length h1]; rfl
theorem RdF.ge {s : ByteArray} {a : Nat} : ∀ {k : Nat} {l : List Int} {n : Nat}, RdF s a k l n → a + k ≤ n ∧ (1 ≤ k → n ≤ s.size)
 | 0, _, _, h => ⟨by rw [h.2]; omega, by omega⟩
 | k + 1, _, _, ⟨a, b, m, h1, h2, h3, h4⟩ => by
  have h5 := RdF.ge h1
  obtain ⟨h6, h7, h8, _⟩ := h2
  rw [lf_size] at h8
  exact ⟨by omega, by omega⟩
theorem RdF.le {s : ByteArray} {a : Nat} : ∀ {k : Nat} {l : List Int} {n : Nat}, RdF s a k l n → n ≤ a + 7 * k
 | 0, _, _, h => by rw [h.2]; omega
 | k + 1, _, _, ⟨a, b, m, h1, h2, h3, h4⟩ => by
  have h5 := RdF.le h1
  obtain ⟨h6, h7, h8, _⟩ := h2
  omega
theorem RdF.bound {s : ByteArray} {a : Nat} : ∀ {k : Nat} {l : List Int} {n : Nat}, RdF s a k l n → ∀ z ∈ l, 0 ≤ z ∧ z ≤ 562949953421311
 | 0, _, _, h, z, hz => by rw [h.1] at hz; cases hz
 | k + 1, _, _, ⟨a, b, m, h1, h2, h3, h4⟩, z, hz => by
  rw [h3] at hz
  rcases List.mem_append.1 hz with hz | hz
  ·exact RdF.bound h1 z hz
  ·simp at hz
   have := vvS_le (lf s b) m h2.2.1 0
   omega
theorem find_text {t : ByteArray} {m : Nat} (h : FindV t m) : txt (vF 6 (vvS t 0 m)) = t.extract 0 m := by
 obtain ⟨h1, h7, h8, h9⟩ := h
 obtain ⟨d, rfl⟩ : ∃ d, m = d + 1 := ⟨m - 1, by omega⟩
 rw [sg_extract t _ h8, (canonS_iff t d 0 6 (by omega)).2 h9]
def varsT : List Int → ByteArray
 | [] => ByteArray.empty
 | z :: l => txt (vF 6 z.toNat) ++ varsT l
theorem varsT_append (l m : List Int) : varsT (l ++ m) = varsT l ++ varsT m := by
 induction l with
 | nil => simp [varsT]
 | cons z l ih => simp [varsT, ih, ByteArray.append_assoc]
theorem RdF.text {s : ByteArray} {a : Nat} : ∀ {k : Nat} {l : List Int} {n : Nat}, RdF s a k l n → s.extract a n = varsT l
 | 0, _, _, h => by rw [h.1, h.2]; apply ByteArray.ext; simp [varsT]
 | k + 1, _, _, ⟨l, b, m, h1, h2, h3, h4⟩ => by
  have h5 := RdF.text h1
  have hge := RdF.ge h1
  have h8 := h2.2.2.1
  have h61 := h2.1
  rw [lf_size] at h8
  have e : s.extract a (b + m) = s.extract a b ++ s.extract b (b + m) := by
   rw [ByteArray.extract_append_extract]
   congr 1 <;> omega
  have e2 : (lf s b).extract 0 m = s.extract b (b + m) := by
   unfold lf
   rw [ByteArray.extract_extract]
   congr 1
   omega
  rw [h3, h4, e, h5, varsT_append, ← e2, ← find_text h2]
  simp [varsT]
theorem cut_in_two (s : ByteArray) (n : Nat) (h : n ≤ s.size) : s = s.extract 0 n ++ lf s n := by
 unfold lf
 rw [ByteArray.extract_append_extract]
 have e1 : min 0 n = 0 := by omega
 have e2 : max n s.size = s.size := by omega
 rw [e1, e2]
 exact ByteArray.extract_zero_size.symm
end Go.Proofs.YtimfnbnffibgpaaGreatDoor
namespace Go.Proofs.YtimfnbnffibgpaaGreatDoor
open Go.ChangeShapes Go.WideShapes Go.ChangeAt Go.RowKit Go.PlainAid
set_option linter.unusedVariables false
theorem resC4 {w : World} {g : Nat} {a0 a1 a2 a3 x0 x1 x2 x3 : Value} {t : TypeId} (h : Blk w g #[a0, a1, a2, a3] t) :
  (w.cell? ⟨g, 0, none⟩ = some a0 ∧ w.frozen? ⟨g, 0, none⟩ = false) ∧ ((w.setCell ⟨g, 0, none⟩ x0).cell? ⟨g, 1, none⟩ = some a1 ∧ (w.setCell ⟨g, 0, none⟩ x0).frozen? ⟨g, 1, none⟩ = false) ∧ (((w.setCell ⟨g, 0, none⟩ x0).setCell ⟨g, 1, none⟩ x1).cell? ⟨g, 2, none⟩ = some a2 ∧ ((w.setCell ⟨g, 0, none⟩ x0).setCell ⟨g, 1, none⟩ x1).frozen? ⟨g, 2, none⟩ = false) ∧ ((((w.setCell ⟨g, 0, none⟩ x0).setCell ⟨g, 1, none⟩ x1).setCell ⟨g, 2, none⟩ x2).cell? ⟨g, 3, none⟩ = some a3 ∧ (((w.setCell ⟨g, 0, none⟩ x0).setCell ⟨g, 1, none⟩ x1).setCell ⟨g, 2, none⟩ x2).frozen? ⟨g, 3, none⟩ = false) ∧
  ((((w.setCell ⟨g, 0, none⟩ x0).setCell ⟨g, 1, none⟩ x1).setCell ⟨g, 2, none⟩ x2).setCell ⟨g, 3, none⟩ x3).cell? ⟨g, 0, none⟩ = some x0 ∧ ((((w.setCell ⟨g, 0, none⟩ x0).setCell ⟨g, 1, none⟩ x1).setCell ⟨g, 2, none⟩ x2).setCell ⟨g, 3, none⟩ x3).cell? ⟨g, 1, none⟩ = some x1 ∧ ((((w.setCell ⟨g, 0, none⟩ x0).setCell ⟨g, 1, none⟩ x1).setCell ⟨g, 2, none⟩ x2).setCell ⟨g, 3, none⟩ x3).cell? ⟨g, 2, none⟩ = some x2 ∧ ((((w.setCell ⟨g, 0, none⟩ x0).setCell ⟨g, 1, none⟩ x1).setCell ⟨g, 2, none⟩ x2).setCell ⟨g, 3, none⟩ x3).cell? ⟨g, 3, none⟩ = some x3 := by
 have h1 : Blk (w.setCell ⟨g, 0, none⟩ x0) g #[x0, a1, a2, a3] t := h.set 0 x0
 have h2 : Blk ((w.setCell ⟨g, 0, none⟩ x0).setCell ⟨g, 1, none⟩ x1) g #[x0, x1, a2, a3] t := h1.set 1 x1
 have h3 : Blk (((w.setCell ⟨g, 0, none⟩ x0).setCell ⟨g, 1, none⟩ x1).setCell ⟨g, 2, none⟩ x2) g #[x0, x1, x2, a3] t := h2.set 2 x2
 have h4 : Blk ((((w.setCell ⟨g, 0, none⟩ x0).setCell ⟨g, 1, none⟩ x1).setCell ⟨g, 2, none⟩ x2).setCell ⟨g, 3, none⟩ x3) g #[x0, x1, x2, x3] t := h3.set 3 x3
 exact ⟨⟨h.cell 0 _ rfl, h.free 0⟩, ⟨h1.cell 1 _ rfl, h1.free 1⟩, ⟨h2.cell 2 _ rfl, h2.free 2⟩, ⟨h3.cell 3 _ rfl, h3.free 3⟩, h4.cell 0 _ rfl, h4.cell 1 _ rfl, h4.cell 2 _ rfl, h4.cell 3 _ rfl⟩
theorem belowC4 {w w' : World} {B g : Nat} (h : Below B w w') (hg : B ≤ g) (x0 x1 x2 x3 : Value) : Below B w ((((w'.setCell ⟨g, 0, none⟩ x0).setCell ⟨g, 1, none⟩ x1).setCell ⟨g, 2, none⟩ x2).setCell ⟨g, 3, none⟩ x3) := ((((h.setCell hg _).setCell hg _).setCell hg _).setCell hg _)
theorem cellsC4 {w : World} {g : Nat} {a0 a1 a2 a3 : Value} {t : TypeId} (h : Blk w g #[a0, a1, a2, a3] t) : w.cell? ⟨g, 0, none⟩ = some a0 ∧ w.cell? ⟨g, 1, none⟩ = some a1 ∧ w.cell? ⟨g, 2, none⟩ = some a2 ∧ w.cell? ⟨g, 3, none⟩ = some a3 := ⟨h.cell 0 _ rfl, h.cell 1 _ rfl, h.cell 2 _ rfl, h.cell 3 _ rfl⟩
theorem resC5 {w : World} {g : Nat} {a0 a1 a2 a3 a4 x0 x1 x2 x3 x4 : Value} {t : TypeId} (h : Blk w g #[a0, a1, a2, a3, a4] t) :
  (w.cell? ⟨g, 0, none⟩ = some a0 ∧ w.frozen? ⟨g, 0, none⟩ = false) ∧ ((w.setCell ⟨g, 0, none⟩ x0).cell? ⟨g, 1, none⟩ = some a1 ∧ (w.setCell ⟨g, 0, none⟩ x0).frozen? ⟨g, 1, none⟩ = false) ∧ (((w.setCell ⟨g, 0, none⟩ x0).setCell ⟨g, 1, none⟩ x1).cell? ⟨g, 2, none⟩ = some a2 ∧ ((w.setCell ⟨g, 0, none⟩ x0).setCell ⟨g, 1, none⟩ x1).frozen? ⟨g, 2, none⟩ = false) ∧ ((((w.setCell ⟨g, 0, none⟩ x0).setCell ⟨g, 1, none⟩ x1).setCell ⟨g, 2, none⟩ x2).cell? ⟨g, 3, none⟩ = some a3 ∧ (((w.setCell ⟨g, 0, none⟩ x0).setCell ⟨g, 1, none⟩ x1).setCell ⟨g, 2, none⟩ x2).frozen? ⟨g, 3, none⟩ = false) ∧ (((((w.setCell ⟨g, 0, none⟩ x0).setCell ⟨g, 1, none⟩ x1).setCell ⟨g, 2, none⟩ x2).setCell ⟨g, 3, none⟩ x3).cell? ⟨g, 4, none⟩ = some a4 ∧ ((((w.setCell ⟨g, 0, none⟩ x0).setCell ⟨g, 1, none⟩ x1).setCell ⟨g, 2, none⟩ x2).setCell ⟨g, 3, none⟩ x3).frozen? ⟨g, 4, none⟩ = false) ∧
  (((((w.setCell ⟨g, 0, none⟩ x0).setCell ⟨g, 1, none⟩ x1).setCell ⟨g, 2, none⟩ x2).setCell ⟨g, 3, none⟩ x3).setCell ⟨g, 4, none⟩ x4).cell? ⟨g, 0, none⟩ = some x0 ∧ (((((w.setCell ⟨g, 0, none⟩ x0).setCell ⟨g, 1, none⟩ x1).setCell ⟨g, 2, none⟩ x2).setCell ⟨g, 3, none⟩ x3).setCell ⟨g, 4, none⟩ x4).cell? ⟨g, 1, none⟩ = some x1 ∧ (((((w.setCell ⟨g, 0, none⟩ x0).setCell ⟨g, 1, none⟩ x1).setCell ⟨g, 2, none⟩ x2).setCell ⟨g, 3, none⟩ x3).setCell ⟨g, 4, none⟩ x4).cell? ⟨g, 2, none⟩ = some x2 ∧ (((((w.setCell ⟨g, 0, none⟩ x0).setCell ⟨g, 1, none⟩ x1).setCell ⟨g, 2, none⟩ x2).setCell ⟨g, 3, none⟩ x3).setCell ⟨g, 4, none⟩ x4).cell? ⟨g, 3, none⟩ = some x3 ∧ (((((w.setCell ⟨g, 0, none⟩ x0).setCell ⟨g, 1, none⟩ x1).setCell ⟨g, 2, none⟩ x2).setCell ⟨g, 3, none⟩ x3).setCell ⟨g, 4, none⟩ x4).cell? ⟨g, 4, none⟩ = some x4 := by
 have h1 : Blk (w.setCell ⟨g, 0, none⟩ x0) g #[x0, a1, a2, a3, a4] t := h.set 0 x0
 have h2 : Blk ((w.setCell ⟨g, 0, none⟩ x0).setCell ⟨g, 1, none⟩ x1) g #[x0, x1, a2, a3, a4] t := h1.set 1 x1
 have h3 : Blk (((w.setCell ⟨g, 0, none⟩ x0).setCell ⟨g, 1, none⟩ x1).setCell ⟨g, 2, none⟩ x2) g #[x0, x1, x2, a3, a4] t := h2.set 2 x2
 have h4 : Blk ((((w.setCell ⟨g, 0, none⟩ x0).setCell ⟨g, 1, none⟩ x1).setCell ⟨g, 2, none⟩ x2).setCell ⟨g, 3, none⟩ x3) g #[x0, x1, x2, x3, a4] t := h3.set 3 x3
 have h5 : Blk (((((w.setCell ⟨g, 0, none⟩ x0).setCell ⟨g, 1, none⟩ x1).setCell ⟨g, 2, none⟩ x2).setCell ⟨g, 3, none⟩ x3).setCell ⟨g, 4, none⟩ x4) g #[x0, x1, x2, x3, x4] t := h4.set 4 x4
 exact ⟨⟨h.cell 0 _ rfl, h.free 0⟩, ⟨h1.cell 1 _ rfl, h1.free 1⟩, ⟨h2.cell 2 _ rfl, h2.free 2⟩, ⟨h3.cell 3 _ rfl, h3.free 3⟩, ⟨h4.cell 4 _ rfl, h4.free 4⟩, h5.cell 0 _ rfl, h5.cell 1 _ rfl, h5.cell 2 _ rfl, h5.cell 3 _ rfl, h5.cell 4 _ rfl⟩
theorem belowC5 {w w' : World} {B g : Nat} (h : Below B w w') (hg : B ≤ g) (x0 x1 x2 x3 x4 : Value) : Below B w (((((w'.setCell ⟨g, 0, none⟩ x0).setCell ⟨g, 1, none⟩ x1).setCell ⟨g, 2, none⟩ x2).setCell ⟨g, 3, none⟩ x3).setCell ⟨g, 4, none⟩ x4) := (((((h.setCell hg _).setCell hg _).setCell hg _).setCell hg _).setCell hg _)
theorem cellsC5 {w : World} {g : Nat} {a0 a1 a2 a3 a4 : Value} {t : TypeId} (h : Blk w g #[a0, a1, a2, a3, a4] t) : w.cell? ⟨g, 0, none⟩ = some a0 ∧ w.cell? ⟨g, 1, none⟩ = some a1 ∧ w.cell? ⟨g, 2, none⟩ = some a2 ∧ w.cell? ⟨g, 3, none⟩ = some a3 ∧ w.cell? ⟨g, 4, none⟩ = some a4 := ⟨h.cell 0 _ rfl, h.cell 1 _ rfl, h.cell 2 _ rfl, h.cell 3 _ rfl, h.cell 4 _ rfl⟩
end Go.Proofs.YtimfnbnffibgpaaGreatDoor
namespace Go.Proofs.YtimfnbnffibgpaaGreatDoor
open Go.ChangeShapes Go.WideShapes Go.ChangeAt Go.RowKit Go.PlainAid
set_option linter.unusedVariables false
def lackP : List PanicEntry := [{ v := .iface 9 (.string ⟨#[97, 32, 112, 97, 114, 116, 32, 108, 97, 99, 107, 115]⟩), recovered := false }]
def PKeep (g : Nat) (w w' : World) : Prop := Below g w w' ∧ ∀ b, b ≠ g → b < w.heap.size → w'.heap[b]? = w.heap[b]?
theorem PKeep.of {g : Nat} {w w' : World} (h : Below w.heap.size w w') (hg : g ≤ w.heap.size) : PKeep g w w' := ⟨h.mono hg, fun b _ hb => h.block b hb⟩
theorem PKeep.refl (g : Nat) (w : World) : PKeep g w w := ⟨Below.refl _ _, fun _ _ _ => rfl⟩
theorem PKeep.trans {g : Nat} {w w' w'' : World} (h : PKeep g w w') (h' : PKeep g w' w'') : PKeep g w w'' := ⟨h.1.trans h'.1, fun b hb hl => by rw [h'.2 b hb (Nat.lt_of_lt_of_le hl h.1.size), h.2 b hb hl]⟩
theorem PKeep.set {g : Nat} {w w' : World} (h : PKeep g w w') (i : Nat) (x : Value) : PKeep g w (w'.setCell ⟨g, i, none⟩ x) := ⟨h.1.setCell (Nat.le_refl _) _, fun b hb hl => by rw [Below.heap_setCell _ _ _ _ hb]; exact h.2 b hb hl⟩
theorem PKeep.setNew {g k : Nat} {w w' : World} (h : PKeep g w w') (hk : w.heap.size ≤ k) (hg : g ≤ k) (i : Nat) (x : Value) : PKeep g w (w'.setCell ⟨k, i, none⟩ x) := ⟨h.1.setCell hg _, fun b hb hl => by rw [Below.heap_setCell _ _ _ _ (show b ≠ k by omega)]; exact h.2 b hb hl⟩
theorem PKeep.alloc {g : Nat} {w w' : World} (h : PKeep g w w') (hg : g < w.heap.size) (o : Obj) : PKeep g w (w'.alloc o) := ⟨h.1.alloc (by have := h.1.size; omega) _, fun b hb hl => by rw [Below.heap_alloc _ _ _ (by have := h.1.size; omega)]; exact h.2 b hb hl⟩
theorem PKeep.cell {g : Nat} {w w' : World} (h : PKeep g w w') {p : Addr} (hp : p.block ≠ g) (hl : p.block < w.heap.size) : w'.cell? p = w.cell? p := World.cell?_of_block (w := w) (h.2 p.block hp hl)
theorem PKeep.frozen {g : Nat} {w w' : World} (h : PKeep g w w') {p : Addr} (hp : p.block ≠ g) (hl : p.block < w.heap.size) : w'.frozen? p = w.frozen? p := World.frozen?_of_block (w := w) (h.2 p.block hp hl)
def Prt (w : World) (g : Nat) (t : ByteArray) : Prop := w.heap[g]? = some (.cells #[.string t] 92 (0, 0))
theorem Prt.lt {w : World} {g : Nat} {t : ByteArray} (h : Prt w g t) : g < w.heap.size := lt_of_block h
theorem Prt.cell {w : World} {g : Nat} {t : ByteArray} (h : Prt w g t) : w.cell? ⟨g, 0, none⟩ = some (.string t) := by
 rw [cell_of_row _ _ 0 _ _ _ h]; rfl
theorem Prt.free {w : World} {g : Nat} {t : ByteArray} (h : Prt w g t) : w.frozen? ⟨g, 0, none⟩ = false := frozen_of_row w g 0 _ _ h
theorem Prt.put {w : World} {g : Nat} {t : ByteArray} (h : Prt w g t) (u : ByteArray) : Prt (w.setCell ⟨g, 0, none⟩ (.string u)) g u := heap_setCell_same w g 0 _ _ (.string u) h
theorem Prt.on {w w' : World} {g : Nat} {t : ByteArray} (h : Prt w g t) (hb : Below w.heap.size w w') : Prt w' g t := (hb.block g h.lt).trans h
theorem Prt.alloc {w : World} {g : Nat} {t : ByteArray} (h : Prt w g t) (o : Obj) : Prt (w.alloc o) g t := (Below.heap_alloc w o g h.lt).trans h
theorem need_yes (w : World) : Calls Tryz.prog 66 #[.bool true] w fun e w' => e = .returned (.tuple #[]) ∧ w = w' := by
 go_enter Tryz.func66, Tryz.ntmps66
 go_wp2
 first | go_end0 | exact bodyPost_ret (results_none rfl _ _ _) rfl ⟨rfl, rfl⟩
 exact ⟨rfl, rfl⟩
theorem need_no (w : World) : Calls Tryz.prog 66 #[.bool false] w fun e w' => e = .panicked lackP ∧ w = w' := by
 go_enter Tryz.func66, Tryz.ntmps66
 go_wp2
 exact ⟨rfl, rfl, rfl⟩
set_option maxHeartbeats 1000000 in
theorem takeText_yes (g : Nat) (t : ByteArray) (m : Nat) (w : World) (hp : Prt w g t) (hm : m ≤ t.size) (ht : t.size ≤ 1048576) :
  Calls Tryz.prog 65 #[.pointer (some ⟨g, 0, none⟩), .int .i64 (m : Int)] w fun e w' => e = .returned (.string (t.extract 0 m)) ∧ w.setCell ⟨g, 0, none⟩ (.string (t.extract m t.size)) = w' := by
 have q1 : (m : Int) ≤ (t.size : Int) := by omega
 have q2 : (t.size : Int) ≤ 1048576 := by omega
 have hc := hp.cell
 have hf := hp.free
 clear hp hm ht
 go_enter Tryz.func65, Tryz.ntmps65
 go_wp2_with fail
 refine (need_yes _).mono ?_
 rintro e w1 ⟨rfl, rfl⟩
 go_wp2_with fail
 go_ret
 exact ⟨rfl, rfl⟩
set_option maxHeartbeats 1000000 in
theorem takeText_no (g : Nat) (t : ByteArray) (m : Int) (w : World) (hp : Prt w g t) (hm : (t.size : Int) < m) (ht : t.size ≤ 1048576) :
  Calls Tryz.prog 65 #[.pointer (some ⟨g, 0, none⟩), .int .i64 m] w fun e w' => e = .panicked lackP ∧ w = w' := by
 have q2 : (t.size : Int) ≤ 1048576 := by omega
 have q3 : decide (m ≤ (t.size : Int)) = false := decide_eq_false (by omega)
 have hc := hp.cell
 clear hp ht
 go_enter Tryz.func65, Tryz.ntmps65
 go_wp2_with fail
 refine (need_no _).mono ?_
 rintro e w1 ⟨rfl, rfl⟩
 go_wp2_with fail
 exact ⟨rfl, rfl, rfl⟩
set_option maxHeartbeats 1000000 in
theorem takeRest (g : Nat) (t : ByteArray) (w : World) (hp : Prt w g t) (ht : t.size ≤ 1048576) :
  Calls Tryz.prog 70 #[.pointer (some ⟨g, 0, none⟩)] w fun e w' => e = .returned (.string t) ∧ w.setCell ⟨g, 0, none⟩ (.string ByteArray.empty) = w' := by
 have c := takeText_yes g t t.size w hp (Nat.le_refl _) ht
 have e0 : t.extract t.size t.size = ByteArray.empty := by simp
 rw [ByteArray.extract_zero_size, e0] at c
 clear e0
 have q2 : (t.size : Int) ≤ 1048576 := by omega
 have hc := hp.cell
 clear hp ht
 go_enter Tryz.func70, Tryz.ntmps70
 go_wp2_with fail
 refine c.mono ?_
 rintro e w1 ⟨rfl, rfl⟩
 go_wp2_with fail
 go_ret
 exact ⟨rfl, rfl⟩
set_option maxHeartbeats 1000000 in
theorem takeVar (g : Nat) (t : ByteArray) (w : World) (hp : Prt w g t) (ht : t.size ≤ 1048576) :
  Calls Tryz.prog 67 #[.pointer (some ⟨g, 0, none⟩)] w fun e w' => (∃ k, FindV t k ∧ e = .returned (.int .i64 (vvS t 0 k : Int)) ∧ w.setCell ⟨g, 0, none⟩ (.string (t.extract k t.size)) = w') ∨ ((∀ k, ¬ FindV t k) ∧ e = .panicked lackP ∧ w = w') := by
 have c := impl_readVar t w ht
 have q2 : (t.size : Int) ≤ 1048576 := by omega
 have hc := hp.cell
 have hf := hp.free
 clear hp ht
 go_enter Tryz.func67, Tryz.ntmps67
 go_wp2_with fail
 refine c.mono ?_
 rintro e w1 ⟨hR, rfl⟩
 rcases hR with ⟨k, hk, rfl⟩ | ⟨hno, rfl⟩
 ·have HK : Hid (FindV t k) := hk
  have k1 := hk.1
  have k3 := hk.2.2.1
  have q3 : (0 : Int) < (k : Int) := by omega
  have q4 : (k : Int) ≤ (t.size : Int) := by omega
  have q5 : decide (0 < k) = true := decide_eq_true (by omega)
  clear hk
  generalize hz : (vvS t 0 k : Int) = z
  have HZ : Hid ((vvS t 0 k : Int) = z) := hz
  clear hz
  go_wp2_with fail
  refine (need_yes _).mono ?_
  rintro e w1 ⟨rfl, rfl⟩
  go_wp2_with fail
  go_ret
  exact .inl ⟨k, HK.out, by rw [HZ.out]; rfl, rfl⟩
 ·have HN : Hid (∀ k, ¬ FindV t k) := hno
  clear hno
  go_wp2_with fail
  refine (need_no _).mono ?_
  rintro e w1 ⟨rfl, rfl⟩
  go_wp2_with fail
  exact ⟨rfl, .inr ⟨HN.out, rfl, rfl⟩⟩
theorem PKeep.blk {g b : Nat} {w w' : World} {cs : Array Value} {t : TypeId} (h : PKeep g w w') (hb : Blk w b cs t) (hne : b ≠ g) : Blk w' b cs t := (h.2 b hne hb.lt).trans hb
theorem PKeep.below {g : Nat} {w w' w'' : World} (h : PKeep g w w') (hg : g < w.heap.size) (hb : Below w'.heap.size w' w'') : PKeep g w w'' := h.trans (PKeep.of hb (by have := h.1.size; omega))
theorem takeVarF (g : Nat) (s : ByteArray) (n : Nat) (w : World) (hp : Prt w g (lf s n)) (hs : s.size ≤ 1048576) :
  Calls Tryz.prog 67 #[.pointer (some ⟨g, 0, none⟩)] w fun e w' => ((∃ k, FindV (lf s n) k ∧ e = .returned (.int .i64 (vvS (lf s n) 0 k : Int)) ∧ Prt w' g (lf s (n + k))) ∨ ((∀ k, ¬ FindV (lf s n) k) ∧ e = .panicked lackP)) ∧ PKeep g w w' := by
 refine (takeVar g (lf s n) w hp (by rw [lf_size]; omega)).mono ?_
 rintro e w' (⟨k, hk, rfl, rfl⟩ | ⟨hn, rfl, rfl⟩)
 ·refine ⟨.inl ⟨k, hk, rfl, ?_⟩, (PKeep.refl g w).set 0 _⟩
  rw [lf_lf]
  exact hp.put _
 ·exact ⟨.inr ⟨hn, rfl⟩, PKeep.refl g w⟩
theorem takeRestF (g : Nat) (s : ByteArray) (n : Nat) (w : World) (hp : Prt w g (lf s n)) (hs : s.size ≤ 1048576) :
  Calls Tryz.prog 70 #[.pointer (some ⟨g, 0, none⟩)] w fun e w' => e = .returned (.string (lf s n)) ∧ PKeep g w w' := by
 refine (takeRest g (lf s n) w hp (by rw [lf_size]; omega)).mono ?_
 rintro e w' ⟨rfl, rfl⟩
 exact ⟨rfl, (PKeep.refl g w).set 0 _⟩
theorem RdF.snoc {s : ByteArray} {a k n m : Nat} {l : List Int} (h : RdF s a k l n) (hf : FindV (lf s n) m) : RdF s a (k + 1) (l ++ [(vvS (lf s n) 0 m : Int)]) (n + m) := ⟨l, n, m, h, hf, rfl, rfl⟩
end Go.Proofs.YtimfnbnffibgpaaGreatDoor
namespace Go.Proofs.YtimfnbnffibgpaaGreatDoor
open Go.ChangeShapes Go.WideShapes Go.ChangeAt Go.RowKit Go.PlainAid
set_option linter.unusedVariables false
theorem Hid.mk {p : Prop} (h : p) : Hid p := h
theorem below_c1 (w : World) (a : Obj) : Below w.heap.size w (w.alloc a) := (Below.refl _ w).alloc (Nat.le_refl _) a
theorem below_c2 (w : World) (a b : Obj) : Below w.heap.size w ((w.alloc a).alloc b) := ((Below.refl _ w).alloc (Nat.le_refl _) a).alloc (by simp) b
noncomputable def opT (x : Opx) : ByteArray := if opOk x = true then txt [byt x.kind.toNat] ++ txt (vF 6 x.key.size) ++ x.key ++ txt (vF 6 x.frm.toNat) ++ txt (vF 6 x.til.toNat) ++ x.data else ⟨#[]⟩
def OpRd (s : ByteArray) (x : Opx) : Prop := ∃ k n1 f t m, 1 ≤ s.size ∧ RdF s 1 1 [((k : Nat) : Int)] n1 ∧ n1 + k ≤ s.size ∧ RdF s (n1 + k) 2 [f, t] m ∧ x = ⟨(bn s 0 : Int), s.extract n1 (n1 + k), f, t, lf s m⟩ ∧ opOk x = true
theorem OpRd.one {s : ByteArray} {x y : Opx} (h : OpRd s x) (h' : OpRd s y) : x = y := by
 obtain ⟨k, n1, f, t, m, _, h1, _, h2, rfl, _⟩ := h
 obtain ⟨k', n1', f', t', m', _, h1', _, h2', rfl, _⟩ := h'
 obtain ⟨e, rfl⟩ := h1.one h1'
 simp only [List.cons.injEq, and_true] at e
 obtain rfl : k = k' := by omega
 obtain ⟨e, rfl⟩ := h2.one h2'
 simp only [List.cons.injEq, and_true] at e
 obtain ⟨rfl, rfl⟩ := e
 rfl
def OpA (s : ByteArray) (e : Ending) : Prop := (∃ x, OpRd s x ∧ e = .returned (.tuple #[vOp x, .bool true])) ∨ ((∀ x, ¬ OpRd s x) ∧ e = .returned (.tuple #[vOp ⟨0, ⟨#[]⟩, 0, 0, ⟨#[]⟩⟩, .bool false]))
theorem OpA.one {s : ByteArray} {e e' : Ending} (h : OpA s e) (h' : OpA s e') : e = e' := by
 rcases h with ⟨x, hx, rfl⟩ | ⟨hn, rfl⟩ <;> rcases h' with ⟨y, hy, rfl⟩ | ⟨hn', rfl⟩
 ·rw [hx.one hy]
 ·exact absurd hx (hn' x)
 ·exact absurd hy (hn y)
 ·rfl
theorem OpA.form {s : ByteArray} {e : Ending} (h : OpA s e) : ∃ x b, e = .returned (.tuple #[vOp x, .bool b]) := by
 rcases h with ⟨x, hx, rfl⟩ | ⟨hn, rfl⟩
 ·exact ⟨_, _, rfl⟩
 ·exact ⟨_, _, rfl⟩
theorem emB_size {s : ByteArray} (h : emB s = true) : s.size = 0 := by
 unfold emB at h
 rw [List.isEmpty_iff, Lib.toList_data] at h
 have h2 : s.data.size = 0 := by rw [← Array.length_toList, h]; rfl
 exact h2
theorem keyB_size {s : ByteArray} (h : keyB s = true) : s.size ≤ 8 := (of_decide_eq_true h).2.1
theorem opOk_in {x : Opx} (h : opOk x = true) : (1 ≤ x.kind ∧ x.kind ≤ 7) ∧ x.key.size ≤ 8 ∧ (0 ≤ x.frm ∧ x.frm ≤ 1099511627776) ∧ (0 ≤ x.til ∧ x.til ≤ 1099511627776) := by
 unfold opOk at h
 split at h
 ·simp only [spanB, Bool.and_eq_true, decide_eq_true_eq] at h
  have := emB_size h.1.2
  omega
 ·split at h
  ·simp only [inRg, zB, Bool.and_eq_true, decide_eq_true_eq] at h
   have := emB_size h.1.1.2
   omega
  ·split at h
   ·simp only [inRg, zB, Bool.and_eq_true, decide_eq_true_eq] at h
    have := emB_size h.1.1.2
    omega
   ·split at h
    ·simp only [zB, Bool.and_eq_true, decide_eq_true_eq] at h
     have := keyB_size h.1.1.1
     omega
    ·split at h
     ·simp only [spanB, Bool.and_eq_true, decide_eq_true_eq] at h
      have := keyB_size h.1.1
      omega
     ·split at h
      ·simp only [zB, Bool.and_eq_true, decide_eq_true_eq] at h
       have := emB_size h.1.1.1
       omega
      ·cases h
theorem extract_more (s : ByteArray) (a b c : Nat) (h1 : a ≤ b) (h2 : b ≤ c) : s.extract a c = s.extract a b ++ s.extract b c := by
 rw [ByteArray.extract_append_extract]
 congr 1 <;> omega
theorem opT_back {s : ByteArray} {k n1 m : Nat} {f t : Int} (h0 : 1 ≤ s.size) (h1 : RdF s 1 1 [(k : Int)] n1) (h2 : n1 + k ≤ s.size) (h3 : RdF s (n1 + k) 2 [f, t] m) (ho : opOk ⟨(bn s 0 : Int), s.extract n1 (n1 + k), f, t, lf s m⟩ = true) :
  opT ⟨(bn s 0 : Int), s.extract n1 (n1 + k), f, t, lf s m⟩ = s := by
 have e1 := h1.text
 have e3 := h3.text
 have g1 := h1.ge
 have g3 := h3.ge
 have hc := cut_in_two s m (g3.2 (by omega))
 have e0 : s.extract 0 1 = txt [byt (bn s 0)] := sg_extract s 1 h0
 have hk : (s.extract n1 (n1 + k)).size = k := by rw [ByteArray.size_extract]; omega
 have hm : s.extract 0 m = s.extract 0 1 ++ s.extract 1 n1 ++ s.extract n1 (n1 + k) ++ s.extract (n1 + k) m := by
  rw [← extract_more s 0 1 n1 (by omega) (by omega), ← extract_more s 0 n1 (n1 + k) (by omega) (by omega), ← extract_more s 0 (n1 + k) m (by omega) (by omega)]
 unfold opT
 rw [if_pos ho]
 simp only [hk, Int.toNat_natCast]
 conv => rhs; rw [hc, hm, e0, e1, e3]
 simp [varsT, ByteArray.append_assoc]
set_option maxHeartbeats 1000000 in
theorem takeByteF (g : Nat) (s : ByteArray) (w : World) (hp : Prt w g s) (hs : s.size ≤ 1048576) :
  Calls Tryz.prog 91 #[.pointer (some ⟨g, 0, none⟩)] w fun e w' => ((1 ≤ s.size ∧ e = .returned (.int .i64 (bn s 0 : Int)) ∧ Prt w' g (lf s 1)) ∨ (¬ 1 ≤ s.size ∧ e = .panicked lackP)) ∧ PKeep g w w' := by
 by_cases h1 : 1 ≤ s.size
 ·have c := takeText_yes g s 1 w hp h1 hs
  have HP : Hid (Prt (w.setCell ⟨g, 0, none⟩ (.string (s.extract 1 s.size))) g (lf s 1)) := hp.put _
  have HK : Hid (PKeep g w (w.setCell ⟨g, 0, none⟩ (.string (s.extract 1 s.size)))) := (PKeep.refl g w).set 0 _
  have hz : (s.extract 0 1).size = 1 := by rw [ByteArray.size_extract]; omega
  have hg : ∀ h : 0 < (s.extract 0 1).size, (((s.extract 0 1)[0]'h).toNat : Int) = (bn s 0 : Int) := by
   intro h
   rw [← get_bn s 0 (by omega), ByteArray.getElem_extract]
  have hl := bn_lt s 0
  have H1 : Hid (1 ≤ s.size) := h1
  clear hp hs h1
  generalize s.extract 0 1 = b at *
  generalize w.setCell ⟨g, 0, none⟩ (.string (s.extract 1 s.size)) = V at *
  generalize bn s 0 = n at *
  go_enter Tryz.func91, Tryz.ntmps91
  go_wp2_with fail
  refine c.mono ?_
  rintro e w1 ⟨rfl, rfl⟩
  go_wp2_with fail
  go_ret
  exact ⟨.inl ⟨H1.out, rfl, HP.out⟩, HK.out⟩
 ·have c := takeText_no g s 1 w hp (by omega) hs
  have H1 : Hid (¬ 1 ≤ s.size) := h1
  clear hp hs h1
  go_enter Tryz.func91, Tryz.ntmps91
  go_wp2_with fail
  refine c.mono ?_
  rintro e w1 ⟨rfl, rfl⟩
  go_wp2_with fail
  exact ⟨rfl, .inr ⟨H1.out, rfl⟩, PKeep.refl _ _⟩
theorem takeTextF (g : Nat) (s : ByteArray) (n m : Nat) (w : World) (hp : Prt w g (lf s n)) (hn : n ≤ s.size) (hs : s.size ≤ 1048576) :
  Calls Tryz.prog 65 #[.pointer (some ⟨g, 0, none⟩), .int .i64 (m : Int)] w fun e w' => ((n + m ≤ s.size ∧ e = .returned (.string (s.extract n (n + m))) ∧ Prt w' g (lf s (n + m))) ∨ (¬ n + m ≤ s.size ∧ e = .panicked lackP)) ∧ PKeep g w w' := by
 have hz := lf_size s n
 by_cases h : n + m ≤ s.size
 ·refine (takeText_yes g (lf s n) m w hp (by omega) (by omega)).mono ?_
  rintro e w' ⟨rfl, rfl⟩
  refine ⟨.inl ⟨h, ?_, ?_⟩, (PKeep.refl g w).set 0 _⟩
  ·unfold lf
   rw [ByteArray.extract_extract]
   congr 3
   omega
  ·rw [lf_lf]
   exact hp.put _
 ·refine (takeText_no g (lf s n) m w hp (by omega) (by omega)).mono ?_
  rintro e w' ⟨rfl, rfl⟩
  exact ⟨.inr ⟨h, rfl⟩, PKeep.refl g w⟩
set_option maxHeartbeats 1000000 in
theorem copyOpV (x : Opx) (w : World) (hk : x.key.size ≤ 1048576) (hd : x.data.size ≤ 1048576) : Calls Tryz.prog 93 #[vOp x] w fun e w' => e = .returned (vOp x) ∧ Below w.heap.size w w' := by
 obtain ⟨k, key, f, t, d⟩ := x
 unfold vOp
 simp only at hk hd ⊢
 have c1 := fun wx => clone key wx (by omega)
 have c2 := fun wx => clone d wx (by omega)
 clear hd hk
 have hb0 := below_c2 w (.cells #[.int .i64 k, .string key, .int .i64 f, .int .i64 t, .string d] 44) (.cells #[.int .i64 0, .string ⟨#[]⟩, .int .i64 0, .int .i64 0, .string ⟨#[]⟩] 44)
 have k0 := (Blk.new w #[.int .i64 k, .string key, .int .i64 f, .int .i64 t, .string d] 44).alloc (.cells #[.int .i64 0, .string ⟨#[]⟩, .int .i64 0, .int .i64 0, .string ⟨#[]⟩] 44)
 have k1 := Blk.new (w.alloc (.cells #[.int .i64 k, .string key, .int .i64 f, .int .i64 t, .string d] 44)) #[.int .i64 0, .string ⟨#[]⟩, .int .i64 0, .int .i64 0, .string ⟨#[]⟩] 44
 rw [World.size_alloc] at k1
 go_enter Tryz.func93, Tryz.ntmps93
 go_wp2_with fail
 generalize (w.alloc (.cells #[.int .i64 k, .string key, .int .i64 f, .int .i64 t, .string d] 44)).alloc (.cells #[.int .i64 0, .string ⟨#[]⟩, .int .i64 0, .int .i64 0, .string ⟨#[]⟩] 44) = X at *
 refine (c1 _).mono ?_
 rintro e w1 ⟨rfl, hb1⟩
 have m0 := k0.on hb1 k0.lt
 have m1 := k1.on hb1 k1.lt
 have B1 : Hid (Below w.heap.size w (w1.setCell ⟨w.heap.size, 1, none⟩ (.string key))) := (hb0.trans (hb1.mono hb0.size)).setCell (Nat.le_refl _) _
 have n0 : Hid (Blk (w1.setCell ⟨w.heap.size, 1, none⟩ (.string key)) w.heap.size #[.int .i64 k, .string key, .int .i64 f, .int .i64 t, .string d] 44) := m0.set 1 (.string key)
 have n1 : Hid (Blk (w1.setCell ⟨w.heap.size, 1, none⟩ (.string key)) (w.heap.size + 1) #[.int .i64 0, .string ⟨#[]⟩, .int .i64 0, .int .i64 0, .string ⟨#[]⟩] 44) := m1.other (by omega) 1 _
 have f3 := m0.free 1
 have e3 : w1.cell? ⟨w.heap.size, 1, none⟩ = some (.string key) := m0.cell 1 _ rfl
 have e4 : (w1.setCell ⟨w.heap.size, 1, none⟩ (.string key)).cell? ⟨w.heap.size, 4, none⟩ = some (.string d) := n0.out.cell 4 _ rfl
 clear hb0 hb1 c1 k0 k1 m0 m1
 go_wp2_with fail
 generalize w1.setCell ⟨w.heap.size, 1, none⟩ (.string key) = Y at *
 clear e3 f3 e4
 refine (c2 _).mono ?_
 rintro e w2 ⟨rfl, hb1⟩
 have m0 := n0.out.on hb1 n0.out.lt
 have m1 := n1.out.on hb1 n1.out.lt
 have B2 : Hid (Below w.heap.size w (w2.setCell ⟨w.heap.size, 4, none⟩ (.string d))) := (B1.out.trans (hb1.mono B1.out.size)).setCell (Nat.le_refl _) _
 have o0 : Hid (Blk (w2.setCell ⟨w.heap.size, 4, none⟩ (.string d)) w.heap.size #[.int .i64 k, .string key, .int .i64 f, .int .i64 t, .string d] 44) := m0.set 4 (.string d)
 have o1 : Hid (Blk (w2.setCell ⟨w.heap.size, 4, none⟩ (.string d)) (w.heap.size + 1) #[.int .i64 0, .string ⟨#[]⟩, .int .i64 0, .int .i64 0, .string ⟨#[]⟩] 44) := m1.other (by omega) 4 _
 have f3 := m0.free 4
 have e3 : w2.cell? ⟨w.heap.size, 4, none⟩ = some (.string d) := m0.cell 4 _ rfl
 clear hb1 c2 n0 n1 m0 m1 B1
 obtain ⟨Q, hQ⟩ : ∃ Q, Q = w2.setCell ⟨w.heap.size, 4, none⟩ (.string d) := ⟨_, rfl⟩
 rw [← hQ] at B2 o0 o1
 obtain ⟨c0, c1, c2, c3, c4⟩ := cellsC5 o0.out
 obtain ⟨⟨r0, s0⟩, ⟨r1, s1⟩, ⟨r2, s2⟩, ⟨r3, s3⟩, ⟨r4, s4⟩, z0, z1, z2, z3, z4⟩ := resC5 (x0 := .int .i64 k) (x1 := .string key) (x2 := .int .i64 f) (x3 := .int .i64 t) (x4 := .string d) o1.out
 have B3 := Hid.mk (belowC5 B2.out (show w.heap.size ≤ w.heap.size + 1 by omega) (.int .i64 k) (.string key) (.int .i64 f) (.int .i64 t) (.string d))
 rw [hQ] at c0 c1 c2 c3 c4 r0 r1 r2 r3 r4 s0 s1 s2 s3 s4 z0 z1 z2 z3 z4 B3
 clear hQ o0 o1 B2
 go_wp2_with fail
 exact bodyPost_ret (v := .agg #[.int .i64 k, .string key, .int .i64 f, .int .i64 t, .string d]) (by simp [results, go_sem, z0, z1, z2, z3, z4]) rfl ⟨rfl, B3.out⟩
set_option maxHeartbeats 4000000 in
theorem takeOp (g : Nat) (s : ByteArray) (w : World) (hp : Prt w g s) (hs : s.size ≤ 1048576) (w0 : World) (hst : SumTab w0) (a0 a1 a2 : Addr) (he : Errs w0 a0 a1 a2) (hw0 : Below w0.heap.size w0 w) (hg0 : w0.heap.size ≤ g) :
  Calls Tryz.prog 78 #[.pointer (some ⟨g, 0, none⟩)] w fun e w' => ((∃ x, OpRd s x ∧ e = .returned (vOp x)) ∨ ((∀ x, ¬ OpRd s x) ∧ e = .panicked lackP)) ∧ PKeep g w w' := by
 have HS : Hid (s.size ≤ 1048576) := hs
 have HG : Hid (g < w.heap.size) := hp.lt
 have B0 : Hid (Blk (w.alloc (.cells #[.int .i64 0, .string ⟨#[]⟩, .int .i64 0, .int .i64 0, .string ⟨#[]⟩] 44)) w.heap.size #[.int .i64 0, .string ⟨#[]⟩, .int .i64 0, .int .i64 0, .string ⟨#[]⟩] 44) := Blk.new _ _ _
 have K0 : Hid (PKeep g w (w.alloc (.cells #[.int .i64 0, .string ⟨#[]⟩, .int .i64 0, .int .i64 0, .string ⟨#[]⟩] 44))) := (PKeep.refl g w).alloc hp.lt _
 have P0 : Hid (Prt (w.alloc (.cells #[.int .i64 0, .string ⟨#[]⟩, .int .i64 0, .int .i64 0, .string ⟨#[]⟩] 44)) g s) := hp.alloc _
 have HD : Hid (∀ wx, PKeep g w wx → SumTab wx ∧ Errs wx a0 a1 a2) := fun wx hk => by
  have hb : Below w0.heap.size w0 wx := hw0.trans (hk.1.mono hg0)
  exact ⟨hst.on hb, he.on hb⟩
 clear hp hs hst he hw0 hg0
 go_enter Tryz.func78, Tryz.ntmps78
 go_wp2_with fail
 generalize w.alloc (.cells #[.int .i64 0, .string ⟨#[]⟩, .int .i64 0, .int .i64 0, .string ⟨#[]⟩] 44) = W at *
 refine (takeByteF g s _ P0.out HS.out).mono ?_
 rintro e w1 ⟨hR, hk⟩
 have K1 : Hid (PKeep g w w1) := K0.out.trans hk
 have B1 := Hid.mk (hk.blk B0.out (by have := HG.out; omega))
 clear hk B0
 rcases hR with ⟨h1, rfl, hp⟩ | ⟨hno, rfl⟩
 rotate_left
 ·have HN : Hid (∀ x, ¬ OpRd s x) := by
   rintro x ⟨k, n1, f, t, m, h0, h1, h2, h3, h4, h5⟩
   exact hno h0
  clear hno
  go_wp2_with fail
  exact ⟨rfl, .inr ⟨HN.out, rfl⟩, K1.out⟩
 have H1 : Hid (1 ≤ s.size) := h1
 have P1 : Hid (Prt w1 g (lf s 1)) := hp
 clear h1 hp P0 K0
 have R1 : Hid (RdF s 1 0 [] 1) := ⟨rfl, rfl⟩
 have HKB : Hid ((bn s 0 : Int) = (bn s 0 : Int)) := rfl
 generalize hkn : (bn s 0 : Int) = kn at HKB
 have HKN : Hid ((bn s 0 : Int) = kn) := hkn
 clear HKB hkn
 go_wp2_with fail
 refine (takeVarF g s 1 _ P1.out HS.out).mono ?_
 rintro e w2 ⟨hR, hk⟩
 have K2 : Hid (PKeep g w w2) := K1.out.trans hk
 have B2 := Hid.mk (hk.blk B1.out (by have := HG.out; omega))
 clear hk B1
 rcases hR with ⟨k1, hf, rfl, hp⟩ | ⟨hno, rfl⟩
 rotate_left
 ·have HN : Hid (∀ x, ¬ OpRd s x) := by
   rintro x ⟨k, n1, f, t, m, h0, h1, h2, h3, h4, h5⟩
   exact R1.out.no (by omega) hno _ _ h1
  clear hno
  go_wp2_with fail
  exact ⟨rfl, .inr ⟨HN.out, rfl⟩, K2.out⟩
 have P2 : Hid (Prt w2 g (lf s (1 + k1))) := hp
 have R2 := Hid.mk (R1.out.snoc hf)
 have hv := vvS_le (lf s 1) k1 hf.2.1 0
 have L2 : Hid (1 + k1 ≤ s.size) := by have := hf.2.2.1; unfold Hid; rw [lf_size] at this; have := H1.out; omega
 generalize 1 + k1 = n1 at P2 R2 L2
 generalize vvS (lf s 1) 0 k1 = kl at *
 clear hf hp P1 K1
 go_wp2_with fail
 refine (takeTextF g s n1 kl _ P2.out L2.out HS.out).mono ?_
 rintro e w3 ⟨hR, hk⟩
 have K3 : Hid (PKeep g w w3) := K2.out.trans hk
 have B3 := Hid.mk (hk.blk B2.out (by have := HG.out; omega))
 clear hk B2
 rcases hR with ⟨h3, rfl, hp⟩ | ⟨hno, rfl⟩
 rotate_left
 ·have HN : Hid (∀ x, ¬ OpRd s x) := by
   rintro x ⟨k, n1, f, t, m, h0, h1, h2, h3, h4, h5⟩
   obtain ⟨e, rfl⟩ := h1.one R2.out
   simp only [List.nil_append, List.cons.injEq, and_true] at e
   obtain rfl : k = kl := by omega
   exact hno h2
  clear hno
  go_wp2_with fail
  exact ⟨rfl, .inr ⟨HN.out, rfl⟩, K3.out⟩
 have H3 : Hid (n1 + kl ≤ s.size) := h3
 have P3 : Hid (Prt w3 g (lf s (n1 + kl))) := hp
 have R3 : Hid (RdF s (n1 + kl) 0 [] (n1 + kl)) := ⟨rfl, rfl⟩
 have HKZ : Hid ((s.extract n1 (n1 + kl)).size ≤ 1048576) := by unfold Hid; rw [ByteArray.size_extract]; have := HS.out; omega
 generalize hky : s.extract n1 (n1 + kl) = ky at HKZ
 have HKY : Hid (s.extract n1 (n1 + kl) = ky) := hky
 clear hp h3 P2 K2 hv hky
 go_wp2_with fail
 refine (takeVarF g s (n1 + kl) _ P3.out HS.out).mono ?_
 rintro e w4 ⟨hR, hk⟩
 have K4 : Hid (PKeep g w w4) := K3.out.trans hk
 have B4 := Hid.mk (hk.blk B3.out (by have := HG.out; omega))
 clear hk B3
 rcases hR with ⟨k3, hf, rfl, hp⟩ | ⟨hno, rfl⟩
 rotate_left
 ·have HN : Hid (∀ x, ¬ OpRd s x) := by
   rintro x ⟨k, n1, f, t, m, h0, h1, h2, h3, h4, h5⟩
   obtain ⟨e, rfl⟩ := h1.one R2.out
   simp only [List.nil_append, List.cons.injEq, and_true] at e
   obtain rfl : k = kl := by omega
   exact R3.out.no (by omega) hno _ _ h3
  clear hno
  go_wp2_with fail
  exact ⟨rfl, .inr ⟨HN.out, rfl⟩, K4.out⟩
 have P4 : Hid (Prt w4 g (lf s (n1 + kl + k3))) := hp
 have R4 := Hid.mk (R3.out.snoc hf)
 generalize n1 + kl + k3 = n4 at P4 R4
 generalize (vvS (lf s (n1 + kl)) 0 k3 : Int) = z1 at *
 clear hf hp P3 K3
 go_wp2_with fail
 refine (takeVarF g s n4 _ P4.out HS.out).mono ?_
 rintro e w5 ⟨hR, hk⟩
 have K5 : Hid (PKeep g w w5) := K4.out.trans hk
 have B5 := Hid.mk (hk.blk B4.out (by have := HG.out; omega))
 clear hk B4
 rcases hR with ⟨k4, hf, rfl, hp⟩ | ⟨hno, rfl⟩
 rotate_left
 ·have HN : Hid (∀ x, ¬ OpRd s x) := by
   rintro x ⟨k, n1, f, t, m, h0, h1, h2, h3, h4, h5⟩
   obtain ⟨e, rfl⟩ := h1.one R2.out
   simp only [List.nil_append, List.cons.injEq, and_true] at e
   obtain rfl : k = kl := by omega
   exact R4.out.no (by omega) hno _ _ h3
  clear hno
  go_wp2_with fail
  exact ⟨rfl, .inr ⟨HN.out, rfl⟩, K5.out⟩
 have P5 : Hid (Prt w5 g (lf s (n4 + k4))) := hp
 have R5 := Hid.mk (R4.out.snoc hf)
 generalize n4 + k4 = n5 at P5 R5
 generalize (vvS (lf s n4) 0 k4 : Int) = z2 at *
 clear hf hp P4 K4
 go_wp2_with fail
 refine (takeRestF g s n5 _ P5.out HS.out).mono ?_
 rintro e w6 ⟨rfl, hk⟩
 have K6 : Hid (PKeep g w w6) := K5.out.trans hk
 have B6 := Hid.mk (hk.blk B5.out (by have := HG.out; omega))
 clear hk B5
 have HL : Hid ((lf s n5).size ≤ 1048576) := by unfold Hid; rw [lf_size]; have := HS.out; omega
 generalize hd : lf s n5 = d at HL
 have HE : Hid (lf s n5 = d) := hd
 clear K5 P5 hd
 have R2' : Hid (RdF s 1 1 [(kl : Int)] n1) := R2.out
 have R5' : Hid (RdF s (n1 + kl) 2 [z1, z2] n5) := R5.out
 have HX1 : Hid (opOk ⟨kn, ky, z1, z2, d⟩ = true → OpRd s ⟨kn, ky, z1, z2, d⟩) := fun h => ⟨kl, n1, z1, z2, n5, H1.out, R2'.out, H3.out, R5'.out, by rw [HKN.out, HKY.out, HE.out], h⟩
 have HX2 : Hid (opOk ⟨kn, ky, z1, z2, d⟩ = false → ∀ x, ¬ OpRd s x) := by
  rintro h x ⟨k, n1', f, t, m, h0, h1, h2, h3, rfl, h5⟩
  obtain ⟨e, rfl⟩ := h1.one R2'.out
  simp only [List.cons.injEq, and_true] at e
  obtain rfl : k = kl := by omega
  obtain ⟨e, rfl⟩ := h3.one R5'.out
  simp only [List.cons.injEq, and_true] at e
  obtain ⟨rfl, rfl⟩ := e
  rw [HKN.out, HKY.out, HE.out, h] at h5
  cases h5
 clear R1 R2 R3 R4 R5 R2' R5'
 obtain ⟨c0, c1, c2, c3, c4⟩ := cellsC5 (Blk.new w6 #[.int .i64 kn, .string ky, .int .i64 z1, .int .i64 z2, .string d] 44)
 have K7 : Hid (PKeep g w (w6.alloc (.cells #[.int .i64 kn, .string ky, .int .i64 z1, .int .i64 z2, .string d] 44))) := K6.out.alloc HG.out _
 have B7 := Hid.mk (B6.out.alloc (.cells #[.int .i64 kn, .string ky, .int .i64 z1, .int .i64 z2, .string d] 44))
 have A7 := Hid.mk (Blk.new w6 #[.int .i64 kn, .string ky, .int .i64 z1, .int .i64 z2, .string d] 44)
 clear K6 B6
 go_wp2_with fail
 generalize w6.alloc (.cells #[.int .i64 kn, .string ky, .int .i64 z1, .int .i64 z2, .string d] 44) = V at *
 refine (implOpOk ⟨kn, ky, z1, z2, d⟩ _ (by have := HKZ.out; simp only [maxLen]; omega) HL.out (HD.out _ K7.out).1 a0 a1 a2 (HD.out _ K7.out).2).mono ?_
 rintro e w7 ⟨rfl, hb⟩
 have K8 : Hid (PKeep g w w7) := K7.out.below HG.out hb
 have B8 := Hid.mk (B7.out.on hb B7.out.lt)
 have A8 := Hid.mk (A7.out.on hb A7.out.lt)
 clear hb c0 c1 c2 c3 c4 K7 B7 A7 HD
 cases ho : opOk ⟨kn, ky, z1, z2, d⟩
 ·have HN : Hid (∀ x, ¬ OpRd s x) := HX2.out ho
  clear ho
  go_wp2_with fail
  refine (need_no _).mono ?_
  rintro e w8 ⟨rfl, rfl⟩
  go_wp2_with fail
  exact ⟨rfl, .inr ⟨HN.out, rfl⟩, K8.out⟩
 have HX : Hid (OpRd s ⟨kn, ky, z1, z2, d⟩) := HX1.out ho
 clear ho HX1 HX2
 go_wp2_with fail
 refine (need_yes _).mono ?_
 rintro e w8 ⟨rfl, rfl⟩
 obtain ⟨c0, c1, c2, c3, c4⟩ := cellsC5 A8.out
 go_wp2_with fail
 refine (copyOpV ⟨kn, ky, z1, z2, d⟩ _ HKZ.out HL.out).mono ?_
 rintro e w8 ⟨rfl, hb⟩
 have K9 : Hid (PKeep g w w8) := K8.out.below HG.out hb
 have B9 := Hid.mk (B8.out.on hb B8.out.lt)
 clear hb c0 c1 c2 c3 c4 K8 B8 A8
 unfold vOp
 obtain ⟨⟨r0, s0⟩, ⟨r1, s1⟩, ⟨r2, s2⟩, ⟨r3, s3⟩, ⟨r4, s4⟩, y0, y1, y2, y3, y4⟩ := resC5 (x0 := .int .i64 kn) (x1 := .string ky) (x2 := .int .i64 z1) (x3 := .int .i64 z2) (x4 := .string d) B9.out
 go_wp2_with fail
 have hgs := Nat.le_of_lt HG.out
 exact bodyPost_ret (v := .agg #[.int .i64 kn, .string ky, .int .i64 z1, .int .i64 z2, .string d]) (by simp [results, go_sem, y0, y1, y2, y3, y4]) rfl ⟨.inl ⟨_, HX.out, rfl⟩, ((((K9.out.setNew (Nat.le_refl _) hgs _ _).setNew (Nat.le_refl _) hgs _ _).setNew (Nat.le_refl _) hgs _ _).setNew (Nat.le_refl _) hgs _ _).setNew (Nat.le_refl _) hgs _ _⟩
end Go.Proofs.YtimfnbnffibgpaaGreatDoor
namespace Go.Proofs.YtimfnbnffibgpaaGreatDoor
open Go.ChangeShapes Go.WideShapes Go.ChangeAt Go.RowKit Go.PlainAid
set_option linter.unusedVariables false
def ansT (x : Ans) : ByteArray := if ansOk x = true then txt (vF 6 x.code.toNat) ++ txt (vF 6 x.index.toNat) ++ txt (vF 6 x.mark.toNat) ++ x.data else ⟨#[]⟩
def AnsRd (s : ByteArray) (x : Ans) : Prop := ∃ c i m n, RdF s 0 3 [c, i, m] n ∧ x = ⟨c, i, m, lf s n⟩ ∧ ansOk x = true
theorem AnsRd.one {s : ByteArray} {x y : Ans} (h : AnsRd s x) (h' : AnsRd s y) : x = y := by
 obtain ⟨c, i, m, n, h1, rfl, _⟩ := h
 obtain ⟨c', i', m', n', h1', rfl, _⟩ := h'
 obtain ⟨e, rfl⟩ := h1.one h1'
 simp only [List.cons.injEq, and_true] at e
 obtain ⟨rfl, rfl, rfl⟩ := e
 rfl
def AnsA (s : ByteArray) (e : Ending) : Prop := (∃ x, AnsRd s x ∧ e = .returned (.tuple #[vAns x, .bool true])) ∨ ((∀ x, ¬ AnsRd s x) ∧ e = .returned (.tuple #[vAns ⟨0, 0, 0, ⟨#[]⟩⟩, .bool false]))
theorem AnsA.one {s : ByteArray} {e e' : Ending} (h : AnsA s e) (h' : AnsA s e') : e = e' := by
 rcases h with ⟨x, hx, rfl⟩ | ⟨hn, rfl⟩ <;> rcases h' with ⟨y, hy, rfl⟩ | ⟨hn', rfl⟩
 ·rw [hx.one hy]
 ·exact absurd hx (hn' x)
 ·exact absurd hy (hn y)
 ·rfl
theorem AnsA.form {s : ByteArray} {e : Ending} (h : AnsA s e) : ∃ x b, e = .returned (.tuple #[vAns x, .bool b]) := by
 rcases h with ⟨x, hx, rfl⟩ | ⟨hn, rfl⟩
 ·exact ⟨_, _, rfl⟩
 ·exact ⟨_, _, rfl⟩
set_option maxHeartbeats 400000 in
theorem copyAns (x : Ans) (w : World) (hd : x.data.size ≤ 1048576) : Calls Tryz.prog 96 #[vAns x] w fun e w' => e = .returned (vAns x) ∧ Below w.heap.size w w' := by
 obtain ⟨c, i, m, d⟩ := x
 unfold vAns
 simp only at hd ⊢
 have c1 := fun wx => clone d wx (by omega)
 clear hd
 have hb0 := below_c2 w (.cells #[.int .i64 c, .int .i64 i, .int .i64 m, .string d] 48) (.cells #[.int .i64 0, .int .i64 0, .int .i64 0, .string ⟨#[]⟩] 48)
 have k0 := (Blk.new w #[.int .i64 c, .int .i64 i, .int .i64 m, .string d] 48).alloc (.cells #[.int .i64 0, .int .i64 0, .int .i64 0, .string ⟨#[]⟩] 48)
 have k1 := Blk.new (w.alloc (.cells #[.int .i64 c, .int .i64 i, .int .i64 m, .string d] 48)) #[.int .i64 0, .int .i64 0, .int .i64 0, .string ⟨#[]⟩] 48
 rw [World.size_alloc] at k1
 go_enter Tryz.func96, Tryz.ntmps96
 go_wp2_with fail
 generalize (w.alloc (.cells #[.int .i64 c, .int .i64 i, .int .i64 m, .string d] 48)).alloc (.cells #[.int .i64 0, .int .i64 0, .int .i64 0, .string ⟨#[]⟩] 48) = X at *
 refine (c1 _).mono ?_
 rintro e w1 ⟨rfl, hb1⟩
 have m0 := k0.on hb1 k0.lt
 have m1 := k1.on hb1 k1.lt
 have B1 : Hid (Below w.heap.size w (w1.setCell ⟨w.heap.size, 3, none⟩ (.string d))) := (hb0.trans (hb1.mono hb0.size)).setCell (Nat.le_refl _) _
 have n0 : Hid (Blk (w1.setCell ⟨w.heap.size, 3, none⟩ (.string d)) w.heap.size #[.int .i64 c, .int .i64 i, .int .i64 m, .string d] 48) := m0.set 3 (.string d)
 have n1 : Hid (Blk (w1.setCell ⟨w.heap.size, 3, none⟩ (.string d)) (w.heap.size + 1) #[.int .i64 0, .int .i64 0, .int .i64 0, .string ⟨#[]⟩] 48) := m1.other (by omega) 3 _
 have f3 := m0.free 3
 have e3 : w1.cell? ⟨w.heap.size, 3, none⟩ = some (.string d) := m0.cell 3 _ rfl
 clear hb0 hb1 c1 k0 k1 m0 m1
 obtain ⟨Y, hY⟩ : ∃ Y, Y = w1.setCell ⟨w.heap.size, 3, none⟩ (.string d) := ⟨_, rfl⟩
 rw [← hY] at B1 n0 n1
 obtain ⟨c0, c1, c2, c3⟩ := cellsC4 n0.out
 have R := resC4 (x0 := .int .i64 c) (x1 := .int .i64 i) (x2 := .int .i64 m) (x3 := .string d) n1.out
 obtain ⟨⟨r0, s0⟩, ⟨r1, s1⟩, ⟨r2, s2⟩, ⟨r3, s3⟩, z0, z1, z2, z3⟩ := R
 have B2 : Hid (Below w.heap.size w ((((Y.setCell ⟨w.heap.size + 1, 0, none⟩ (.int .i64 c)).setCell ⟨w.heap.size + 1, 1, none⟩ (.int .i64 i)).setCell ⟨w.heap.size + 1, 2, none⟩ (.int .i64 m)).setCell ⟨w.heap.size + 1, 3, none⟩ (.string d))) := belowC4 B1.out (by omega) _ _ _ _
 rw [hY] at c0 c1 c2 c3 r0 r1 r2 r3 s0 s1 s2 s3 z0 z1 z2 z3 B2
 clear hY n0 n1 B1
 go_wp2_with fail
 exact bodyPost_ret (v := .agg #[.int .i64 c, .int .i64 i, .int .i64 m, .string d]) (by simp [results, go_sem, z0, z1, z2, z3]) rfl ⟨rfl, B2.out⟩
set_option maxHeartbeats 2000000 in
theorem takeAns (g : Nat) (s : ByteArray) (w : World) (hp : Prt w g s) (hs : s.size ≤ 1048576) :
  Calls Tryz.prog 80 #[.pointer (some ⟨g, 0, none⟩)] w fun e w' => ((∃ x, AnsRd s x ∧ e = .returned (vAns x)) ∨ ((∀ x, ¬ AnsRd s x) ∧ e = .panicked lackP)) ∧ PKeep g w w' := by
 have HS : Hid (s.size ≤ 1048576) := hs
 have HG : Hid (g < w.heap.size) := hp.lt
 have B0 : Hid (Blk (w.alloc (.cells #[.int .i64 0, .int .i64 0, .int .i64 0, .string ⟨#[]⟩] 48)) w.heap.size #[.int .i64 0, .int .i64 0, .int .i64 0, .string ⟨#[]⟩] 48) := Blk.new _ _ _
 have K0 : Hid (PKeep g w (w.alloc (.cells #[.int .i64 0, .int .i64 0, .int .i64 0, .string ⟨#[]⟩] 48))) := (PKeep.refl g w).alloc hp.lt _
 obtain ⟨n0, hn0⟩ : ∃ n0, n0 = 0 := ⟨0, rfl⟩
 have P0 : Hid (Prt (w.alloc (.cells #[.int .i64 0, .int .i64 0, .int .i64 0, .string ⟨#[]⟩] 48)) g (lf s n0)) := by subst hn0; rw [lf_zero]; exact hp.alloc _
 have R0 : Hid (RdF s 0 0 [] n0) := ⟨rfl, hn0⟩
 clear hp hs hn0
 go_enter Tryz.func80, Tryz.ntmps80
 go_wp2_with fail
 generalize w.alloc (.cells #[.int .i64 0, .int .i64 0, .int .i64 0, .string ⟨#[]⟩] 48) = W at *
 refine (takeVarF g s n0 _ P0.out HS.out).mono ?_
 rintro e w1 ⟨hR, hk⟩
 have K1 : Hid (PKeep g w w1) := K0.out.trans hk
 have B1 := Hid.mk (hk.blk B0.out (by have := HG.out; omega))
 clear hk B0
 rcases hR with ⟨k0, hf, rfl, hp⟩ | ⟨hno, rfl⟩
 rotate_left
 ·have HN : Hid (∀ x, ¬ AnsRd s x) := by
   rintro x ⟨c, i, m, n, h1, _⟩
   exact R0.out.no (by omega) hno _ _ h1
  clear hno
  go_wp2_with fail
  exact ⟨rfl, .inr ⟨HN.out, rfl⟩, K1.out⟩
 have P1 : Hid (Prt w1 g (lf s (n0 + k0))) := hp
 have R1 := Hid.mk (R0.out.snoc hf)
 generalize n0 + k0 = n1 at P1 R1
 generalize (vvS (lf s n0) 0 k0 : Int) = z0 at *
 clear hf hp P0 K0
 go_wp2_with fail
 refine (takeVarF g s n1 _ P1.out HS.out).mono ?_
 rintro e w2 ⟨hR, hk⟩
 have K2 : Hid (PKeep g w w2) := K1.out.trans hk
 have B2 := Hid.mk (hk.blk B1.out (by have := HG.out; omega))
 clear hk B1
 rcases hR with ⟨k1, hf, rfl, hp⟩ | ⟨hno, rfl⟩
 rotate_left
 ·have HN : Hid (∀ x, ¬ AnsRd s x) := by
   rintro x ⟨c, i, m, n, h1, _⟩
   exact R1.out.no (by omega) hno _ _ h1
  clear hno
  go_wp2_with fail
  exact ⟨rfl, .inr ⟨HN.out, rfl⟩, K2.out⟩
 have P2 : Hid (Prt w2 g (lf s (n1 + k1))) := hp
 have R2 := Hid.mk (R1.out.snoc hf)
 generalize n1 + k1 = n2 at P2 R2
 generalize (vvS (lf s n1) 0 k1 : Int) = z1 at *
 clear hf hp P1 K1
 go_wp2_with fail
 refine (takeVarF g s n2 _ P2.out HS.out).mono ?_
 rintro e w3 ⟨hR, hk⟩
 have K3 : Hid (PKeep g w w3) := K2.out.trans hk
 have B3 := Hid.mk (hk.blk B2.out (by have := HG.out; omega))
 clear hk B2
 rcases hR with ⟨k2, hf, rfl, hp⟩ | ⟨hno, rfl⟩
 rotate_left
 ·have HN : Hid (∀ x, ¬ AnsRd s x) := by
   rintro x ⟨c, i, m, n, h1, _⟩
   exact R2.out.no (by omega) hno _ _ h1
  clear hno
  go_wp2_with fail
  exact ⟨rfl, .inr ⟨HN.out, rfl⟩, K3.out⟩
 have P3 : Hid (Prt w3 g (lf s (n2 + k2))) := hp
 have R3 := Hid.mk (R2.out.snoc hf)
 generalize n2 + k2 = n3 at P3 R3
 generalize (vvS (lf s n2) 0 k2 : Int) = z2 at *
 clear hf hp P2 K2
 go_wp2_with fail
 refine (takeRestF g s n3 _ P3.out HS.out).mono ?_
 rintro e w4 ⟨rfl, hk⟩
 have K4 : Hid (PKeep g w w4) := K3.out.trans hk
 have B4 := Hid.mk (hk.blk B3.out (by have := HG.out; omega))
 have HL : Hid ((lf s n3).size ≤ 1048576) := by unfold Hid; rw [lf_size]; have := HS.out; omega
 generalize hd : lf s n3 = d at HL
 have HE : Hid (lf s n3 = d) := hd
 clear hk B3 K3 P3 hd
 obtain ⟨c0, c1, c2, c3⟩ := cellsC4 (Blk.new w4 #[.int .i64 z0, .int .i64 z1, .int .i64 z2, .string d] 48)
 have hsz : w.heap.size ≤ w4.heap.size := K4.out.1.size
 have K5 : Hid (PKeep g w (w4.alloc (.cells #[.int .i64 z0, .int .i64 z1, .int .i64 z2, .string d] 48))) := K4.out.alloc HG.out _
 have B5 := Hid.mk (B4.out.alloc (.cells #[.int .i64 z0, .int .i64 z1, .int .i64 z2, .string d] 48))
 have A5 := Hid.mk (Blk.new w4 #[.int .i64 z0, .int .i64 z1, .int .i64 z2, .string d] 48)
 have HZ : Hid (w.heap.size ≤ w4.heap.size) := hsz
 clear K4 B4 hsz
 go_wp2_with fail
 generalize w4.alloc (.cells #[.int .i64 z0, .int .i64 z1, .int .i64 z2, .string d] 48) = V at *
 refine (implAnswerOk ⟨z0, z1, z2, d⟩ _ (by have := HL.out; simp only [maxLen]; omega)).mono ?_
 rintro e w5 ⟨rfl, hb⟩
 have K6 : Hid (PKeep g w w5) := K5.out.below HG.out hb
 have B6 := Hid.mk (B5.out.on hb B5.out.lt)
 have A6 := Hid.mk (A5.out.on hb A5.out.lt)
 clear hb c0 c1 c2 c3 K5 B5 A5
 cases ho : ansOk ⟨z0, z1, z2, d⟩
 ·have HN : Hid (∀ x, ¬ AnsRd s x) := by
   rintro x ⟨c, i, m, n, h1, rfl, h3⟩
   obtain ⟨e, rfl⟩ := h1.one R3.out
   simp only [List.nil_append, List.cons_append, List.cons.injEq, and_true] at e
   obtain ⟨rfl, rfl, rfl⟩ := e
   rw [HE.out, ho] at h3
   cases h3
  clear ho
  go_wp2_with fail
  refine (need_no _).mono ?_
  rintro e w6 ⟨rfl, rfl⟩
  go_wp2_with fail
  exact ⟨rfl, .inr ⟨HN.out, rfl⟩, K6.out⟩
 have HX : Hid (AnsRd s ⟨z0, z1, z2, d⟩) := ⟨z0, z1, z2, n3, R3.out, by rw [HE.out], ho⟩
 clear ho
 go_wp2_with fail
 refine (need_yes _).mono ?_
 rintro e w6 ⟨rfl, rfl⟩
 obtain ⟨c0, c1, c2, c3⟩ := cellsC4 A6.out
 go_wp2_with fail
 refine (copyAns ⟨z0, z1, z2, d⟩ _ HL.out).mono ?_
 rintro e w6 ⟨rfl, hb⟩
 have K7 : Hid (PKeep g w w6) := K6.out.below HG.out hb
 have B7 := Hid.mk (B6.out.on hb B6.out.lt)
 clear hb c0 c1 c2 c3 K6 B6 A6
 unfold vAns
 obtain ⟨⟨r0, s0⟩, ⟨r1, s1⟩, ⟨r2, s2⟩, ⟨r3, s3⟩, y0, y1, y2, y3⟩ := resC4 (x0 := .int .i64 z0) (x1 := .int .i64 z1) (x2 := .int .i64 z2) (x3 := .string d) B7.out
 go_wp2_with fail
 have hgs := Nat.le_of_lt HG.out
 exact bodyPost_ret (v := .agg #[.int .i64 z0, .int .i64 z1, .int .i64 z2, .string d]) (by simp [results, go_sem, y0, y1, y2, y3]) rfl ⟨.inl ⟨_, HX.out, rfl⟩, (((K7.out.setNew (Nat.le_refl _) hgs _ _).setNew (Nat.le_refl _) hgs _ _).setNew (Nat.le_refl _) hgs _ _).setNew (Nat.le_refl _) hgs _ _⟩
end Go.Proofs.YtimfnbnffibgpaaGreatDoor
namespace Go.Proofs.YtimfnbnffibgpaaGreatDoor
open Go.ChangeShapes Go.WideShapes Go.ChangeAt Go.RowKit Go.PlainAid
set_option linter.unusedVariables false
open Classical in
noncomputable def opB (s : ByteArray) : Bool := decide (∃ y, OpRd s y)
open Classical in
noncomputable def ansB (s : ByteArray) : Bool := decide (∃ y, AnsRd s y)
def mgW (x : Mg) (l : List Ent) : Wl := ⟨x.term, -1, x.index, x.iterm, l⟩
noncomputable def namB (x : Mg) : Bool :=
 if x.kind = 6 then opB x.data && inRg x.index 1 1000000
 else if x.kind = 7 then ansB x.data && inRg x.index 1 1000000
 else if x.term < 1 then false
 else if x.kind = 1 then walOk (mgW x [])
 else if x.kind = 2 then decide (x.term ≤ 100000)
 else if x.kind = 3 then inRg x.commit 0 100000 && decide (x.ents.length ≤ 4) && walOk (mgW x x.ents)
 else if x.kind = 4 then decide (x.term ≤ 100000) && inRg x.index 0 100000
 else if x.kind = 5 then decide (0 < x.index) && walOk (mgW x []) && decide (x.data.size ≤ 30000)
 else false
noncomputable def msgOk (x : Mg) : Bool := endB x && namB x && nonB (unn x)
end Go.Proofs.YtimfnbnffibgpaaGreatDoor
namespace Go.Proofs.YtimfnbnffibgpaaGreatDoor
open Go.ChangeShapes Go.WideShapes Go.ChangeAt Go.RowKit Go.PlainAid
set_option linter.unusedVariables false
theorem toList_beq (a b : ByteArray) : (a.toList == b.toList) = decide (a = b) := by
 rw [Lib.toList_data, Lib.toList_data]
 by_cases h : a = b
 ·subst h
  simp
 ·rw [decide_eq_false h, beq_eq_false_iff_ne]
  intro e
  exact h (ByteArray.ext (Array.toList_inj.1 e))
theorem empty_beq (d : ByteArray) : d.toList.isEmpty = decide (d = ByteArray.empty) := by
 have h := toList_beq d ByteArray.empty
 rw [← h]
 have : ByteArray.empty.toList = [] := by rw [Lib.toList_data]; rfl
 rw [this]
 cases d.toList <;> rfl
set_option maxHeartbeats 400000 in
theorem inBW (x lo hi : Int) (w : World) : Calls Tryz.prog 20 #[.int .i64 x, .int .i64 lo, .int .i64 hi] w fun e w' => e = .returned (.bool (inIt x lo hi)) ∧ w = w' := by
 by_cases h1 : lo ≤ x
 ·go_enter Tryz.func20, Tryz.ntmps20
  go_wp2
  go_ret
  exact ⟨by simp [inIt, h1], rfl⟩
 ·have z : decide (lo ≤ x) = false := decide_eq_false h1
  have z2 : x < lo := by omega
  go_enter Tryz.func20, Tryz.ntmps20
  go_wp2
  go_ret
  exact ⟨by unfold inIt; rw [z]; rfl, rfl⟩
set_option maxHeartbeats 400000 in
theorem basedV (i t : Int) (w : World) : Calls Tryz.prog 21 #[.int .i64 i, .int .i64 t] w fun e w' => e = .returned (.bool (based i t)) ∧ w = w' := by
 by_cases h1 : i = 0
 ·subst h1
  go_enter Tryz.func21, Tryz.ntmps21
  go_wp2
  go_ret
  exact ⟨by unfold based; rw [if_pos rfl]; exact congrArg (fun b => Ending.returned (.bool b)) (by by_cases h : t = 0 <;> simp [h]), rfl⟩
 ·have z : (i == 0) = false := by simpa using h1
  have a1 := inBW i 1 100000
  have a2 := inBW t 1 100000
  have HE : Hid (based i t = (inIt i 1 100000 && inIt t 1 100000)) := by unfold Hid based; rw [if_neg h1]
  cases h2 : inIt i 1 100000 <;> rw [h2] at a1 HE <;> clear h1 h2
  ·go_enter Tryz.func21, Tryz.ntmps21
   go_wp2_with fail
   refine (a1 _).mono ?_
   rintro e w' ⟨rfl, rfl⟩
   go_wp2_with fail
   go_ret
   exact ⟨by rw [HE.out]; rfl, rfl⟩
  ·go_enter Tryz.func21, Tryz.ntmps21
   go_wp2_with fail
   refine (a1 _).mono ?_
   rintro e w' ⟨rfl, rfl⟩
   go_wp2_with fail
   refine (a2 _).mono ?_
   rintro e w' ⟨rfl, rfl⟩
   go_wp2_with fail
   go_ret
   exact ⟨by rw [HE.out]; rfl, rfl⟩
end Go.Proofs.YtimfnbnffibgpaaGreatDoor
