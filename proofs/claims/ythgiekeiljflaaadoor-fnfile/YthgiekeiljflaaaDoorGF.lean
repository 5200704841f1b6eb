/-
  The span of a file (no program in sight but the type of spots, no condition).
-/
import Derived.Test.YthgiekeiljflaaaDoorGC
import Derived.WalkKit
import Derived.ProofKit
import Derived.OpenShut
import Derived.Below
import Derived.WalkSmall
import Derived.BigQuiet
import Derived.Deep.QuietTactic
import Derived.Deep.RegionWith
import Derived.Handy
import Derived.Test.YthgiekeiljflaaaDoorGB
namespace Go.Proofs.YthgiekeiljflaaaDoor
open Go.ChangeShapes Go.WideShapes Go.ChangeAt Go.RowKit Go.PlainAid
set_option linter.unusedVariables false

/-- The least and the greatest time of the first k. -/
def loT (m : List Ser) : Nat → Nat
  | 0 => fT m 0
  | k + 1 => min (loT m k) (fT m k)
def hiT (m : List Ser) : Nat → Nat
  | 0 => fT m 0
  | k + 1 => max (hiT m k) (lT m k)
theorem times_up {l : List Pnt} (h : POk l) : ∀ j, j < l.length → tAt l 0 ≤ tAt l j
  | 0, _ => Int.le_refl _
  | j + 1, hj => by
    have := times_up h j (by omega)
    have := (h.2 (j + 1) hj).2 (by omega)
    rw [Nat.add_sub_cancel] at this
    omega
theorem SOk.rise {m : List Ser} (h : SOk m) (j : Nat) (hj : j < m.length) : fT m j ≤ lT m j := by
  have h1 := (h.2 j hj).2
  have := times_up h1.2 ((sAt m j).pts.length - 1) (by omega)
  unfold fT lT
  omega
theorem loT_le {m : List Ser} (h : SOk m) (h1 : 1 ≤ m.length) : ∀ k, k ≤ m.length → loT m k ≤ 1099511627776 ∧ hiT m k ≤ 1099511627776
  | 0, _ => by
    have := (h.times 0 (by omega)).1
    unfold loT hiT fT
    omega
  | k + 1, hk => by
    have ih := loT_le h h1 k (by omega)
    have := h.times k (by omega)
    rw [loT, hiT]
    unfold fT lT
    omega
/-- What both FileSpan answer. -/
def FsAns (s : ByteArray) (a b : Nat) (ok : Bool) : Prop := (ok = true ∧ ∃ m, GoodF s m ∧ a = loT m m.length ∧ b = hiT m m.length) ∨ (ok = false ∧ a = 0 ∧ b = 0 ∧ ∀ m, ¬ GoodF s m)
theorem FsAns.one {s : ByteArray} {a b a' b' : Nat} {x y : Bool} (h : FsAns s a b x) (h' : FsAns s a' b' y) : a = a' ∧ b = b' ∧ x = y := by
  rcases h with ⟨h1, m, h2, h3, h4⟩ | ⟨h1, h2, h3, h4⟩ <;> rcases h' with ⟨h1', m', h2', h3', h4'⟩ | ⟨h1', h2', h3', h4'⟩
  · obtain rfl := h2.one h2'
    exact ⟨h3.trans h3'.symm, h4.trans h4'.symm, h1.trans h1'.symm⟩
  · exact absurd h2 (h4' m)
  · exact absurd h2' (h4 m')
  · exact ⟨h2.trans h2'.symm, h3.trans h3'.symm, h1.trans h1'.symm⟩
/-- An ending with such an answer. -/
def FsOk (s : ByteArray) (e : Ending) : Prop := ∃ (a b : Nat) (ok : Bool), e = .returned (.tuple #[.int .i64 (a : Int), .int .i64 (b : Int), .bool ok]) ∧ FsAns s a b ok
/-- A slice behind its first, of the call's own, as it lies. -/
theorem sp_tail {w : World} {base : Nat} {A : Option Addr} {n c : Nat} {P : List Spot} (h : Owns w base 56 5 (.slice A n c) (spR P)) (h1 : 1 ≤ P.length) : ∃ g, A = some ⟨g, 0, none⟩ ∧ n = P.length ∧ n ≤ c ∧ g < w.heap.size ∧ base ≤ g ∧ ∀ j, j < P.length → w.cell? ⟨g, j * 5, none⟩ = some (.string (P.getD j default).key) ∧ w.cell? ⟨g, j * 5 + 1, none⟩ = some (.int .i64 ((P.getD j default).at' : Int)) ∧ w.cell? ⟨g, j * 5 + 2, none⟩ = some (.int .i64 ((P.getD j default).size : Int)) ∧ w.cell? ⟨g, j * 5 + 3, none⟩ = some (.int .i64 ((P.getD j default).first : Int)) ∧ w.cell? ⟨g, j * 5 + 4, none⟩ = some (.int .i64 ((P.getD j default).last : Int)) := by
  have hl := h.lt
  obtain ⟨A', c', e, hlk⟩ := sp_look h.lies
  rcases h.2.2 with ⟨e0, h0⟩ | ⟨g, cap, cur, e0, hg, _, hc, _⟩
  · rw [spR_length] at h0
    omega
  · cases e0
    rw [spR_length] at e hc ⊢
    cases e
    refine ⟨g, rfl, rfl, hc, (hl g rfl).2, hg, fun j hj => ?_⟩
    obtain ⟨g', off', e', _, h5⟩ := hlk j hj
    cases e'
    simpa only [Nat.zero_add] using h5
end Go.Proofs.YthgiekeiljflaaaDoor

/-
  What is found in a file (no condition).
-/
namespace Go.Proofs.YthgiekeiljflaaaDoor
open Go.ChangeShapes Go.WideShapes Go.ChangeAt Go.RowKit Go.PlainAid
set_option linter.unusedVariables false

/-- What both FileFind answer. -/
def FfAns (s key : ByteArray) (l : List Pnt) (ok : Bool) : Prop := (ok = true ∧ ∃ m j, GoodF s m ∧ j < m.length ∧ (sAt m j).key = key ∧ (∀ i, i < j → (sAt m i).key ≠ key) ∧ l = (sAt m j).pts) ∨ (ok = false ∧ l = [] ∧ ∀ m, GoodF s m → ∀ j, j < m.length → (sAt m j).key ≠ key)
theorem FfAns.one {s key : ByteArray} {l l' : List Pnt} {x y : Bool} (h : FfAns s key l x) (h' : FfAns s key l' y) : l = l' ∧ x = y := by
  rcases h with ⟨h1, m, j, h2, h3, h4, h5, h6⟩ | ⟨h1, h2, h3⟩ <;> rcases h' with ⟨h1', m', j', h2', h3', h4', h5', h6'⟩ | ⟨h1', h2', h3'⟩
  · obtain rfl := h2.one h2'
    obtain rfl : j = j' := by
      rcases Nat.lt_trichotomy j j' with e | e | e
      · exact absurd h4 (h5' j e)
      · exact e
      · exact absurd h4' (h5 j' e)
    exact ⟨h6.trans h6'.symm, h1.trans h1'.symm⟩
  · exact absurd h4 (h3' m h2 j h3)
  · exact absurd h4' (h3 m' h2' j' h3')
  · exact ⟨h2.trans h2'.symm, h1.trans h1'.symm⟩
theorem FfAns.len {s key : ByteArray} {l : List Pnt} {x : Bool} (h : FfAns s key l x) : l.length ≤ 60 := by
  rcases h with ⟨_, m, j, h2, h3, _, _, h6⟩ | ⟨_, h2, _⟩
  · rw [h6]
    exact (h2.2.1.2 j h3).2.2.1
  · rw [h2]
    simp
/-- An ending with such an answer, in new memory. -/
def FfOk (s key : ByteArray) (w' : World) (b : Nat) (e : Ending) : Prop := ∃ v l ok, e = .returned (.tuple #[v, .bool ok]) ∧ FfAns s key l ok ∧ Owns w' b 39 2 v (ptR l)
end Go.Proofs.YthgiekeiljflaaaDoor

/-
  A text with one byte turned; what a file tells (no condition).
-/
namespace Go.Proofs.YthgiekeiljflaaaDoor
open Go.ChangeShapes Go.WideShapes Go.ChangeAt Go.RowKit Go.PlainAid
set_option linter.unusedVariables false

theorem bn_out (s : ByteArray) (i : Nat) (h : s.size ≤ i) : bn s i = 0 := by
  unfold bn bt
  rw [dif_neg (by omega)]
  rfl
theorem bn_append_right (a b : ByteArray) (j : Nat) (h : j < b.size) : bn (a ++ b) (a.size + j) = bn b j := by
  rw [bn_get _ _ (by rw [ByteArray.size_append]; omega), bn_get _ _ h]
  congr 1
  rw [ByteArray.getElem_append_right (by omega)]
  congr 1
  omega
/-- A text with its k-th byte turned. -/
def turnT (s : ByteArray) (k z : Nat) : ByteArray := s.extract 0 k ++ txt [byt z] ++ s.extract (k + 1) s.size
theorem turn_facts (s : ByteArray) (k z : Nat) (hk : k < s.size) (hz : z < 256) : (turnT s k z).size = s.size ∧ bn (turnT s k z) k = z ∧ ∀ i, i ≠ k → bn s i = bn (turnT s k z) i := by
  have z1 : (s.extract 0 k).size = k := by rw [ByteArray.size_extract]; omega
  have z2 : (txt [byt z]).size = 1 := rfl
  have z3 : (s.extract (k + 1) s.size).size = s.size - (k + 1) := by rw [ByteArray.size_extract]; omega
  have z4 : (s.extract 0 k ++ txt [byt z]).size = k + 1 := by rw [ByteArray.size_append, z1, z2]
  have zt : (turnT s k z).size = s.size := by unfold turnT; rw [ByteArray.size_append, z4, z3]; omega
  refine ⟨zt, ?_, fun i hi => ?_⟩
  · unfold turnT
    rw [bn_append_left _ _ _ (by omega)]
    have := bn_append_right (s.extract 0 k) (txt [byt z]) 0 (by omega)
    rw [z1, Nat.add_zero] at this
    rw [this, bn_txt _ _ (by simp)]
    simp [byt_toNat]
    omega
  · rcases Nat.lt_or_ge i k with h | h
    · unfold turnT
      rw [bn_append_left _ _ _ (by omega), bn_append_left _ _ _ (by omega), bn_front s k i h (by omega)]
    · rcases Nat.lt_or_ge i s.size with h2 | h2
      · unfold turnT
        have := bn_append_right (s.extract 0 k ++ txt [byt z]) (s.extract (k + 1) s.size) (i - (k + 1)) (by omega)
        rw [z4, show k + 1 + (i - (k + 1)) = i by omega] at this
        rw [this, bn_back s (k + 1) _ (by omega), show k + 1 + (i - (k + 1)) = i by omega]
      · rw [bn_out s i h2, bn_out _ i (by omega)]
theorem GoodF.turn {s : ByteArray} {m : List Ser} (h : GoodF s m) (k z : Nat) (hk : k < s.size) (hz : z < 256) (hne : z ≠ bn s k) : ∀ m', ¬ GoodF (turnT s k z) m' := by
  obtain ⟨h1, h2, h3⟩ := turn_facts s k z hk hz
  exact h.turned h1 k hk (by rw [h2]; exact fun e => hne e.symm) h3
theorem xor_ne (x y : Nat) (hy : y ≠ 0) : x ^^^ y ≠ x := fun e => hy (by
  have := congrArg (x ^^^ ·) e
  simpa [← Nat.xor_assoc] using this)
theorem loT_min {m : List Ser} (j : Nat) : ∀ k, j < k → loT m k ≤ fT m j ∧ lT m j ≤ hiT m k
  | 0, h => by omega
  | k + 1, h => by
    rw [loT, hiT]
    by_cases e : j = k
    · subst e; omega
    · have := loT_min (m := m) j k (by omega)
      omega
theorem GoodF.found {s : ByteArray} {m : List Ser} (h : GoodF s m) (k : Nat) (hk : k < m.length) : FfAns s (sAt m k).key (sAt m k).pts true := .inl ⟨rfl, m, k, h, hk, rfl, fun i hi => SOk.keys_ne h.2.1 i k hi hk, rfl⟩
theorem GoodF.empty {m : List Ser} : ¬ GoodF ⟨#[]⟩ m := fun h => by
  have := h.sum.1
  simp [ByteArray.size] at this
end Go.Proofs.YthgiekeiljflaaaDoor
