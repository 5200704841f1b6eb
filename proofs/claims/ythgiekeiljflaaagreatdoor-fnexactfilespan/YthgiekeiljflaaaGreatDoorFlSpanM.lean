/-
  The span of a file (no program in sight but the type of spots, no condition).
-/
import Derived.Test.YthgiekeiljflaaaGreatDoorGC
import Derived.WalkKit
import Derived.ProofKit
import Derived.OpenShut
import Derived.Below
import Derived.WalkSmall
import Derived.BigQuiet
import Derived.Deep.QuietTactic
import Derived.Deep.RegionWith
import Derived.Handy
namespace Go.Proofs.YthgiekeiljflaaaGreatDoor
open Go.ChangeShapes Go.WideShapes Go.ChangeAt Go.RowKit Go.PlainAid
set_option linter.unusedVariables false

/-- The least and the greatest time of the first k. -/
def loT (m : List Ser) : Nat → Nat
  | 0 => fT m 0
  | k + 1 => min (loT m k) (fT m k)
def hiT (m : List Ser) : Nat → Nat
  | 0 => fT m 0
  | k + 1 => max (hiT m k) (lT m k)
theorem times_up {l : List Pnt} (h : POk l) : ∀ j, j < l.length → tAt l 0 ≤ tAt l j
  | 0, _ => Int.le_refl _
  | j + 1, hj => by
    have := times_up h j (by omega)
    have := (h.2 (j + 1) hj).2 (by omega)
    rw [Nat.add_sub_cancel] at this
    omega
theorem SOk.rise {m : List Ser} (h : SOk m) (j : Nat) (hj : j < m.length) : fT m j ≤ lT m j := by
  have h1 := (h.2 j hj).2
  have := times_up h1.2 ((sAt m j).pts.length - 1) (by omega)
  unfold fT lT
  omega
theorem loT_le {m : List Ser} (h : SOk m) (h1 : 1 ≤ m.length) : ∀ k, k ≤ m.length → loT m k ≤ 1099511627776 ∧ hiT m k ≤ 1099511627776
  | 0, _ => by
    have := (h.times 0 (by omega)).1
    unfold loT hiT fT
    omega
  | k + 1, hk => by
    have ih := loT_le h h1 k (by omega)
    have := h.times k (by omega)
    rw [loT, hiT]
    unfold fT lT
    omega
/-- What both FileSpan answer. -/
def FsAns (s : ByteArray) (a b : Nat) (ok : Bool) : Prop := (ok = true ∧ ∃ m, GoodF s m ∧ a = loT m m.length ∧ b = hiT m m.length) ∨ (ok = false ∧ a = 0 ∧ b = 0 ∧ ∀ m, ¬ GoodF s m)
theorem FsAns.one {s : ByteArray} {a b a' b' : Nat} {x y : Bool} (h : FsAns s a b x) (h' : FsAns s a' b' y) : a = a' ∧ b = b' ∧ x = y := by
  rcases h with ⟨h1, m, h2, h3, h4⟩ | ⟨h1, h2, h3, h4⟩ <;> rcases h' with ⟨h1', m', h2', h3', h4'⟩ | ⟨h1', h2', h3', h4'⟩
  · obtain rfl := h2.one h2'
    exact ⟨h3.trans h3'.symm, h4.trans h4'.symm, h1.trans h1'.symm⟩
  · exact absurd h2 (h4' m)
  · exact absurd h2' (h4 m')
  · exact ⟨h2.trans h2'.symm, h3.trans h3'.symm, h1.trans h1'.symm⟩
/-- An ending with such an answer. -/
def FsOk (s : ByteArray) (e : Ending) : Prop := ∃ (a b : Nat) (ok : Bool), e = .returned (.tuple #[.int .i64 (a : Int), .int .i64 (b : Int), .bool ok]) ∧ FsAns s a b ok
/-- A slice behind its first, of the call's own, as it lies. -/
theorem sp_tail {w : World} {base : Nat} {A : Option Addr} {n c : Nat} {P : List Spot} (h : Owns w base 42 5 (.slice A n c) (spR P)) (h1 : 1 ≤ P.length) : ∃ g, A = some ⟨g, 0, none⟩ ∧ n = P.length ∧ n ≤ c ∧ g < w.heap.size ∧ base ≤ g ∧ ∀ j, j < P.length → w.cell? ⟨g, j * 5, none⟩ = some (.string (P.getD j default).key) ∧ w.cell? ⟨g, j * 5 + 1, none⟩ = some (.int .i64 ((P.getD j default).at' : Int)) ∧ w.cell? ⟨g, j * 5 + 2, none⟩ = some (.int .i64 ((P.getD j default).size : Int)) ∧ w.cell? ⟨g, j * 5 + 3, none⟩ = some (.int .i64 ((P.getD j default).first : Int)) ∧ w.cell? ⟨g, j * 5 + 4, none⟩ = some (.int .i64 ((P.getD j default).last : Int)) := by
  have hl := h.lt
  obtain ⟨A', c', e, hlk⟩ := sp_look h.lies
  rcases h.2.2 with ⟨e0, h0⟩ | ⟨g, cap, cur, e0, hg, _, hc, _⟩
  · rw [spR_length] at h0
    omega
  · cases e0
    rw [spR_length] at e hc ⊢
    cases e
    refine ⟨g, rfl, rfl, hc, (hl g rfl).2, hg, fun j hj => ?_⟩
    obtain ⟨g', off', e', _, h5⟩ := hlk j hj
    cases e'
    simpa only [Nat.zero_add] using h5
end Go.Proofs.YthgiekeiljflaaaGreatDoor
