/-
  What is found in a file (no condition).
-/
import Derived.Test.YthgiekeiljflaaaGreatDoorGC
import Derived.WalkKit
import Derived.ProofKit
import Derived.OpenShut
import Derived.Below
import Derived.WalkSmall
import Derived.BigQuiet
import Derived.Deep.QuietTactic
import Derived.Deep.RegionWith
import Derived.Handy
namespace Go.Proofs.YthgiekeiljflaaaGreatDoor
open Go.ChangeShapes Go.WideShapes Go.ChangeAt Go.RowKit Go.PlainAid
set_option linter.unusedVariables false

/-- What both FileFind answer. -/
def FfAns (s key : ByteArray) (l : List Pnt) (ok : Bool) : Prop := (ok = true ∧ ∃ m j, GoodF s m ∧ j < m.length ∧ (sAt m j).key = key ∧ (∀ i, i < j → (sAt m i).key ≠ key) ∧ l = (sAt m j).pts) ∨ (ok = false ∧ l = [] ∧ ∀ m, GoodF s m → ∀ j, j < m.length → (sAt m j).key ≠ key)
theorem FfAns.one {s key : ByteArray} {l l' : List Pnt} {x y : Bool} (h : FfAns s key l x) (h' : FfAns s key l' y) : l = l' ∧ x = y := by
  rcases h with ⟨h1, m, j, h2, h3, h4, h5, h6⟩ | ⟨h1, h2, h3⟩ <;> rcases h' with ⟨h1', m', j', h2', h3', h4', h5', h6'⟩ | ⟨h1', h2', h3'⟩
  · obtain rfl := h2.one h2'
    obtain rfl : j = j' := by
      rcases Nat.lt_trichotomy j j' with e | e | e
      · exact absurd h4 (h5' j e)
      · exact e
      · exact absurd h4' (h5 j' e)
    exact ⟨h6.trans h6'.symm, h1.trans h1'.symm⟩
  · exact absurd h4 (h3' m h2 j h3)
  · exact absurd h4' (h3 m' h2' j' h3')
  · exact ⟨h2.trans h2'.symm, h1.trans h1'.symm⟩
theorem FfAns.len {s key : ByteArray} {l : List Pnt} {x : Bool} (h : FfAns s key l x) : l.length ≤ 60 := by
  rcases h with ⟨_, m, j, h2, h3, _, _, h6⟩ | ⟨_, h2, _⟩
  · rw [h6]
    exact (h2.2.1.2 j h3).2.2.1
  · rw [h2]
    simp
/-- An ending with such an answer, in new memory. -/
def FfOk (s key : ByteArray) (w' : World) (b : Nat) (e : Ending) : Prop := ∃ v l ok, e = .returned (.tuple #[v, .bool ok]) ∧ FfAns s key l ok ∧ Owns w' b 52 2 v (ptR l)
end Go.Proofs.YthgiekeiljflaaaGreatDoor
