/- StImplK StSpec -/
import Derived.Test.YtfmannphobjgpaaRows
import Derived.Test.YtfmannphobjgpaaQc13
import Derived.Test.YtfmannphobjgpaaQc3
import Derived.Test.YtfmannphobjgpaaQc6
import Derived.Handy
import Derived.Deep.RegionHeld3
import Derived.Test.YtfmannphobjgpaaQc9
import Derived.Test.YtfmannphobjgpaaQc5
import Derived.Test.YtfmannphobjgpaaQc4
namespace Go.Proofs.Ytfmannphobjgpaa
open Go.ChangeShapes Go.WideShapes Go.ChangeAt Go.RowKit Go.PlainAid
set_option linter.unusedVariables false
def stepR (x : Wl) (r : Rcd) : Wl × Bool := if (recOk r && recFits x r) = true then (stepTo x r, true) else (x, false)
theorem steppedV (x : Wl) (r : Rcd) (v : Value) (w : World) (base : Nat) (hv : WalO w base v x) (hn : x.ents.length ≤ 60) (hb1 : 0 ≤ x.base) (hb2 : x.base ≤ 100000) (hB : base ≤ w.heap.size) (hd : r.data.size ≤ 1048576) :
  Calls Try.prog 23 #[v, recV r] w fun e w' => ∃ u b, e = .returned (.tuple #[u, .bool b]) ∧ (WalO w' base u (stepR x r).1 ∧ b = (stepR x r).2) ∧ Oth base (walOwn v) w w' := by
 cases ho : recOk r
 ·have h1 : recV r = .nilIface := by unfold recV; rw [ho]; rfl
  have h2 : stepR x r = (x, false) := by unfold stepR; rw [ho]; rfl
  rw [h1, h2]
  exact stepped_nil x v w base hv hn hb1 hb2 hB
 ·have h1 : recV r = kindV r := by unfold recV; rw [if_pos ho]
  have h2 : stepR x r = if recFits x r = true then (stepTo x r, true) else (x, false) := by unfold stepR; rw [ho, Bool.true_and]
  rw [h1, h2]
  obtain ⟨k, t, i, vo, d⟩ := r
  rcases rest0_of k t i vo d ho with ⟨rfl, _, _⟩ | ⟨rfl, _⟩ | ⟨rfl, _, _, _⟩ | ⟨rfl, _, _⟩
  ·exact stepped_hard t i vo d x v w base hv hn hb1 hb2 hB
  ·exact stepped_entry t i vo d x v w base hv hn hb1 hb2 hB hd
  ·exact stepped_cut t i vo d x v w base hv hn hb1 hb2 hB
  ·have h3 : recFits x ⟨4, t, i, vo, d⟩ = false := by unfold recFits; simp
   rw [h3, if_neg Bool.false_ne_true]
   exact stepped_base _ x v w base hv hn hb1 hb2 hB
end Go.Proofs.Ytfmannphobjgpaa
namespace Go.Proofs.Ytfmannphobjgpaa
open Go.ChangeShapes Go.WideShapes Go.ChangeAt Go.RowKit Go.PlainAid
set_option linter.unusedVariables false
theorem walOk_in (x : Wl) (h : walOk x = true) : x.ents.length ≤ 60 ∧ 0 ≤ x.base ∧ x.base ≤ 100000 := by
 unfold walOk at h
 simp only [Bool.and_eq_true] at h
 obtain ⟨⟨⟨⟨⟨⟨_, _⟩, h3⟩, _⟩, h5⟩, _⟩, _⟩ := h
 exact ⟨of_decide_eq_true h5, (based_in _ _ h3).1.1, (based_in _ _ h3).1.2⟩
end Go.Proofs.Ytfmannphobjgpaa
