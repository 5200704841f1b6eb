/-
  Contracts of impl.bodyAt: the body of a right frame, or the wrapped sentinel of what is wrong, where the table of sixteen sums and the three sentinels hold what their texts lay.
-/
import Derived.Test.YthgiekeiljflaaaDoorRows
import Derived.Test.YthgiekeiljflaaaDoorFrame
import Derived.Test.YthgiekeiljflaaaDoorClone
import Derived.Test.YthgiekeiljflaaaDoorErrs
import Derived.WalkKit
import Derived.ProofKit
import Derived.OpenShut
import Derived.Below
import Derived.WalkSmall
import Derived.WalkLawsBesides
import Derived.Outline
import Derived.BigQuiet
import Derived.Deep.QuietTactic
import Derived.Deep.RegionWith
namespace Go.Proofs.YthgiekeiljflaaaDoor
open Go.ChangeShapes Go.WideShapes Go.ChangeAt Go.RowKit Go.PlainAid
set_option linter.unusedVariables false

theorem below_drewN (w : World) (n : Nat) : Below w.heap.size w (w.drewN n) := ⟨rfl, rfl, rfl, Nat.le_refl _, fun _ _ => rfl⟩
theorem below_drew (w : World) : Below w.heap.size w w.drew := ⟨rfl, rfl, rfl, Nat.le_refl _, fun _ _ => rfl⟩
/-- What bodyAt returns where the frame is wrong. -/
def badBody (p : Int) (a : Addr) : Ending := .returned (.tuple #[.string ⟨#[]⟩, wrapped p a])

set_option maxHeartbeats 400000 in
theorem body_short4 (s : ByteArray) (i : Nat) (w : World) (hi : i ≤ s.size) (hs : s.size ≤ 1048576) (a0 a1 a2 : Addr) (he : Errs w a0 a1 a2) (h4 : (rest s i).size < 4) :
    Calls Tryd.prog 93 #[.string s, .int .i64 (i : Int)] w fun e w' => (∃ p, e = badBody p a0) ∧ Below w.heap.size w w' := by
  have c1 := impl_readFixed_no (rest s i) 4 w (by unfold maxLen; omega) (by omega)
  have hc := he.c0
  have hr : s.extract i s.size = rest s i := rfl
  have q1 : (i : Int) ≤ (s.size : Int) := by omega
  have q2 : (s.size : Int) ≤ 1048576 := by omega
  clear he h4 hs
  generalize rest s i = r at *
  go_enter Tryd.func93, Tryd.ntmps93
  go_wp2_with fail
  refine c1.mono ?_
  rintro e w1 ⟨rfl, rfl⟩
  go_wp2_with fail
  go_quiet (fail)
  go_wp2_with fail
  go_ret2
  exact ⟨⟨_, rfl⟩, below_drewN w nq⟩

set_option maxHeartbeats 400000 in
theorem body_len (s : ByteArray) (i : Nat) (w : World) (hi : i ≤ s.size) (hs : s.size ≤ 1048576) (a0 a1 a2 : Addr) (he : Errs w a0 a1 a2) (h4 : 4 ≤ (rest s i).size) (hl : rdv (rest s i) 4 = 0 ∨ 2000 < rdv (rest s i) 4) :
    Calls Tryd.prog 93 #[.string s, .int .i64 (i : Int)] w fun e w' => (∃ p, e = badBody p a1) ∧ Below w.heap.size w w' := by
  have hz := rest_size s i
  have c1 := impl_readFixed (rest s i) 4 w (by unfold maxLen; omega) (by omega) (by omega) h4
  have hc := he.c1
  have hr : s.extract i s.size = rest s i := rfl
  have q1 : (i : Int) ≤ (s.size : Int) := by omega
  have q2 : (s.size : Int) ≤ 1048576 := by omega
  clear he h4 hs hz
  generalize rdv (rest s i) 4 = n at *
  generalize rest s i = r at *
  rcases hl with rfl | hl
  · go_enter Tryd.func93, Tryd.ntmps93
    go_wp2_with fail
    refine c1.mono ?_
    rintro e w1 ⟨rfl, rfl⟩
    go_wp2_with fail
    go_quiet (fail)
    go_wp2_with fail
    go_ret2
    exact ⟨⟨_, rfl⟩, below_drewN w nq⟩
  · have q3 : (2000 : Int) < (n : Int) := by omega
    have q4 : ((n : Int) == 0) = false := by simp only [beq_eq_false_iff_ne, ne_eq]; omega
    have q5 : decide ((2000 : Int) < (n : Int)) = true := decide_eq_true q3
    have q6 : ¬ (n : Int) = 0 := by omega
    go_enter Tryd.func93, Tryd.ntmps93
    go_wp2_with fail
    refine c1.mono ?_
    rintro e w1 ⟨rfl, rfl⟩
    go_wp2_with fail
    go_quiet (fail)
    go_wp2_with fail
    go_ret2
    exact ⟨⟨_, rfl⟩, below_drewN w nq⟩

set_option maxHeartbeats 400000 in
theorem body_short8 (s : ByteArray) (i : Nat) (w : World) (hi : i ≤ s.size) (hs : s.size ≤ 1048576) (a0 a1 a2 : Addr) (he : Errs w a0 a1 a2) (h4 : 4 ≤ (rest s i).size) (h1 : 1 ≤ rdv (rest s i) 4) (h2 : rdv (rest s i) 4 ≤ 2000) (h8 : (rest s i).size < 8 + rdv (rest s i) 4) :
    Calls Tryd.prog 93 #[.string s, .int .i64 (i : Int)] w fun e w' => (∃ p, e = badBody p a0) ∧ Below w.heap.size w w' := by
  have hz := rest_size s i
  have c1 := impl_readFixed (rest s i) 4 w (by unfold maxLen; omega) (by omega) (by omega) h4
  have hc := he.c0
  have hr : s.extract i s.size = rest s i := rfl
  have q1 : (i : Int) ≤ (s.size : Int) := by omega
  have q2 : (s.size : Int) ≤ 1048576 := by omega
  clear he h4 hs hz
  generalize rdv (rest s i) 4 = n at *
  generalize rest s i = r at *
  have q3 : (n : Int) ≤ 2000 := by omega
  have q4 : ((n : Int) == 0) = false := by simp only [beq_eq_false_iff_ne, ne_eq]; omega
  have q5 : decide ((2000 : Int) < (n : Int)) = false := decide_eq_false (by omega)
  have q6 : ¬ (n : Int) = 0 := by omega
  have q7 : (r.size : Int) < 8 + (n : Int) := by omega
  go_enter Tryd.func93, Tryd.ntmps93
  go_wp2_with fail
  refine c1.mono ?_
  rintro e w1 ⟨rfl, rfl⟩
  go_wp2_with fail
  go_quiet (fail)
  go_wp2_with fail
  go_ret2
  exact ⟨⟨_, rfl⟩, below_drewN w nq⟩
end Go.Proofs.YthgiekeiljflaaaDoor
