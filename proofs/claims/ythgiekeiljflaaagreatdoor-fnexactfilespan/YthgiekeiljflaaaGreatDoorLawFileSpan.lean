/-
  The walk of FnExactFileSpan.
-/
import Derived.Test.YthgiekeiljflaaaGreatDoorFlSpanS
import Derived.Test.YthgiekeiljflaaaGreatDoorFlSpanI
import Derived.WalkKit
import Derived.ProofKit
import Derived.OpenShut
import Derived.Below
import Derived.WalkSmall
import Derived.BigQuiet
import Derived.Deep.QuietTactic
import Derived.Deep.RegionWith
import Derived.Handy
namespace Go.Proofs.YthgiekeiljflaaaGreatDoor
open Go.ChangeShapes Go.WideShapes Go.ChangeAt Go.RowKit Go.PlainAid
set_option linter.unusedVariables false

set_option maxHeartbeats 2000000 in
theorem law_fnExactFileSpan (s : ByteArray) (w : World) (hs : s.size ≤ maxLen) (hst : SumTab w) (a0 a1 a2 : Addr) (he : Errs w a0 a1 a2) : Calls Tryz.prog 5 #[.string s] w fun e w' => e = .returned (.bool true) ∧ Below w.heap.size w w' := by
  have ST : Hid (SumTab w) := hst
  have ER : Hid (Errs w a0 a1 a2) := he
  have q0 : (s.size : Int) ≤ 9223372036854775807 := by unfold maxLen at hs; omega
  clear hst he hs
  by_cases hbig : (1048576 : Int) < (s.size : Int)
  · go_enter Tryz.func5, Tryz.ntmps5
    go_wp2_with fail
    go_ret
    exact ⟨rfl, Below.refl _ _⟩
  have HS : Hid (s.size ≤ 1048576) := by unfold Hid; omega
  have q1 : (s.size : Int) ≤ 1048576 := by omega
  clear hbig
  go_enter Tryz.func5, Tryz.ntmps5
  go_wp2_with fail
  refine (specFileSpan s w HS.out).mono ?_
  rintro e w1 ⟨⟨x1, y1, ok1, rfl, hR1⟩, hb1⟩
  have B1 : Hid (Below w.heap.size w w1) := hb1
  have R1 : Hid (FsAns s x1 y1 ok1) := hR1
  clear hb1 hR1
  go_wp2_with fail
  refine (implFileSpan s w1 HS.out (ST.out.on B1.out) a0 a1 a2 (ER.out.on B1.out)).mono ?_
  rintro e w2 ⟨⟨x2, y2, ok2, rfl, hR2⟩, hb2⟩
  obtain ⟨rfl, rfl, rfl⟩ := hR2.one R1.out
  have B2 : Hid (Below w.heap.size w w2) := B1.out.trans (hb2.mono B1.out.size)
  have hok : (ok2 != ok2) = false := by cases ok2 <;> rfl
  clear hb2 hR2
  go_wp2_with fail
  go_ret
  exact ⟨rfl, B2.out⟩
end Go.Proofs.YthgiekeiljflaaaGreatDoor
