/-
  The walk of FnExactFileFind.
-/
import Derived.Test.YthgiekeiljflaaaGreatDoorFlFindS
import Derived.Test.YthgiekeiljflaaaGreatDoorFlFindI
import Derived.WalkKit
import Derived.ProofKit
import Derived.OpenShut
import Derived.Below
import Derived.WalkSmall
import Derived.BigQuiet
import Derived.Deep.QuietTactic
import Derived.Deep.RegionWith
import Derived.Handy
namespace Go.Proofs.YthgiekeiljflaaaGreatDoor
open Go.ChangeShapes Go.WideShapes Go.ChangeAt Go.RowKit Go.PlainAid
set_option linter.unusedVariables false

set_option maxHeartbeats 4000000 in
theorem law_fnExactFileFind (s key : ByteArray) (w : World) (hs : s.size ≤ maxLen) (hkk : key.size ≤ maxLen) (hst : SumTab w) (a0 a1 a2 : Addr) (he : Errs w a0 a1 a2) : Calls Tryz.prog 4 #[.string s, .string key] w fun e w' => e = .returned (.bool true) ∧ Below w.heap.size w w' := by
  have ST : Hid (SumTab w) := hst
  have ER : Hid (Errs w a0 a1 a2) := he
  have q0 : (s.size : Int) ≤ 9223372036854775807 := by unfold maxLen at hs; omega
  have q0' : (key.size : Int) ≤ 9223372036854775807 := by unfold maxLen at hkk; omega
  clear hst he hs hkk
  by_cases hbig : (1048576 : Int) < (s.size : Int)
  · go_enter Tryz.func4, Tryz.ntmps4
    go_wp2_with fail
    go_ret
    exact ⟨rfl, Below.refl _ _⟩
  have HS : Hid (s.size ≤ 1048576) := by unfold Hid; omega
  have q1 : (s.size : Int) ≤ 1048576 := by omega
  clear hbig
  by_cases hbig : (1048576 : Int) < (key.size : Int)
  · go_enter Tryz.func4, Tryz.ntmps4
    go_wp2_with fail
    go_ret
    exact ⟨rfl, Below.refl _ _⟩
  have q2 : (key.size : Int) ≤ 1048576 := by omega
  clear hbig
  go_enter Tryz.func4, Tryz.ntmps4
  go_wp2_with fail
  refine (specFileFind s key w HS.out).mono ?_
  rintro e w1 ⟨⟨u1, l1, ok1, rfl, hR1, hO1⟩, hb1⟩
  have B1 : Hid (Below w.heap.size w w1) := hb1
  have O1 : Hid (Owns w1 w.heap.size 52 2 u1 (ptR l1)) := hO1
  have R1 : Hid (FfAns s key l1 ok1) := hR1
  clear hb1 hO1 hR1
  go_wp2_with fail
  refine (implFileFind s key w1 HS.out (ST.out.on B1.out) a0 a1 a2 (ER.out.on B1.out)).mono ?_
  rintro e w2 ⟨⟨u2, l2, ok2, rfl, hR2, hO2⟩, hb2⟩
  obtain ⟨rfl, rfl⟩ := hR2.one R1.out
  have HLn : Hid (l2.length ≤ 60) := hR2.len
  have C2 : Hid (Below w1.heap.size w1 w2) := hb2
  have B2 : Hid (Below w.heap.size w w2) := B1.out.trans (hb2.mono B1.out.size)
  have O2 : Hid (Owns w2 w1.heap.size 52 2 u2 (ptR l2)) := hO2
  clear hb2 hO2 hR2
  have hok : (ok2 != ok2) = false := by cases ok2 <;> rfl
  go_wp2_with fail
  refine (eqPointS l2 u2 u1 w2 w2.heap.size O2.out.lies (O1.out.on C2.out).lies (by have := HLn.out; omega) (Nat.le_refl _)).mono ?_
  rintro e w3 ⟨rfl, hb3⟩
  have C3 : Hid (Below w1.heap.size w1 w3) := C2.out.trans (hb3.mono C2.out.size)
  have B3 : Hid (Below w.heap.size w w3) := B2.out.trans (hb3.mono B2.out.size)
  have O3 : Hid (Owns w3 w1.heap.size 52 2 u2 (ptR l2)) := O2.out.on hb3
  clear hb3
  have cm := markPointS 1 w1.heap.size u2 (ptR l2) w3 O3.out (by rw [ptR_length]; have := HLn.out; omega) (by omega)
  rw [ptR_length] at cm
  have c5 := fun wx (h : Owns wx w1.heap.size 52 2 u2 (newR (mkPt 1) l2.length)) => heldPointS 1 l2.length u2 wx wx.heap.size h.lies (by have := HLn.out; omega) (by omega)
  generalize hkk : 1 + 2 * l2.length = kk at *
  have dk : decide ((kk : Int) < 0) = false := decide_eq_false (by omega)
  clear hkk
  go_wp2_with fail
  refine cm.mono ?_
  rintro e w4 ⟨rfl, hM, hb4, _⟩
  have C4 : Hid (Below w1.heap.size w1 w4) := C3.out.trans hb4
  have B4 : Hid (Below w.heap.size w w4) := B3.out.trans (hb4.mono B1.out.size)
  have M4 : Hid (Owns w4 w1.heap.size 52 2 u2 (newR (mkPt 1) l2.length)) := hM
  clear hM hb4 cm
  go_wp2_with fail
  refine (c5 _ M4.out).mono ?_
  rintro e w5 ⟨rfl, rfl⟩
  go_wp2_with fail
  refine (implFileFind s key w4 HS.out (ST.out.on B4.out) a0 a1 a2 (ER.out.on B4.out)).mono ?_
  rintro e w6 ⟨⟨u3, l3, ok3, rfl, hR3, hO3⟩, hb6⟩
  obtain ⟨rfl, rfl⟩ := hR3.one R1.out
  have C6 : Hid (Below w1.heap.size w1 w6) := C4.out.trans (hb6.mono C4.out.size)
  have B6 : Hid (Below w.heap.size w w6) := B4.out.trans (hb6.mono B4.out.size)
  have M6 : Hid (Owns w6 w1.heap.size 52 2 u2 (newR (mkPt 1) l3.length)) := M4.out.on hb6
  have O6 : Hid (Owns w6 w4.heap.size 52 2 u3 (ptR l3)) := hO3
  clear hb6 hO3 hR3
  go_wp2_with fail
  refine (eqPointS l3 u3 u1 w6 w6.heap.size O6.out.lies (O1.out.on C6.out).lies (by have := HLn.out; omega) (Nat.le_refl _)).mono ?_
  rintro e w7 ⟨rfl, hb7⟩
  have B7 : Hid (Below w.heap.size w w7) := B6.out.trans (hb7.mono B6.out.size)
  have M7 : Hid (Owns w7 w1.heap.size 52 2 u2 (newR (mkPt 1) l3.length)) := M6.out.on hb7
  clear hb7
  go_wp2_with fail
  refine (c5 _ M7.out).mono ?_
  rintro e w8 ⟨rfl, rfl⟩
  go_wp2_with fail
  go_ret
  exact ⟨rfl, B7.out⟩
end Go.Proofs.YthgiekeiljflaaaGreatDoor
