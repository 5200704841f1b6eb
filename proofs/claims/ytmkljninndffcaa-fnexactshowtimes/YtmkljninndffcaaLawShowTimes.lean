/-
  The walk of FnExactShowTimes.
-/
import Derived.Test.YtmkljninndffcaaRows
import Derived.Test.YtmkljninndffcaaBtTimI
import Derived.Test.YtmkljninndffcaaBtTim
namespace Go.Proofs.Ytmkljninndffcaa
open Go.ChangeShapes Go.WideShapes Go.ChangeAt Go.RowKit Go.PlainAid
set_option linter.unusedVariables false

set_option maxHeartbeats 1000000 in
theorem law_fnExactShowTimes (l : List Int) (v : Value) (w : World) (hv : NumsV w w.heap.size v l) (hn : l.length ≤ maxLen) : Calls Try.prog 6 #[v] w fun e w' => e = .returned (.bool true) ∧ Below w.heap.size w w' := by
  have HV : Hid (NumsV w w.heap.size v l) := hv
  obtain ⟨A, cap, rfl, _, _, _⟩ := hv
  unfold maxLen at hn
  by_cases hbig : (1048576 : Int) < (l.length : Int)
  · generalize l.length = n at *
    go_enter Try.func6, Try.ntmps6
    go_wp2_with fail
    go_ret
    exact ⟨rfl, Below.refl _ _⟩
  have cT := fun wx hx hb => toIntS l (.slice A l.length cap) wx w.heap.size hx (by omega) hb
  have HN : Hid (l.length ≤ 1048576) := by unfold Hid; omega
  generalize hN : l.length = n at *
  have HLN : Hid (l.length = n) := hN
  clear hN
  go_enter Try.func6, Try.ntmps6
  go_wp2_with fail
  refine (cT w HV.out (Nat.le_refl _)).mono ?_
  rintro e w1 ⟨u1, rfl, hN1, hb1⟩
  have B1 : Hid (Below w.heap.size w w1) := hb1
  have c1 := specShowTimes l u1 w1 w1.heap.size hN1.lies (by have := HN.out; have := HLN.out; omega) (Nat.le_refl _)
  clear hb1 hN1
  go_wp2_with fail
  refine c1.mono ?_
  rintro e w2 ⟨rfl, hb2⟩
  have B2 : Hid (Below w.heap.size w w2) := B1.out.trans (hb2.mono B1.out.size)
  clear hb2 c1
  go_wp2_with fail
  refine (cT w2 (HV.out.on B2.out) B2.out.size).mono ?_
  rintro e w3 ⟨u3, rfl, hN3, hb3⟩
  have B3 : Hid (Below w.heap.size w w3) := B2.out.trans (hb3.mono B2.out.size)
  have N3 : Hid (Nums w3 w2.heap.size u3 l) := hN3
  clear hb3 hN3
  go_wp2_with fail
  refine (implShowTimes l u3 w3 w3.heap.size N3.out.lies (by have := HN.out; have := HLN.out; omega) (Nat.le_refl _)).mono ?_
  rintro e w4 ⟨rfl, hb4⟩
  have B4 : Hid (Below w.heap.size w w4) := B3.out.trans (hb4.mono B3.out.size)
  have N4 : Hid (Nums w4 w2.heap.size u3 l) := N3.out.on hb4
  clear hb4
  generalize showT l = sv at *
  go_wp2_with fail
  refine (cT w4 (HV.out.on B4.out) B4.out.size).mono ?_
  rintro e w5 ⟨u5, rfl, hN5, hb5⟩
  have B5 : Hid (Below w.heap.size w w5) := B4.out.trans (hb5.mono B4.out.size)
  have N5 : Hid (Nums w5 w2.heap.size u3 l) := N4.out.on hb5
  have cE := eqIntS l u3 u5 w5 w5.heap.size N5.out.lies hN5.lies (by have := HN.out; have := HLN.out; omega)
  clear hb5 hN5
  go_wp2_with fail
  refine cE.mono ?_
  rintro e w6 ⟨rfl, hL⟩
  have B6 : Hid (Below w.heap.size w w6) := B5.out.trans (hL.below.mono B5.out.size)
  clear hL cE
  go_wp2_with fail
  go_ret
  exact ⟨rfl, B6.out⟩
end Go.Proofs.Ytmkljninndffcaa
