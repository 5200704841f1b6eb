/-
  The walk of FnExactFileText.
-/
import Derived.Test.YthgiekeiljflaaaDoorRows
import Derived.Test.YthgiekeiljflaaaDoorFlText
import Derived.Test.YthgiekeiljflaaaDoorFlTextS
import Derived.Test.YthgiekeiljflaaaDoorSrLaw
import Derived.Test.YthgiekeiljflaaaDoorSrArg
namespace Go.Proofs.YthgiekeiljflaaaDoor
open Go.ChangeShapes Go.WideShapes Go.ChangeAt Go.RowKit Go.PlainAid
set_option linter.unusedVariables false

set_option maxHeartbeats 2000000 in
theorem law_fnExactFileText (l : List Ser) (v : Value) (w : World) (hl1 : SerV w w.heap.size v l) (hl2 : SFits l) (hst : SumTab w) : Calls Tryd.prog 4 #[v] w fun e w' => e = .returned (.bool true) ∧ Below w.heap.size w w' := by
  have ST : Hid (SumTab w) := hst
  clear hst
  have HVl : Hid (SerV w w.heap.size v l) := hl1
  have HF : Hid (∀ x ∈ l, x.key.size ≤ maxLen) := fun x hx => (hl2.2 x hx).1
  have cz0 := szSeriesS l v 1048576 w w.heap.size hl1 hl2 (by omega) (by omega) (Nat.le_refl _)
  clear hl1 hl2
  go_enter Tryd.func4, Tryd.ntmps4
  go_wp2_with fail
  refine cz0.mono ?_
  rintro e w0 ⟨r0, rfl, HR0, hb⟩
  have B0 : Hid (Below w.heap.size w w0) := hb
  clear hb
  rcases HR0 with rfl | ⟨hp0, hq0⟩
  · go_wp2_with fail
    go_ret
    exact ⟨rfl, B0.out⟩
  have dq0 : decide (r0 < 0) = false := decide_eq_false (by omega)
  have HQ0 : Hid (SShort l) := SShort.of (n := 1048576) (by omega) (by omega)
  clear cz0 hq0
  have cTl := fun wx hx hb => toSeriesS l v wx w.heap.size hx HQ0.out hb
  go_wp2_with fail
  refine (cTl w0 (HVl.out.on B0.out) B0.out.size).mono ?_
  rintro e w1 ⟨u1, L1, rfl, hL, hO, hb⟩
  have B1 : Hid (Below w.heap.size w w1) := B0.out.trans (hb.mono B0.out.size)
  have V1 : Hid (SerV w1 w1.heap.size u1 l) := ⟨L1, hL, hO.lies⟩
  clear hb hO hL
  go_wp2_with fail
  refine (specFileText l u1 w1 w1.heap.size V1.out HQ0.out HF.out (Nat.le_refl _)).mono ?_
  rintro e w2 ⟨rfl, hb⟩
  skip
  have B2 : Hid (Below w.heap.size w w2) := B1.out.trans (hb.mono B1.out.size)
  clear hb V1
  go_wp2_with fail
  refine (cTl w2 (HVl.out.on B2.out) B2.out.size).mono ?_
  rintro e w3 ⟨u2, L2, rfl, hL, hO, hb⟩
  have B3 : Hid (Below w.heap.size w w3) := B2.out.trans (hb.mono B2.out.size)
  have V3 : Hid (SerV w3 w3.heap.size u2 l) := ⟨L2, hL, hO.lies⟩
  clear hb hO hL
  go_wp2_with fail
  refine (implFileText l u2 w3 w3.heap.size V3.out HQ0.out HF.out (Nat.le_refl _) (ST.out.on B3.out)).mono ?_
  rintro e w4 ⟨rfl, hb⟩
  have B4 : Hid (Below w.heap.size w w4) := B3.out.trans (hb.mono B3.out.size)
  have V4 : Hid (SerV w4 w4.heap.size u2 l) := (V3.out.on hb).mono hb.size
  clear hb V3
  generalize fileT l = ss at *
  go_wp2_with fail
  refine (cTl w4 (HVl.out.on B4.out) B4.out.size).mono ?_
  rintro e w5 ⟨u3, L3, rfl, hL, hO, hb⟩
  have B5 : Hid (Below w.heap.size w w5) := B4.out.trans (hb.mono B4.out.size)
  have V5 : Hid (SerV w5 w5.heap.size u2 l) := (V4.out.on hb).mono hb.size
  have U5 : Hid (SerV w5 w5.heap.size u3 l) := ⟨L3, hL, hO.lies⟩
  clear hb hO hL V4
  go_wp2_with fail
  refine (eqSeriesS l u2 u3 w5 w5.heap.size V5.out U5.out HQ0.out (Nat.le_refl _)).mono ?_
  rintro e w6 ⟨rfl, hb⟩
  have B6 : Hid (Below w.heap.size w w6) := B5.out.trans (hb.mono B5.out.size)
  clear hb
  go_wp2_with fail
  go_ret
  exact ⟨rfl, B6.out⟩
end Go.Proofs.YthgiekeiljflaaaDoor
