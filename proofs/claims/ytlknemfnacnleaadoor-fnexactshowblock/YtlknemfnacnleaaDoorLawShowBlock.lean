/-
  The walk of FnExactShowBlock.
-/
import Derived.Test.YtlknemfnacnleaaDoorRows
import Derived.Test.YtlknemfnacnleaaDoorBkShow
import Derived.Test.YtlknemfnacnleaaDoorPtArg
namespace Go.Proofs.YtlknemfnacnleaaDoor
open Go.ChangeShapes Go.WideShapes Go.ChangeAt Go.RowKit Go.PlainAid
set_option linter.unusedVariables false

set_option maxHeartbeats 2000000 in
theorem law_fnExactShowBlock (l : List Pnt) (v : Value) (w : World) (hl1 : Lies w w.heap.size 2 v (ptR l)) (hl2 : l.length ≤ maxLen) (hst : SumTab w) : Calls Tryd.prog 3 #[v] w fun e w' => e = .returned (.bool true) ∧ Below w.heap.size w w' := by
  have ST : Hid (SumTab w) := hst
  clear hst
  have HVl : Hid (Lies w w.heap.size 2 v (ptR l)) := hl1
  have cz0 := szPointS l v 1048576 w w.heap.size hl1 hl2 (by omega) (by omega)
  clear hl1 hl2
  go_enter Tryd.func3, Tryd.ntmps3
  go_wp2_with fail
  refine cz0.mono ?_
  rintro e w' ⟨⟨r0, rfl, HR0⟩, rfl⟩
  rcases HR0.out with rfl | ⟨hp0, hq0⟩
  · go_wp2_with fail
    go_ret
    exact ⟨rfl, Below.refl _ _⟩
  have dq0 : decide (r0 < 0) = false := decide_eq_false (by omega)
  have HQ0 : Hid (l.length ≤ 1048576) := by unfold Hid; omega
  clear cz0 HR0 hq0
  have cTl := fun wx hx hb => toPointS l v wx w.heap.size hx HQ0.out hb
  go_wp2_with fail
  refine (cTl w HVl.out (Nat.le_refl _)).mono ?_
  rintro e w1 ⟨u1, rfl, hO, hb⟩
  have B1 : Hid (Below w.heap.size w w1) := hb
  have Ou11 : Hid (Owns w1 w.heap.size 40 2 u1 (ptR l)) := hO
  clear hb hO
  have Zu1 : Hid (w.heap.size ≤ w.heap.size) := Nat.le_refl _
  go_wp2_with fail
  refine (specShowBlock l u1 w1 w1.heap.size Ou11.out.lies HQ0.out (Nat.le_refl _)).mono ?_
  rintro e w2 ⟨rfl, hb⟩
  have B2 : Hid (Below w.heap.size w w2) := B1.out.trans (hb.mono B1.out.size)
  have Ou12 : Hid (Owns w2 w.heap.size 40 2 u1 (ptR l)) := Ou11.out.on hb
  clear hb Ou11
  go_wp2_with fail
  refine (cTl w2 (HVl.out.on B2.out) B2.out.size).mono ?_
  rintro e w3 ⟨u2, rfl, hO, hb⟩
  have B3 : Hid (Below w.heap.size w w3) := B2.out.trans (hb.mono B2.out.size)
  have Ou23 : Hid (Owns w3 w2.heap.size 40 2 u2 (ptR l)) := hO
  clear hb hO
  have Zu2 : Hid (w.heap.size ≤ w2.heap.size) := B2.out.size
  go_wp2_with fail
  refine (implShowBlock l u2 w3 w3.heap.size Ou23.out.lies HQ0.out (Nat.le_refl _) (ST.out.on B3.out)).mono ?_
  rintro e w4 ⟨rfl, hb⟩
  have B4 : Hid (Below w.heap.size w w4) := B3.out.trans (hb.mono B3.out.size)
  have Ou24 : Hid (Owns w4 w2.heap.size 40 2 u2 (ptR l)) := Ou23.out.on hb
  clear hb Ou23
  generalize showB l = ss at *
  go_wp2_with fail
  refine (cTl w4 (HVl.out.on B4.out) B4.out.size).mono ?_
  rintro e w5 ⟨u3, rfl, hO, hb⟩
  have B5 : Hid (Below w.heap.size w w5) := B4.out.trans (hb.mono B4.out.size)
  have Ou25 : Hid (Owns w5 w2.heap.size 40 2 u2 (ptR l)) := Ou24.out.on hb
  have Au2u3 : Hid (Apart u2 u3) := Apart.of Ou24.out hO
  have Ou35 : Hid (Owns w5 w4.heap.size 40 2 u3 (ptR l)) := hO
  clear hb hO Ou24
  have Zu3 : Hid (w.heap.size ≤ w4.heap.size) := B4.out.size
  go_wp2_with fail
  refine (eqPointS l u2 u3 w5 w5.heap.size Ou25.out.lies Ou35.out.lies (by have := HQ0.out; omega) (Nat.le_refl _)).mono ?_
  rintro e w6 ⟨rfl, hb⟩
  have B6 : Hid (Below w.heap.size w w6) := B5.out.trans (hb.mono B5.out.size)
  have Ou26 : Hid (Owns w6 w2.heap.size 40 2 u2 (ptR l)) := Ou25.out.on hb
  have Ou36 : Hid (Owns w6 w4.heap.size 40 2 u3 (ptR l)) := Ou35.out.on hb
  clear hb Ou25 Ou35
  go_wp2_with fail
  go_ret
  exact ⟨rfl, B6.out⟩
end Go.Proofs.YtlknemfnacnleaaDoor
