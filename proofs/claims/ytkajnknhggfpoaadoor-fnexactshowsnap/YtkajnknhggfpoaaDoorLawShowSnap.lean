/-
  The law FnExactShowSnap answers true at every snapshot.
-/
import Derived.Test.YtkajnknhggfpoaaDoorRows
import Derived.Test.YtkajnknhggfpoaaDoorSnAid
import Derived.Test.YtkajnknhggfpoaaDoorSnArg
import Derived.Test.YtkajnknhggfpoaaDoorSnShow
namespace Go.Proofs.YtkajnknhggfpoaaDoor
open Go.ChangeShapes Go.WideShapes Go.ChangeAt Go.RowKit Go.PlainAid
set_option linter.unusedVariables false

set_option maxHeartbeats 1000000 in
theorem law_fnExactShowSnap (x : Snp) (v : Value) (w : World) (hv : v = vSnp x) (hd : x.data.size ≤ maxLen) (hi : IntOk x.index ∧ IntOk x.term) (ht : SumTab w) :
    Calls Tryd.prog 4 #[v] w fun e w' => e = .returned (.bool true) ∧ Below w.heap.size w w' := by
  subst hv
  have c1 := fun wx => szSnap x 1048576 wx (by omega) (by omega) hd
  have c2 := fun wx => toSnap x wx
  unfold vSnp at *
  have hb0 := below_one w (.cells #[.int .i64 x.index, .int .i64 x.term, .string x.data] 31)
  have k0 := Cell3.new w x 31
  have HD : Hid (x.data.size ≤ maxLen) := hd
  have HI : Hid (IntOk x.index ∧ IntOk x.term) := hi
  have HT : Hid (SumTab w) := ht
  clear hd hi ht
  go_enter Tryd.func4, Tryd.ntmps4
  go_wp2_with fail
  generalize w.alloc (.cells #[.int .i64 x.index, .int .i64 x.term, .string x.data] 31) = W at *
  refine (c1 _).mono ?_
  rintro e w1 ⟨⟨q, rfl, hq⟩, hb1⟩
  have B1 : Hid (Below w.heap.size w w1) := hb0.trans (hb1.mono hb0.size)
  have K1 : Hid (Cell3 w1 w.heap.size x) := k0.on hb1 k0.2.2.2 (Nat.le_refl _)
  clear hb0 hb1 c1 k0
  rcases hq.out with rfl | ⟨hq0, hq1⟩
  · go_wp2_with fail
    go_ret
    exact ⟨rfl, B1.out⟩
  have q1 : decide (q < 0) = false := decide_eq_false (by omega)
  have HS : Hid (x.data.size ≤ 1048576) := by unfold Hid; omega
  clear hq1
  obtain ⟨e0, e1, e2, _⟩ := K1.out
  go_wp2_with fail
  refine (c2 _).mono ?_
  rintro e w2 ⟨rfl, hb2⟩
  go_wp2_with fail
  refine (specShowSnap x _ HD.out).mono ?_
  rintro e w3 ⟨rfl, hb3⟩
  have B3 : Hid (Below w.heap.size w w3) := B1.out.trans ((hb2.trans (hb3.mono hb2.size)).mono B1.out.size)
  have K3 : Hid (Cell3 w3 w.heap.size x) := (K1.out.on hb2 K1.out.2.2.2 (Nat.le_refl _)).on hb3 (K1.out.on hb2 K1.out.2.2.2 (Nat.le_refl _)).2.2.2 (Nat.le_refl _)
  clear e0 e1 e2 hb2 hb3
  obtain ⟨e0, e1, e2, _⟩ := K3.out
  go_wp2_with fail
  refine (c2 _).mono ?_
  rintro e w4 ⟨rfl, hb4⟩
  go_wp2_with fail
  refine (implShowSnap x w4 HD.out (HT.out.on (B3.out.trans (hb4.mono B3.out.size)))).mono ?_
  rintro e w5 ⟨rfl, hb5⟩
  have B5 : Hid (Below w.heap.size w w5) := B3.out.trans ((hb4.trans (hb5.mono hb4.size)).mono B3.out.size)
  clear hb4 hb5
  generalize showSn x = y at *
  go_wp2_with fail
  go_ret
  exact ⟨rfl, B5.out⟩
end Go.Proofs.YtkajnknhggfpoaaDoor
