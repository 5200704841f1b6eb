/-
  The law FnExactShowAnswer answers true at every answer.
-/
import Derived.Test.YtaaefceknjhloaaRows
import Derived.Test.YtaaefceknjhloaaAwAid
import Derived.Test.YtaaefceknjhloaaAwArg
import Derived.Test.YtaaefceknjhloaaCmAnsS
namespace Go.Proofs.Ytaaefceknjhloaa
open Go.ChangeShapes Go.WideShapes Go.ChangeAt Go.RowKit Go.PlainAid
set_option linter.unusedVariables false

set_option maxHeartbeats 1000000 in
theorem law_fnExactShowAnswer (x : Ans) (v : Value) (w : World) (hv : v = vAns x) (hd : x.data.size ≤ maxLen) (hi : IntOk x.code ∧ IntOk x.index ∧ IntOk x.mark) :
    Calls Try.prog 3 #[v] w fun e w' => e = .returned (.bool true) ∧ Below w.heap.size w w' := by
  subst hv
  have c1 := fun wx => szAnswer x 1048576 wx (by omega) (by omega) hd
  have c2 := fun wx => toAnswer x wx
  unfold vAns at *
  have hb0 := below_a1 w (.cells #[.int .i64 x.code, .int .i64 x.index, .int .i64 x.mark, .string x.data] 23)
  have k0 := Cell4.new w x 23
  have HD : Hid (x.data.size ≤ maxLen) := hd
  have HI : Hid (IntOk x.code ∧ IntOk x.index ∧ IntOk x.mark) := hi
  clear hd hi
  go_enter Try.func3, Try.ntmps3
  go_wp2_with fail
  generalize w.alloc (.cells #[.int .i64 x.code, .int .i64 x.index, .int .i64 x.mark, .string x.data] 23) = W at *
  refine (c1 _).mono ?_
  rintro e w1 ⟨⟨q, rfl, hq⟩, hb1⟩
  have B1 : Hid (Below w.heap.size w w1) := hb0.trans (hb1.mono hb0.size)
  have K1 : Hid (Cell4 w1 w.heap.size x) := k0.on hb1 k0.2.2.2.2 (Nat.le_refl _)
  clear hb0 hb1 c1 k0
  rcases hq.out with rfl | ⟨hq0, hq1⟩
  · go_wp2_with fail
    go_ret
    exact ⟨rfl, B1.out⟩
  have q1 : decide (q < 0) = false := decide_eq_false (by omega)
  have HS : Hid (x.data.size ≤ 1048576) := by unfold Hid; omega
  clear hq1
  obtain ⟨e0, e1, e2, e3, _⟩ := K1.out
  go_wp2_with fail
  refine (c2 _).mono ?_
  rintro e w2 ⟨rfl, hb2⟩
  go_wp2_with fail
  refine (specShowAnswer x _ HD.out).mono ?_
  rintro e w3 ⟨rfl, hb3⟩
  have B3 : Hid (Below w.heap.size w w3) := B1.out.trans ((hb2.trans (hb3.mono hb2.size)).mono B1.out.size)
  have K3 : Hid (Cell4 w3 w.heap.size x) := (K1.out.on hb2 K1.out.2.2.2.2 (Nat.le_refl _)).on hb3 (K1.out.on hb2 K1.out.2.2.2.2 (Nat.le_refl _)).2.2.2.2 (Nat.le_refl _)
  clear e0 e1 e2 e3 hb2 hb3
  obtain ⟨e0, e1, e2, e3, _⟩ := K3.out
  go_wp2_with fail
  refine (c2 _).mono ?_
  rintro e w4 ⟨rfl, hb4⟩
  go_wp2_with fail
  refine (implShowAnswer x _ HD.out).mono ?_
  rintro e w5 ⟨rfl, hb5⟩
  have B5 : Hid (Below w.heap.size w w5) := B3.out.trans ((hb4.trans (hb5.mono hb4.size)).mono B3.out.size)
  clear hb4 hb5
  generalize ansT x = y at *
  go_wp2_with fail
  go_ret
  exact ⟨rfl, B5.out⟩
end Go.Proofs.Ytaaefceknjhloaa
