/-
  The law FnExactShowRec answers true at every record.
-/
import Derived.Test.YtajodeahigmcoaaRows
import Derived.Test.YtajodeahigmcoaaWkTo
import Derived.Test.YtajodeahigmcoaaWkArg
import Derived.Test.YtajodeahigmcoaaShowRec
namespace Go.Proofs.Ytajodeahigmcoaa
open Go.ChangeShapes Go.WideShapes Go.ChangeAt Go.RowKit Go.PlainAid
set_option linter.unusedVariables false

set_option maxHeartbeats 1000000 in
theorem law_fnExactShowRec (r : Rcd) (v : Value) (w : World) (hv : v = vRcd r) (hd : r.data.size ≤ maxLen) (hi : IntOk r.kind ∧ IntOk r.term ∧ IntOk r.index ∧ IntOk r.vote) :
    Calls Try.prog 5 #[v] w fun e w' => e = .returned (.bool true) ∧ Below w.heap.size w w' := by
  subst hv
  have c1 := fun wx => szRec r 1048576 wx (by omega) (by omega) hd
  have c2 := fun wx => toRec r wx
  unfold vRcd at *
  have hb0 : Below w.heap.size w (w.alloc (.cells #[.int .i64 r.kind, .int .i64 r.term, .int .i64 r.index, .int .i64 r.vote, .string r.data] 40)) := (Below.refl _ _).alloc (Nat.le_refl _) _
  have k0 := Blk.new w #[.int .i64 r.kind, .int .i64 r.term, .int .i64 r.index, .int .i64 r.vote, .string r.data] 40
  have HD : Hid (r.data.size ≤ maxLen) := hd
  clear hd hi
  go_enter Try.func5, Try.ntmps5
  go_wp2_with fail
  generalize w.alloc (.cells #[.int .i64 r.kind, .int .i64 r.term, .int .i64 r.index, .int .i64 r.vote, .string r.data] 40) = W at *
  refine (c1 _).mono ?_
  rintro e w1 ⟨⟨q, rfl, hq⟩, hb1⟩
  have B1 : Hid (Below w.heap.size w w1) := hb0.trans (hb1.mono hb0.size)
  have K1 : Hid (Blk w1 w.heap.size #[.int .i64 r.kind, .int .i64 r.term, .int .i64 r.index, .int .i64 r.vote, .string r.data] 40) := k0.on hb1 k0.lt
  have hz := hb1.size
  clear hb0 hb1 c1 k0
  rcases hq.out with rfl | ⟨hq0, hq1⟩
  · go_wp2_with fail
    go_ret
    exact ⟨rfl, B1.out⟩
  have q1 : decide (q < 0) = false := decide_eq_false (by omega)
  have HS : Hid (r.data.size ≤ 1048576) := by unfold Hid; unfold wtR1 at hq1; omega
  clear hq1
  have e0 := K1.out.cell 0 (.int .i64 r.kind) rfl
  have e1 := K1.out.cell 1 (.int .i64 r.term) rfl
  have e2 := K1.out.cell 2 (.int .i64 r.index) rfl
  have e3 := K1.out.cell 3 (.int .i64 r.vote) rfl
  have e4 := K1.out.cell 4 (.string r.data) rfl
  go_wp2_with fail
  refine (c2 _).mono ?_
  rintro e w2 ⟨rfl, hb2⟩
  go_wp2_with fail
  refine (specShowRec r _ HS.out).mono ?_
  rintro e w3 ⟨rfl, hb3⟩
  have B3 : Hid (Below w.heap.size w w3) := B1.out.trans ((hb2.trans (hb3.mono hb2.size)).mono B1.out.size)
  have k3 := (K1.out.on hb2 K1.out.lt).on hb3 (K1.out.on hb2 K1.out.lt).lt
  clear e0 e1 e2 e3 e4 hb2 hb3
  have e0 := k3.cell 0 (.int .i64 r.kind) rfl
  have e1 := k3.cell 1 (.int .i64 r.term) rfl
  have e2 := k3.cell 2 (.int .i64 r.index) rfl
  have e3 := k3.cell 3 (.int .i64 r.vote) rfl
  have e4 := k3.cell 4 (.string r.data) rfl
  clear k3
  go_wp2_with fail
  refine (c2 _).mono ?_
  rintro e w4 ⟨rfl, hb4⟩
  go_wp2_with fail
  refine (implShowRec r _ HS.out).mono ?_
  rintro e w5 ⟨rfl, hb5⟩
  have B5 : Hid (Below w.heap.size w w5) := B3.out.trans ((hb4.trans (hb5.mono hb4.size)).mono B3.out.size)
  clear hb4 hb5
  generalize showR r = x at *
  go_wp2_with fail
  go_ret
  exact ⟨rfl, B5.out⟩
end Go.Proofs.Ytajodeahigmcoaa
