/-
  The walk of FnExactReadBlock.
-/
import Derived.Test.YtlknemfnacnleaaDoorRows
import Derived.Test.YtlknemfnacnleaaDoorBkReadS
namespace Go.Proofs.YtlknemfnacnleaaDoor
open Go.ChangeShapes Go.WideShapes Go.ChangeAt Go.RowKit Go.PlainAid
set_option linter.unusedVariables false

set_option maxHeartbeats 2000000 in
theorem law_fnExactReadBlock (s : ByteArray) (w : World) (hs : s.size ≤ maxLen) (ht : SumTab w) (a0 a1 a2 : Addr) (he : Errs w a0 a1 a2) : Calls Tryd.prog 4 #[.string s] w fun e w' => e = .returned (.bool true) ∧ Below w.heap.size w w' := by
  unfold maxLen at hs
  by_cases hbig : (1048576 : Int) < (s.size : Int)
  · go_enter Tryd.func4, Tryd.ntmps4
    go_wp2_with fail
    go_ret
    exact ⟨rfl, Below.refl _ _⟩
  have HS : Hid (SumTab w) := ht
  have HE : Hid (Errs w a0 a1 a2) := he
  have cS := specReadBlock s w (by omega)
  have cI := fun wx (hx : Below w.heap.size w wx) => implReadBlock s wx (by omega) (HS.out.on hx) a0 a1 a2 (HE.out.on hx)
  have q1 : (s.size : Int) ≤ 1048576 := by omega
  clear hbig ht he
  go_enter Tryd.func4, Tryd.ntmps4
  go_wp2_with fail
  refine cS.mono ?_
  rintro e w1 ⟨⟨us, l, ok, hA1, rfl, hO⟩, hb⟩
  have HA : Hid (RbAns s l ok) := hA1
  have LL : Hid (l.length ≤ 60) := hA1.len
  have B1 : Hid (Below w.heap.size w w1) := hb
  have OS1 : Hid (Owns w1 w.heap.size 40 2 us (ptR l)) := hO
  clear hA1 hO hb cS
  go_wp2_with fail
  refine (cI w1 B1.out).mono ?_
  rintro e w2 ⟨⟨ug, l2, ok2, hA2, rfl, hO⟩, hb⟩
  obtain ⟨rfl, rfl⟩ := HA.out.one hA2
  have B2 : Hid (Below w.heap.size w w2) := B1.out.trans (hb.mono B1.out.size)
  have OS2 : Hid (Owns w2 w.heap.size 40 2 us (ptR l)) := OS1.out.on hb
  have OG2 : Hid (Owns w2 w1.heap.size 40 2 ug (ptR l)) := hO
  have Aug : Hid (Apart us ug) := Apart.of OS1.out hO
  have Zg : Hid (w.heap.size ≤ w1.heap.size) := B1.out.size
  have hbb : (ok != ok) = false := by cases ok <;> rfl
  clear hA2 hO hb OS1
  have cE := eqPointS l ug us w2 w2.heap.size OG2.out.lies OS2.out.lies (by have := LL.out; omega) (Nat.le_refl _)
  go_wp2_with fail
  refine cE.mono ?_
  rintro e w3 ⟨rfl, hb⟩
  have B3 : Hid (Below w.heap.size w w3) := B2.out.trans (hb.mono B2.out.size)
  have OS3 : Hid (Owns w3 w.heap.size 40 2 us (ptR l)) := OS2.out.on hb
  have OG3 : Hid (Owns w3 w1.heap.size 40 2 ug (ptR l)) := OG2.out.on hb
  clear hb cE OS2 OG2
  have cM := markPointS 1 w1.heap.size ug (ptR l) w3 OG3.out (by rw [ptR_length]; have := LL.out; omega) (by omega)
  rw [ptR_length] at cM
  go_wp2_with fail
  refine cM.mono ?_
  rintro e w4 ⟨rfl, hO, hb, hk⟩
  have B4 : Hid (Below w.heap.size w w4) := B3.out.trans (hb.mono Zg.out)
  have OS4 : Hid (Owns w4 w.heap.size 40 2 us (ptR l)) := OS3.out.kept fun g _ ho => hk g (Aug.out g ho)
  have OG4 : Hid (Owns w4 w1.heap.size 40 2 ug (newR (mkPt 1) l.length)) := hO
  clear hO hb hk cM OS3 OG3
  generalize hln : l.length = ln at *
  have cH := fun wx B hx => heldPointS 1 ln ug wx B hx (by have := LL.out; omega) (by omega)
  have q9 : ((1 + 2 * ln : Nat) : Int) ≤ 200 := by have := LL.out; omega
  have q8 : decide (((1 + 2 * ln : Nat) : Int) < 0) = false := decide_eq_false (by omega)
  generalize ((1 + 2 * ln : Nat) : Int) = mm at *
  go_wp2_with fail
  refine (cH w4 _ OG4.out.lies).mono ?_
  rintro e w' ⟨rfl, rfl⟩
  go_wp2_with fail
  refine (cI w4 B4.out).mono ?_
  rintro e w5 ⟨⟨uh, l3, ok3, hA3, rfl, hO⟩, hb⟩
  obtain ⟨rfl, rfl⟩ := HA.out.one hA3
  have B5 : Hid (Below w.heap.size w w5) := B4.out.trans (hb.mono B4.out.size)
  have OS5 : Hid (Owns w5 w.heap.size 40 2 us (ptR l)) := OS4.out.on hb
  have OG5 : Hid (Owns w5 w1.heap.size 40 2 ug (newR (mkPt 1) ln)) := OG4.out.on hb
  have cE := eqPointS l uh us w5 w5.heap.size hO.lies OS5.out.lies (by have := LL.out; omega) (Nat.le_refl _)
  clear hA3 hO hb OS4 OG4
  go_wp2_with fail
  refine cE.mono ?_
  rintro e w6 ⟨rfl, hb⟩
  have B6 : Hid (Below w.heap.size w w6) := B5.out.trans (hb.mono B5.out.size)
  have OG6 : Hid (Owns w6 w1.heap.size 40 2 ug (newR (mkPt 1) ln)) := OG5.out.on hb
  clear hb cE
  go_wp2_with fail
  refine (cH w6 _ OG6.out.lies).mono ?_
  rintro e w' ⟨rfl, rfl⟩
  go_wp2_with fail
  go_ret
  exact ⟨rfl, B6.out⟩
end Go.Proofs.YtlknemfnacnleaaDoor
