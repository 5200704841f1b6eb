/-
  The walk of FnExactSlice.
-/
import Derived.Test.YtlekgbfopionfaaRows
import Derived.Test.YtlekgbfopionfaaPtSlice
import Derived.Test.YtlekgbfopionfaaPtArg
namespace Go.Proofs.Ytlekgbfopionfaa
open Go.ChangeShapes Go.WideShapes Go.ChangeAt Go.RowKit Go.PlainAid
set_option linter.unusedVariables false

set_option maxHeartbeats 2000000 in
theorem law_fnExactSlice (l : List Pnt) (v : Value) (a b : Int) (w : World) (hl1 : Lies w w.heap.size 2 v (ptR l)) (hl2 : l.length ≤ maxLen) (ha1 : -9223372036854775808 ≤ a) (ha2 : a ≤ 9223372036854775807) (hb1 : -9223372036854775808 ≤ b) (hb2 : b ≤ 9223372036854775807) : Calls Try.prog 4 #[v, .int .i64 a, .int .i64 b] w fun e w' => e = .returned (.bool true) ∧ Below w.heap.size w w' := by
  have HLN : Hid ((sliceR l a b).length ≤ 60) := sliceR_len l a b
  clear ha1 ha2 hb1 hb2
  have HVl : Hid (Lies w w.heap.size 2 v (ptR l)) := hl1
  have cz0 := szPointS l v 1048576 w w.heap.size hl1 hl2 (by omega) (by omega)
  clear hl1 hl2
  go_enter Try.func4, Try.ntmps4
  go_wp2_with fail
  refine cz0.mono ?_
  rintro e w' ⟨⟨r0, rfl, HR0⟩, rfl⟩
  rcases HR0.out with rfl | ⟨hp0, hq0⟩
  · go_wp2_with fail
    go_ret
    exact ⟨rfl, Below.refl _ _⟩
  have dq0 : decide (r0 < 0) = false := decide_eq_false (by omega)
  have HQ0 : Hid (l.length ≤ 1048576) := by unfold Hid; omega
  clear cz0 HR0 hq0
  have cTl := fun wx hx hb => toPointS l v wx w.heap.size hx HQ0.out hb
  go_wp2_with fail
  refine (cTl w HVl.out (Nat.le_refl _)).mono ?_
  rintro e w1 ⟨u1, rfl, hO, hb⟩
  have B1 : Hid (Below w.heap.size w w1) := hb
  have Ou11 : Hid (Owns w1 w.heap.size 40 2 u1 (ptR l)) := hO
  clear hb hO
  have Zu1 : Hid (w.heap.size ≤ w.heap.size) := Nat.le_refl _
  go_wp2_with fail
  refine (specSlice l a b u1 w1 w1.heap.size Ou11.out.lies (by have := HQ0.out; omega) (Nat.le_refl _)).mono ?_
  rintro e w2 ⟨⟨us, rfl, hO⟩, hb⟩
  have B2 : Hid (Below w.heap.size w w2) := B1.out.trans (hb.mono B1.out.size)
  have Ou12 : Hid (Owns w2 w.heap.size 40 2 u1 (ptR l)) := Ou11.out.on hb
  have Au1us : Hid (Apart u1 us) := Apart.of Ou11.out hO
  have Ous2 : Hid (Owns w2 w1.heap.size 40 2 us (ptR (sliceR l a b))) := hO
  clear hb hO Ou11
  have Zus : Hid (w.heap.size ≤ w1.heap.size) := B1.out.size
  go_wp2_with fail
  refine (cTl w2 (HVl.out.on B2.out) B2.out.size).mono ?_
  rintro e w3 ⟨x0, rfl, hO, hb⟩
  have B3 : Hid (Below w.heap.size w w3) := B2.out.trans (hb.mono B2.out.size)
  have Ous3 : Hid (Owns w3 w1.heap.size 40 2 us (ptR (sliceR l a b))) := Ous2.out.on hb
  have Ausx0 : Hid (Apart us x0) := Apart.of Ous2.out hO
  have Ox03 : Hid (Owns w3 w2.heap.size 40 2 x0 (ptR l)) := hO
  clear hb hO Ous2
  have Zx0 : Hid (w.heap.size ≤ w2.heap.size) := B2.out.size
  go_wp2_with fail
  refine (implSlice l a b x0 w3 w3.heap.size Ox03.out.lies (by have := HQ0.out; omega) (Nat.le_refl _)).mono ?_
  rintro e w4 ⟨⟨ug, rfl, hO⟩, hb⟩
  have B4 : Hid (Below w.heap.size w w4) := B3.out.trans (hb.mono B3.out.size)
  have Ous4 : Hid (Owns w4 w1.heap.size 40 2 us (ptR (sliceR l a b))) := Ous3.out.on hb
  have Ox04 : Hid (Owns w4 w2.heap.size 40 2 x0 (ptR l)) := Ox03.out.on hb
  have Ausug : Hid (Apart us ug) := Apart.of Ous3.out hO
  have Ax0ug : Hid (Apart x0 ug) := Apart.of Ox03.out hO
  have Oug4 : Hid (Owns w4 w3.heap.size 40 2 ug (ptR (sliceR l a b))) := hO
  clear hb hO Ous3 Ox03
  have Zug : Hid (w.heap.size ≤ w3.heap.size) := B3.out.size
  go_wp2_with fail
  refine (eqPointS (sliceR l a b) ug us w4 w4.heap.size Oug4.out.lies Ous4.out.lies (by have := HLN.out; omega) (Nat.le_refl _)).mono ?_
  rintro e w5 ⟨rfl, hb⟩
  have B5 : Hid (Below w.heap.size w w5) := B4.out.trans (hb.mono B4.out.size)
  have Ous5 : Hid (Owns w5 w1.heap.size 40 2 us (ptR (sliceR l a b))) := Ous4.out.on hb
  have Ox05 : Hid (Owns w5 w2.heap.size 40 2 x0 (ptR l)) := Ox04.out.on hb
  have Oug5 : Hid (Owns w5 w3.heap.size 40 2 ug (ptR (sliceR l a b))) := Oug4.out.on hb
  clear hb Ous4 Ox04 Oug4
  go_wp2_with fail
  refine (cTl w5 (HVl.out.on B5.out) B5.out.size).mono ?_
  rintro e w6 ⟨u3, rfl, hO, hb⟩
  have B6 : Hid (Below w.heap.size w w6) := B5.out.trans (hb.mono B5.out.size)
  have Ous6 : Hid (Owns w6 w1.heap.size 40 2 us (ptR (sliceR l a b))) := Ous5.out.on hb
  have Ox06 : Hid (Owns w6 w2.heap.size 40 2 x0 (ptR l)) := Ox05.out.on hb
  have Oug6 : Hid (Owns w6 w3.heap.size 40 2 ug (ptR (sliceR l a b))) := Oug5.out.on hb
  have Ausu3 : Hid (Apart us u3) := Apart.of Ous5.out hO
  have Ax0u3 : Hid (Apart x0 u3) := Apart.of Ox05.out hO
  have Augu3 : Hid (Apart ug u3) := Apart.of Oug5.out hO
  have Ou36 : Hid (Owns w6 w5.heap.size 40 2 u3 (ptR l)) := hO
  clear hb hO Ous5 Ox05 Oug5
  have Zu3 : Hid (w.heap.size ≤ w5.heap.size) := B5.out.size
  go_wp2_with fail
  refine (eqPointS l x0 u3 w6 w6.heap.size Ox06.out.lies Ou36.out.lies (by have := HQ0.out; omega) (Nat.le_refl _)).mono ?_
  rintro e w7 ⟨rfl, hb⟩
  have B7 : Hid (Below w.heap.size w w7) := B6.out.trans (hb.mono B6.out.size)
  have Ous7 : Hid (Owns w7 w1.heap.size 40 2 us (ptR (sliceR l a b))) := Ous6.out.on hb
  have Ox07 : Hid (Owns w7 w2.heap.size 40 2 x0 (ptR l)) := Ox06.out.on hb
  have Oug7 : Hid (Owns w7 w3.heap.size 40 2 ug (ptR (sliceR l a b))) := Oug6.out.on hb
  have Ou37 : Hid (Owns w7 w5.heap.size 40 2 u3 (ptR l)) := Ou36.out.on hb
  clear hb Ous6 Ox06 Oug6 Ou36
  have cM := markPointS 1 w2.heap.size x0 (ptR l) w7 Ox07.out (by rw [ptR_length]; have := HQ0.out; omega) (by omega)
  rw [ptR_length] at cM
  go_wp2_with fail
  refine cM.mono ?_
  rintro e w8 ⟨rfl, hO, hb, hk⟩
  have B8 : Hid (Below w.heap.size w w8) := B7.out.trans (hb.mono Zx0.out)
  have Ous8 : Hid (Owns w8 w1.heap.size 40 2 us (ptR (sliceR l a b))) := Ous7.out.kept fun g _ ho => hk g (Ausx0.out g ho)
  have Oug8 : Hid (Owns w8 w3.heap.size 40 2 ug (ptR (sliceR l a b))) := Oug7.out.kept fun g _ ho => hk g (Ax0ug.out.symm g ho)
  have Ox08 : Hid (Owns w8 w2.heap.size 40 2 x0 (newR (mkPt 1) l.length)) := hO
  clear hO hb hk cM Ous7 Ox07 Oug7
  have dk : decide (((1 + 2 * l.length : Nat) : Int) < 0) = false := decide_eq_false (by omega)
  generalize ((1 + 2 * l.length : Nat) : Int) = kk at *
  go_wp2_with fail
  refine (eqPointS (sliceR l a b) ug us w8 w8.heap.size Oug8.out.lies Ous8.out.lies (by have := HLN.out; omega) (Nat.le_refl _)).mono ?_
  rintro e w9 ⟨rfl, hb⟩
  have B9 : Hid (Below w.heap.size w w9) := B8.out.trans (hb.mono B8.out.size)
  have Ous9 : Hid (Owns w9 w1.heap.size 40 2 us (ptR (sliceR l a b))) := Ous8.out.on hb
  have Ox09 : Hid (Owns w9 w2.heap.size 40 2 x0 (newR (mkPt 1) l.length)) := Ox08.out.on hb
  have Oug9 : Hid (Owns w9 w3.heap.size 40 2 ug (ptR (sliceR l a b))) := Oug8.out.on hb
  clear hb Ous8 Ox08 Oug8
  have cM := markPointS 1 w3.heap.size ug (ptR (sliceR l a b)) w9 Oug9.out (by rw [ptR_length]; have := HLN.out; omega) (by omega)
  rw [ptR_length] at cM
  go_wp2_with fail
  refine cM.mono ?_
  rintro e w10 ⟨rfl, hO, hb, hk⟩
  have B10 : Hid (Below w.heap.size w w10) := B9.out.trans (hb.mono Zug.out)
  have Ous10 : Hid (Owns w10 w1.heap.size 40 2 us (ptR (sliceR l a b))) := Ous9.out.kept fun g _ ho => hk g (Ausug.out g ho)
  have Oug10 : Hid (Owns w10 w3.heap.size 40 2 ug (newR (mkPt 1) (sliceR l a b).length)) := hO
  clear hO hb hk cM Ous9 Oug9
  generalize hln : (sliceR l a b).length = ln at *
  have cH := fun wx B hx => heldPointS 1 ln ug wx B hx (by have := HLN.out; omega) (by omega)
  have q9 : ((1 + 2 * ln : Nat) : Int) ≤ 200 := by have := HLN.out; omega
  have q8 : decide (((1 + 2 * ln : Nat) : Int) < 0) = false := decide_eq_false (by omega)
  generalize ((1 + 2 * ln : Nat) : Int) = mm at *
  go_wp2_with fail
  refine (cH w10 _ Oug10.out.lies).mono ?_
  rintro e w' ⟨rfl, rfl⟩
  go_wp2_with fail
  refine (cTl w10 (HVl.out.on B10.out) B10.out.size).mono ?_
  rintro e w11 ⟨u4, rfl, hO, hb⟩
  have B11 : Hid (Below w.heap.size w w11) := B10.out.trans (hb.mono B10.out.size)
  have Ous11 : Hid (Owns w11 w1.heap.size 40 2 us (ptR (sliceR l a b))) := Ous10.out.on hb
  have Oug11 : Hid (Owns w11 w3.heap.size 40 2 ug (newR (mkPt 1) ln)) := Oug10.out.on hb
  have Ausu4 : Hid (Apart us u4) := Apart.of Ous10.out hO
  have Augu4 : Hid (Apart ug u4) := Apart.of Oug10.out hO
  have Ou411 : Hid (Owns w11 w10.heap.size 40 2 u4 (ptR l)) := hO
  clear hb hO Ous10 Oug10
  have Zu4 : Hid (w.heap.size ≤ w10.heap.size) := B10.out.size
  go_wp2_with fail
  refine (implSlice l a b u4 w11 w11.heap.size Ou411.out.lies (by have := HQ0.out; omega) (Nat.le_refl _)).mono ?_
  rintro e w12 ⟨⟨uh, rfl, hO⟩, hb⟩
  have B12 : Hid (Below w.heap.size w w12) := B11.out.trans (hb.mono B11.out.size)
  have Ous12 : Hid (Owns w12 w1.heap.size 40 2 us (ptR (sliceR l a b))) := Ous11.out.on hb
  have Oug12 : Hid (Owns w12 w3.heap.size 40 2 ug (newR (mkPt 1) ln)) := Oug11.out.on hb
  have Ou412 : Hid (Owns w12 w10.heap.size 40 2 u4 (ptR l)) := Ou411.out.on hb
  have Ausuh : Hid (Apart us uh) := Apart.of Ous11.out hO
  have Auguh : Hid (Apart ug uh) := Apart.of Oug11.out hO
  have Au4uh : Hid (Apart u4 uh) := Apart.of Ou411.out hO
  have Ouh12 : Hid (Owns w12 w11.heap.size 40 2 uh (ptR (sliceR l a b))) := hO
  clear hb hO Ous11 Oug11 Ou411
  have Zuh : Hid (w.heap.size ≤ w11.heap.size) := B11.out.size
  go_wp2_with fail
  refine (eqPointS (sliceR l a b) uh us w12 w12.heap.size Ouh12.out.lies Ous12.out.lies (by have := HLN.out; omega) (Nat.le_refl _)).mono ?_
  rintro e w13 ⟨rfl, hb⟩
  have B13 : Hid (Below w.heap.size w w13) := B12.out.trans (hb.mono B12.out.size)
  have Ous13 : Hid (Owns w13 w1.heap.size 40 2 us (ptR (sliceR l a b))) := Ous12.out.on hb
  have Oug13 : Hid (Owns w13 w3.heap.size 40 2 ug (newR (mkPt 1) ln)) := Oug12.out.on hb
  have Ouh13 : Hid (Owns w13 w11.heap.size 40 2 uh (ptR (sliceR l a b))) := Ouh12.out.on hb
  clear hb Ous12 Oug12 Ouh12
  go_wp2_with fail
  refine (cH w13 _ Oug13.out.lies).mono ?_
  rintro e w' ⟨rfl, rfl⟩
  go_wp2_with fail
  go_ret
  exact ⟨rfl, B13.out⟩
end Go.Proofs.Ytlekgbfopionfaa
