/-
  The walk of FnExactMerge.
-/
import Derived.Test.YtlekgbfopionfaaRows
import Derived.Test.YtlekgbfopionfaaPtMrgS
import Derived.Test.YtlekgbfopionfaaPtMrgI
import Derived.Test.YtlekgbfopionfaaPtArg
namespace Go.Proofs.Ytlekgbfopionfaa
open Go.ChangeShapes Go.WideShapes Go.ChangeAt Go.RowKit Go.PlainAid
set_option linter.unusedVariables false

set_option maxHeartbeats 2000000 in
theorem law_fnExactMerge (a : List Pnt) (va : Value) (b : List Pnt) (vb : Value) (w : World) (ha1 : Lies w w.heap.size 2 va (ptR a)) (ha2 : a.length ≤ maxLen) (hb1 : Lies w w.heap.size 2 vb (ptR b)) (hb2 : b.length ≤ maxLen) : Calls Try.prog 5 #[va, vb] w fun e w' => e = .returned (.bool true) ∧ Below w.heap.size w w' := by
  have HLN : Hid ((mergeR a b).length ≤ 60) := mergeR_len a b
  have HVa : Hid (Lies w w.heap.size 2 va (ptR a)) := ha1
  have HVb : Hid (Lies w w.heap.size 2 vb (ptR b)) := hb1
  have cz0 := szPointS a va 1048576 w w.heap.size ha1 ha2 (by omega) (by omega)
  clear ha1 ha2
  go_enter Try.func5, Try.ntmps5
  go_wp2_with fail
  refine cz0.mono ?_
  rintro e w' ⟨⟨r0, rfl, HR0⟩, rfl⟩
  rcases HR0.out with rfl | ⟨hp0, hq0⟩
  · go_wp2_with fail
    go_ret
    exact ⟨rfl, Below.refl _ _⟩
  have dq0 : decide (r0 < 0) = false := decide_eq_false (by omega)
  have HQ0 : Hid (a.length ≤ 1048576) := by unfold Hid; omega
  clear cz0 HR0
  have cz1 := szPointS b vb r0 w w.heap.size hb1 hb2 hp0 (by omega)
  clear hb1 hb2
  go_wp2_with fail
  refine cz1.mono ?_
  rintro e w' ⟨⟨r1, rfl, HR1⟩, rfl⟩
  rcases HR1.out with rfl | ⟨hp1, hq1⟩
  · go_wp2_with fail
    go_ret
    exact ⟨rfl, Below.refl _ _⟩
  have dq1 : decide (r1 < 0) = false := decide_eq_false (by omega)
  have HQ1 : Hid (b.length ≤ 1048576) := by unfold Hid; omega
  clear cz1 HR1 hq0 hq1
  have cTa := fun wx hx hb => toPointS a va wx w.heap.size hx HQ0.out hb
  have cTb := fun wx hx hb => toPointS b vb wx w.heap.size hx HQ1.out hb
  go_wp2_with fail
  refine (cTa w HVa.out (Nat.le_refl _)).mono ?_
  rintro e w1 ⟨ua1, rfl, hO, hb⟩
  have B1 : Hid (Below w.heap.size w w1) := hb
  have Oua11 : Hid (Owns w1 w.heap.size 40 2 ua1 (ptR a)) := hO
  clear hb hO
  have Zua1 : Hid (w.heap.size ≤ w.heap.size) := Nat.le_refl _
  go_wp2_with fail
  refine (cTb w1 (HVb.out.on B1.out) B1.out.size).mono ?_
  rintro e w2 ⟨ub1, rfl, hO, hb⟩
  have B2 : Hid (Below w.heap.size w w2) := B1.out.trans (hb.mono B1.out.size)
  have Oua12 : Hid (Owns w2 w.heap.size 40 2 ua1 (ptR a)) := Oua11.out.on hb
  have Aua1ub1 : Hid (Apart ua1 ub1) := Apart.of Oua11.out hO
  have Oub12 : Hid (Owns w2 w1.heap.size 40 2 ub1 (ptR b)) := hO
  clear hb hO Oua11
  have Zub1 : Hid (w.heap.size ≤ w1.heap.size) := B1.out.size
  go_wp2_with fail
  refine (specMerge a b ua1 ub1 w2 w2.heap.size Oua12.out.lies Oub12.out.lies HQ0.out HQ1.out (Nat.le_refl _)).mono ?_
  rintro e w3 ⟨⟨us, rfl, hO⟩, hb⟩
  have B3 : Hid (Below w.heap.size w w3) := B2.out.trans (hb.mono B2.out.size)
  have Oua13 : Hid (Owns w3 w.heap.size 40 2 ua1 (ptR a)) := Oua12.out.on hb
  have Oub13 : Hid (Owns w3 w1.heap.size 40 2 ub1 (ptR b)) := Oub12.out.on hb
  have Aua1us : Hid (Apart ua1 us) := Apart.of Oua12.out hO
  have Aub1us : Hid (Apart ub1 us) := Apart.of Oub12.out hO
  have Ous3 : Hid (Owns w3 w2.heap.size 40 2 us (ptR (mergeR a b))) := hO
  clear hb hO Oua12 Oub12
  have Zus : Hid (w.heap.size ≤ w2.heap.size) := B2.out.size
  have cI := fun x y wx B hx hy hB => implMerge a b x y wx B hx hy HQ0.out HQ1.out hB
  generalize mergeB a b = bb at *
  have hbb : (bb != bb) = false := by cases bb <;> rfl
  go_wp2_with fail
  refine (cTa w3 (HVa.out.on B3.out) B3.out.size).mono ?_
  rintro e w4 ⟨x0, rfl, hO, hb⟩
  have B4 : Hid (Below w.heap.size w w4) := B3.out.trans (hb.mono B3.out.size)
  have Ous4 : Hid (Owns w4 w2.heap.size 40 2 us (ptR (mergeR a b))) := Ous3.out.on hb
  have Ausx0 : Hid (Apart us x0) := Apart.of Ous3.out hO
  have Ox04 : Hid (Owns w4 w3.heap.size 40 2 x0 (ptR a)) := hO
  clear hb hO Ous3
  have Zx0 : Hid (w.heap.size ≤ w3.heap.size) := B3.out.size
  go_wp2_with fail
  refine (cTb w4 (HVb.out.on B4.out) B4.out.size).mono ?_
  rintro e w5 ⟨x1, rfl, hO, hb⟩
  have B5 : Hid (Below w.heap.size w w5) := B4.out.trans (hb.mono B4.out.size)
  have Ous5 : Hid (Owns w5 w2.heap.size 40 2 us (ptR (mergeR a b))) := Ous4.out.on hb
  have Ox05 : Hid (Owns w5 w3.heap.size 40 2 x0 (ptR a)) := Ox04.out.on hb
  have Ausx1 : Hid (Apart us x1) := Apart.of Ous4.out hO
  have Ax0x1 : Hid (Apart x0 x1) := Apart.of Ox04.out hO
  have Ox15 : Hid (Owns w5 w4.heap.size 40 2 x1 (ptR b)) := hO
  clear hb hO Ous4 Ox04
  have Zx1 : Hid (w.heap.size ≤ w4.heap.size) := B4.out.size
  go_wp2_with fail
  refine (cI x0 x1 w5 w5.heap.size Ox05.out.lies Ox15.out.lies (Nat.le_refl _)).mono ?_
  rintro e w6 ⟨⟨ug, rfl, hO⟩, hb⟩
  have B6 : Hid (Below w.heap.size w w6) := B5.out.trans (hb.mono B5.out.size)
  have Ous6 : Hid (Owns w6 w2.heap.size 40 2 us (ptR (mergeR a b))) := Ous5.out.on hb
  have Ox06 : Hid (Owns w6 w3.heap.size 40 2 x0 (ptR a)) := Ox05.out.on hb
  have Ox16 : Hid (Owns w6 w4.heap.size 40 2 x1 (ptR b)) := Ox15.out.on hb
  have Ausug : Hid (Apart us ug) := Apart.of Ous5.out hO
  have Ax0ug : Hid (Apart x0 ug) := Apart.of Ox05.out hO
  have Ax1ug : Hid (Apart x1 ug) := Apart.of Ox15.out hO
  have Oug6 : Hid (Owns w6 w5.heap.size 40 2 ug (ptR (mergeR a b))) := hO
  clear hb hO Ous5 Ox05 Ox15
  have Zug : Hid (w.heap.size ≤ w5.heap.size) := B5.out.size
  go_wp2_with fail
  refine (eqPointS (mergeR a b) ug us w6 w6.heap.size Oug6.out.lies Ous6.out.lies (by have := HLN.out; omega) (Nat.le_refl _)).mono ?_
  rintro e w7 ⟨rfl, hb⟩
  have B7 : Hid (Below w.heap.size w w7) := B6.out.trans (hb.mono B6.out.size)
  have Ous7 : Hid (Owns w7 w2.heap.size 40 2 us (ptR (mergeR a b))) := Ous6.out.on hb
  have Ox07 : Hid (Owns w7 w3.heap.size 40 2 x0 (ptR a)) := Ox06.out.on hb
  have Ox17 : Hid (Owns w7 w4.heap.size 40 2 x1 (ptR b)) := Ox16.out.on hb
  have Oug7 : Hid (Owns w7 w5.heap.size 40 2 ug (ptR (mergeR a b))) := Oug6.out.on hb
  clear hb Ous6 Ox06 Ox16 Oug6
  go_wp2_with fail
  refine (cTa w7 (HVa.out.on B7.out) B7.out.size).mono ?_
  rintro e w8 ⟨u3, rfl, hO, hb⟩
  have B8 : Hid (Below w.heap.size w w8) := B7.out.trans (hb.mono B7.out.size)
  have Ous8 : Hid (Owns w8 w2.heap.size 40 2 us (ptR (mergeR a b))) := Ous7.out.on hb
  have Ox08 : Hid (Owns w8 w3.heap.size 40 2 x0 (ptR a)) := Ox07.out.on hb
  have Ox18 : Hid (Owns w8 w4.heap.size 40 2 x1 (ptR b)) := Ox17.out.on hb
  have Oug8 : Hid (Owns w8 w5.heap.size 40 2 ug (ptR (mergeR a b))) := Oug7.out.on hb
  have Ausu3 : Hid (Apart us u3) := Apart.of Ous7.out hO
  have Ax0u3 : Hid (Apart x0 u3) := Apart.of Ox07.out hO
  have Ax1u3 : Hid (Apart x1 u3) := Apart.of Ox17.out hO
  have Augu3 : Hid (Apart ug u3) := Apart.of Oug7.out hO
  have Ou38 : Hid (Owns w8 w7.heap.size 40 2 u3 (ptR a)) := hO
  clear hb hO Ous7 Ox07 Ox17 Oug7
  have Zu3 : Hid (w.heap.size ≤ w7.heap.size) := B7.out.size
  go_wp2_with fail
  refine (eqPointS a x0 u3 w8 w8.heap.size Ox08.out.lies Ou38.out.lies (by have := HQ0.out; omega) (Nat.le_refl _)).mono ?_
  rintro e w9 ⟨rfl, hb⟩
  have B9 : Hid (Below w.heap.size w w9) := B8.out.trans (hb.mono B8.out.size)
  have Ous9 : Hid (Owns w9 w2.heap.size 40 2 us (ptR (mergeR a b))) := Ous8.out.on hb
  have Ox09 : Hid (Owns w9 w3.heap.size 40 2 x0 (ptR a)) := Ox08.out.on hb
  have Ox19 : Hid (Owns w9 w4.heap.size 40 2 x1 (ptR b)) := Ox18.out.on hb
  have Oug9 : Hid (Owns w9 w5.heap.size 40 2 ug (ptR (mergeR a b))) := Oug8.out.on hb
  have Ou39 : Hid (Owns w9 w7.heap.size 40 2 u3 (ptR a)) := Ou38.out.on hb
  clear hb Ous8 Ox08 Ox18 Oug8 Ou38
  go_wp2_with fail
  refine (cTb w9 (HVb.out.on B9.out) B9.out.size).mono ?_
  rintro e w10 ⟨u4, rfl, hO, hb⟩
  have B10 : Hid (Below w.heap.size w w10) := B9.out.trans (hb.mono B9.out.size)
  have Ous10 : Hid (Owns w10 w2.heap.size 40 2 us (ptR (mergeR a b))) := Ous9.out.on hb
  have Ox010 : Hid (Owns w10 w3.heap.size 40 2 x0 (ptR a)) := Ox09.out.on hb
  have Ox110 : Hid (Owns w10 w4.heap.size 40 2 x1 (ptR b)) := Ox19.out.on hb
  have Oug10 : Hid (Owns w10 w5.heap.size 40 2 ug (ptR (mergeR a b))) := Oug9.out.on hb
  have Ausu4 : Hid (Apart us u4) := Apart.of Ous9.out hO
  have Ax0u4 : Hid (Apart x0 u4) := Apart.of Ox09.out hO
  have Ax1u4 : Hid (Apart x1 u4) := Apart.of Ox19.out hO
  have Augu4 : Hid (Apart ug u4) := Apart.of Oug9.out hO
  have Ou410 : Hid (Owns w10 w9.heap.size 40 2 u4 (ptR b)) := hO
  clear hb hO Ous9 Ox09 Ox19 Oug9
  have Zu4 : Hid (w.heap.size ≤ w9.heap.size) := B9.out.size
  go_wp2_with fail
  refine (eqPointS b x1 u4 w10 w10.heap.size Ox110.out.lies Ou410.out.lies (by have := HQ1.out; omega) (Nat.le_refl _)).mono ?_
  rintro e w11 ⟨rfl, hb⟩
  have B11 : Hid (Below w.heap.size w w11) := B10.out.trans (hb.mono B10.out.size)
  have Ous11 : Hid (Owns w11 w2.heap.size 40 2 us (ptR (mergeR a b))) := Ous10.out.on hb
  have Ox011 : Hid (Owns w11 w3.heap.size 40 2 x0 (ptR a)) := Ox010.out.on hb
  have Ox111 : Hid (Owns w11 w4.heap.size 40 2 x1 (ptR b)) := Ox110.out.on hb
  have Oug11 : Hid (Owns w11 w5.heap.size 40 2 ug (ptR (mergeR a b))) := Oug10.out.on hb
  have Ou411 : Hid (Owns w11 w9.heap.size 40 2 u4 (ptR b)) := Ou410.out.on hb
  clear hb Ous10 Ox010 Ox110 Oug10 Ou410
  have cM := markPointS 1 w3.heap.size x0 (ptR a) w11 Ox011.out (by rw [ptR_length]; have := HQ0.out; omega) (by omega)
  rw [ptR_length] at cM
  go_wp2_with fail
  refine cM.mono ?_
  rintro e w12 ⟨rfl, hO, hb, hk⟩
  have B12 : Hid (Below w.heap.size w w12) := B11.out.trans (hb.mono Zx0.out)
  have Ous12 : Hid (Owns w12 w2.heap.size 40 2 us (ptR (mergeR a b))) := Ous11.out.kept fun g _ ho => hk g (Ausx0.out g ho)
  have Ox112 : Hid (Owns w12 w4.heap.size 40 2 x1 (ptR b)) := Ox111.out.kept fun g _ ho => hk g (Ax0x1.out.symm g ho)
  have Oug12 : Hid (Owns w12 w5.heap.size 40 2 ug (ptR (mergeR a b))) := Oug11.out.kept fun g _ ho => hk g (Ax0ug.out.symm g ho)
  have Ox012 : Hid (Owns w12 w3.heap.size 40 2 x0 (newR (mkPt 1) a.length)) := hO
  clear hO hb hk cM Ous11 Ox011 Ox111 Oug11
  have hkn : 1 + 2 * a.length ≤ 3000000 := by have := HQ0.out; omega
  generalize 1 + 2 * a.length = kn at *
  have cM := markPointS kn w4.heap.size x1 (ptR b) w12 Ox112.out (by rw [ptR_length]; have := HQ1.out; omega) (by omega)
  rw [ptR_length] at cM
  go_wp2_with fail
  refine cM.mono ?_
  rintro e w13 ⟨rfl, hO, hb, hk⟩
  have B13 : Hid (Below w.heap.size w w13) := B12.out.trans (hb.mono Zx1.out)
  have Ous13 : Hid (Owns w13 w2.heap.size 40 2 us (ptR (mergeR a b))) := Ous12.out.kept fun g _ ho => hk g (Ausx1.out g ho)
  have Oug13 : Hid (Owns w13 w5.heap.size 40 2 ug (ptR (mergeR a b))) := Oug12.out.kept fun g _ ho => hk g (Ax1ug.out.symm g ho)
  have Ox113 : Hid (Owns w13 w4.heap.size 40 2 x1 (newR (mkPt kn) b.length)) := hO
  clear hO hb hk cM Ous12 Ox112 Oug12
  have dk : decide (((kn + 2 * b.length : Nat) : Int) < 0) = false := decide_eq_false (by omega)
  generalize ((kn + 2 * b.length : Nat) : Int) = kk at *
  go_wp2_with fail
  refine (eqPointS (mergeR a b) ug us w13 w13.heap.size Oug13.out.lies Ous13.out.lies (by have := HLN.out; omega) (Nat.le_refl _)).mono ?_
  rintro e w14 ⟨rfl, hb⟩
  have B14 : Hid (Below w.heap.size w w14) := B13.out.trans (hb.mono B13.out.size)
  have Ous14 : Hid (Owns w14 w2.heap.size 40 2 us (ptR (mergeR a b))) := Ous13.out.on hb
  have Ox114 : Hid (Owns w14 w4.heap.size 40 2 x1 (newR (mkPt kn) b.length)) := Ox113.out.on hb
  have Oug14 : Hid (Owns w14 w5.heap.size 40 2 ug (ptR (mergeR a b))) := Oug13.out.on hb
  clear hb Ous13 Ox113 Oug13
  have cM := markPointS 1 w5.heap.size ug (ptR (mergeR a b)) w14 Oug14.out (by rw [ptR_length]; have := HLN.out; omega) (by omega)
  rw [ptR_length] at cM
  go_wp2_with fail
  refine cM.mono ?_
  rintro e w15 ⟨rfl, hO, hb, hk⟩
  have B15 : Hid (Below w.heap.size w w15) := B14.out.trans (hb.mono Zug.out)
  have Ous15 : Hid (Owns w15 w2.heap.size 40 2 us (ptR (mergeR a b))) := Ous14.out.kept fun g _ ho => hk g (Ausug.out g ho)
  have Oug15 : Hid (Owns w15 w5.heap.size 40 2 ug (newR (mkPt 1) (mergeR a b).length)) := hO
  clear hO hb hk cM Ous14 Oug14
  generalize hln : (mergeR a b).length = ln at *
  have cH := fun wx B hx => heldPointS 1 ln ug wx B hx (by have := HLN.out; omega) (by omega)
  have q9 : ((1 + 2 * ln : Nat) : Int) ≤ 200 := by have := HLN.out; omega
  have q8 : decide (((1 + 2 * ln : Nat) : Int) < 0) = false := decide_eq_false (by omega)
  generalize ((1 + 2 * ln : Nat) : Int) = mm at *
  go_wp2_with fail
  refine (cH w15 _ Oug15.out.lies).mono ?_
  rintro e w' ⟨rfl, rfl⟩
  go_wp2_with fail
  refine (cTa w15 (HVa.out.on B15.out) B15.out.size).mono ?_
  rintro e w16 ⟨ua4, rfl, hO, hb⟩
  have B16 : Hid (Below w.heap.size w w16) := B15.out.trans (hb.mono B15.out.size)
  have Ous16 : Hid (Owns w16 w2.heap.size 40 2 us (ptR (mergeR a b))) := Ous15.out.on hb
  have Oug16 : Hid (Owns w16 w5.heap.size 40 2 ug (newR (mkPt 1) ln)) := Oug15.out.on hb
  have Ausua4 : Hid (Apart us ua4) := Apart.of Ous15.out hO
  have Augua4 : Hid (Apart ug ua4) := Apart.of Oug15.out hO
  have Oua416 : Hid (Owns w16 w15.heap.size 40 2 ua4 (ptR a)) := hO
  clear hb hO Ous15 Oug15
  have Zua4 : Hid (w.heap.size ≤ w15.heap.size) := B15.out.size
  go_wp2_with fail
  refine (cTb w16 (HVb.out.on B16.out) B16.out.size).mono ?_
  rintro e w17 ⟨ub4, rfl, hO, hb⟩
  have B17 : Hid (Below w.heap.size w w17) := B16.out.trans (hb.mono B16.out.size)
  have Ous17 : Hid (Owns w17 w2.heap.size 40 2 us (ptR (mergeR a b))) := Ous16.out.on hb
  have Oug17 : Hid (Owns w17 w5.heap.size 40 2 ug (newR (mkPt 1) ln)) := Oug16.out.on hb
  have Oua417 : Hid (Owns w17 w15.heap.size 40 2 ua4 (ptR a)) := Oua416.out.on hb
  have Ausub4 : Hid (Apart us ub4) := Apart.of Ous16.out hO
  have Augub4 : Hid (Apart ug ub4) := Apart.of Oug16.out hO
  have Aua4ub4 : Hid (Apart ua4 ub4) := Apart.of Oua416.out hO
  have Oub417 : Hid (Owns w17 w16.heap.size 40 2 ub4 (ptR b)) := hO
  clear hb hO Ous16 Oug16 Oua416
  have Zub4 : Hid (w.heap.size ≤ w16.heap.size) := B16.out.size
  go_wp2_with fail
  refine (cI ua4 ub4 w17 w17.heap.size Oua417.out.lies Oub417.out.lies (Nat.le_refl _)).mono ?_
  rintro e w18 ⟨⟨uh, rfl, hO⟩, hb⟩
  have B18 : Hid (Below w.heap.size w w18) := B17.out.trans (hb.mono B17.out.size)
  have Ous18 : Hid (Owns w18 w2.heap.size 40 2 us (ptR (mergeR a b))) := Ous17.out.on hb
  have Oug18 : Hid (Owns w18 w5.heap.size 40 2 ug (newR (mkPt 1) ln)) := Oug17.out.on hb
  have Oua418 : Hid (Owns w18 w15.heap.size 40 2 ua4 (ptR a)) := Oua417.out.on hb
  have Oub418 : Hid (Owns w18 w16.heap.size 40 2 ub4 (ptR b)) := Oub417.out.on hb
  have Ausuh : Hid (Apart us uh) := Apart.of Ous17.out hO
  have Auguh : Hid (Apart ug uh) := Apart.of Oug17.out hO
  have Aua4uh : Hid (Apart ua4 uh) := Apart.of Oua417.out hO
  have Aub4uh : Hid (Apart ub4 uh) := Apart.of Oub417.out hO
  have Ouh18 : Hid (Owns w18 w17.heap.size 40 2 uh (ptR (mergeR a b))) := hO
  clear hb hO Ous17 Oug17 Oua417 Oub417
  have Zuh : Hid (w.heap.size ≤ w17.heap.size) := B17.out.size
  go_wp2_with fail
  refine (eqPointS (mergeR a b) uh us w18 w18.heap.size Ouh18.out.lies Ous18.out.lies (by have := HLN.out; omega) (Nat.le_refl _)).mono ?_
  rintro e w19 ⟨rfl, hb⟩
  have B19 : Hid (Below w.heap.size w w19) := B18.out.trans (hb.mono B18.out.size)
  have Ous19 : Hid (Owns w19 w2.heap.size 40 2 us (ptR (mergeR a b))) := Ous18.out.on hb
  have Oug19 : Hid (Owns w19 w5.heap.size 40 2 ug (newR (mkPt 1) ln)) := Oug18.out.on hb
  have Ouh19 : Hid (Owns w19 w17.heap.size 40 2 uh (ptR (mergeR a b))) := Ouh18.out.on hb
  clear hb Ous18 Oug18 Ouh18
  go_wp2_with fail
  refine (cH w19 _ Oug19.out.lies).mono ?_
  rintro e w' ⟨rfl, rfl⟩
  go_wp2_with fail
  go_ret
  exact ⟨rfl, B19.out⟩
end Go.Proofs.Ytlekgbfopionfaa
