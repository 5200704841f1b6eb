/- StLaw2 LawStateOk StArg -/
import Derived.Test.YthhamlahdjokkaaGreatDoorRows
import Derived.Test.YthhamlahdjokkaaGreatDoorQs9
import Derived.Test.YthhamlahdjokkaaGreatDoorQs8
import Derived.WalkKit
import Derived.ProofKit
import Derived.OpenShut
import Derived.Below
import Derived.WalkSmall
import Derived.BigQuiet
import Derived.Deep.QuietTactic
import Derived.Deep.RegionWith
import Derived.Handy
import Derived.Test.YthhamlahdjokkaaGreatDoorQs15
import Derived.Test.YthhamlahdjokkaaGreatDoorQs16
import Derived.Test.YthhamlahdjokkaaGreatDoorQs1
import Derived.Deep.Slices
import Derived.ChangeArms
open List (setIfInBounds_toArray set_cons_zero set_cons_succ)
namespace Go.Proofs.YthhamlahdjokkaaGreatDoor
open Go.ChangeShapes Go.WideShapes Go.ChangeAt Go.RowKit Go.PlainAid
set_option linter.unusedVariables false
def StFits (x : Sta) : Prop := x.bks.length ≤ maxLen ∧ EFits x.eng ∧ x.ses.length ≤ maxLen ∧ ∀ s ∈ x.ses, s.data.size ≤ maxLen
def wtSt (x : Sta) : Nat := x.bks.length + wtE x.eng + (x.ses.length + wtQ x.ses)
theorem wtQ_mem (l : List Ses) : ∀ e ∈ l, e.data.size ≤ wtQ l := by
 induction l with
 | nil => intro e he; cases he
 | cons x r ih =>
  intro e he
  unfold wtQ wtQ1
  rcases List.mem_cons.1 he with rfl | h
  ·omega
  ·have := ih e h; omega
theorem StFits.short {x : Sta} (h : wtSt x ≤ 1048576) : StShort x := by
 unfold wtSt at h
 exact ⟨by omega, EFits.short (n := wtE x.eng) (Nat.le_refl _) (by omega), by omega, fun s hs => by have := wtQ_mem x.ses s hs; omega⟩
set_option maxHeartbeats 2000000 in
theorem szState (x : Sta) (v : Value) (left : Int) (w : World) (B : Nat) (hv : StaV w B v x) (hf : StFits x) (h0 : 0 ≤ left) (h1 : left ≤ 1048576) (hB : B ≤ w.heap.size) :
  Calls Tryz.prog 6 #[v, .int .i64 left] w fun b w' => ∃ r : Int, b = .returned (.int .i64 r) ∧ Hid (r = -1 ∨ 0 ≤ r ∧ r + (wtSt x : Int) = left) ∧ Below w.heap.size w w' := by
 obtain ⟨Ab, nb, cb, Ac, nc, cc, Af, nf, cf, As, ns, cs, rfl⟩ := hv.shape
 obtain ⟨hb0, he0, hs0⟩ := hv.parts
 have HB : Hid (B ≤ w.heap.size) := hB
 have HF : Hid (StFits x) := hf
 have LE : Hid (EngV w B (.agg #[.int .i64 x.eng.floor, .slice Ac nc cc, .slice Af nf cf]) x.eng) := he0
 have LQ : Hid (Lies w B 6 (.slice As ns cs) (sesR x.ses)) := hs0
 have HW : Hid (wtSt x = x.bks.length + wtE x.eng + (x.ses.length + wtQ x.ses)) := rfl
 unfold vSt
 generalize x.kind = sk at *
 generalize x.hold = sh at *
 generalize x.mark = sm at *
 generalize x.eng.floor = sf at *
 obtain ⟨X0, hX0⟩ : ∃ X0, X0 = w.alloc (.cells #[.int .i64 sk, .int .i64 sh, .int .i64 sm, .slice Ab nb cb, .int .i64 sf, .slice Ac nc cc, .slice Af nf cf, .slice As ns cs] 29) := ⟨_, rfl⟩
 have BX : Hid (Below w.heap.size w X0) := by unfold Hid; rw [hX0]; exact (Below.refl _ w).alloc (Nat.le_refl _) _
 have KX : Hid (Blk X0 w.heap.size #[.int .i64 sk, .int .i64 sh, .int .i64 sm, .slice Ab nb cb, .int .i64 sf, .slice Ac nc cc, .slice Af nf cf, .slice As ns cs] 29) := by unfold Hid; rw [hX0]; exact Blk.new w _ _
 have c1 := szBucketS x.bks _ left X0 B (hb0.on (BX.out.mono hB)) hf.1 h0 h1
 have k3 := KX.out.cell 3 _ rfl
 have k4 := KX.out.cell 4 _ rfl
 have k5 := KX.out.cell 5 _ rfl
 have k6 := KX.out.cell 6 _ rfl
 clear hv hb0 he0 hs0 hf hB
 generalize hnb : x.bks.length = NB at *
 go_enter Tryz.func6, Tryz.ntmps6
 go_wp2_with fail
 rw [← hX0]
 clear hX0
 refine c1.mono ?_
 rintro b X1 ⟨⟨r, rfl, hr⟩, rfl⟩
 rcases hr.out with rfl | ⟨hr0, hr1⟩
 ·go_wp2_with fail
  go_ret
  exact ⟨-1, rfl, .inl rfl, BX.out⟩
 have q1 : decide (r < 0) = false := decide_eq_false (by omega)
 have R1 : Hid (r + (NB : Int) = left) := hr1
 have q2 : r ≤ 1048576 := by omega
 have c2 := szEngine x.eng _ r X0 B (LE.out.on (BX.out.mono HB.out)) HF.out.2.1 hr0 q2 (Nat.le_trans HB.out BX.out.size)
 clear hr1 hr c1
 go_wp2_with fail
 refine c2.mono ?_
 rintro b X2 ⟨r2, rfl, hr2, hb2⟩
 have B2 : Hid (Below w.heap.size w X2) := BX.out.trans (hb2.mono BX.out.size)
 have m7 := (KX.out.on hb2 KX.out.lt).cell 7 _ rfl
 clear hb2 c2 k3 k4 k5 k6
 rcases hr2.out with rfl | ⟨hr20, hr21⟩
 ·go_wp2_with fail
  go_ret
  exact ⟨-1, rfl, .inl rfl, B2.out⟩
 have q3 : decide (r2 < 0) = false := decide_eq_false (by omega)
 have R2 : Hid (r2 + (wtE x.eng : Int) = r) := hr21
 have q4 : r2 ≤ 1048576 := by omega
 have c3 := szSessionS x.ses _ r2 X2 B (LQ.out.on (B2.out.mono HB.out)) HF.out.2.2.2 HF.out.2.2.1 hr20 q4 (Nat.le_trans HB.out B2.out.size)
 clear hr21 hr2
 go_wp2_with fail
 refine c3.mono ?_
 rintro b X3 ⟨r3, rfl, hr3, hb3⟩
 have B3 : Hid (Below w.heap.size w X3) := B2.out.trans (hb3.mono B2.out.size)
 clear hb3 c3 m7
 rcases hr3 with rfl | ⟨hr30, hr31⟩
 ·go_wp2_with fail
  go_ret
  exact ⟨-1, rfl, .inl rfl, B3.out⟩
 have q5 : decide (r3 < 0) = false := decide_eq_false (by omega)
 have R3 : Hid (r3 + ((x.ses.length + wtQ x.ses : Nat) : Int) = r2) := hr31
 clear hr31
 go_wp2_with fail
 go_ret
 exact ⟨r3, rfl, .inr ⟨hr30, by have := R1.out; have := R2.out; have := R3.out; rw [HW.out]; omega⟩, B3.out⟩
theorem StaO.parts {w : World} {base : Nat} {x : Sta} {vb vc vf vs : Value} (h : StaO w base (vSt x vb vc vf vs) x) : Owns w base 58 2 vb (ptR x.bks) ∧ EngO w base (.agg #[.int .i64 x.eng.floor, vc, vf]) x.eng ∧ Owns w base 53 6 vs (sesR x.ses) := by
 obtain ⟨vb', vc', vf', vs', L, e, h1, ⟨h2, h3, h4⟩, h5⟩ := h
 unfold vSt at e
 simp only [Value.agg.injEq, Array.mk.injEq, List.cons.injEq, true_and, and_true] at e
 obtain ⟨rfl, rfl, rfl, rfl⟩ := e
 exact ⟨h1, ⟨_, _, L, rfl, h2, h3, h4⟩, h5⟩
set_option maxHeartbeats 2000000 in
theorem eqState (x : Sta) (va vb : Value) (b1 b2 : Nat) (w : World) (ha : StaO w b1 va x) (hb : StaO w b2 vb x) (hs : StShort x) :
  Calls Tryz.prog 10 #[va, vb] w fun b w' => b = .returned (.bool true) ∧ Below w.heap.size w w' := by
 obtain ⟨Ab1, nb1, cb1, Ac1, nc1, cc1, Af1, nf1, cf1, As1, ns1, cs1, rfl⟩ := ha.shape
 obtain ⟨Ab2, nb2, cb2, Ac2, nc2, cc2, Af2, nf2, cf2, As2, ns2, cs2, rfl⟩ := hb.shape
 obtain ⟨p1, p2, p3⟩ := ha.parts
 obtain ⟨o1, o2, o3⟩ := hb.parts
 have HS : Hid (StShort x) := hs
 have P2 : Hid (EngO w b1 (.agg #[.int .i64 x.eng.floor, .slice Ac1 nc1 cc1, .slice Af1 nf1 cf1]) x.eng) := p2
 have O2 : Hid (EngO w b2 (.agg #[.int .i64 x.eng.floor, .slice Ac2 nc2 cc2, .slice Af2 nf2 cf2]) x.eng) := o2
 have P3 : Hid (Owns w b1 53 6 (.slice As1 ns1 cs1) (sesR x.ses)) := p3
 have O3 : Hid (Owns w b2 53 6 (.slice As2 ns2 cs2) (sesR x.ses)) := o3
 unfold vSt
 generalize x.kind = sk at *
 generalize x.hold = sh at *
 generalize x.mark = sm at *
 generalize x.eng.floor = sf at *
 obtain ⟨X0, hX0⟩ : ∃ X0, X0 = (w.alloc (.cells #[.int .i64 sk, .int .i64 sh, .int .i64 sm, .slice Ab1 nb1 cb1, .int .i64 sf, .slice Ac1 nc1 cc1, .slice Af1 nf1 cf1, .slice As1 ns1 cs1] 38)).alloc (.cells #[.int .i64 sk, .int .i64 sh, .int .i64 sm, .slice Ab2 nb2 cb2, .int .i64 sf, .slice Ac2 nc2 cc2, .slice Af2 nf2 cf2, .slice As2 ns2 cs2] 38) := ⟨_, rfl⟩
 have BX : Hid (Below w.heap.size w X0) := by unfold Hid; rw [hX0]; exact below_s2 _ _ _
 have K1 : Hid (Blk X0 w.heap.size #[.int .i64 sk, .int .i64 sh, .int .i64 sm, .slice Ab1 nb1 cb1, .int .i64 sf, .slice Ac1 nc1 cc1, .slice Af1 nf1 cf1, .slice As1 ns1 cs1] 38) := by unfold Hid; rw [hX0]; exact (Blk.new w _ _).alloc _
 have K2 : Hid (Blk X0 (w.heap.size + 1) #[.int .i64 sk, .int .i64 sh, .int .i64 sm, .slice Ab2 nb2 cb2, .int .i64 sf, .slice Ac2 nc2 cc2, .slice Af2 nf2 cf2, .slice As2 ns2 cs2] 38) := by
  unfold Hid
  rw [hX0]
  have := Blk.new (w.alloc (.cells #[.int .i64 sk, .int .i64 sh, .int .i64 sm, .slice Ab1 nb1 cb1, .int .i64 sf, .slice Ac1 nc1 cc1, .slice Af1 nf1 cf1, .slice As1 ns1 cs1] 38)) #[.int .i64 sk, .int .i64 sh, .int .i64 sm, .slice Ab2 nb2 cb2, .int .i64 sf, .slice Ac2 nc2 cc2, .slice Af2 nf2 cf2, .slice As2 ns2 cs2] 38
  rw [World.size_alloc] at this
  exact this
 have c1 := eqBucketS x.bks (.slice Ab1 nb1 cb1) (.slice Ab2 nb2 cb2) X0 w.heap.size (p1.lies.on BX.out) (o1.lies.on BX.out) HS.out.1 BX.out.size
 have a0 := K1.out.cell 0 _ rfl
 have d0 := K2.out.cell 0 _ rfl
 have a1 := K1.out.cell 1 _ rfl
 have d1 := K2.out.cell 1 _ rfl
 have a2 := K1.out.cell 2 _ rfl
 have d2 := K2.out.cell 2 _ rfl
 have a3 := K1.out.cell 3 _ rfl
 have d3 := K2.out.cell 3 _ rfl
 clear ha hb p1 p2 p3 o1 o2 o3 hs
 go_enter Tryz.func10, Tryz.ntmps10
 go_wp2_with fail
 rw [← hX0]
 clear hX0
 refine c1.mono ?_
 rintro b X1 ⟨rfl, hb1⟩
 have B1 : Hid (Below w.heap.size w X1) := BX.out.trans (hb1.mono BX.out.size)
 have G1 : Hid (Below X0.heap.size X0 X1) := hb1
 have L1 : Hid (Below w.heap.size w X1) := B1.out
 clear a0 a1 a2 a3 d0 d1 d2 d3 c1 hb1
 have KA := K1.out.on G1.out K1.out.lt
 have KB := K2.out.on G1.out K2.out.lt
 have a4 := KA.cell 4 _ rfl
 have a5 := KA.cell 5 _ rfl
 have a6 := KA.cell 6 _ rfl
 have d4 := KB.cell 4 _ rfl
 have d5 := KB.cell 5 _ rfl
 have d6 := KB.cell 6 _ rfl
 have c2 := eqEngine x.eng _ _ b1 b2 X1 (P2.out.on B1.out) (O2.out.on B1.out) HS.out.2.1
 clear KA KB
 go_wp2_with fail
 refine c2.mono ?_
 rintro b X2 ⟨rfl, hb2⟩
 have B2 : Hid (Below w.heap.size w X2) := B1.out.trans (hb2.mono B1.out.size)
 have G2 : Hid (Below X0.heap.size X0 X2) := G1.out.trans (hb2.mono G1.out.size)
 clear a4 a5 a6 d4 d5 d6 c2 hb2
 have a7 := (K1.out.on G2.out K1.out.lt).cell 7 _ rfl
 have d7 := (K2.out.on G2.out K2.out.lt).cell 7 _ rfl
 have c3 := eqSessionS x.ses (.slice As1 ns1 cs1) (.slice As2 ns2 cs2) X2 w.heap.size (P3.out.lies.on B2.out) (O3.out.lies.on B2.out) HS.out.2.2.1 B2.out.size
 go_wp2_with fail
 refine c3.mono ?_
 rintro b X3 ⟨rfl, hb3⟩
 have B3 : Hid (Below w.heap.size w X3) := B2.out.trans (hb3.mono B2.out.size)
 clear hb3 c3
 go_wp2_with fail
 go_ret
 exact ⟨rfl, B3.out⟩
end Go.Proofs.YthhamlahdjokkaaGreatDoor
namespace Go.Proofs.YthhamlahdjokkaaGreatDoor
open Go.ChangeShapes Go.WideShapes Go.ChangeAt Go.RowKit Go.PlainAid
set_option linter.unusedVariables false
set_option maxHeartbeats 8000000 in
theorem law_fnExactStateOk (x : Sta) (v : Value) (w : World) (hv : StaV w w.heap.size v x) (hf : StFits x) (hi : True) (hst : SumTab w) (a0 a1 a2 : Addr) (he : Errs w a0 a1 a2) :
  Calls Tryz.prog 3 #[v] w fun b w' => b = .returned (.bool true) ∧ Below w.heap.size w w' := by
 obtain ⟨Ab, nb, cb, Ac, nc, cc, Af, nf, cf, As, ns, cs, rfl⟩ := hv.shape
 have HV0 : Hid (StaV w w.heap.size (vSt x (.slice Ab nb cb) (.slice Ac nc cc) (.slice Af nf cf) (.slice As ns cs)) x) := hv
 have HFits : Hid (StFits x) := hf
 have STb : Hid (SumTab w) := hst
 have ER : Hid (Errs w a0 a1 a2) := he
 clear hv hf hst he hi
 have HX : Hid (∀ vb vc vf vs, vSt x vb vc vf vs = .agg #[.int .i64 x.kind, .int .i64 x.hold, .int .i64 x.mark, vb, .int .i64 x.eng.floor, vc, vf, vs]) := fun _ _ _ _ => rfl
 rw [HX.out] at HV0 ⊢
 obtain ⟨sk, hsk⟩ : ∃ sk, x.kind = sk := ⟨_, rfl⟩
 obtain ⟨sh, hsh⟩ : ∃ sh, x.hold = sh := ⟨_, rfl⟩
 obtain ⟨sm, hsm⟩ : ∃ sm, x.mark = sm := ⟨_, rfl⟩
 obtain ⟨sf, hsf⟩ : ∃ sf, x.eng.floor = sf := ⟨_, rfl⟩
 rw [hsk, hsh, hsm, hsf] at HX HV0 ⊢
 clear hsk hsh hsm hsf
 have HV : Hid (StaV w w.heap.size (.agg #[.int .i64 sk, .int .i64 sh, .int .i64 sm, .slice Ab nb cb, .int .i64 sf, .slice Ac nc cc, .slice Af nf cf, .slice As ns cs]) x) := HV0.out
 clear HV0
 obtain ⟨X0, hX0⟩ : ∃ X0, X0 = w.alloc (.cells #[.int .i64 sk, .int .i64 sh, .int .i64 sm, .slice Ab nb cb, .int .i64 sf, .slice Ac nc cc, .slice Af nf cf, .slice As ns cs] 29) := ⟨_, rfl⟩
 have BX : Hid (Below w.heap.size w X0) := by unfold Hid; rw [hX0]; exact (Below.refl _ w).alloc (Nat.le_refl _) _
 have KX : Hid (Blk X0 w.heap.size #[.int .i64 sk, .int .i64 sh, .int .i64 sm, .slice Ab nb cb, .int .i64 sf, .slice Ac nc cc, .slice Af nf cf, .slice As ns cs] 29) := by unfold Hid; rw [hX0]; exact Blk.new w _ _
 have cz := szState x _ 1048576 X0 w.heap.size (HV.out.on BX.out) HFits.out (by omega) (by omega) BX.out.size
 have k0 := KX.out.cell 0 _ rfl
 have k1 := KX.out.cell 1 _ rfl
 have k2 := KX.out.cell 2 _ rfl
 have k3 := KX.out.cell 3 _ rfl
 have k4 := KX.out.cell 4 _ rfl
 have k5 := KX.out.cell 5 _ rfl
 have k6 := KX.out.cell 6 _ rfl
 have k7 := KX.out.cell 7 _ rfl
 go_enter Tryz.func3, Tryz.ntmps3
 go_wp2_with fail
 rw [← hX0]
 clear hX0
 refine cz.mono ?_
 rintro b X1 ⟨r, rfl, HR, hb1⟩
 have B1 : Hid (Below w.heap.size w X1) := BX.out.trans (hb1.mono BX.out.size)
 have K1 : Hid (Blk X1 w.heap.size #[.int .i64 sk, .int .i64 sh, .int .i64 sm, .slice Ab nb cb, .int .i64 sf, .slice Ac nc cc, .slice Af nf cf, .slice As ns cs] 29) := KX.out.on hb1 KX.out.lt
 clear hb1 cz k0 k1 k2 k3 k4 k5 k6 k7
 rcases HR.out with rfl | ⟨hr0, hr1⟩
 ·go_wp2_with fail
  go_ret
  exact ⟨rfl, B1.out⟩
 have hq : decide (r < 0) = false := decide_eq_false (by omega)
 have HSh : Hid (StShort x) := StFits.short (by omega)
 have k0 := K1.out.cell 0 _ rfl
 have k1 := K1.out.cell 1 _ rfl
 have k2 := K1.out.cell 2 _ rfl
 have k3 := K1.out.cell 3 _ rfl
 have k4 := K1.out.cell 4 _ rfl
 have k5 := K1.out.cell 5 _ rfl
 have k6 := K1.out.cell 6 _ rfl
 have k7 := K1.out.cell 7 _ rfl
 have c1 := toState x _ X1 w.heap.size (HV.out.on B1.out) HSh.out B1.out.size
 clear hr1
 go_wp2_with fail
 refine c1.mono ?_
 rintro b X2 ⟨⟨u2, rfl, hE2⟩, hb2⟩
 have c2 := specStateOk x u2 X2 X2.heap.size hE2.view HSh.out (Nat.le_refl _)
 have B2 : Hid (Below w.heap.size w X2) := B1.out.trans (hb2.mono B1.out.size)
 have K2 : Hid (Blk X2 w.heap.size #[.int .i64 sk, .int .i64 sh, .int .i64 sm, .slice Ab nb cb, .int .i64 sf, .slice Ac nc cc, .slice Af nf cf, .slice As ns cs] 29) := K1.out.on hb2 K1.out.lt
 obtain ⟨Ab2, nb2, cb2, Ac2, nc2, cc2, Af2, nf2, cf2, As2, ns2, cs2, rfl⟩ := hE2.shape
 rw [HX.out] at c2 ⊢
 clear hb2 c1 k0 k1 k2 k3 k4 k5 k6 k7 K1 KX hE2
 go_wp2_with fail
 refine c2.mono ?_
 rintro b X3 ⟨rfl, hb3⟩
 have B3 : Hid (Below w.heap.size w X3) := B2.out.trans (hb3.mono B2.out.size)
 have K3 : Hid (Blk X3 w.heap.size #[.int .i64 sk, .int .i64 sh, .int .i64 sm, .slice Ab nb cb, .int .i64 sf, .slice Ac nc cc, .slice Af nf cf, .slice As ns cs] 29) := K2.out.on hb3 K2.out.lt
 clear hb3 c2 K2
 have k0 := K3.out.cell 0 _ rfl
 have k1 := K3.out.cell 1 _ rfl
 have k2 := K3.out.cell 2 _ rfl
 have k3 := K3.out.cell 3 _ rfl
 have k4 := K3.out.cell 4 _ rfl
 have k5 := K3.out.cell 5 _ rfl
 have k6 := K3.out.cell 6 _ rfl
 have k7 := K3.out.cell 7 _ rfl
 have c1 := toState x _ X3 w.heap.size (HV.out.on B3.out) HSh.out B3.out.size
 go_wp2_with fail
 refine c1.mono ?_
 rintro b X4 ⟨⟨u4, rfl, hE4⟩, hb4⟩
 have C4 : Hid (Below X3.heap.size X3 X4) := hb4
 obtain ⟨Ab4, nb4, cb4, Ac4, nc4, cc4, Af4, nf4, cf4, As4, ns4, cs4, rfl⟩ := hE4.shape
 rw [HX.out] at hE4 ⊢
 have HE4 : Hid (StaO X4 X3.heap.size (.agg #[.int .i64 sk, .int .i64 sh, .int .i64 sm, .slice Ab4 nb4 cb4, .int .i64 sf, .slice Ac4 nc4 cc4, .slice Af4 nf4 cf4, .slice As4 ns4 cs4]) x) := hE4
 clear hb4 c1 k0 k1 k2 k3 k4 k5 k6 k7 hE4
 obtain ⟨X5, hX5⟩ : ∃ X5, X5 = X4.alloc (.cells #[.int .i64 sk, .int .i64 sh, .int .i64 sm, .slice Ab4 nb4 cb4, .int .i64 sf, .slice Ac4 nc4 cc4, .slice Af4 nf4 cf4, .slice As4 ns4 cs4] 38) := ⟨_, rfl⟩
 have KB : Hid (Blk X5 X4.heap.size #[.int .i64 sk, .int .i64 sh, .int .i64 sm, .slice Ab4 nb4 cb4, .int .i64 sf, .slice Ac4 nc4 cc4, .slice Af4 nf4 cf4, .slice As4 ns4 cs4] 38) := by unfold Hid; rw [hX5]; exact Blk.new X4 _ _
 have C5 : Hid (Below X3.heap.size X3 X5) := by unfold Hid; rw [hX5]; exact C4.out.alloc C4.out.size _
 have D5 : Hid (Below X4.heap.size X4 X5) := by unfold Hid; rw [hX5]; exact (Below.refl _ X4).alloc (Nat.le_refl _) _
 have B5 : Hid (Below w.heap.size w X5) := B3.out.trans (C5.out.mono B3.out.size)
 have E5 : Hid (StaO X5 X3.heap.size (.agg #[.int .i64 sk, .int .i64 sh, .int .i64 sm, .slice Ab4 nb4 cb4, .int .i64 sf, .slice Ac4 nc4 cc4, .slice Af4 nf4 cf4, .slice As4 ns4 cs4]) x) := HE4.out.on D5.out
 have c2 := implStateOk x _ X5 X5.heap.size E5.out.view HSh.out (Nat.le_refl _) (STb.out.on B5.out) a0 a1 a2 (ER.out.on B5.out)
 have kb0 := KB.out.cell 0 _ rfl
 have kb1 := KB.out.cell 1 _ rfl
 have kb2 := KB.out.cell 2 _ rfl
 have kb3 := KB.out.cell 3 _ rfl
 have kb4 := KB.out.cell 4 _ rfl
 have kb5 := KB.out.cell 5 _ rfl
 have kb6 := KB.out.cell 6 _ rfl
 have kb7 := KB.out.cell 7 _ rfl
 rw [hX5] at kb0 kb1 kb2 kb3 kb4 kb5 kb6 kb7
 go_wp2_with fail
 rw [← hX5]
 clear hX5 kb0 kb1 kb2 kb3 kb4 kb5 kb6 kb7
 refine c2.mono ?_
 rintro b X6 ⟨rfl, hb6⟩
 have C6 : Hid (Below X3.heap.size X3 X6) := C5.out.trans (hb6.mono C5.out.size)
 have D6 : Hid (Below X5.heap.size X5 X6) := hb6
 clear hb6 c2
 generalize staOk x = bo at *
 have hne : (bo != bo) = false := by cases bo <;> rfl
 go_wp2_with fail
 refine wp_region_until (fun w' => (w'.cell? ⟨X4.heap.size, 0, none⟩ = some (.int .i64 sk) ∧ w'.cell? ⟨X4.heap.size, 1, none⟩ = some (.int .i64 sh) ∧ w'.cell? ⟨X4.heap.size, 2, none⟩ = some (.int .i64 sm) ∧ w'.cell? ⟨X4.heap.size, 3, none⟩ = some (.slice Ab4 nb4 cb4) ∧ w'.cell? ⟨X4.heap.size, 4, none⟩ = some (.int .i64 sf) ∧ w'.cell? ⟨X4.heap.size, 5, none⟩ = some (.slice Ac4 nc4 cc4) ∧ w'.cell? ⟨X4.heap.size, 6, none⟩ = some (.slice Af4 nf4 cf4) ∧ w'.cell? ⟨X4.heap.size, 7, none⟩ = some (.slice As4 ns4 cs4)) ∧ w'.cell? ⟨w.heap.size, 0, none⟩ = some (.int .i64 sk) ∧ w'.cell? ⟨w.heap.size, 1, none⟩ = some (.int .i64 sh) ∧ w'.cell? ⟨w.heap.size, 2, none⟩ = some (.int .i64 sm) ∧ w'.cell? ⟨w.heap.size, 3, none⟩ = some (.slice Ab nb cb) ∧ w'.cell? ⟨w.heap.size, 4, none⟩ = some (.int .i64 sf) ∧ w'.cell? ⟨w.heap.size, 5, none⟩ = some (.slice Ac nc cc) ∧ w'.cell? ⟨w.heap.size, 6, none⟩ = some (.slice Af nf cf) ∧ w'.cell? ⟨w.heap.size, 7, none⟩ = some (.slice As ns cs)) (fun _ => false) 5 (by rfl) (by kernel_rfl) ?_
 have hbd : Below X6.heap.size X6 X6.drew := (Below.refl _ _).drew
 generalize X6.drew = XD at *
 have CD : Hid (Below X3.heap.size X3 XD) := C6.out.trans (hbd.mono C6.out.size)
 have DD : Hid (Below X5.heap.size X5 XD) := D6.out.trans (hbd.mono D6.out.size)
 have BD : Hid (Below w.heap.size w XD) := B3.out.trans (CD.out.mono B3.out.size)
 have KBa : Hid (Blk XD X4.heap.size #[.int .i64 sk, .int .i64 sh, .int .i64 sm, .slice Ab4 nb4 cb4, .int .i64 sf, .slice Ac4 nc4 cc4, .slice Af4 nf4 cf4, .slice As4 ns4 cs4] 38) := KB.out.on DD.out KB.out.lt
 have KAa : Hid (Blk XD w.heap.size #[.int .i64 sk, .int .i64 sh, .int .i64 sm, .slice Ab nb cb, .int .i64 sf, .slice Ac nc cc, .slice Af nf cf, .slice As ns cs] 29) := K3.out.on CD.out K3.out.lt
 have S0 : Hid ((fun w' => (w'.cell? ⟨X4.heap.size, 0, none⟩ = some (.int .i64 sk) ∧ w'.cell? ⟨X4.heap.size, 1, none⟩ = some (.int .i64 sh) ∧ w'.cell? ⟨X4.heap.size, 2, none⟩ = some (.int .i64 sm) ∧ w'.cell? ⟨X4.heap.size, 3, none⟩ = some (.slice Ab4 nb4 cb4) ∧ w'.cell? ⟨X4.heap.size, 4, none⟩ = some (.int .i64 sf) ∧ w'.cell? ⟨X4.heap.size, 5, none⟩ = some (.slice Ac4 nc4 cc4) ∧ w'.cell? ⟨X4.heap.size, 6, none⟩ = some (.slice Af4 nf4 cf4) ∧ w'.cell? ⟨X4.heap.size, 7, none⟩ = some (.slice As4 ns4 cs4)) ∧ w'.cell? ⟨w.heap.size, 0, none⟩ = some (.int .i64 sk) ∧ w'.cell? ⟨w.heap.size, 1, none⟩ = some (.int .i64 sh) ∧ w'.cell? ⟨w.heap.size, 2, none⟩ = some (.int .i64 sm) ∧ w'.cell? ⟨w.heap.size, 3, none⟩ = some (.slice Ab nb cb) ∧ w'.cell? ⟨w.heap.size, 4, none⟩ = some (.int .i64 sf) ∧ w'.cell? ⟨w.heap.size, 5, none⟩ = some (.slice Ac nc cc) ∧ w'.cell? ⟨w.heap.size, 6, none⟩ = some (.slice Af nf cf) ∧ w'.cell? ⟨w.heap.size, 7, none⟩ = some (.slice As ns cs)) XD) := ⟨⟨KBa.out.cell 0 _ rfl, KBa.out.cell 1 _ rfl, KBa.out.cell 2 _ rfl, KBa.out.cell 3 _ rfl, KBa.out.cell 4 _ rfl, KBa.out.cell 5 _ rfl, KBa.out.cell 6 _ rfl, KBa.out.cell 7 _ rfl⟩, KAa.out.cell 0 _ rfl, KAa.out.cell 1 _ rfl, KAa.out.cell 2 _ rfl, KAa.out.cell 3 _ rfl, KAa.out.cell 4 _ rfl, KAa.out.cell 5 _ rfl, KAa.out.cell 6 _ rfl, KAa.out.cell 7 _ rfl⟩
 have ct := toState x _ XD w.heap.size (HV.out.on BD.out) HSh.out BD.out.size
 clear hbd
 refine tKf 0 S0.out ?_
 refine tKf 1 S0.out ?_
 refine uNe 2 (fun K hK => ?_)
 go_simp
 refine ct.mono ?_
 rintro b X7 ⟨⟨u7, rfl, hE7⟩, hb7⟩
 have C7 : Hid (Below X3.heap.size X3 X7) := CD.out.trans (hb7.mono CD.out.size)
 have D7 : Hid (Below X5.heap.size X5 X7) := DD.out.trans (hb7.mono DD.out.size)
 have KBb : Hid (Blk X7 X4.heap.size #[.int .i64 sk, .int .i64 sh, .int .i64 sm, .slice Ab4 nb4 cb4, .int .i64 sf, .slice Ac4 nc4 cc4, .slice Af4 nf4 cf4, .slice As4 ns4 cs4] 38) := KB.out.on D7.out KB.out.lt
 have KAb : Hid (Blk X7 w.heap.size #[.int .i64 sk, .int .i64 sh, .int .i64 sm, .slice Ab nb cb, .int .i64 sf, .slice Ac nc cc, .slice Af nf cf, .slice As ns cs] 29) := K3.out.on C7.out K3.out.lt
 have cq := eqState x (.agg #[.int .i64 sk, .int .i64 sh, .int .i64 sm, .slice Ab4 nb4 cb4, .int .i64 sf, .slice Ac4 nc4 cc4, .slice Af4 nf4 cf4, .slice As4 ns4 cs4]) u7 X3.heap.size XD.heap.size X7 (E5.out.on D7.out) hE7 HSh.out
 obtain ⟨Ab7, nb7, cb7, Ac7, nc7, cc7, Af7, nf7, cf7, As7, ns7, cs7, rfl⟩ := hE7.shape
 rw [HX.out] at cq ⊢
 clear hb7 ct S0 KBa KAa hE7
 go_wp2_with fail
 refine hK.out _ _ (fun _ _ => ⟨⟨KBb.out.cell 0 _ rfl, KBb.out.cell 1 _ rfl, KBb.out.cell 2 _ rfl, KBb.out.cell 3 _ rfl, KBb.out.cell 4 _ rfl, KBb.out.cell 5 _ rfl, KBb.out.cell 6 _ rfl, KBb.out.cell 7 _ rfl⟩, KAb.out.cell 0 _ rfl, KAb.out.cell 1 _ rfl, KAb.out.cell 2 _ rfl, KAb.out.cell 3 _ rfl, KAb.out.cell 4 _ rfl, KAb.out.cell 5 _ rfl, KAb.out.cell 6 _ rfl, KAb.out.cell 7 _ rfl⟩) ?_
 clear hK K
 try simp only [Act.put, zQ1, zQ2, zQ3]
 refine uNe 3 (fun K hK => ?_)
 go_simp
 refine cq.mono ?_
 rintro b X8 ⟨rfl, hb8⟩
 have C8 : Hid (Below X3.heap.size X3 X8) := C7.out.trans (hb8.mono C7.out.size)
 have D8 : Hid (Below X5.heap.size X5 X8) := D7.out.trans (hb8.mono D7.out.size)
 have KBc : Hid (Blk X8 X4.heap.size #[.int .i64 sk, .int .i64 sh, .int .i64 sm, .slice Ab4 nb4 cb4, .int .i64 sf, .slice Ac4 nc4 cc4, .slice Af4 nf4 cf4, .slice As4 ns4 cs4] 38) := KB.out.on D8.out KB.out.lt
 have KAc : Hid (Blk X8 w.heap.size #[.int .i64 sk, .int .i64 sh, .int .i64 sm, .slice Ab nb cb, .int .i64 sf, .slice Ac nc cc, .slice Af nf cf, .slice As ns cs] 29) := K3.out.on C8.out K3.out.lt
 clear hb8 cq KBb KAb
 go_wp2_with fail
 refine hK.out _ _ (fun _ _ => ⟨⟨KBc.out.cell 0 _ rfl, KBc.out.cell 1 _ rfl, KBc.out.cell 2 _ rfl, KBc.out.cell 3 _ rfl, KBc.out.cell 4 _ rfl, KBc.out.cell 5 _ rfl, KBc.out.cell 6 _ rfl, KBc.out.cell 7 _ rfl⟩, KAc.out.cell 0 _ rfl, KAc.out.cell 1 _ rfl, KAc.out.cell 2 _ rfl, KAc.out.cell 3 _ rfl, KAc.out.cell 4 _ rfl, KAc.out.cell 5 _ rfl, KAc.out.cell 6 _ rfl, KAc.out.cell 7 _ rfl⟩) ?_
 clear hK K
 try simp only [Act.put, zQ1, zQ2, zQ3]
 refine pUf 4 ?_
 refine until_done (by kernel_rfl) ?_ _
 clear KBc KAc C7 D7 CD DD BD
 go_wp2_with fail
 go_ret
 exact ⟨rfl, B3.out.trans (C8.out.mono B3.out.size)⟩
end Go.Proofs.YthhamlahdjokkaaGreatDoor
namespace Go.Proofs.YthhamlahdjokkaaGreatDoor
open Go.ChangeShapes Go.WideShapes Go.ChangeAt Go.RowKit Go.PlainAid
set_option linter.unusedVariables false
theorem list2s {α : Type} {l : List α} (h : l.length = 2) : ∃ a b, l = [a, b] := by
 match l, h with
 | [a, b], _ => exact ⟨a, b, rfl⟩
theorem list3s {α : Type} {l : List α} (h : l.length = 3) : ∃ a b c, l = [a, b, c] := by
 match l, h with
 | [a, b, c], _ => exact ⟨a, b, c, rfl⟩
theorem list4s {α : Type} {l : List α} (h : l.length = 4) : ∃ a b c d, l = [a, b, c, d] := by
 match l, h with
 | [a, b, c, d], _ => exact ⟨a, b, c, d, rfl⟩
theorem list6s {α : Type} {l : List α} (h : l.length = 6) : ∃ a b c d e f, l = [a, b, c, d, e, f] := by
 match l, h with
 | [a, b, c, d, e, f], _ => exact ⟨a, b, c, d, e, f, rfl⟩
theorem list8s {α : Type} {l : List α} (h : l.length = 8) : ∃ a b c d e f g k, l = [a, b, c, d, e, f, g, k] := by
 match l, h with
 | [a, b, c, d, e, f, g, k], _ => exact ⟨a, b, c, d, e, f, g, k, rfl⟩
theorem cAnsT : Tryz.prog.cellsOf 92 = 4 := by kernel_rfl
theorem cSesT : Tryz.prog.cellsOf 94 = 6 := by kernel_rfl
theorem cBkT : Tryz.prog.cellsOf 107 = 2 := by kernel_rfl
theorem cEngT : Tryz.prog.cellsOf 26 = 3 := by kernel_rfl
theorem cStT : Tryz.prog.cellsOf 29 = 8 := by kernel_rfl
section
variable {H : Type} {enc : TypeId × Value → H} {w : World} {base : Nat} {spare : Nat → Bool} {held : Bool}
set_option maxRecDepth 100000 in
theorem open_bkT (n : Nat) (cs : List Value) (y : DataW H × List MemPlace) (h : DataW.trod enc Tryz.prog w base spare held n 107 cs = some y) : ∃ z : Pnt, cs = ptC z ∧ True := by
 obtain ⟨xs, m, _, _, hl, hlen, hf⟩ := DataW.trod_struct Tryz.underlying107 h
 rw [cBkT] at hl
 obtain ⟨a, b, rfl⟩ := list2s hl
 obtain ⟨x0, x1, rfl⟩ := list2s (show xs.length = 2 from hlen)
 have f0 := hf 0 _ rfl
 have f1 := hf 1 _ rfl
 simp only [List.getElem?_cons_zero, List.getElem?_cons_succ] at f0 f1
 obtain ⟨i0, e0, _, h0⟩ := DataW.trod_int Tryz.underlying3 f0
 obtain ⟨i1, e1, _, h1⟩ := DataW.trod_int Tryz.underlying3 f1
 cases e0
 cases e1
 exact ⟨⟨i0, i1⟩, rfl, trivial⟩
set_option maxRecDepth 100000 in
theorem open_ansT (n : Nat) (cs : List Value) (y : DataW H × List MemPlace) (h : DataW.trod enc Tryz.prog w base spare held n 92 cs = some y) : ∃ z : Ans, cs = [.int .i64 z.code, .int .i64 z.index, .int .i64 z.mark, .string z.data] ∧ z.data.size ≤ maxLen := by
 obtain ⟨xs, m, _, _, hl, hlen, hf⟩ := DataW.trod_struct Tryz.underlying92 h
 rw [cAnsT] at hl
 obtain ⟨a, b, c, d, rfl⟩ := list4s hl
 obtain ⟨x0, x1, x2, x3, rfl⟩ := list4s (show xs.length = 4 from hlen)
 have f0 := hf 0 _ rfl
 have f1 := hf 1 _ rfl
 have f2 := hf 2 _ rfl
 have f3 := hf 3 _ rfl
 simp only [List.getElem?_cons_zero, List.getElem?_cons_succ] at f0 f1 f2 f3
 obtain ⟨i0, e0, _, h0⟩ := DataW.trod_int Tryz.underlying3 f0
 obtain ⟨i1, e1, _, h1⟩ := DataW.trod_int Tryz.underlying3 f1
 obtain ⟨i2, e2, _, h2⟩ := DataW.trod_int Tryz.underlying3 f2
 obtain ⟨s3, e3, _, hs⟩ := DataW.trod_string Tryz.underlying9 f3
 cases e0
 cases e1
 cases e2
 cases e3
 exact ⟨⟨i0, i1, i2, s3⟩, rfl, hs⟩
set_option maxRecDepth 100000 in
theorem open_sesT (n : Nat) (cs : List Value) (y : DataW H × List MemPlace) (h : DataW.trod enc Tryz.prog w base spare held n 94 cs = some y) : ∃ z : Ses, cs = sesC z ∧ z.data.size ≤ maxLen := by
 obtain ⟨xs, m, _, _, hl, hlen, hf⟩ := DataW.trod_struct Tryz.underlying94 h
 rw [cSesT] at hl
 obtain ⟨a, b, c, d, e, f, rfl⟩ := list6s hl
 obtain ⟨x0, x1, x2, rfl⟩ := list3s (show xs.length = 3 from hlen)
 have f0 := hf 0 _ rfl
 have f1 := hf 1 _ rfl
 have f2 := hf 2 _ rfl
 simp only [List.getElem?_cons_zero, List.getElem?_cons_succ] at f0 f1 f2
 obtain ⟨i0, e0, _, h0⟩ := DataW.trod_int Tryz.underlying3 f0
 obtain ⟨i1, e1, _, h1⟩ := DataW.trod_int Tryz.underlying3 f1
 obtain ⟨z, e2, hz⟩ := open_ansT _ _ _ f2
 cases e0
 cases e1
 cases e2
 exact ⟨⟨i0, i1, z.code, z.index, z.mark, z.data⟩, rfl, hz⟩
set_option maxRecDepth 100000 in
theorem open_engT (n : Nat) (cs : List Value) (y : DataW H × List MemPlace) (h : DataW.trod enc Tryz.prog w base spare held n 26 cs = some y) : ∃ (e : Eng) (vc vf : Value), cs = [.int .i64 e.floor, vc, vf] ∧ SerV w w.heap.size vc e.cache ∧ Lies w w.heap.size 1 vf (stR e.files) ∧ EFits e := by
 obtain ⟨xs, m, _, _, hl, hlen, hf⟩ := DataW.trod_struct Tryz.underlying26 h
 rw [cEngT] at hl
 obtain ⟨a, b, c, rfl⟩ := list3s hl
 obtain ⟨x0, x1, x2, rfl⟩ := list3s (show xs.length = 3 from hlen)
 have f0 := hf 0 _ rfl
 have f1 := hf 1 _ rfl
 have f2 := hf 2 _ rfl
 simp only [List.getElem?_cons_zero, List.getElem?_cons_succ] at f0 f1 f2
 obtain ⟨i0, e0, _, w0⟩ := DataW.trod_int Tryz.underlying3 f0
 cases e0
 obtain ⟨ls, l1, l2, l3⟩ := open_rows Tryz.underlying23 2 cSr (by omega) srC (fun _ => rfl) _ open_sr f1
 obtain ⟨ts, t1, t2, t3⟩ := open_rows Tryz.underlying24 1 cStr9 (by omega) stC (fun _ => rfl) _ open_text f2
 refine ⟨⟨i0, ls.map Prod.fst, ts⟩, b, c, rfl, ⟨ls, rfl, l1, fun p hp => (l3 p hp).1⟩, t1, ⟨by rw [List.length_map]; exact l2, fun x hx => ?_⟩, t2, t3⟩
 obtain ⟨p, hp, rfl⟩ := List.mem_map.1 hx
 exact (l3 p hp).2
set_option maxRecDepth 100000 in
theorem open_state {r : Reach} {b0 : Nat} {v : Value} {dd : DataW H} {ps : List MemPlace} (hval : Value.okWide Tryz.prog w r b0 29 v) (hd : DataW.Trod enc Tryz.prog w base spare held 29 v dd ps) : ∃ x : Sta, StaV w w.heap.size v x ∧ StFits x ∧ True := by
 obtain ⟨cs, rfl, hsz⟩ := okWide_struct Tryz.underlying29 hval
 rw [cStT] at hsz
 obtain ⟨fuel, hf0⟩ := hd
 obtain ⟨xs, m, _, _, _, hlen, hf⟩ := DataW.trod_struct Tryz.underlying29 hf0
 obtain ⟨l⟩ := cs
 obtain ⟨a, b, c, d, e, f, g, k, rfl⟩ := list8s (show l.length = 8 from hsz)
 obtain ⟨x0, x1, x2, x3, x4, x5, rfl⟩ := list6s (show xs.length = 6 from hlen)
 have f0 := hf 0 _ rfl
 have f1 := hf 1 _ rfl
 have f2 := hf 2 _ rfl
 have f3 := hf 3 _ rfl
 have f4 := hf 4 _ rfl
 have f5 := hf 5 _ rfl
 simp only [Value.cells, List.getElem?_cons_zero, List.getElem?_cons_succ] at f0 f1 f2 f3 f4 f5
 obtain ⟨i0, e0, _, w0⟩ := DataW.trod_int Tryz.underlying3 f0
 obtain ⟨i1, e1, _, w1⟩ := DataW.trod_int Tryz.underlying3 f1
 obtain ⟨i2, e2, _, w2⟩ := DataW.trod_int Tryz.underlying3 f2
 cases e0
 cases e1
 cases e2
 obtain ⟨bs, b1, b2, _⟩ := open_rows Tryz.underlying22 2 cBkT (by omega) ptC (fun _ => rfl) _ open_bkT f3
 obtain ⟨en, vc, vf, e4, hc, hl, hE⟩ := open_engT _ _ _ f4
 cases e4
 obtain ⟨ss, s1, s2, s3⟩ := open_rows Tryz.underlying27 6 cSesT (by omega) sesC (fun _ => rfl) _ open_sesT f5
 exact ⟨⟨i0, i1, i2, bs, en, ss⟩, ⟨_, _, _, _, rfl, b1, hc, hl, s1⟩, ⟨b2, hE, s2, s3⟩, trivial⟩
end
end Go.Proofs.YthhamlahdjokkaaGreatDoor
