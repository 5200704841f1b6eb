/- LawFnDiskCalls -/
import Derived.Test.YtgjilgecklhglaaGreatRows
import Derived.Test.YtgjilgecklhglaaGreatQt15
import Derived.Test.YtgjilgecklhglaaGreatQt11
import Derived.Test.YtgjilgecklhglaaGreatQt12
import Derived.Test.YtgjilgecklhglaaGreatQt6
import Derived.Test.YtgjilgecklhglaaGreatQt13
import Derived.Lib.OwnKind
import Derived.Deep.Cut
import Derived.Deep.CutRange
import Derived.Deep.CutBlock
import Derived.WalkKit
import Derived.ProofKit
import Derived.OpenShut
import Derived.Below
import Derived.WalkSmall
import Derived.BigQuiet
import Derived.Deep.QuietTactic
import Derived.Deep.RegionWith
import Derived.Handy
open List (setIfInBounds_toArray set_cons_zero set_cons_succ)
namespace Go.Proofs.YtgjilgecklhglaaGreat
open Go.ChangeShapes Go.WideShapes Go.ChangeAt Go.RowKit Go.PlainAid
set_option linter.unusedVariables false
theorem numsTwo (w : World) (a b : Int) : NumsV (w.alloc (.cells #[.int .i64 a, .int .i64 b] 3)) (w.alloc (.cells #[.int .i64 a, .int .i64 b] 3)).heap.size (.slice (some ⟨w.heap.size, 0, none⟩) 2 2) [a, b] := by
 have hB := Blk.new w #[.int .i64 a, .int .i64 b] 3
 refine ⟨_, 2, rfl, Nat.le_refl _, by unfold maxLen; omega, fun j hj => ⟨w.heap.size, 0, rfl, by simp, ?_⟩⟩
 rw [Nat.zero_add]
 rcases (show j = 0 ∨ j = 1 by simp at hj; omega) with rfl | rfl
 ·exact hB.cell 0 _ rfl
 ·exact hB.cell 1 _ rfl
theorem DiskV.up {w : World} {B C : Nat} {v : Value} {d : Dsk} (h : DiskV w B v d) (hC : B ≤ C) : DiskV w C v d := by
 obtain ⟨v1, v2, v3, e, h1, h2, h3⟩ := h
 exact ⟨v1, v2, v3, e, h1.mono hC, h2.mono hC, h3.mono hC⟩
theorem zero_fits : Fits zeroD ∧ IntsOk zeroD ∧ wtD zeroD ≤ 1048576 :=
 ⟨⟨Nat.zero_le _, Nat.zero_le _, Nat.zero_le _, fun x hx => (by cases hx), fun x hx => (by cases hx), fun x hx => (by cases hx)⟩, ⟨fun x hx => (by cases hx), fun x hx => (by cases hx)⟩, Nat.zero_le _⟩
set_option maxRecDepth 20000 in
set_option maxHeartbeats 8000000 in
theorem law_fnDiskCalls (ao : Option Addr) (len cap : Nat) (cs : Nat → Nat) (w : World) (h : CodeIs w w.heap.size ao len cs) (hl : len ≤ 9223372036854775807) : Calls Tryz.prog 5 #[.slice ao len cap] w fun e w' => e = .returned (.bool true) ∧ Below w.heap.size w w' := by
 have HC : Hid (CodeIs w w.heap.size ao len cs) := h
 clear h
 by_cases hbig : 1048576 < len
 ·go_enter Tryz.func5, Tryz.ntmps5
  go_wp2_with fail
  refine (big_yes w ao len cap hbig hl).mono ?_
  rintro e w' ⟨rfl, rfl⟩
  go_wp2_with fail
  go_ret
  exact ⟨rfl, Below.refl _ _⟩
 have HL : Hid (len ≤ 1048576) := by unfold Hid; omega
 have q0 : (len : Int) ≤ 1048576 := by omega
 clear hbig hl
 go_enter Tryz.func5, Tryz.ntmps5
 go_wp2_with fail
 refine (big_no w ao len cap HL.out).mono ?_
 rintro e w' ⟨rfl, rfl⟩
 go_wp2_with fail
 refine (drawDoStep w ao len cap cs HL.out HC.out).mono ?_
 rintro e w1 ⟨d, v, k, n, t, x, rfl, hO, hsm, ⟨hz1, hz2, hz3⟩, hb⟩
 obtain ⟨v1, v2, v3, rfl, h1, h2, h3⟩ := hO
 obtain ⟨xa1, xan1, xac1, rfl⟩ := h1.shape
 obtain ⟨xa2, xan2, xac2, rfl⟩ := h2.shape
 obtain ⟨xa3, xan3, xac3, rfl⟩ := h3.shape
 have HSM := Hid.mkD hsm
 have HNS : Hid (n.size ≤ maxLen) := by unfold Hid maxLen; omega
 have HTS : Hid (t.size ≤ maxLen) := by unfold Hid maxLen; omega
 have HXS : Hid (x.size ≤ maxLen) := by unfold Hid maxLen; omega
 have HX3 := Hid.mkD hz3
 obtain ⟨w2, hw2⟩ : ∃ w2, w2 = (w1.alloc (.cells #[.int .i64 d.room, .int .i64 d.next, .slice xa1 xan1 xac1, .slice xa2 xan2 xac2, .slice xa3 xan3 xac3] 28)).alloc (.cells #[.int .i64 k, .string n, .string t, .string x] 55) := ⟨_, rfl⟩
 have hal : Below w1.heap.size w1 w2 := by rw [hw2]; exact ((Below.refl _ _).alloc (Nat.le_refl _) _).alloc (by simp) _
 have B2 : Hid (Below w.heap.size w w2) := hb.trans (hal.mono hb.size)
 have KD2 : Hid (Blk w2 w1.heap.size #[.int .i64 d.room, .int .i64 d.next, .slice xa1 xan1 xac1, .slice xa2 xan2 xac2, .slice xa3 xan3 xac3] 28) := by unfold Hid; rw [hw2]; exact (Blk.new w1 _ _).alloc _
 have KS2 : Hid (Blk w2 (w1.heap.size + 1) #[.int .i64 k, .string n, .string t, .string x] 55) := by unfold Hid; rw [hw2]; have := Blk.new (w1.alloc (.cells #[.int .i64 d.room, .int .i64 d.next, .slice xa1 xan1 xac1, .slice xa2 xan2 xac2, .slice xa3 xan3 xac3] 28)) #[.int .i64 k, .string n, .string t, .string x] 55; rw [World.size_alloc] at this; exact this
 have VD2 : Hid (DiskV w2 w1.heap.size (.agg #[.int .i64 d.room, .int .i64 d.next, .slice xa1 xan1 xac1, .slice xa2 xan2 xac2, .slice xa3 xan3 xac3]) d) := DiskV.on ⟨_, _, _, rfl, h1.lies, h2.lies, h3.lies⟩ hal
 clear hal hb h1 h2 h3 hsm hz1 hz2 hz3
 obtain ⟨e00, e01, e02, e03, e04⟩ := cellsC5 KD2.out
 obtain ⟨e10, e11, e12, e13⟩ := cellsC4 KS2.out
 go_wp2_with fail
 rw [← hw2]
 clear hw2
 go_wp2_with fail
 refine (implDoStepV d (.agg #[.int .i64 d.room, .int .i64 d.next, .slice xa1 xan1 xac1, .slice xa2 xan2 xac2, .slice xa3 xan3 xac3]) k n t x w2 w1.heap.size VD2.out HSM.out.fits HSM.out.ints HSM.out.wt (by have := KD2.out.lt; omega) HNS.out HTS.out HXS.out).mono ?_
 rintro e w3 ⟨v, rfl, hO, hb⟩
 obtain ⟨d2, hd2⟩ : ∃ d2, d2 = (doStepR d k n t x).1 := ⟨_, rfl⟩
 obtain ⟨c2, hc2⟩ : ∃ c2, c2 = (doStepR d k n t x).2 := ⟨_, rfl⟩
 rw [← hd2] at hO
 rw [← hc2]
 obtain ⟨v1, v2, v3, rfl, h1, h2, h3⟩ := hO
 obtain ⟨xb1, xbn1, xbc1, rfl⟩ := h1.shape
 obtain ⟨xb2, xbn2, xbc2, rfl⟩ := h2.shape
 obtain ⟨xb3, xbn3, xbc3, rfl⟩ := h3.shape
 obtain ⟨w4, hw4⟩ : ∃ w4, w4 = w3.alloc (.cells #[.int .i64 d2.room, .int .i64 d2.next, .slice xb1 xbn1 xbc1, .slice xb2 xbn2 xbc2, .slice xb3 xbn3 xbc3] 28) := ⟨_, rfl⟩
 have hal : Below w3.heap.size w3 w4 := by rw [hw4]; exact (Below.refl _ _).alloc (Nat.le_refl _) _
 have B4 : Hid (Below w.heap.size w w4) := B2.out.trans ((hb.trans (hal.mono hb.size)).mono B2.out.size)
 have h24 : Below w2.heap.size w2 w4 := hb.trans (hal.mono hb.size)
 have KD4 : Hid (Blk w4 w1.heap.size #[.int .i64 d.room, .int .i64 d.next, .slice xa1 xan1 xac1, .slice xa2 xan2 xac2, .slice xa3 xan3 xac3] 28) := KD2.out.on h24 KD2.out.lt
 have VD4 : Hid (DiskV w4 w4.heap.size (.agg #[.int .i64 d.room, .int .i64 d.next, .slice xa1 xan1 xac1, .slice xa2 xan2 xac2, .slice xa3 xan3 xac3]) d) := (VD2.out.on (h24.mono (by have := KD2.out.lt; omega))).up (by have := KD2.out.lt; have := h24.size; omega)
 have KX4 : Hid (Blk w4 w3.heap.size #[.int .i64 d2.room, .int .i64 d2.next, .slice xb1 xbn1 xbc1, .slice xb2 xbn2 xbc2, .slice xb3 xbn3 xbc3] 28) := by unfold Hid; rw [hw4]; exact Blk.new w3 _ _
 have VX4 : Hid (DiskV w4 w4.heap.size (.agg #[.int .i64 d2.room, .int .i64 d2.next, .slice xb1 xbn1 xbc1, .slice xb2 xbn2 xbc2, .slice xb3 xbn3 xbc3]) d2) := (DiskV.on ⟨_, _, _, rfl, h1.lies, h2.lies, h3.lies⟩ hal).up hal.size
 have HD2 := Hid.mkD hd2
 have HC2 := Hid.mkD hc2
 clear hb hal h24 h1 h2 h3 VD2 KS2 KD2 e00 e01 e02 e03 e04 e10 e11 e12 e13 hd2 hc2
 obtain ⟨e40, e41, e42, e43, e44⟩ := cellsC5 KD4.out
 obtain ⟨f40, f41, f42, f43, f44⟩ := cellsC5 KX4.out
 rw [hw4] at e40 e41 e42 e43 e44 f40 f41 f42 f43 f44
 go_wp2_with fail
 rw [← hw4]
 clear e40 e41 e42 e43 e44 f40 f41 f42 f43 f44 hw4
 refine (specOkV d (.agg #[.int .i64 d.room, .int .i64 d.next, .slice xa1 xan1 xac1, .slice xa2 xan2 xac2, .slice xa3 xan3 xac3]) w4 w4.heap.size VD4.out HSM.out.fits HSM.out.wt (Nat.le_refl _)).mono ?_
 rintro e w5 ⟨rfl, hb⟩
 have B5 : Hid (Below w.heap.size w w5) := B4.out.trans (hb.mono B4.out.size)
 have KD5 : Hid (Blk w5 w1.heap.size #[.int .i64 d.room, .int .i64 d.next, .slice xa1 xan1 xac1, .slice xa2 xan2 xac2, .slice xa3 xan3 xac3] 28) := KD4.out.on hb KD4.out.lt
 have KX5 : Hid (Blk w5 w3.heap.size #[.int .i64 d2.room, .int .i64 d2.next, .slice xb1 xbn1 xbc1, .slice xb2 xbn2 xbc2, .slice xb3 xbn3 xbc3] 28) := KX4.out.on hb KX4.out.lt
 have VD5 : Hid (DiskV w5 w5.heap.size (.agg #[.int .i64 d.room, .int .i64 d.next, .slice xa1 xan1 xac1, .slice xa2 xan2 xac2, .slice xa3 xan3 xac3]) d) := (VD4.out.on hb).up hb.size
 have VX5 : Hid (DiskV w5 w5.heap.size (.agg #[.int .i64 d2.room, .int .i64 d2.next, .slice xb1 xbn1 xbc1, .slice xb2 xbn2 xbc2, .slice xb3 xbn3 xbc3]) d2) := (VX4.out.on hb).up hb.size
 clear hb KD4 KX4 VD4 VX4
 obtain ⟨e50, e51, e52, e53, e54⟩ := cellsC5 KD5.out
 obtain ⟨f50, f51, f52, f53, f54⟩ := cellsC5 KX5.out
 cases hok : diskOk d
 ·have h2 := HD2.out
  have h3 := HC2.out
  rw [doStepR_no hok] at h2 h3
  dsimp only at h2 h3
  subst h3
  have hx : diskOk d2 = false := by rw [h2]; exact zero_not
  have hfit : Fits d2 ∧ IntsOk d2 ∧ wtD d2 ≤ 1048576 := by rw [h2]; exact zero_fits
  clear h2 e50 e51 e52 e53 e54
  go_wp2_with fail
  refine (implOkV d2 (.agg #[.int .i64 d2.room, .int .i64 d2.next, .slice xb1 xbn1 xbc1, .slice xb2 xbn2 xbc2, .slice xb3 xbn3 xbc3]) w5 w5.heap.size VX5.out hfit.1 hfit.2.1 hfit.2.2 (Nat.le_refl _)).mono ?_
  rintro e w6 ⟨rfl, hb⟩
  rw [hx]
  have B6 : Hid (Below w.heap.size w w6) := B5.out.trans (hb.mono B5.out.size)
  clear hb f50 f51 f52 f53 f54
  go_wp2_with fail
  go_ret
  exact ⟨rfl, B6.out⟩
 ·have hR := RD.iff.1 hok
  obtain ⟨hR2, hsame⟩ := hR.step k n t x
  have hby := step_bytes d k n t x
  rw [← congrArg Prod.fst (doStepR_yes (k := k) (n := n) (t := t) (x := x) hok), ← HD2.out] at hR2 hsame hby
  rw [← congrArg Prod.snd (doStepR_yes (k := k) (n := n) (t := t) (x := x) hok), ← HC2.out] at hsame
  have HR2 := Hid.mkD hR2
  have HSA := Hid.mkD hsame
  have HBY : Hid (bytesOf d2.nods ≤ 300000) := by have := HSM.out.b; have := HX3.out; unfold Hid; omega
  have HM2 := Hid.mkD (HR2.out.mid HBY.out)
  have hx : diskOk d2 = true := RD.iff.2 hR2
  clear hR hR2 hsame hby HD2 HC2
  go_wp2_with fail
  refine (specOkV d2 (.agg #[.int .i64 d2.room, .int .i64 d2.next, .slice xb1 xbn1 xbc1, .slice xb2 xbn2 xbc2, .slice xb3 xbn3 xbc3]) w5 w5.heap.size VX5.out HM2.out.1 HM2.out.2.2 (Nat.le_refl _)).mono ?_
  rintro e w6 ⟨rfl, hb⟩
  rw [hx]
  have B6 : Hid (Below w.heap.size w w6) := B5.out.trans (hb.mono B5.out.size)
  have KD6 : Hid (Blk w6 w1.heap.size #[.int .i64 d.room, .int .i64 d.next, .slice xa1 xan1 xac1, .slice xa2 xan2 xac2, .slice xa3 xan3 xac3] 28) := KD5.out.on hb KD5.out.lt
  have KX6 : Hid (Blk w6 w3.heap.size #[.int .i64 d2.room, .int .i64 d2.next, .slice xb1 xbn1 xbc1, .slice xb2 xbn2 xbc2, .slice xb3 xbn3 xbc3] 28) := KX5.out.on hb KX5.out.lt
  have VD6 : Hid (DiskV w6 w6.heap.size (.agg #[.int .i64 d.room, .int .i64 d.next, .slice xa1 xan1 xac1, .slice xa2 xan2 xac2, .slice xa3 xan3 xac3]) d) := (VD5.out.on hb).up hb.size
  have VX6 : Hid (DiskV w6 w6.heap.size (.agg #[.int .i64 d2.room, .int .i64 d2.next, .slice xb1 xbn1 xbc1, .slice xb2 xbn2 xbc2, .slice xb3 xbn3 xbc3]) d2) := (VX5.out.on hb).up hb.size
  clear hb e50 e51 e52 e53 e54 f50 f51 f52 f53 f54 KD5 KX5 VD5 VX5 B5
  obtain ⟨e60, e61, e62, e63, e64⟩ := cellsC5 KD6.out
  obtain ⟨f60, f61, f62, f63, f64⟩ := cellsC5 KX6.out
  by_cases hc0 : c2 = 0
  ·subst hc0
   go_wp2_with fail
   have B8 := Hid.mkD B6.out
   have KX8 := Hid.mkD KX6.out
   have VX8 := Hid.mkD VX6.out
   have C8 := Hid.mkD (HC.out.on B8.out)
   clear KD6 KX6 VD6 VX6 e60 e61 e62 e63 e64 f60 f61 f62 f63 f64
   refine (drawCrash w6 ao len cap cs HL.out C8.out).mono ?_
   rintro e w9 ⟨d3, v, kp, l, u, rfl, hO, hsm, hnu, hll, hb⟩
   obtain ⟨v1, v2, v3, rfl, h1, h2, h3⟩ := hO
   obtain ⟨xc1, xcn1, xcc1, rfl⟩ := h1.shape
   obtain ⟨xc2, xcn2, xcc2, rfl⟩ := h2.shape
   obtain ⟨xc3, xcn3, xcc3, rfl⟩ := h3.shape
   obtain ⟨w10, hw10⟩ : ∃ w10, w10 = w9.alloc (.cells #[.int .i64 d3.room, .int .i64 d3.next, .slice xc1 xcn1 xcc1, .slice xc2 xcn2 xcc2, .slice xc3 xcn3 xcc3] 28) := ⟨_, rfl⟩
   have hal : Below w9.heap.size w9 w10 := by rw [hw10]; exact (Below.refl _ _).alloc (Nat.le_refl _) _
   have h810 : Below w6.heap.size w6 w10 := hb.trans (hal.mono hb.size)
   have B10 : Hid (Below w.heap.size w w10) := B8.out.trans (h810.mono B8.out.size)
   have KX10 : Hid (Blk w10 w3.heap.size #[.int .i64 d2.room, .int .i64 d2.next, .slice xb1 xbn1 xbc1, .slice xb2 xbn2 xbc2, .slice xb3 xbn3 xbc3] 28) := KX8.out.on h810 KX8.out.lt
   have VX10 : Hid (DiskV w10 w10.heap.size (.agg #[.int .i64 d2.room, .int .i64 d2.next, .slice xb1 xbn1 xbc1, .slice xb2 xbn2 xbc2, .slice xb3 xbn3 xbc3]) d2) := (VX8.out.on h810).up h810.size
   have NU10 : Hid (NumsV w10 w10.heap.size u l) := (hnu.on hal).mono hal.size
   have HLL : Hid (l.length ≤ 1048576) := by unfold Hid; omega
   clear hal h810 hb h1 h2 h3 hsm hnu hll B8 KX8 VX8
   obtain ⟨e00, e01, e02, e03, e04⟩ := cellsC5 KX10.out
   rw [hw10] at e00 e01 e02 e03 e04
   go_wp2_with fail
   rw [← hw10]
   clear e00 e01 e02 e03 e04 hw10
   refine (implCrashV d2 (.agg #[.int .i64 d2.room, .int .i64 d2.next, .slice xb1 xbn1 xbc1, .slice xb2 xbn2 xbc2, .slice xb3 xbn3 xbc3]) kp l u w10 w10.heap.size VX10.out NU10.out HLL.out HM2.out.1 HM2.out.2.1 HM2.out.2.2 (Nat.le_refl _)).mono ?_
   rintro e w11 ⟨v, rfl, hO, hb⟩
   rw [crashR_yes hx] at hO
   have hR4 := HR2.out.crash kp l
   have hB4 : bytesOf (crashD d2 kp l).nods ≤ 300000 := by have := HR2.out.crash_bytes kp l; have := HBY.out; omega
   have hmv : (crashD d2 kp l).movs = [] := rfl
   have htw : ∀ k2 c2, crashD (crashD d2 kp l) k2 c2 = crashD d2 kp l := fun k2 c2 => crash_twice HR2.out kp l k2 c2
   generalize crashD d2 kp l = d4 at *
   have HM4 := Hid.mkD (hR4.mid hB4)
   have HR4 := Hid.mkD hR4
   have HTW := Hid.mkD htw
   have hx4 : diskOk d4 = true := RD.iff.2 hR4
   obtain ⟨v1, v2, v3, rfl, h1, h2, h3⟩ := hO
   obtain ⟨xe1, xen1, xec1, rfl⟩ := h1.shape
   obtain ⟨xe2, xen2, xec2, rfl⟩ := h2.shape
   obtain ⟨xe3, xen3, xec3, rfl⟩ := h3.shape
   have hen : xen3 = 0 := by have := h3.len4; rw [hmv] at this; exact this
   subst hen
   obtain ⟨w12, hw12⟩ : ∃ w12, w12 = w11.alloc (.cells #[.int .i64 d4.room, .int .i64 d4.next, .slice xe1 xen1 xec1, .slice xe2 xen2 xec2, .slice xe3 0 xec3] 28) := ⟨_, rfl⟩
   have hal : Below w11.heap.size w11 w12 := by rw [hw12]; exact (Below.refl _ _).alloc (Nat.le_refl _) _
   have B12 : Hid (Below w.heap.size w w12) := B10.out.trans ((hb.trans (hal.mono hb.size)).mono B10.out.size)
   have KY12 : Hid (Blk w12 w11.heap.size #[.int .i64 d4.room, .int .i64 d4.next, .slice xe1 xen1 xec1, .slice xe2 xen2 xec2, .slice xe3 0 xec3] 28) := by unfold Hid; rw [hw12]; exact Blk.new w11 _ _
   have VY12 : Hid (DiskV w12 w12.heap.size (.agg #[.int .i64 d4.room, .int .i64 d4.next, .slice xe1 xen1 xec1, .slice xe2 xen2 xec2, .slice xe3 0 xec3]) d4) := (DiskV.on ⟨_, _, _, rfl, h1.lies, h2.lies, h3.lies⟩ hal).up hal.size
   have LT12 : Hid (w11.heap.size < w12.heap.size) := KY12.out.lt
   have HWW : Hid (w.heap.size ≤ w12.heap.size) := B12.out.size
   clear hal hb h1 h2 h3 hR4 hB4 hmv htw KX10 VX10 NU10 HLL B10
   go_upto_region 12 with fail
   rw [← hw12]
   clear hw12
   refine wp_region_until (fun w' => w'.cell? ⟨w11.heap.size, 0, none⟩ = some (.int .i64 d4.room) ∧ w'.cell? ⟨w11.heap.size, 1, none⟩ = some (.int .i64 d4.next) ∧ w'.cell? ⟨w11.heap.size, 2, none⟩ = some (.slice xe1 xen1 xec1) ∧ w'.cell? ⟨w11.heap.size, 3, none⟩ = some (.slice xe2 xen2 xec2) ∧ w'.cell? ⟨w11.heap.size, 4, none⟩ = some (.slice xe3 0 xec3)) (fun i => i == 10) 11 (by rfl) (by kernel_rfl) ?_
   have KYa : Hid (Blk w12.drew w11.heap.size #[.int .i64 d4.room, .int .i64 d4.next, .slice xe1 xen1 xec1, .slice xe2 xen2 xec2, .slice xe3 0 xec3] 28) := KY12.out.on (Below.refl _ w12).drew KY12.out.lt
   have VYa : Hid (DiskV w12.drew w12.heap.size (.agg #[.int .i64 d4.room, .int .i64 d4.next, .slice xe1 xen1 xec1, .slice xe2 xen2 xec2, .slice xe3 0 xec3]) d4) := VY12.out.on (Below.refl _ w12).drew
   have Ba : Hid (Below w.heap.size w w12.drew) := B12.out.drew
   have SZa : Hid (w12.heap.size ≤ w12.drew.heap.size) := Nat.le_refl _
   have Qa := Hid.mkD (cellsC5 KYa.out)
   clear KY12 VY12 B12
   generalize w12.drew = wa at *
   refine tF 0 Qa.out ?_
   refine pF 1 ?_
   refine pF 3 ?_
   refine pF 5 ?_
   refine until_two 2 9 (by rfl) (by rfl) (by kernel_rfl) (fun K hK => ?_) (fun K hK => ?_)
   ·go_simp
    refine (at_any wa ao len cap cs 1 HL.out (by omega) (HC.out.on Ba.out)).mono ?_
    rintro e w' ⟨rfl, rfl⟩
    refine hK.out _ _ (fun _ h => h) ?_
    clear hK K
    try simp only [Act.put, zQ1, zQ2, zQ3]
    generalize hk9 : ((atV len cs 1 : Nat) : Int) = k2 at *
    clear hk9
    refine until_two 4 9 (by rfl) (by rfl) (by kernel_rfl) (fun K hK => ?_) (fun K hK => ?_)
    ·go_simp
     refine (at_any wa ao len cap cs 2 HL.out (by omega) (HC.out.on Ba.out)).mono ?_
     rintro e w' ⟨rfl, rfl⟩
     refine hK.out _ _ (fun _ h => h) ?_
     clear hK K
     try simp only [Act.put, zQ1, zQ2, zQ3]
     generalize hk9 : ((atV len cs 2 : Nat) : Int) = m1 at *
     clear hk9
     refine until_two 6 9 (by rfl) (by rfl) (by kernel_rfl) (fun K hK => ?_) (fun K hK => ?_)
     ·go_simp
      refine (at_any wa ao len cap cs 3 HL.out (by omega) (HC.out.on Ba.out)).mono ?_
      rintro e w' ⟨rfl, rfl⟩
      refine hK.out _ _ (fun _ h => h) ?_
      clear hK K
      try simp only [Act.put, zQ1, zQ2, zQ3]
      generalize hk9 : ((atV len cs 3 : Nat) : Int) = m2 at *
      clear hk9
      refine until_two 7 9 (by rfl) (by rfl) (by kernel_rfl) (fun K hK => ?_) (fun K hK => ?_)
      ·obtain ⟨gu, hgu⟩ : ∃ gu, gu = wa.heap.size := ⟨_, rfl⟩
       obtain ⟨wz1, hwn⟩ : ∃ wz1, wz1 = wa.alloc (.cells #[.int .i64 m1, .int .i64 m2] 3) := ⟨_, rfl⟩
       have hal : Below wa.heap.size wa wz1 := by rw [hwn]; exact (Below.refl _ _).alloc (Nat.le_refl _) _
       have NUz1 : Hid (NumsV wz1 wz1.heap.size (.slice (some ⟨gu, 0, none⟩) 2 2) [m1, m2]) := by unfold Hid; rw [hwn, hgu]; exact numsTwo wa m1 m2
       have KYz1 : Hid (Blk wz1 w11.heap.size #[.int .i64 d4.room, .int .i64 d4.next, .slice xe1 xen1 xec1, .slice xe2 xen2 xec2, .slice xe3 0 xec3] 28) := KYa.out.on hal KYa.out.lt
       have VYz1 : Hid (DiskV wz1 w12.heap.size (.agg #[.int .i64 d4.room, .int .i64 d4.next, .slice xe1 xen1 xec1, .slice xe2 xen2 xec2, .slice xe3 0 xec3]) d4) := VYa.out.on (hal.mono SZa.out)
       have SZz1 : Hid (w12.heap.size ≤ wz1.heap.size) := Nat.le_trans SZa.out hal.size
       have Bz1 : Hid (Below w.heap.size w wz1) := Ba.out.trans (hal.mono Ba.out.size)
       have Qz1 := Hid.mkD (cellsC5 KYz1.out)
       go_simp
       rw [← hwn, ← hgu]
       refine hK.out _ _ (fun _ _ => Qz1.out) ?_
       clear hK K
       try simp only [Act.put, zQ1, zQ2, zQ3]
       clear hwn hal hgu
       clear KYa VYa SZa Ba Qa
       refine until_two 8 9 (by rfl) (by rfl) (by kernel_rfl) (fun K hK => ?_) (fun K hK => ?_)
       ·go_simp
        refine (implCrashV d4 (.agg #[.int .i64 d4.room, .int .i64 d4.next, .slice xe1 xen1 xec1, .slice xe2 xen2 xec2, .slice xe3 0 xec3]) k2 [m1, m2] (.slice (some ⟨gu, 0, none⟩) 2 2) wz1 wz1.heap.size (VYz1.out.up SZz1.out) NUz1.out (by simp) HM4.out.1 HM4.out.2.1 HM4.out.2.2 (Nat.le_refl _)).mono ?_
        rintro e wz2 ⟨v, rfl, hO, hb⟩
        rw [crashR_yes hx4, HTW.out] at hO
        have KYz2 : Hid (Blk wz2 w11.heap.size #[.int .i64 d4.room, .int .i64 d4.next, .slice xe1 xen1 xec1, .slice xe2 xen2 xec2, .slice xe3 0 xec3] 28) := KYz1.out.on hb KYz1.out.lt
        have VYz2 : Hid (DiskV wz2 w12.heap.size (.agg #[.int .i64 d4.room, .int .i64 d4.next, .slice xe1 xen1 xec1, .slice xe2 xen2 xec2, .slice xe3 0 xec3]) d4) := VYz1.out.on (hb.mono SZz1.out)
        have SZz2 : Hid (w12.heap.size ≤ wz2.heap.size) := Nat.le_trans SZz1.out hb.size
        have Bz2 : Hid (Below w.heap.size w wz2) := Bz1.out.trans (hb.mono Bz1.out.size)
        have Qz2 := Hid.mkD (cellsC5 KYz2.out)
        refine hK.out _ _ (fun _ _ => Qz2.out) ?_
        clear hK K
        try simp only [Act.put, zQ1, zQ2, zQ3]
        obtain ⟨v1, v2, v3, rfl, h1, h2, h3⟩ := hO
        obtain ⟨xg1, xgn1, xgc1, rfl⟩ := h1.shape
        obtain ⟨xg2, xgn2, xgc2, rfl⟩ := h2.shape
        obtain ⟨xg3, xgn3, xgc3, rfl⟩ := h3.shape
        have VZz2 : Hid (DiskV wz2 wz2.heap.size (.agg #[.int .i64 d4.room, .int .i64 d4.next, .slice xg1 xgn1 xgc1, .slice xg2 xgn2 xgc2, .slice xg3 xgn3 xgc3]) d4) := ⟨_, _, _, rfl, h1.lies, h2.lies, h3.lies⟩
        clear hb h1 h2 h3
        clear KYz1 VYz1 SZz1 Bz1 Qz1 NUz1
        refine uNe 9 (fun K hK => ?_)
        obtain ⟨gz, hgz⟩ : ∃ gz, gz = wz2.heap.size := ⟨_, rfl⟩
        obtain ⟨wz3, hwn⟩ : ∃ wz3, wz3 = wz2.alloc (.cells #[.int .i64 0, .int .i64 0, .slice none 0 0, .slice none 0 0, .slice none 0 0] 28) := ⟨_, rfl⟩
        have hal : Below wz2.heap.size wz2 wz3 := by rw [hwn]; exact (Below.refl _ _).alloc (Nat.le_refl _) _
        have KYz3 : Hid (Blk wz3 w11.heap.size #[.int .i64 d4.room, .int .i64 d4.next, .slice xe1 xen1 xec1, .slice xe2 xen2 xec2, .slice xe3 0 xec3] 28) := KYz2.out.on hal KYz2.out.lt
        have VYz3 : Hid (DiskV wz3 w12.heap.size (.agg #[.int .i64 d4.room, .int .i64 d4.next, .slice xe1 xen1 xec1, .slice xe2 xen2 xec2, .slice xe3 0 xec3]) d4) := VYz2.out.on (hal.mono SZz2.out)
        have SZz3 : Hid (w12.heap.size ≤ wz3.heap.size) := Nat.le_trans SZz2.out hal.size
        have Bz3 : Hid (Below w.heap.size w wz3) := Bz2.out.trans (hal.mono Bz2.out.size)
        have Qz3 := Hid.mkD (cellsC5 KYz3.out)
        have KZz3 : Hid (Blk wz3 gz #[.int .i64 0, .int .i64 0, .slice none 0 0, .slice none 0 0, .slice none 0 0] 28) := by unfold Hid; rw [hwn, hgz]; exact Blk.new wz2 _ _
        have HG : Hid (w12.heap.size ≤ gz) := by rw [hgz]; exact SZz2.out
        have VZz3 : Hid (DiskV wz3 gz (.agg #[.int .i64 d4.room, .int .i64 d4.next, .slice xg1 xgn1 xgc1, .slice xg2 xgn2 xgc2, .slice xg3 xgn3 xgc3]) d4) := by unfold Hid; rw [hgz]; exact VZz2.out.on hal
        go_simp
        rw [← hwn, ← hgz]
        refine hK.out _ _ (fun _ _ => Qz3.out) ?_
        clear hK K
        try simp only [Act.put, zQ1, zQ2, zQ3]
        clear hwn hal hgz VZz2
        clear KYz2 VYz2 SZz2 Bz2 Qz2
        obtain ⟨⟨r0, f0⟩, ⟨r1, f1⟩, ⟨r2, f2⟩, ⟨r3, f3⟩, ⟨r4, f4⟩, y0, y1, y2, y3, y4⟩ := resC5 (x0 := .int .i64 d4.room) (x1 := .int .i64 d4.next) (x2 := .slice xg1 xgn1 xgc1) (x3 := .slice xg2 xgn2 xgc2) (x4 := .slice xg3 xgn3 xgc3) KZz3.out
        refine uNe 10 (fun K hK => ?_)
        go_simp
        refine hK.out _ _ (fun h => by cases h) ?_
        clear hK K
        try simp only [Act.put, zQ1, zQ2, zQ3]
        have hbs : Below gz wz3 (((((wz3.setCell ⟨gz, 0, none⟩ (.int .i64 d4.room)).setCell ⟨gz, 1, none⟩ (.int .i64 d4.next)).setCell ⟨gz, 2, none⟩ (.slice xg1 xgn1 xgc1)).setCell ⟨gz, 3, none⟩ (.slice xg2 xgn2 xgc2)).setCell ⟨gz, 4, none⟩ (.slice xg3 xgn3 xgc3)) := belowC5 (Below.refl _ _) (Nat.le_refl _) _ _ _ _ _
        have NE : w11.heap.size ≠ gz := by have := LT12.out; have := HG.out; omega
        have gzl : gz < wz3.heap.size := KZz3.out.lt
        have KZ17 : Hid (Blk (((((wz3.setCell ⟨gz, 0, none⟩ (.int .i64 d4.room)).setCell ⟨gz, 1, none⟩ (.int .i64 d4.next)).setCell ⟨gz, 2, none⟩ (.slice xg1 xgn1 xgc1)).setCell ⟨gz, 3, none⟩ (.slice xg2 xgn2 xgc2)).setCell ⟨gz, 4, none⟩ (.slice xg3 xgn3 xgc3)) gz #[.int .i64 d4.room, .int .i64 d4.next, .slice xg1 xgn1 xgc1, .slice xg2 xgn2 xgc2, .slice xg3 xgn3 xgc3] 28) := blkC5 KZz3.out
        have KY17 : Hid (Blk (((((wz3.setCell ⟨gz, 0, none⟩ (.int .i64 d4.room)).setCell ⟨gz, 1, none⟩ (.int .i64 d4.next)).setCell ⟨gz, 2, none⟩ (.slice xg1 xgn1 xgc1)).setCell ⟨gz, 3, none⟩ (.slice xg2 xgn2 xgc2)).setCell ⟨gz, 4, none⟩ (.slice xg3 xgn3 xgc3)) w11.heap.size #[.int .i64 d4.room, .int .i64 d4.next, .slice xe1 xen1 xec1, .slice xe2 xen2 xec2, .slice xe3 0 xec3] 28) := otherC5 KYz3.out NE _ _ _ _ _
        have VY17 : Hid (DiskV (((((wz3.setCell ⟨gz, 0, none⟩ (.int .i64 d4.room)).setCell ⟨gz, 1, none⟩ (.int .i64 d4.next)).setCell ⟨gz, 2, none⟩ (.slice xg1 xgn1 xgc1)).setCell ⟨gz, 3, none⟩ (.slice xg2 xgn2 xgc2)).setCell ⟨gz, 4, none⟩ (.slice xg3 xgn3 xgc3)) ((((((wz3.setCell ⟨gz, 0, none⟩ (.int .i64 d4.room)).setCell ⟨gz, 1, none⟩ (.int .i64 d4.next)).setCell ⟨gz, 2, none⟩ (.slice xg1 xgn1 xgc1)).setCell ⟨gz, 3, none⟩ (.slice xg2 xgn2 xgc2)).setCell ⟨gz, 4, none⟩ (.slice xg3 xgn3 xgc3))).heap.size (.agg #[.int .i64 d4.room, .int .i64 d4.next, .slice xe1 xen1 xec1, .slice xe2 xen2 xec2, .slice xe3 0 xec3]) d4) := (VYz3.out.on (hbs.mono HG.out)).up (Nat.le_trans SZz3.out hbs.size)
        have VZ17 : Hid (DiskV (((((wz3.setCell ⟨gz, 0, none⟩ (.int .i64 d4.room)).setCell ⟨gz, 1, none⟩ (.int .i64 d4.next)).setCell ⟨gz, 2, none⟩ (.slice xg1 xgn1 xgc1)).setCell ⟨gz, 3, none⟩ (.slice xg2 xgn2 xgc2)).setCell ⟨gz, 4, none⟩ (.slice xg3 xgn3 xgc3)) ((((((wz3.setCell ⟨gz, 0, none⟩ (.int .i64 d4.room)).setCell ⟨gz, 1, none⟩ (.int .i64 d4.next)).setCell ⟨gz, 2, none⟩ (.slice xg1 xgn1 xgc1)).setCell ⟨gz, 3, none⟩ (.slice xg2 xgn2 xgc2)).setCell ⟨gz, 4, none⟩ (.slice xg3 xgn3 xgc3))).heap.size (.agg #[.int .i64 d4.room, .int .i64 d4.next, .slice xg1 xgn1 xgc1, .slice xg2 xgn2 xgc2, .slice xg3 xgn3 xgc3]) d4) := (VZz3.out.on hbs).up (Nat.le_trans (Nat.le_of_lt gzl) hbs.size)
        have B17 : Hid (Below w.heap.size w (((((wz3.setCell ⟨gz, 0, none⟩ (.int .i64 d4.room)).setCell ⟨gz, 1, none⟩ (.int .i64 d4.next)).setCell ⟨gz, 2, none⟩ (.slice xg1 xgn1 xgc1)).setCell ⟨gz, 3, none⟩ (.slice xg2 xgn2 xgc2)).setCell ⟨gz, 4, none⟩ (.slice xg3 xgn3 xgc3))) := Bz3.out.trans (hbs.mono (by have := HG.out; have := HWW.out; omega))
        clear r0 r1 r2 r3 r4 f0 f1 f2 f3 f4 y0 y1 y2 y3 y4 hbs NE gzl VZz3 KYz3 VYz3 SZz3 Bz3 Qz3 KZz3
        generalize ((((wz3.setCell ⟨gz, 0, none⟩ (.int .i64 d4.room)).setCell ⟨gz, 1, none⟩ (.int .i64 d4.next)).setCell ⟨gz, 2, none⟩ (.slice xg1 xgn1 xgc1)).setCell ⟨gz, 3, none⟩ (.slice xg2 xgn2 xgc2)).setCell ⟨gz, 4, none⟩ (.slice xg3 xgn3 xgc3) = w17 at *
        refine until_done (by kernel_rfl) ?_ _
        obtain ⟨e0, e1, e2, e3, e4⟩ := cellsC5 KY17.out
        go_wp2_with fail
        refine (specOkV d4 (.agg #[.int .i64 d4.room, .int .i64 d4.next, .slice xe1 xen1 xec1, .slice xe2 xen2 xec2, .slice xe3 0 xec3]) w17 w17.heap.size VY17.out HM4.out.1 HM4.out.2.2 (Nat.le_refl _)).mono ?_
        rintro e w18 ⟨rfl, hb⟩
        rw [hx4]
        have KY18h : Hid (Blk w18 w11.heap.size #[.int .i64 d4.room, .int .i64 d4.next, .slice xe1 xen1 xec1, .slice xe2 xen2 xec2, .slice xe3 0 xec3] 28) := KY17.out.on hb KY17.out.lt
        have KZ18 := KZ17.out.on hb KZ17.out.lt
        have VY18 : Hid (DiskV w18 w18.heap.size (.agg #[.int .i64 d4.room, .int .i64 d4.next, .slice xe1 xen1 xec1, .slice xe2 xen2 xec2, .slice xe3 0 xec3]) d4) := (VY17.out.on hb).up hb.size
        have VZ18 : Hid (DiskV w18 w18.heap.size (.agg #[.int .i64 d4.room, .int .i64 d4.next, .slice xg1 xgn1 xgc1, .slice xg2 xgn2 xgc2, .slice xg3 xgn3 xgc3]) d4) := (VZ17.out.on hb).up hb.size
        have B18 : Hid (Below w.heap.size w w18) := B17.out.trans (hb.mono B17.out.size)
        clear e0 e1 e2 e3 e4 hb KY17 KZ17 VY17 VZ17 B17
        obtain ⟨e0, e1, e2, e3, e4⟩ := cellsC5 KY18h.out
        obtain ⟨f0, f1, f2, f3, f4⟩ := cellsC5 KZ18
        clear KZ18
        go_wp2_with fail
        refine (sameDiskV d4 (.agg #[.int .i64 d4.room, .int .i64 d4.next, .slice xe1 xen1 xec1, .slice xe2 xen2 xec2, .slice xe3 0 xec3]) (.agg #[.int .i64 d4.room, .int .i64 d4.next, .slice xg1 xgn1 xgc1, .slice xg2 xgn2 xgc2, .slice xg3 xgn3 xgc3]) w18 w18.heap.size VY18.out VZ18.out (Nat.le_refl _) (by have := HR4.out.sz.n; omega) (by have := HR4.out.sz.l; omega) (by have := HR4.out.sz.m; omega)).mono ?_
        rintro e w19 ⟨rfl, hb⟩
        have B19 : Hid (Below w.heap.size w w19) := B18.out.trans (hb.mono B18.out.size)
        have KY19 := KY18h.out.on hb KY18h.out.lt
        clear e0 e1 e2 e3 e4 f0 f1 f2 f3 f4 hb VY18 VZ18 B18
        obtain ⟨e0, e1, e2, e3, e4⟩ := cellsC5 KY19
        go_wp2_with fail
        go_ret
        exact ⟨rfl, B19.out⟩
       ·obtain ⟨gz, hgz⟩ : ∃ gz, gz = wz1.heap.size := ⟨_, rfl⟩
        obtain ⟨wz4, hwn⟩ : ∃ wz4, wz4 = wz1.alloc (.cells #[.int .i64 0, .int .i64 0, .slice none 0 0, .slice none 0 0, .slice none 0 0] 28) := ⟨_, rfl⟩
        have hal : Below wz1.heap.size wz1 wz4 := by rw [hwn]; exact (Below.refl _ _).alloc (Nat.le_refl _) _
        have KYz4 : Hid (Blk wz4 w11.heap.size #[.int .i64 d4.room, .int .i64 d4.next, .slice xe1 xen1 xec1, .slice xe2 xen2 xec2, .slice xe3 0 xec3] 28) := KYz1.out.on hal KYz1.out.lt
        have VYz4 : Hid (DiskV wz4 w12.heap.size (.agg #[.int .i64 d4.room, .int .i64 d4.next, .slice xe1 xen1 xec1, .slice xe2 xen2 xec2, .slice xe3 0 xec3]) d4) := VYz1.out.on (hal.mono SZz1.out)
        have SZz4 : Hid (w12.heap.size ≤ wz4.heap.size) := Nat.le_trans SZz1.out hal.size
        have Bz4 : Hid (Below w.heap.size w wz4) := Bz1.out.trans (hal.mono Bz1.out.size)
        have Qz4 := Hid.mkD (cellsC5 KYz4.out)
        have NUz4 : Hid (NumsV wz4 wz4.heap.size (.slice (some ⟨gu, 0, none⟩) 2 2) [m1, m2]) := (NUz1.out.on hal).mono hal.size
        have KZz4 : Hid (Blk wz4 gz #[.int .i64 0, .int .i64 0, .slice none 0 0, .slice none 0 0, .slice none 0 0] 28) := by unfold Hid; rw [hwn, hgz]; exact Blk.new wz1 _ _
        have HG : Hid (w12.heap.size ≤ gz) := by rw [hgz]; exact SZz1.out
        go_simp
        rw [← hwn, ← hgz]
        refine hK.out _ _ (fun _ _ => Qz4.out) ?_
        clear hK K
        try simp only [Act.put, zQ1, zQ2, zQ3]
        clear hwn hal hgz
        clear KYz1 VYz1 SZz1 Bz1 Qz1 NUz1
        refine uNe 8 (fun K hK => ?_)
        go_simp
        refine (implCrashV d4 (.agg #[.int .i64 d4.room, .int .i64 d4.next, .slice xe1 xen1 xec1, .slice xe2 xen2 xec2, .slice xe3 0 xec3]) k2 [m1, m2] (.slice (some ⟨gu, 0, none⟩) 2 2) wz4 wz4.heap.size (VYz4.out.up SZz4.out) NUz4.out (by simp) HM4.out.1 HM4.out.2.1 HM4.out.2.2 (Nat.le_refl _)).mono ?_
        rintro e wz5 ⟨v, rfl, hO, hb⟩
        rw [crashR_yes hx4, HTW.out] at hO
        have KYz5 : Hid (Blk wz5 w11.heap.size #[.int .i64 d4.room, .int .i64 d4.next, .slice xe1 xen1 xec1, .slice xe2 xen2 xec2, .slice xe3 0 xec3] 28) := KYz4.out.on hb KYz4.out.lt
        have VYz5 : Hid (DiskV wz5 w12.heap.size (.agg #[.int .i64 d4.room, .int .i64 d4.next, .slice xe1 xen1 xec1, .slice xe2 xen2 xec2, .slice xe3 0 xec3]) d4) := VYz4.out.on (hb.mono SZz4.out)
        have SZz5 : Hid (w12.heap.size ≤ wz5.heap.size) := Nat.le_trans SZz4.out hb.size
        have Bz5 : Hid (Below w.heap.size w wz5) := Bz4.out.trans (hb.mono Bz4.out.size)
        have Qz5 := Hid.mkD (cellsC5 KYz5.out)
        have KZz5 : Hid (Blk wz5 gz #[.int .i64 0, .int .i64 0, .slice none 0 0, .slice none 0 0, .slice none 0 0] 28) := KZz4.out.on hb KZz4.out.lt
        refine hK.out _ _ (fun _ _ => Qz5.out) ?_
        clear hK K
        try simp only [Act.put, zQ1, zQ2, zQ3]
        have HGC : Hid (gz < wz4.heap.size) := KZz4.out.lt
        obtain ⟨v1, v2, v3, rfl, h1, h2, h3⟩ := hO
        obtain ⟨xg1, xgn1, xgc1, rfl⟩ := h1.shape
        obtain ⟨xg2, xgn2, xgc2, rfl⟩ := h2.shape
        obtain ⟨xg3, xgn3, xgc3, rfl⟩ := h3.shape
        have OZ : Hid (DiskO wz5 wz4.heap.size (.agg #[.int .i64 d4.room, .int .i64 d4.next, .slice xg1 xgn1 xgc1, .slice xg2 xgn2 xgc2, .slice xg3 xgn3 xgc3]) d4) := ⟨_, _, _, rfl, h1, h2, h3⟩
        clear hb h1 h2 h3
        clear KYz4 VYz4 SZz4 Bz4 Qz4 KZz4 NUz4
        obtain ⟨⟨r0, f0⟩, ⟨r1, f1⟩, ⟨r2, f2⟩, ⟨r3, f3⟩, ⟨r4, f4⟩, y0, y1, y2, y3, y4⟩ := resC5 (x0 := .int .i64 d4.room) (x1 := .int .i64 d4.next) (x2 := .slice xg1 xgn1 xgc1) (x3 := .slice xg2 xgn2 xgc2) (x4 := .slice xg3 xgn3 xgc3) KZz5.out
        refine uNe 10 (fun K hK => ?_)
        go_simp
        refine hK.out _ _ (fun h => by cases h) ?_
        clear hK K
        try simp only [Act.put, zQ1, zQ2, zQ3]
        have hbs : Below gz wz5 (((((wz5.setCell ⟨gz, 0, none⟩ (.int .i64 d4.room)).setCell ⟨gz, 1, none⟩ (.int .i64 d4.next)).setCell ⟨gz, 2, none⟩ (.slice xg1 xgn1 xgc1)).setCell ⟨gz, 3, none⟩ (.slice xg2 xgn2 xgc2)).setCell ⟨gz, 4, none⟩ (.slice xg3 xgn3 xgc3)) := belowC5 (Below.refl _ _) (Nat.le_refl _) _ _ _ _ _
        have NE : w11.heap.size ≠ gz := by have := LT12.out; have := HG.out; omega
        have gzl : gz < wz5.heap.size := KZz5.out.lt
        have KZ17 : Hid (Blk (((((wz5.setCell ⟨gz, 0, none⟩ (.int .i64 d4.room)).setCell ⟨gz, 1, none⟩ (.int .i64 d4.next)).setCell ⟨gz, 2, none⟩ (.slice xg1 xgn1 xgc1)).setCell ⟨gz, 3, none⟩ (.slice xg2 xgn2 xgc2)).setCell ⟨gz, 4, none⟩ (.slice xg3 xgn3 xgc3)) gz #[.int .i64 d4.room, .int .i64 d4.next, .slice xg1 xgn1 xgc1, .slice xg2 xgn2 xgc2, .slice xg3 xgn3 xgc3] 28) := blkC5 KZz5.out
        have KY17 : Hid (Blk (((((wz5.setCell ⟨gz, 0, none⟩ (.int .i64 d4.room)).setCell ⟨gz, 1, none⟩ (.int .i64 d4.next)).setCell ⟨gz, 2, none⟩ (.slice xg1 xgn1 xgc1)).setCell ⟨gz, 3, none⟩ (.slice xg2 xgn2 xgc2)).setCell ⟨gz, 4, none⟩ (.slice xg3 xgn3 xgc3)) w11.heap.size #[.int .i64 d4.room, .int .i64 d4.next, .slice xe1 xen1 xec1, .slice xe2 xen2 xec2, .slice xe3 0 xec3] 28) := otherC5 KYz5.out NE _ _ _ _ _
        have VY17 : Hid (DiskV (((((wz5.setCell ⟨gz, 0, none⟩ (.int .i64 d4.room)).setCell ⟨gz, 1, none⟩ (.int .i64 d4.next)).setCell ⟨gz, 2, none⟩ (.slice xg1 xgn1 xgc1)).setCell ⟨gz, 3, none⟩ (.slice xg2 xgn2 xgc2)).setCell ⟨gz, 4, none⟩ (.slice xg3 xgn3 xgc3)) ((((((wz5.setCell ⟨gz, 0, none⟩ (.int .i64 d4.room)).setCell ⟨gz, 1, none⟩ (.int .i64 d4.next)).setCell ⟨gz, 2, none⟩ (.slice xg1 xgn1 xgc1)).setCell ⟨gz, 3, none⟩ (.slice xg2 xgn2 xgc2)).setCell ⟨gz, 4, none⟩ (.slice xg3 xgn3 xgc3))).heap.size (.agg #[.int .i64 d4.room, .int .i64 d4.next, .slice xe1 xen1 xec1, .slice xe2 xen2 xec2, .slice xe3 0 xec3]) d4) := (VYz5.out.on (hbs.mono HG.out)).up (Nat.le_trans SZz5.out hbs.size)
        have VZ17 : Hid (DiskV (((((wz5.setCell ⟨gz, 0, none⟩ (.int .i64 d4.room)).setCell ⟨gz, 1, none⟩ (.int .i64 d4.next)).setCell ⟨gz, 2, none⟩ (.slice xg1 xgn1 xgc1)).setCell ⟨gz, 3, none⟩ (.slice xg2 xgn2 xgc2)).setCell ⟨gz, 4, none⟩ (.slice xg3 xgn3 xgc3)) ((((((wz5.setCell ⟨gz, 0, none⟩ (.int .i64 d4.room)).setCell ⟨gz, 1, none⟩ (.int .i64 d4.next)).setCell ⟨gz, 2, none⟩ (.slice xg1 xgn1 xgc1)).setCell ⟨gz, 3, none⟩ (.slice xg2 xgn2 xgc2)).setCell ⟨gz, 4, none⟩ (.slice xg3 xgn3 xgc3))).heap.size (.agg #[.int .i64 d4.room, .int .i64 d4.next, .slice xg1 xgn1 xgc1, .slice xg2 xgn2 xgc2, .slice xg3 xgn3 xgc3]) d4) := (OZ.out.set5 HGC.out _ _ _ _ _).look
        have B17 : Hid (Below w.heap.size w (((((wz5.setCell ⟨gz, 0, none⟩ (.int .i64 d4.room)).setCell ⟨gz, 1, none⟩ (.int .i64 d4.next)).setCell ⟨gz, 2, none⟩ (.slice xg1 xgn1 xgc1)).setCell ⟨gz, 3, none⟩ (.slice xg2 xgn2 xgc2)).setCell ⟨gz, 4, none⟩ (.slice xg3 xgn3 xgc3))) := Bz5.out.trans (hbs.mono (by have := HG.out; have := HWW.out; omega))
        clear r0 r1 r2 r3 r4 f0 f1 f2 f3 f4 y0 y1 y2 y3 y4 hbs NE gzl OZ HGC KYz5 VYz5 SZz5 Bz5 Qz5 KZz5
        generalize ((((wz5.setCell ⟨gz, 0, none⟩ (.int .i64 d4.room)).setCell ⟨gz, 1, none⟩ (.int .i64 d4.next)).setCell ⟨gz, 2, none⟩ (.slice xg1 xgn1 xgc1)).setCell ⟨gz, 3, none⟩ (.slice xg2 xgn2 xgc2)).setCell ⟨gz, 4, none⟩ (.slice xg3 xgn3 xgc3) = w17 at *
        refine until_done (by kernel_rfl) ?_ _
        obtain ⟨e0, e1, e2, e3, e4⟩ := cellsC5 KY17.out
        go_wp2_with fail
        refine (specOkV d4 (.agg #[.int .i64 d4.room, .int .i64 d4.next, .slice xe1 xen1 xec1, .slice xe2 xen2 xec2, .slice xe3 0 xec3]) w17 w17.heap.size VY17.out HM4.out.1 HM4.out.2.2 (Nat.le_refl _)).mono ?_
        rintro e w18 ⟨rfl, hb⟩
        rw [hx4]
        have KY18h : Hid (Blk w18 w11.heap.size #[.int .i64 d4.room, .int .i64 d4.next, .slice xe1 xen1 xec1, .slice xe2 xen2 xec2, .slice xe3 0 xec3] 28) := KY17.out.on hb KY17.out.lt
        have KZ18 := KZ17.out.on hb KZ17.out.lt
        have VY18 : Hid (DiskV w18 w18.heap.size (.agg #[.int .i64 d4.room, .int .i64 d4.next, .slice xe1 xen1 xec1, .slice xe2 xen2 xec2, .slice xe3 0 xec3]) d4) := (VY17.out.on hb).up hb.size
        have VZ18 : Hid (DiskV w18 w18.heap.size (.agg #[.int .i64 d4.room, .int .i64 d4.next, .slice xg1 xgn1 xgc1, .slice xg2 xgn2 xgc2, .slice xg3 xgn3 xgc3]) d4) := (VZ17.out.on hb).up hb.size
        have B18 : Hid (Below w.heap.size w w18) := B17.out.trans (hb.mono B17.out.size)
        clear e0 e1 e2 e3 e4 hb KY17 KZ17 VY17 VZ17 B17
        obtain ⟨e0, e1, e2, e3, e4⟩ := cellsC5 KY18h.out
        obtain ⟨f0, f1, f2, f3, f4⟩ := cellsC5 KZ18
        clear KZ18
        go_wp2_with fail
        refine (sameDiskV d4 (.agg #[.int .i64 d4.room, .int .i64 d4.next, .slice xe1 xen1 xec1, .slice xe2 xen2 xec2, .slice xe3 0 xec3]) (.agg #[.int .i64 d4.room, .int .i64 d4.next, .slice xg1 xgn1 xgc1, .slice xg2 xgn2 xgc2, .slice xg3 xgn3 xgc3]) w18 w18.heap.size VY18.out VZ18.out (Nat.le_refl _) (by have := HR4.out.sz.n; omega) (by have := HR4.out.sz.l; omega) (by have := HR4.out.sz.m; omega)).mono ?_
        rintro e w19 ⟨rfl, hb⟩
        have B19 : Hid (Below w.heap.size w w19) := B18.out.trans (hb.mono B18.out.size)
        have KY19 := KY18h.out.on hb KY18h.out.lt
        clear e0 e1 e2 e3 e4 f0 f1 f2 f3 f4 hb VY18 VZ18 B18
        obtain ⟨e0, e1, e2, e3, e4⟩ := cellsC5 KY19
        go_wp2_with fail
        go_ret
        exact ⟨rfl, B19.out⟩
      ·obtain ⟨gz, hgz⟩ : ∃ gz, gz = wa.heap.size := ⟨_, rfl⟩
       obtain ⟨wz6, hwn⟩ : ∃ wz6, wz6 = wa.alloc (.cells #[.int .i64 0, .int .i64 0, .slice none 0 0, .slice none 0 0, .slice none 0 0] 28) := ⟨_, rfl⟩
       have hal : Below wa.heap.size wa wz6 := by rw [hwn]; exact (Below.refl _ _).alloc (Nat.le_refl _) _
       have KYz6 : Hid (Blk wz6 w11.heap.size #[.int .i64 d4.room, .int .i64 d4.next, .slice xe1 xen1 xec1, .slice xe2 xen2 xec2, .slice xe3 0 xec3] 28) := KYa.out.on hal KYa.out.lt
       have VYz6 : Hid (DiskV wz6 w12.heap.size (.agg #[.int .i64 d4.room, .int .i64 d4.next, .slice xe1 xen1 xec1, .slice xe2 xen2 xec2, .slice xe3 0 xec3]) d4) := VYa.out.on (hal.mono SZa.out)
       have SZz6 : Hid (w12.heap.size ≤ wz6.heap.size) := Nat.le_trans SZa.out hal.size
       have Bz6 : Hid (Below w.heap.size w wz6) := Ba.out.trans (hal.mono Ba.out.size)
       have Qz6 := Hid.mkD (cellsC5 KYz6.out)
       have KZz6 : Hid (Blk wz6 gz #[.int .i64 0, .int .i64 0, .slice none 0 0, .slice none 0 0, .slice none 0 0] 28) := by unfold Hid; rw [hwn, hgz]; exact Blk.new wa _ _
       have HG : Hid (w12.heap.size ≤ gz) := by rw [hgz]; exact SZa.out
       go_simp
       rw [← hwn, ← hgz]
       refine hK.out _ _ (fun _ _ => Qz6.out) ?_
       clear hK K
       try simp only [Act.put, zQ1, zQ2, zQ3]
       clear hwn hal hgz
       clear KYa VYa SZa Ba Qa
       refine uNe 7 (fun K hK => ?_)
       obtain ⟨gu, hgu⟩ : ∃ gu, gu = wz6.heap.size := ⟨_, rfl⟩
       obtain ⟨wz7, hwn⟩ : ∃ wz7, wz7 = wz6.alloc (.cells #[.int .i64 m1, .int .i64 m2] 3) := ⟨_, rfl⟩
       have hal : Below wz6.heap.size wz6 wz7 := by rw [hwn]; exact (Below.refl _ _).alloc (Nat.le_refl _) _
       have NUz7 : Hid (NumsV wz7 wz7.heap.size (.slice (some ⟨gu, 0, none⟩) 2 2) [m1, m2]) := by unfold Hid; rw [hwn, hgu]; exact numsTwo wz6 m1 m2
       have KYz7 : Hid (Blk wz7 w11.heap.size #[.int .i64 d4.room, .int .i64 d4.next, .slice xe1 xen1 xec1, .slice xe2 xen2 xec2, .slice xe3 0 xec3] 28) := KYz6.out.on hal KYz6.out.lt
       have VYz7 : Hid (DiskV wz7 w12.heap.size (.agg #[.int .i64 d4.room, .int .i64 d4.next, .slice xe1 xen1 xec1, .slice xe2 xen2 xec2, .slice xe3 0 xec3]) d4) := VYz6.out.on (hal.mono SZz6.out)
       have SZz7 : Hid (w12.heap.size ≤ wz7.heap.size) := Nat.le_trans SZz6.out hal.size
       have Bz7 : Hid (Below w.heap.size w wz7) := Bz6.out.trans (hal.mono Bz6.out.size)
       have Qz7 := Hid.mkD (cellsC5 KYz7.out)
       have KZz7 : Hid (Blk wz7 gz #[.int .i64 0, .int .i64 0, .slice none 0 0, .slice none 0 0, .slice none 0 0] 28) := KZz6.out.on hal KZz6.out.lt
       go_simp
       rw [← hwn, ← hgu]
       refine hK.out _ _ (fun _ _ => Qz7.out) ?_
       clear hK K
       try simp only [Act.put, zQ1, zQ2, zQ3]
       clear hwn hal hgu
       clear KYz6 VYz6 SZz6 Bz6 Qz6 KZz6
       refine uNe 8 (fun K hK => ?_)
       go_simp
       refine (implCrashV d4 (.agg #[.int .i64 d4.room, .int .i64 d4.next, .slice xe1 xen1 xec1, .slice xe2 xen2 xec2, .slice xe3 0 xec3]) k2 [m1, m2] (.slice (some ⟨gu, 0, none⟩) 2 2) wz7 wz7.heap.size (VYz7.out.up SZz7.out) NUz7.out (by simp) HM4.out.1 HM4.out.2.1 HM4.out.2.2 (Nat.le_refl _)).mono ?_
       rintro e wz8 ⟨v, rfl, hO, hb⟩
       rw [crashR_yes hx4, HTW.out] at hO
       have KYz8 : Hid (Blk wz8 w11.heap.size #[.int .i64 d4.room, .int .i64 d4.next, .slice xe1 xen1 xec1, .slice xe2 xen2 xec2, .slice xe3 0 xec3] 28) := KYz7.out.on hb KYz7.out.lt
       have VYz8 : Hid (DiskV wz8 w12.heap.size (.agg #[.int .i64 d4.room, .int .i64 d4.next, .slice xe1 xen1 xec1, .slice xe2 xen2 xec2, .slice xe3 0 xec3]) d4) := VYz7.out.on (hb.mono SZz7.out)
       have SZz8 : Hid (w12.heap.size ≤ wz8.heap.size) := Nat.le_trans SZz7.out hb.size
       have Bz8 : Hid (Below w.heap.size w wz8) := Bz7.out.trans (hb.mono Bz7.out.size)
       have Qz8 := Hid.mkD (cellsC5 KYz8.out)
       have KZz8 : Hid (Blk wz8 gz #[.int .i64 0, .int .i64 0, .slice none 0 0, .slice none 0 0, .slice none 0 0] 28) := KZz7.out.on hb KZz7.out.lt
       refine hK.out _ _ (fun _ _ => Qz8.out) ?_
       clear hK K
       try simp only [Act.put, zQ1, zQ2, zQ3]
       have HGC : Hid (gz < wz7.heap.size) := KZz7.out.lt
       obtain ⟨v1, v2, v3, rfl, h1, h2, h3⟩ := hO
       obtain ⟨xg1, xgn1, xgc1, rfl⟩ := h1.shape
       obtain ⟨xg2, xgn2, xgc2, rfl⟩ := h2.shape
       obtain ⟨xg3, xgn3, xgc3, rfl⟩ := h3.shape
       have OZ : Hid (DiskO wz8 wz7.heap.size (.agg #[.int .i64 d4.room, .int .i64 d4.next, .slice xg1 xgn1 xgc1, .slice xg2 xgn2 xgc2, .slice xg3 xgn3 xgc3]) d4) := ⟨_, _, _, rfl, h1, h2, h3⟩
       clear hb h1 h2 h3
       clear KYz7 VYz7 SZz7 Bz7 Qz7 KZz7 NUz7
       obtain ⟨⟨r0, f0⟩, ⟨r1, f1⟩, ⟨r2, f2⟩, ⟨r3, f3⟩, ⟨r4, f4⟩, y0, y1, y2, y3, y4⟩ := resC5 (x0 := .int .i64 d4.room) (x1 := .int .i64 d4.next) (x2 := .slice xg1 xgn1 xgc1) (x3 := .slice xg2 xgn2 xgc2) (x4 := .slice xg3 xgn3 xgc3) KZz8.out
       refine uNe 10 (fun K hK => ?_)
       go_simp
       refine hK.out _ _ (fun h => by cases h) ?_
       clear hK K
       try simp only [Act.put, zQ1, zQ2, zQ3]
       have hbs : Below gz wz8 (((((wz8.setCell ⟨gz, 0, none⟩ (.int .i64 d4.room)).setCell ⟨gz, 1, none⟩ (.int .i64 d4.next)).setCell ⟨gz, 2, none⟩ (.slice xg1 xgn1 xgc1)).setCell ⟨gz, 3, none⟩ (.slice xg2 xgn2 xgc2)).setCell ⟨gz, 4, none⟩ (.slice xg3 xgn3 xgc3)) := belowC5 (Below.refl _ _) (Nat.le_refl _) _ _ _ _ _
       have NE : w11.heap.size ≠ gz := by have := LT12.out; have := HG.out; omega
       have gzl : gz < wz8.heap.size := KZz8.out.lt
       have KZ17 : Hid (Blk (((((wz8.setCell ⟨gz, 0, none⟩ (.int .i64 d4.room)).setCell ⟨gz, 1, none⟩ (.int .i64 d4.next)).setCell ⟨gz, 2, none⟩ (.slice xg1 xgn1 xgc1)).setCell ⟨gz, 3, none⟩ (.slice xg2 xgn2 xgc2)).setCell ⟨gz, 4, none⟩ (.slice xg3 xgn3 xgc3)) gz #[.int .i64 d4.room, .int .i64 d4.next, .slice xg1 xgn1 xgc1, .slice xg2 xgn2 xgc2, .slice xg3 xgn3 xgc3] 28) := blkC5 KZz8.out
       have KY17 : Hid (Blk (((((wz8.setCell ⟨gz, 0, none⟩ (.int .i64 d4.room)).setCell ⟨gz, 1, none⟩ (.int .i64 d4.next)).setCell ⟨gz, 2, none⟩ (.slice xg1 xgn1 xgc1)).setCell ⟨gz, 3, none⟩ (.slice xg2 xgn2 xgc2)).setCell ⟨gz, 4, none⟩ (.slice xg3 xgn3 xgc3)) w11.heap.size #[.int .i64 d4.room, .int .i64 d4.next, .slice xe1 xen1 xec1, .slice xe2 xen2 xec2, .slice xe3 0 xec3] 28) := otherC5 KYz8.out NE _ _ _ _ _
       have VY17 : Hid (DiskV (((((wz8.setCell ⟨gz, 0, none⟩ (.int .i64 d4.room)).setCell ⟨gz, 1, none⟩ (.int .i64 d4.next)).setCell ⟨gz, 2, none⟩ (.slice xg1 xgn1 xgc1)).setCell ⟨gz, 3, none⟩ (.slice xg2 xgn2 xgc2)).setCell ⟨gz, 4, none⟩ (.slice xg3 xgn3 xgc3)) ((((((wz8.setCell ⟨gz, 0, none⟩ (.int .i64 d4.room)).setCell ⟨gz, 1, none⟩ (.int .i64 d4.next)).setCell ⟨gz, 2, none⟩ (.slice xg1 xgn1 xgc1)).setCell ⟨gz, 3, none⟩ (.slice xg2 xgn2 xgc2)).setCell ⟨gz, 4, none⟩ (.slice xg3 xgn3 xgc3))).heap.size (.agg #[.int .i64 d4.room, .int .i64 d4.next, .slice xe1 xen1 xec1, .slice xe2 xen2 xec2, .slice xe3 0 xec3]) d4) := (VYz8.out.on (hbs.mono HG.out)).up (Nat.le_trans SZz8.out hbs.size)
       have VZ17 : Hid (DiskV (((((wz8.setCell ⟨gz, 0, none⟩ (.int .i64 d4.room)).setCell ⟨gz, 1, none⟩ (.int .i64 d4.next)).setCell ⟨gz, 2, none⟩ (.slice xg1 xgn1 xgc1)).setCell ⟨gz, 3, none⟩ (.slice xg2 xgn2 xgc2)).setCell ⟨gz, 4, none⟩ (.slice xg3 xgn3 xgc3)) ((((((wz8.setCell ⟨gz, 0, none⟩ (.int .i64 d4.room)).setCell ⟨gz, 1, none⟩ (.int .i64 d4.next)).setCell ⟨gz, 2, none⟩ (.slice xg1 xgn1 xgc1)).setCell ⟨gz, 3, none⟩ (.slice xg2 xgn2 xgc2)).setCell ⟨gz, 4, none⟩ (.slice xg3 xgn3 xgc3))).heap.size (.agg #[.int .i64 d4.room, .int .i64 d4.next, .slice xg1 xgn1 xgc1, .slice xg2 xgn2 xgc2, .slice xg3 xgn3 xgc3]) d4) := (OZ.out.set5 HGC.out _ _ _ _ _).look
       have B17 : Hid (Below w.heap.size w (((((wz8.setCell ⟨gz, 0, none⟩ (.int .i64 d4.room)).setCell ⟨gz, 1, none⟩ (.int .i64 d4.next)).setCell ⟨gz, 2, none⟩ (.slice xg1 xgn1 xgc1)).setCell ⟨gz, 3, none⟩ (.slice xg2 xgn2 xgc2)).setCell ⟨gz, 4, none⟩ (.slice xg3 xgn3 xgc3))) := Bz8.out.trans (hbs.mono (by have := HG.out; have := HWW.out; omega))
       clear r0 r1 r2 r3 r4 f0 f1 f2 f3 f4 y0 y1 y2 y3 y4 hbs NE gzl OZ HGC KYz8 VYz8 SZz8 Bz8 Qz8 KZz8
       generalize ((((wz8.setCell ⟨gz, 0, none⟩ (.int .i64 d4.room)).setCell ⟨gz, 1, none⟩ (.int .i64 d4.next)).setCell ⟨gz, 2, none⟩ (.slice xg1 xgn1 xgc1)).setCell ⟨gz, 3, none⟩ (.slice xg2 xgn2 xgc2)).setCell ⟨gz, 4, none⟩ (.slice xg3 xgn3 xgc3) = w17 at *
       refine until_done (by kernel_rfl) ?_ _
       obtain ⟨e0, e1, e2, e3, e4⟩ := cellsC5 KY17.out
       go_wp2_with fail
       refine (specOkV d4 (.agg #[.int .i64 d4.room, .int .i64 d4.next, .slice xe1 xen1 xec1, .slice xe2 xen2 xec2, .slice xe3 0 xec3]) w17 w17.heap.size VY17.out HM4.out.1 HM4.out.2.2 (Nat.le_refl _)).mono ?_
       rintro e w18 ⟨rfl, hb⟩
       rw [hx4]
       have KY18h : Hid (Blk w18 w11.heap.size #[.int .i64 d4.room, .int .i64 d4.next, .slice xe1 xen1 xec1, .slice xe2 xen2 xec2, .slice xe3 0 xec3] 28) := KY17.out.on hb KY17.out.lt
       have KZ18 := KZ17.out.on hb KZ17.out.lt
       have VY18 : Hid (DiskV w18 w18.heap.size (.agg #[.int .i64 d4.room, .int .i64 d4.next, .slice xe1 xen1 xec1, .slice xe2 xen2 xec2, .slice xe3 0 xec3]) d4) := (VY17.out.on hb).up hb.size
       have VZ18 : Hid (DiskV w18 w18.heap.size (.agg #[.int .i64 d4.room, .int .i64 d4.next, .slice xg1 xgn1 xgc1, .slice xg2 xgn2 xgc2, .slice xg3 xgn3 xgc3]) d4) := (VZ17.out.on hb).up hb.size
       have B18 : Hid (Below w.heap.size w w18) := B17.out.trans (hb.mono B17.out.size)
       clear e0 e1 e2 e3 e4 hb KY17 KZ17 VY17 VZ17 B17
       obtain ⟨e0, e1, e2, e3, e4⟩ := cellsC5 KY18h.out
       obtain ⟨f0, f1, f2, f3, f4⟩ := cellsC5 KZ18
       clear KZ18
       go_wp2_with fail
       refine (sameDiskV d4 (.agg #[.int .i64 d4.room, .int .i64 d4.next, .slice xe1 xen1 xec1, .slice xe2 xen2 xec2, .slice xe3 0 xec3]) (.agg #[.int .i64 d4.room, .int .i64 d4.next, .slice xg1 xgn1 xgc1, .slice xg2 xgn2 xgc2, .slice xg3 xgn3 xgc3]) w18 w18.heap.size VY18.out VZ18.out (Nat.le_refl _) (by have := HR4.out.sz.n; omega) (by have := HR4.out.sz.l; omega) (by have := HR4.out.sz.m; omega)).mono ?_
       rintro e w19 ⟨rfl, hb⟩
       have B19 : Hid (Below w.heap.size w w19) := B18.out.trans (hb.mono B18.out.size)
       have KY19 := KY18h.out.on hb KY18h.out.lt
       clear e0 e1 e2 e3 e4 f0 f1 f2 f3 f4 hb VY18 VZ18 B18
       obtain ⟨e0, e1, e2, e3, e4⟩ := cellsC5 KY19
       go_wp2_with fail
       go_ret
       exact ⟨rfl, B19.out⟩
     ·obtain ⟨gz, hgz⟩ : ∃ gz, gz = wa.heap.size := ⟨_, rfl⟩
      obtain ⟨wz9, hwn⟩ : ∃ wz9, wz9 = wa.alloc (.cells #[.int .i64 0, .int .i64 0, .slice none 0 0, .slice none 0 0, .slice none 0 0] 28) := ⟨_, rfl⟩
      have hal : Below wa.heap.size wa wz9 := by rw [hwn]; exact (Below.refl _ _).alloc (Nat.le_refl _) _
      have KYz9 : Hid (Blk wz9 w11.heap.size #[.int .i64 d4.room, .int .i64 d4.next, .slice xe1 xen1 xec1, .slice xe2 xen2 xec2, .slice xe3 0 xec3] 28) := KYa.out.on hal KYa.out.lt
      have VYz9 : Hid (DiskV wz9 w12.heap.size (.agg #[.int .i64 d4.room, .int .i64 d4.next, .slice xe1 xen1 xec1, .slice xe2 xen2 xec2, .slice xe3 0 xec3]) d4) := VYa.out.on (hal.mono SZa.out)
      have SZz9 : Hid (w12.heap.size ≤ wz9.heap.size) := Nat.le_trans SZa.out hal.size
      have Bz9 : Hid (Below w.heap.size w wz9) := Ba.out.trans (hal.mono Ba.out.size)
      have Qz9 := Hid.mkD (cellsC5 KYz9.out)
      have KZz9 : Hid (Blk wz9 gz #[.int .i64 0, .int .i64 0, .slice none 0 0, .slice none 0 0, .slice none 0 0] 28) := by unfold Hid; rw [hwn, hgz]; exact Blk.new wa _ _
      have HG : Hid (w12.heap.size ≤ gz) := by rw [hgz]; exact SZa.out
      go_simp
      rw [← hwn, ← hgz]
      refine hK.out _ _ (fun _ _ => Qz9.out) ?_
      clear hK K
      try simp only [Act.put, zQ1, zQ2, zQ3]
      clear hwn hal hgz
      clear KYa VYa SZa Ba Qa
      refine uNe 6 (fun K hK => ?_)
      go_simp
      refine (at_any wz9 ao len cap cs 3 HL.out (by omega) (HC.out.on Bz9.out)).mono ?_
      rintro e w' ⟨rfl, rfl⟩
      refine hK.out _ _ (fun _ h => h) ?_
      clear hK K
      try simp only [Act.put, zQ1, zQ2, zQ3]
      generalize hk9 : ((atV len cs 3 : Nat) : Int) = m2 at *
      clear hk9
      refine uNe 7 (fun K hK => ?_)
      obtain ⟨gu, hgu⟩ : ∃ gu, gu = wz9.heap.size := ⟨_, rfl⟩
      obtain ⟨wz10, hwn⟩ : ∃ wz10, wz10 = wz9.alloc (.cells #[.int .i64 m1, .int .i64 m2] 3) := ⟨_, rfl⟩
      have hal : Below wz9.heap.size wz9 wz10 := by rw [hwn]; exact (Below.refl _ _).alloc (Nat.le_refl _) _
      have NUz10 : Hid (NumsV wz10 wz10.heap.size (.slice (some ⟨gu, 0, none⟩) 2 2) [m1, m2]) := by unfold Hid; rw [hwn, hgu]; exact numsTwo wz9 m1 m2
      have KYz10 : Hid (Blk wz10 w11.heap.size #[.int .i64 d4.room, .int .i64 d4.next, .slice xe1 xen1 xec1, .slice xe2 xen2 xec2, .slice xe3 0 xec3] 28) := KYz9.out.on hal KYz9.out.lt
      have VYz10 : Hid (DiskV wz10 w12.heap.size (.agg #[.int .i64 d4.room, .int .i64 d4.next, .slice xe1 xen1 xec1, .slice xe2 xen2 xec2, .slice xe3 0 xec3]) d4) := VYz9.out.on (hal.mono SZz9.out)
      have SZz10 : Hid (w12.heap.size ≤ wz10.heap.size) := Nat.le_trans SZz9.out hal.size
      have Bz10 : Hid (Below w.heap.size w wz10) := Bz9.out.trans (hal.mono Bz9.out.size)
      have Qz10 := Hid.mkD (cellsC5 KYz10.out)
      have KZz10 : Hid (Blk wz10 gz #[.int .i64 0, .int .i64 0, .slice none 0 0, .slice none 0 0, .slice none 0 0] 28) := KZz9.out.on hal KZz9.out.lt
      go_simp
      rw [← hwn, ← hgu]
      refine hK.out _ _ (fun _ _ => Qz10.out) ?_
      clear hK K
      try simp only [Act.put, zQ1, zQ2, zQ3]
      clear hwn hal hgu
      clear KYz9 VYz9 SZz9 Bz9 Qz9 KZz9
      refine uNe 8 (fun K hK => ?_)
      go_simp
      refine (implCrashV d4 (.agg #[.int .i64 d4.room, .int .i64 d4.next, .slice xe1 xen1 xec1, .slice xe2 xen2 xec2, .slice xe3 0 xec3]) k2 [m1, m2] (.slice (some ⟨gu, 0, none⟩) 2 2) wz10 wz10.heap.size (VYz10.out.up SZz10.out) NUz10.out (by simp) HM4.out.1 HM4.out.2.1 HM4.out.2.2 (Nat.le_refl _)).mono ?_
      rintro e wz11 ⟨v, rfl, hO, hb⟩
      rw [crashR_yes hx4, HTW.out] at hO
      have KYz11 : Hid (Blk wz11 w11.heap.size #[.int .i64 d4.room, .int .i64 d4.next, .slice xe1 xen1 xec1, .slice xe2 xen2 xec2, .slice xe3 0 xec3] 28) := KYz10.out.on hb KYz10.out.lt
      have VYz11 : Hid (DiskV wz11 w12.heap.size (.agg #[.int .i64 d4.room, .int .i64 d4.next, .slice xe1 xen1 xec1, .slice xe2 xen2 xec2, .slice xe3 0 xec3]) d4) := VYz10.out.on (hb.mono SZz10.out)
      have SZz11 : Hid (w12.heap.size ≤ wz11.heap.size) := Nat.le_trans SZz10.out hb.size
      have Bz11 : Hid (Below w.heap.size w wz11) := Bz10.out.trans (hb.mono Bz10.out.size)
      have Qz11 := Hid.mkD (cellsC5 KYz11.out)
      have KZz11 : Hid (Blk wz11 gz #[.int .i64 0, .int .i64 0, .slice none 0 0, .slice none 0 0, .slice none 0 0] 28) := KZz10.out.on hb KZz10.out.lt
      refine hK.out _ _ (fun _ _ => Qz11.out) ?_
      clear hK K
      try simp only [Act.put, zQ1, zQ2, zQ3]
      have HGC : Hid (gz < wz10.heap.size) := KZz10.out.lt
      obtain ⟨v1, v2, v3, rfl, h1, h2, h3⟩ := hO
      obtain ⟨xg1, xgn1, xgc1, rfl⟩ := h1.shape
      obtain ⟨xg2, xgn2, xgc2, rfl⟩ := h2.shape
      obtain ⟨xg3, xgn3, xgc3, rfl⟩ := h3.shape
      have OZ : Hid (DiskO wz11 wz10.heap.size (.agg #[.int .i64 d4.room, .int .i64 d4.next, .slice xg1 xgn1 xgc1, .slice xg2 xgn2 xgc2, .slice xg3 xgn3 xgc3]) d4) := ⟨_, _, _, rfl, h1, h2, h3⟩
      clear hb h1 h2 h3
      clear KYz10 VYz10 SZz10 Bz10 Qz10 KZz10 NUz10
      obtain ⟨⟨r0, f0⟩, ⟨r1, f1⟩, ⟨r2, f2⟩, ⟨r3, f3⟩, ⟨r4, f4⟩, y0, y1, y2, y3, y4⟩ := resC5 (x0 := .int .i64 d4.room) (x1 := .int .i64 d4.next) (x2 := .slice xg1 xgn1 xgc1) (x3 := .slice xg2 xgn2 xgc2) (x4 := .slice xg3 xgn3 xgc3) KZz11.out
      refine uNe 10 (fun K hK => ?_)
      go_simp
      refine hK.out _ _ (fun h => by cases h) ?_
      clear hK K
      try simp only [Act.put, zQ1, zQ2, zQ3]
      have hbs : Below gz wz11 (((((wz11.setCell ⟨gz, 0, none⟩ (.int .i64 d4.room)).setCell ⟨gz, 1, none⟩ (.int .i64 d4.next)).setCell ⟨gz, 2, none⟩ (.slice xg1 xgn1 xgc1)).setCell ⟨gz, 3, none⟩ (.slice xg2 xgn2 xgc2)).setCell ⟨gz, 4, none⟩ (.slice xg3 xgn3 xgc3)) := belowC5 (Below.refl _ _) (Nat.le_refl _) _ _ _ _ _
      have NE : w11.heap.size ≠ gz := by have := LT12.out; have := HG.out; omega
      have gzl : gz < wz11.heap.size := KZz11.out.lt
      have KZ17 : Hid (Blk (((((wz11.setCell ⟨gz, 0, none⟩ (.int .i64 d4.room)).setCell ⟨gz, 1, none⟩ (.int .i64 d4.next)).setCell ⟨gz, 2, none⟩ (.slice xg1 xgn1 xgc1)).setCell ⟨gz, 3, none⟩ (.slice xg2 xgn2 xgc2)).setCell ⟨gz, 4, none⟩ (.slice xg3 xgn3 xgc3)) gz #[.int .i64 d4.room, .int .i64 d4.next, .slice xg1 xgn1 xgc1, .slice xg2 xgn2 xgc2, .slice xg3 xgn3 xgc3] 28) := blkC5 KZz11.out
      have KY17 : Hid (Blk (((((wz11.setCell ⟨gz, 0, none⟩ (.int .i64 d4.room)).setCell ⟨gz, 1, none⟩ (.int .i64 d4.next)).setCell ⟨gz, 2, none⟩ (.slice xg1 xgn1 xgc1)).setCell ⟨gz, 3, none⟩ (.slice xg2 xgn2 xgc2)).setCell ⟨gz, 4, none⟩ (.slice xg3 xgn3 xgc3)) w11.heap.size #[.int .i64 d4.room, .int .i64 d4.next, .slice xe1 xen1 xec1, .slice xe2 xen2 xec2, .slice xe3 0 xec3] 28) := otherC5 KYz11.out NE _ _ _ _ _
      have VY17 : Hid (DiskV (((((wz11.setCell ⟨gz, 0, none⟩ (.int .i64 d4.room)).setCell ⟨gz, 1, none⟩ (.int .i64 d4.next)).setCell ⟨gz, 2, none⟩ (.slice xg1 xgn1 xgc1)).setCell ⟨gz, 3, none⟩ (.slice xg2 xgn2 xgc2)).setCell ⟨gz, 4, none⟩ (.slice xg3 xgn3 xgc3)) ((((((wz11.setCell ⟨gz, 0, none⟩ (.int .i64 d4.room)).setCell ⟨gz, 1, none⟩ (.int .i64 d4.next)).setCell ⟨gz, 2, none⟩ (.slice xg1 xgn1 xgc1)).setCell ⟨gz, 3, none⟩ (.slice xg2 xgn2 xgc2)).setCell ⟨gz, 4, none⟩ (.slice xg3 xgn3 xgc3))).heap.size (.agg #[.int .i64 d4.room, .int .i64 d4.next, .slice xe1 xen1 xec1, .slice xe2 xen2 xec2, .slice xe3 0 xec3]) d4) := (VYz11.out.on (hbs.mono HG.out)).up (Nat.le_trans SZz11.out hbs.size)
      have VZ17 : Hid (DiskV (((((wz11.setCell ⟨gz, 0, none⟩ (.int .i64 d4.room)).setCell ⟨gz, 1, none⟩ (.int .i64 d4.next)).setCell ⟨gz, 2, none⟩ (.slice xg1 xgn1 xgc1)).setCell ⟨gz, 3, none⟩ (.slice xg2 xgn2 xgc2)).setCell ⟨gz, 4, none⟩ (.slice xg3 xgn3 xgc3)) ((((((wz11.setCell ⟨gz, 0, none⟩ (.int .i64 d4.room)).setCell ⟨gz, 1, none⟩ (.int .i64 d4.next)).setCell ⟨gz, 2, none⟩ (.slice xg1 xgn1 xgc1)).setCell ⟨gz, 3, none⟩ (.slice xg2 xgn2 xgc2)).setCell ⟨gz, 4, none⟩ (.slice xg3 xgn3 xgc3))).heap.size (.agg #[.int .i64 d4.room, .int .i64 d4.next, .slice xg1 xgn1 xgc1, .slice xg2 xgn2 xgc2, .slice xg3 xgn3 xgc3]) d4) := (OZ.out.set5 HGC.out _ _ _ _ _).look
      have B17 : Hid (Below w.heap.size w (((((wz11.setCell ⟨gz, 0, none⟩ (.int .i64 d4.room)).setCell ⟨gz, 1, none⟩ (.int .i64 d4.next)).setCell ⟨gz, 2, none⟩ (.slice xg1 xgn1 xgc1)).setCell ⟨gz, 3, none⟩ (.slice xg2 xgn2 xgc2)).setCell ⟨gz, 4, none⟩ (.slice xg3 xgn3 xgc3))) := Bz11.out.trans (hbs.mono (by have := HG.out; have := HWW.out; omega))
      clear r0 r1 r2 r3 r4 f0 f1 f2 f3 f4 y0 y1 y2 y3 y4 hbs NE gzl OZ HGC KYz11 VYz11 SZz11 Bz11 Qz11 KZz11
      generalize ((((wz11.setCell ⟨gz, 0, none⟩ (.int .i64 d4.room)).setCell ⟨gz, 1, none⟩ (.int .i64 d4.next)).setCell ⟨gz, 2, none⟩ (.slice xg1 xgn1 xgc1)).setCell ⟨gz, 3, none⟩ (.slice xg2 xgn2 xgc2)).setCell ⟨gz, 4, none⟩ (.slice xg3 xgn3 xgc3) = w17 at *
      refine until_done (by kernel_rfl) ?_ _
      obtain ⟨e0, e1, e2, e3, e4⟩ := cellsC5 KY17.out
      go_wp2_with fail
      refine (specOkV d4 (.agg #[.int .i64 d4.room, .int .i64 d4.next, .slice xe1 xen1 xec1, .slice xe2 xen2 xec2, .slice xe3 0 xec3]) w17 w17.heap.size VY17.out HM4.out.1 HM4.out.2.2 (Nat.le_refl _)).mono ?_
      rintro e w18 ⟨rfl, hb⟩
      rw [hx4]
      have KY18h : Hid (Blk w18 w11.heap.size #[.int .i64 d4.room, .int .i64 d4.next, .slice xe1 xen1 xec1, .slice xe2 xen2 xec2, .slice xe3 0 xec3] 28) := KY17.out.on hb KY17.out.lt
      have KZ18 := KZ17.out.on hb KZ17.out.lt
      have VY18 : Hid (DiskV w18 w18.heap.size (.agg #[.int .i64 d4.room, .int .i64 d4.next, .slice xe1 xen1 xec1, .slice xe2 xen2 xec2, .slice xe3 0 xec3]) d4) := (VY17.out.on hb).up hb.size
      have VZ18 : Hid (DiskV w18 w18.heap.size (.agg #[.int .i64 d4.room, .int .i64 d4.next, .slice xg1 xgn1 xgc1, .slice xg2 xgn2 xgc2, .slice xg3 xgn3 xgc3]) d4) := (VZ17.out.on hb).up hb.size
      have B18 : Hid (Below w.heap.size w w18) := B17.out.trans (hb.mono B17.out.size)
      clear e0 e1 e2 e3 e4 hb KY17 KZ17 VY17 VZ17 B17
      obtain ⟨e0, e1, e2, e3, e4⟩ := cellsC5 KY18h.out
      obtain ⟨f0, f1, f2, f3, f4⟩ := cellsC5 KZ18
      clear KZ18
      go_wp2_with fail
      refine (sameDiskV d4 (.agg #[.int .i64 d4.room, .int .i64 d4.next, .slice xe1 xen1 xec1, .slice xe2 xen2 xec2, .slice xe3 0 xec3]) (.agg #[.int .i64 d4.room, .int .i64 d4.next, .slice xg1 xgn1 xgc1, .slice xg2 xgn2 xgc2, .slice xg3 xgn3 xgc3]) w18 w18.heap.size VY18.out VZ18.out (Nat.le_refl _) (by have := HR4.out.sz.n; omega) (by have := HR4.out.sz.l; omega) (by have := HR4.out.sz.m; omega)).mono ?_
      rintro e w19 ⟨rfl, hb⟩
      have B19 : Hid (Below w.heap.size w w19) := B18.out.trans (hb.mono B18.out.size)
      have KY19 := KY18h.out.on hb KY18h.out.lt
      clear e0 e1 e2 e3 e4 f0 f1 f2 f3 f4 hb VY18 VZ18 B18
      obtain ⟨e0, e1, e2, e3, e4⟩ := cellsC5 KY19
      go_wp2_with fail
      go_ret
      exact ⟨rfl, B19.out⟩
    ·obtain ⟨gz, hgz⟩ : ∃ gz, gz = wa.heap.size := ⟨_, rfl⟩
     obtain ⟨wz12, hwn⟩ : ∃ wz12, wz12 = wa.alloc (.cells #[.int .i64 0, .int .i64 0, .slice none 0 0, .slice none 0 0, .slice none 0 0] 28) := ⟨_, rfl⟩
     have hal : Below wa.heap.size wa wz12 := by rw [hwn]; exact (Below.refl _ _).alloc (Nat.le_refl _) _
     have KYz12 : Hid (Blk wz12 w11.heap.size #[.int .i64 d4.room, .int .i64 d4.next, .slice xe1 xen1 xec1, .slice xe2 xen2 xec2, .slice xe3 0 xec3] 28) := KYa.out.on hal KYa.out.lt
     have VYz12 : Hid (DiskV wz12 w12.heap.size (.agg #[.int .i64 d4.room, .int .i64 d4.next, .slice xe1 xen1 xec1, .slice xe2 xen2 xec2, .slice xe3 0 xec3]) d4) := VYa.out.on (hal.mono SZa.out)
     have SZz12 : Hid (w12.heap.size ≤ wz12.heap.size) := Nat.le_trans SZa.out hal.size
     have Bz12 : Hid (Below w.heap.size w wz12) := Ba.out.trans (hal.mono Ba.out.size)
     have Qz12 := Hid.mkD (cellsC5 KYz12.out)
     have KZz12 : Hid (Blk wz12 gz #[.int .i64 0, .int .i64 0, .slice none 0 0, .slice none 0 0, .slice none 0 0] 28) := by unfold Hid; rw [hwn, hgz]; exact Blk.new wa _ _
     have HG : Hid (w12.heap.size ≤ gz) := by rw [hgz]; exact SZa.out
     go_simp
     rw [← hwn, ← hgz]
     refine hK.out _ _ (fun _ _ => Qz12.out) ?_
     clear hK K
     try simp only [Act.put, zQ1, zQ2, zQ3]
     clear hwn hal hgz
     clear KYa VYa SZa Ba Qa
     refine uNe 4 (fun K hK => ?_)
     go_simp
     refine (at_any wz12 ao len cap cs 2 HL.out (by omega) (HC.out.on Bz12.out)).mono ?_
     rintro e w' ⟨rfl, rfl⟩
     refine hK.out _ _ (fun _ h => h) ?_
     clear hK K
     try simp only [Act.put, zQ1, zQ2, zQ3]
     generalize hk9 : ((atV len cs 2 : Nat) : Int) = m1 at *
     clear hk9
     refine uNe 6 (fun K hK => ?_)
     go_simp
     refine (at_any wz12 ao len cap cs 3 HL.out (by omega) (HC.out.on Bz12.out)).mono ?_
     rintro e w' ⟨rfl, rfl⟩
     refine hK.out _ _ (fun _ h => h) ?_
     clear hK K
     try simp only [Act.put, zQ1, zQ2, zQ3]
     generalize hk9 : ((atV len cs 3 : Nat) : Int) = m2 at *
     clear hk9
     refine uNe 7 (fun K hK => ?_)
     obtain ⟨gu, hgu⟩ : ∃ gu, gu = wz12.heap.size := ⟨_, rfl⟩
     obtain ⟨wz13, hwn⟩ : ∃ wz13, wz13 = wz12.alloc (.cells #[.int .i64 m1, .int .i64 m2] 3) := ⟨_, rfl⟩
     have hal : Below wz12.heap.size wz12 wz13 := by rw [hwn]; exact (Below.refl _ _).alloc (Nat.le_refl _) _
     have NUz13 : Hid (NumsV wz13 wz13.heap.size (.slice (some ⟨gu, 0, none⟩) 2 2) [m1, m2]) := by unfold Hid; rw [hwn, hgu]; exact numsTwo wz12 m1 m2
     have KYz13 : Hid (Blk wz13 w11.heap.size #[.int .i64 d4.room, .int .i64 d4.next, .slice xe1 xen1 xec1, .slice xe2 xen2 xec2, .slice xe3 0 xec3] 28) := KYz12.out.on hal KYz12.out.lt
     have VYz13 : Hid (DiskV wz13 w12.heap.size (.agg #[.int .i64 d4.room, .int .i64 d4.next, .slice xe1 xen1 xec1, .slice xe2 xen2 xec2, .slice xe3 0 xec3]) d4) := VYz12.out.on (hal.mono SZz12.out)
     have SZz13 : Hid (w12.heap.size ≤ wz13.heap.size) := Nat.le_trans SZz12.out hal.size
     have Bz13 : Hid (Below w.heap.size w wz13) := Bz12.out.trans (hal.mono Bz12.out.size)
     have Qz13 := Hid.mkD (cellsC5 KYz13.out)
     have KZz13 : Hid (Blk wz13 gz #[.int .i64 0, .int .i64 0, .slice none 0 0, .slice none 0 0, .slice none 0 0] 28) := KZz12.out.on hal KZz12.out.lt
     go_simp
     rw [← hwn, ← hgu]
     refine hK.out _ _ (fun _ _ => Qz13.out) ?_
     clear hK K
     try simp only [Act.put, zQ1, zQ2, zQ3]
     clear hwn hal hgu
     clear KYz12 VYz12 SZz12 Bz12 Qz12 KZz12
     refine uNe 8 (fun K hK => ?_)
     go_simp
     refine (implCrashV d4 (.agg #[.int .i64 d4.room, .int .i64 d4.next, .slice xe1 xen1 xec1, .slice xe2 xen2 xec2, .slice xe3 0 xec3]) k2 [m1, m2] (.slice (some ⟨gu, 0, none⟩) 2 2) wz13 wz13.heap.size (VYz13.out.up SZz13.out) NUz13.out (by simp) HM4.out.1 HM4.out.2.1 HM4.out.2.2 (Nat.le_refl _)).mono ?_
     rintro e wz14 ⟨v, rfl, hO, hb⟩
     rw [crashR_yes hx4, HTW.out] at hO
     have KYz14 : Hid (Blk wz14 w11.heap.size #[.int .i64 d4.room, .int .i64 d4.next, .slice xe1 xen1 xec1, .slice xe2 xen2 xec2, .slice xe3 0 xec3] 28) := KYz13.out.on hb KYz13.out.lt
     have VYz14 : Hid (DiskV wz14 w12.heap.size (.agg #[.int .i64 d4.room, .int .i64 d4.next, .slice xe1 xen1 xec1, .slice xe2 xen2 xec2, .slice xe3 0 xec3]) d4) := VYz13.out.on (hb.mono SZz13.out)
     have SZz14 : Hid (w12.heap.size ≤ wz14.heap.size) := Nat.le_trans SZz13.out hb.size
     have Bz14 : Hid (Below w.heap.size w wz14) := Bz13.out.trans (hb.mono Bz13.out.size)
     have Qz14 := Hid.mkD (cellsC5 KYz14.out)
     have KZz14 : Hid (Blk wz14 gz #[.int .i64 0, .int .i64 0, .slice none 0 0, .slice none 0 0, .slice none 0 0] 28) := KZz13.out.on hb KZz13.out.lt
     refine hK.out _ _ (fun _ _ => Qz14.out) ?_
     clear hK K
     try simp only [Act.put, zQ1, zQ2, zQ3]
     have HGC : Hid (gz < wz13.heap.size) := KZz13.out.lt
     obtain ⟨v1, v2, v3, rfl, h1, h2, h3⟩ := hO
     obtain ⟨xg1, xgn1, xgc1, rfl⟩ := h1.shape
     obtain ⟨xg2, xgn2, xgc2, rfl⟩ := h2.shape
     obtain ⟨xg3, xgn3, xgc3, rfl⟩ := h3.shape
     have OZ : Hid (DiskO wz14 wz13.heap.size (.agg #[.int .i64 d4.room, .int .i64 d4.next, .slice xg1 xgn1 xgc1, .slice xg2 xgn2 xgc2, .slice xg3 xgn3 xgc3]) d4) := ⟨_, _, _, rfl, h1, h2, h3⟩
     clear hb h1 h2 h3
     clear KYz13 VYz13 SZz13 Bz13 Qz13 KZz13 NUz13
     obtain ⟨⟨r0, f0⟩, ⟨r1, f1⟩, ⟨r2, f2⟩, ⟨r3, f3⟩, ⟨r4, f4⟩, y0, y1, y2, y3, y4⟩ := resC5 (x0 := .int .i64 d4.room) (x1 := .int .i64 d4.next) (x2 := .slice xg1 xgn1 xgc1) (x3 := .slice xg2 xgn2 xgc2) (x4 := .slice xg3 xgn3 xgc3) KZz14.out
     refine uNe 10 (fun K hK => ?_)
     go_simp
     refine hK.out _ _ (fun h => by cases h) ?_
     clear hK K
     try simp only [Act.put, zQ1, zQ2, zQ3]
     have hbs : Below gz wz14 (((((wz14.setCell ⟨gz, 0, none⟩ (.int .i64 d4.room)).setCell ⟨gz, 1, none⟩ (.int .i64 d4.next)).setCell ⟨gz, 2, none⟩ (.slice xg1 xgn1 xgc1)).setCell ⟨gz, 3, none⟩ (.slice xg2 xgn2 xgc2)).setCell ⟨gz, 4, none⟩ (.slice xg3 xgn3 xgc3)) := belowC5 (Below.refl _ _) (Nat.le_refl _) _ _ _ _ _
     have NE : w11.heap.size ≠ gz := by have := LT12.out; have := HG.out; omega
     have gzl : gz < wz14.heap.size := KZz14.out.lt
     have KZ17 : Hid (Blk (((((wz14.setCell ⟨gz, 0, none⟩ (.int .i64 d4.room)).setCell ⟨gz, 1, none⟩ (.int .i64 d4.next)).setCell ⟨gz, 2, none⟩ (.slice xg1 xgn1 xgc1)).setCell ⟨gz, 3, none⟩ (.slice xg2 xgn2 xgc2)).setCell ⟨gz, 4, none⟩ (.slice xg3 xgn3 xgc3)) gz #[.int .i64 d4.room, .int .i64 d4.next, .slice xg1 xgn1 xgc1, .slice xg2 xgn2 xgc2, .slice xg3 xgn3 xgc3] 28) := blkC5 KZz14.out
     have KY17 : Hid (Blk (((((wz14.setCell ⟨gz, 0, none⟩ (.int .i64 d4.room)).setCell ⟨gz, 1, none⟩ (.int .i64 d4.next)).setCell ⟨gz, 2, none⟩ (.slice xg1 xgn1 xgc1)).setCell ⟨gz, 3, none⟩ (.slice xg2 xgn2 xgc2)).setCell ⟨gz, 4, none⟩ (.slice xg3 xgn3 xgc3)) w11.heap.size #[.int .i64 d4.room, .int .i64 d4.next, .slice xe1 xen1 xec1, .slice xe2 xen2 xec2, .slice xe3 0 xec3] 28) := otherC5 KYz14.out NE _ _ _ _ _
     have VY17 : Hid (DiskV (((((wz14.setCell ⟨gz, 0, none⟩ (.int .i64 d4.room)).setCell ⟨gz, 1, none⟩ (.int .i64 d4.next)).setCell ⟨gz, 2, none⟩ (.slice xg1 xgn1 xgc1)).setCell ⟨gz, 3, none⟩ (.slice xg2 xgn2 xgc2)).setCell ⟨gz, 4, none⟩ (.slice xg3 xgn3 xgc3)) ((((((wz14.setCell ⟨gz, 0, none⟩ (.int .i64 d4.room)).setCell ⟨gz, 1, none⟩ (.int .i64 d4.next)).setCell ⟨gz, 2, none⟩ (.slice xg1 xgn1 xgc1)).setCell ⟨gz, 3, none⟩ (.slice xg2 xgn2 xgc2)).setCell ⟨gz, 4, none⟩ (.slice xg3 xgn3 xgc3))).heap.size (.agg #[.int .i64 d4.room, .int .i64 d4.next, .slice xe1 xen1 xec1, .slice xe2 xen2 xec2, .slice xe3 0 xec3]) d4) := (VYz14.out.on (hbs.mono HG.out)).up (Nat.le_trans SZz14.out hbs.size)
     have VZ17 : Hid (DiskV (((((wz14.setCell ⟨gz, 0, none⟩ (.int .i64 d4.room)).setCell ⟨gz, 1, none⟩ (.int .i64 d4.next)).setCell ⟨gz, 2, none⟩ (.slice xg1 xgn1 xgc1)).setCell ⟨gz, 3, none⟩ (.slice xg2 xgn2 xgc2)).setCell ⟨gz, 4, none⟩ (.slice xg3 xgn3 xgc3)) ((((((wz14.setCell ⟨gz, 0, none⟩ (.int .i64 d4.room)).setCell ⟨gz, 1, none⟩ (.int .i64 d4.next)).setCell ⟨gz, 2, none⟩ (.slice xg1 xgn1 xgc1)).setCell ⟨gz, 3, none⟩ (.slice xg2 xgn2 xgc2)).setCell ⟨gz, 4, none⟩ (.slice xg3 xgn3 xgc3))).heap.size (.agg #[.int .i64 d4.room, .int .i64 d4.next, .slice xg1 xgn1 xgc1, .slice xg2 xgn2 xgc2, .slice xg3 xgn3 xgc3]) d4) := (OZ.out.set5 HGC.out _ _ _ _ _).look
     have B17 : Hid (Below w.heap.size w (((((wz14.setCell ⟨gz, 0, none⟩ (.int .i64 d4.room)).setCell ⟨gz, 1, none⟩ (.int .i64 d4.next)).setCell ⟨gz, 2, none⟩ (.slice xg1 xgn1 xgc1)).setCell ⟨gz, 3, none⟩ (.slice xg2 xgn2 xgc2)).setCell ⟨gz, 4, none⟩ (.slice xg3 xgn3 xgc3))) := Bz14.out.trans (hbs.mono (by have := HG.out; have := HWW.out; omega))
     clear r0 r1 r2 r3 r4 f0 f1 f2 f3 f4 y0 y1 y2 y3 y4 hbs NE gzl OZ HGC KYz14 VYz14 SZz14 Bz14 Qz14 KZz14
     generalize ((((wz14.setCell ⟨gz, 0, none⟩ (.int .i64 d4.room)).setCell ⟨gz, 1, none⟩ (.int .i64 d4.next)).setCell ⟨gz, 2, none⟩ (.slice xg1 xgn1 xgc1)).setCell ⟨gz, 3, none⟩ (.slice xg2 xgn2 xgc2)).setCell ⟨gz, 4, none⟩ (.slice xg3 xgn3 xgc3) = w17 at *
     refine until_done (by kernel_rfl) ?_ _
     obtain ⟨e0, e1, e2, e3, e4⟩ := cellsC5 KY17.out
     go_wp2_with fail
     refine (specOkV d4 (.agg #[.int .i64 d4.room, .int .i64 d4.next, .slice xe1 xen1 xec1, .slice xe2 xen2 xec2, .slice xe3 0 xec3]) w17 w17.heap.size VY17.out HM4.out.1 HM4.out.2.2 (Nat.le_refl _)).mono ?_
     rintro e w18 ⟨rfl, hb⟩
     rw [hx4]
     have KY18h : Hid (Blk w18 w11.heap.size #[.int .i64 d4.room, .int .i64 d4.next, .slice xe1 xen1 xec1, .slice xe2 xen2 xec2, .slice xe3 0 xec3] 28) := KY17.out.on hb KY17.out.lt
     have KZ18 := KZ17.out.on hb KZ17.out.lt
     have VY18 : Hid (DiskV w18 w18.heap.size (.agg #[.int .i64 d4.room, .int .i64 d4.next, .slice xe1 xen1 xec1, .slice xe2 xen2 xec2, .slice xe3 0 xec3]) d4) := (VY17.out.on hb).up hb.size
     have VZ18 : Hid (DiskV w18 w18.heap.size (.agg #[.int .i64 d4.room, .int .i64 d4.next, .slice xg1 xgn1 xgc1, .slice xg2 xgn2 xgc2, .slice xg3 xgn3 xgc3]) d4) := (VZ17.out.on hb).up hb.size
     have B18 : Hid (Below w.heap.size w w18) := B17.out.trans (hb.mono B17.out.size)
     clear e0 e1 e2 e3 e4 hb KY17 KZ17 VY17 VZ17 B17
     obtain ⟨e0, e1, e2, e3, e4⟩ := cellsC5 KY18h.out
     obtain ⟨f0, f1, f2, f3, f4⟩ := cellsC5 KZ18
     clear KZ18
     go_wp2_with fail
     refine (sameDiskV d4 (.agg #[.int .i64 d4.room, .int .i64 d4.next, .slice xe1 xen1 xec1, .slice xe2 xen2 xec2, .slice xe3 0 xec3]) (.agg #[.int .i64 d4.room, .int .i64 d4.next, .slice xg1 xgn1 xgc1, .slice xg2 xgn2 xgc2, .slice xg3 xgn3 xgc3]) w18 w18.heap.size VY18.out VZ18.out (Nat.le_refl _) (by have := HR4.out.sz.n; omega) (by have := HR4.out.sz.l; omega) (by have := HR4.out.sz.m; omega)).mono ?_
     rintro e w19 ⟨rfl, hb⟩
     have B19 : Hid (Below w.heap.size w w19) := B18.out.trans (hb.mono B18.out.size)
     have KY19 := KY18h.out.on hb KY18h.out.lt
     clear e0 e1 e2 e3 e4 f0 f1 f2 f3 f4 hb VY18 VZ18 B18
     obtain ⟨e0, e1, e2, e3, e4⟩ := cellsC5 KY19
     go_wp2_with fail
     go_ret
     exact ⟨rfl, B19.out⟩
   ·obtain ⟨gz, hgz⟩ : ∃ gz, gz = wa.heap.size := ⟨_, rfl⟩
    obtain ⟨wz15, hwn⟩ : ∃ wz15, wz15 = wa.alloc (.cells #[.int .i64 0, .int .i64 0, .slice none 0 0, .slice none 0 0, .slice none 0 0] 28) := ⟨_, rfl⟩
    have hal : Below wa.heap.size wa wz15 := by rw [hwn]; exact (Below.refl _ _).alloc (Nat.le_refl _) _
    have KYz15 : Hid (Blk wz15 w11.heap.size #[.int .i64 d4.room, .int .i64 d4.next, .slice xe1 xen1 xec1, .slice xe2 xen2 xec2, .slice xe3 0 xec3] 28) := KYa.out.on hal KYa.out.lt
    have VYz15 : Hid (DiskV wz15 w12.heap.size (.agg #[.int .i64 d4.room, .int .i64 d4.next, .slice xe1 xen1 xec1, .slice xe2 xen2 xec2, .slice xe3 0 xec3]) d4) := VYa.out.on (hal.mono SZa.out)
    have SZz15 : Hid (w12.heap.size ≤ wz15.heap.size) := Nat.le_trans SZa.out hal.size
    have Bz15 : Hid (Below w.heap.size w wz15) := Ba.out.trans (hal.mono Ba.out.size)
    have Qz15 := Hid.mkD (cellsC5 KYz15.out)
    have KZz15 : Hid (Blk wz15 gz #[.int .i64 0, .int .i64 0, .slice none 0 0, .slice none 0 0, .slice none 0 0] 28) := by unfold Hid; rw [hwn, hgz]; exact Blk.new wa _ _
    have HG : Hid (w12.heap.size ≤ gz) := by rw [hgz]; exact SZa.out
    go_simp
    rw [← hwn, ← hgz]
    refine hK.out _ _ (fun _ _ => Qz15.out) ?_
    clear hK K
    try simp only [Act.put, zQ1, zQ2, zQ3]
    clear hwn hal hgz
    clear KYa VYa SZa Ba Qa
    refine uNe 2 (fun K hK => ?_)
    go_simp
    refine (at_any wz15 ao len cap cs 1 HL.out (by omega) (HC.out.on Bz15.out)).mono ?_
    rintro e w' ⟨rfl, rfl⟩
    refine hK.out _ _ (fun _ h => h) ?_
    clear hK K
    try simp only [Act.put, zQ1, zQ2, zQ3]
    generalize hk9 : ((atV len cs 1 : Nat) : Int) = k2 at *
    clear hk9
    refine uNe 4 (fun K hK => ?_)
    go_simp
    refine (at_any wz15 ao len cap cs 2 HL.out (by omega) (HC.out.on Bz15.out)).mono ?_
    rintro e w' ⟨rfl, rfl⟩
    refine hK.out _ _ (fun _ h => h) ?_
    clear hK K
    try simp only [Act.put, zQ1, zQ2, zQ3]
    generalize hk9 : ((atV len cs 2 : Nat) : Int) = m1 at *
    clear hk9
    refine uNe 6 (fun K hK => ?_)
    go_simp
    refine (at_any wz15 ao len cap cs 3 HL.out (by omega) (HC.out.on Bz15.out)).mono ?_
    rintro e w' ⟨rfl, rfl⟩
    refine hK.out _ _ (fun _ h => h) ?_
    clear hK K
    try simp only [Act.put, zQ1, zQ2, zQ3]
    generalize hk9 : ((atV len cs 3 : Nat) : Int) = m2 at *
    clear hk9
    refine uNe 7 (fun K hK => ?_)
    obtain ⟨gu, hgu⟩ : ∃ gu, gu = wz15.heap.size := ⟨_, rfl⟩
    obtain ⟨wz16, hwn⟩ : ∃ wz16, wz16 = wz15.alloc (.cells #[.int .i64 m1, .int .i64 m2] 3) := ⟨_, rfl⟩
    have hal : Below wz15.heap.size wz15 wz16 := by rw [hwn]; exact (Below.refl _ _).alloc (Nat.le_refl _) _
    have NUz16 : Hid (NumsV wz16 wz16.heap.size (.slice (some ⟨gu, 0, none⟩) 2 2) [m1, m2]) := by unfold Hid; rw [hwn, hgu]; exact numsTwo wz15 m1 m2
    have KYz16 : Hid (Blk wz16 w11.heap.size #[.int .i64 d4.room, .int .i64 d4.next, .slice xe1 xen1 xec1, .slice xe2 xen2 xec2, .slice xe3 0 xec3] 28) := KYz15.out.on hal KYz15.out.lt
    have VYz16 : Hid (DiskV wz16 w12.heap.size (.agg #[.int .i64 d4.room, .int .i64 d4.next, .slice xe1 xen1 xec1, .slice xe2 xen2 xec2, .slice xe3 0 xec3]) d4) := VYz15.out.on (hal.mono SZz15.out)
    have SZz16 : Hid (w12.heap.size ≤ wz16.heap.size) := Nat.le_trans SZz15.out hal.size
    have Bz16 : Hid (Below w.heap.size w wz16) := Bz15.out.trans (hal.mono Bz15.out.size)
    have Qz16 := Hid.mkD (cellsC5 KYz16.out)
    have KZz16 : Hid (Blk wz16 gz #[.int .i64 0, .int .i64 0, .slice none 0 0, .slice none 0 0, .slice none 0 0] 28) := KZz15.out.on hal KZz15.out.lt
    go_simp
    rw [← hwn, ← hgu]
    refine hK.out _ _ (fun _ _ => Qz16.out) ?_
    clear hK K
    try simp only [Act.put, zQ1, zQ2, zQ3]
    clear hwn hal hgu
    clear KYz15 VYz15 SZz15 Bz15 Qz15 KZz15
    refine uNe 8 (fun K hK => ?_)
    go_simp
    refine (implCrashV d4 (.agg #[.int .i64 d4.room, .int .i64 d4.next, .slice xe1 xen1 xec1, .slice xe2 xen2 xec2, .slice xe3 0 xec3]) k2 [m1, m2] (.slice (some ⟨gu, 0, none⟩) 2 2) wz16 wz16.heap.size (VYz16.out.up SZz16.out) NUz16.out (by simp) HM4.out.1 HM4.out.2.1 HM4.out.2.2 (Nat.le_refl _)).mono ?_
    rintro e wz17 ⟨v, rfl, hO, hb⟩
    rw [crashR_yes hx4, HTW.out] at hO
    have KYz17 : Hid (Blk wz17 w11.heap.size #[.int .i64 d4.room, .int .i64 d4.next, .slice xe1 xen1 xec1, .slice xe2 xen2 xec2, .slice xe3 0 xec3] 28) := KYz16.out.on hb KYz16.out.lt
    have VYz17 : Hid (DiskV wz17 w12.heap.size (.agg #[.int .i64 d4.room, .int .i64 d4.next, .slice xe1 xen1 xec1, .slice xe2 xen2 xec2, .slice xe3 0 xec3]) d4) := VYz16.out.on (hb.mono SZz16.out)
    have SZz17 : Hid (w12.heap.size ≤ wz17.heap.size) := Nat.le_trans SZz16.out hb.size
    have Bz17 : Hid (Below w.heap.size w wz17) := Bz16.out.trans (hb.mono Bz16.out.size)
    have Qz17 := Hid.mkD (cellsC5 KYz17.out)
    have KZz17 : Hid (Blk wz17 gz #[.int .i64 0, .int .i64 0, .slice none 0 0, .slice none 0 0, .slice none 0 0] 28) := KZz16.out.on hb KZz16.out.lt
    refine hK.out _ _ (fun _ _ => Qz17.out) ?_
    clear hK K
    try simp only [Act.put, zQ1, zQ2, zQ3]
    have HGC : Hid (gz < wz16.heap.size) := KZz16.out.lt
    obtain ⟨v1, v2, v3, rfl, h1, h2, h3⟩ := hO
    obtain ⟨xg1, xgn1, xgc1, rfl⟩ := h1.shape
    obtain ⟨xg2, xgn2, xgc2, rfl⟩ := h2.shape
    obtain ⟨xg3, xgn3, xgc3, rfl⟩ := h3.shape
    have OZ : Hid (DiskO wz17 wz16.heap.size (.agg #[.int .i64 d4.room, .int .i64 d4.next, .slice xg1 xgn1 xgc1, .slice xg2 xgn2 xgc2, .slice xg3 xgn3 xgc3]) d4) := ⟨_, _, _, rfl, h1, h2, h3⟩
    clear hb h1 h2 h3
    clear KYz16 VYz16 SZz16 Bz16 Qz16 KZz16 NUz16
    obtain ⟨⟨r0, f0⟩, ⟨r1, f1⟩, ⟨r2, f2⟩, ⟨r3, f3⟩, ⟨r4, f4⟩, y0, y1, y2, y3, y4⟩ := resC5 (x0 := .int .i64 d4.room) (x1 := .int .i64 d4.next) (x2 := .slice xg1 xgn1 xgc1) (x3 := .slice xg2 xgn2 xgc2) (x4 := .slice xg3 xgn3 xgc3) KZz17.out
    refine uNe 10 (fun K hK => ?_)
    go_simp
    refine hK.out _ _ (fun h => by cases h) ?_
    clear hK K
    try simp only [Act.put, zQ1, zQ2, zQ3]
    have hbs : Below gz wz17 (((((wz17.setCell ⟨gz, 0, none⟩ (.int .i64 d4.room)).setCell ⟨gz, 1, none⟩ (.int .i64 d4.next)).setCell ⟨gz, 2, none⟩ (.slice xg1 xgn1 xgc1)).setCell ⟨gz, 3, none⟩ (.slice xg2 xgn2 xgc2)).setCell ⟨gz, 4, none⟩ (.slice xg3 xgn3 xgc3)) := belowC5 (Below.refl _ _) (Nat.le_refl _) _ _ _ _ _
    have NE : w11.heap.size ≠ gz := by have := LT12.out; have := HG.out; omega
    have gzl : gz < wz17.heap.size := KZz17.out.lt
    have KZ17 : Hid (Blk (((((wz17.setCell ⟨gz, 0, none⟩ (.int .i64 d4.room)).setCell ⟨gz, 1, none⟩ (.int .i64 d4.next)).setCell ⟨gz, 2, none⟩ (.slice xg1 xgn1 xgc1)).setCell ⟨gz, 3, none⟩ (.slice xg2 xgn2 xgc2)).setCell ⟨gz, 4, none⟩ (.slice xg3 xgn3 xgc3)) gz #[.int .i64 d4.room, .int .i64 d4.next, .slice xg1 xgn1 xgc1, .slice xg2 xgn2 xgc2, .slice xg3 xgn3 xgc3] 28) := blkC5 KZz17.out
    have KY17 : Hid (Blk (((((wz17.setCell ⟨gz, 0, none⟩ (.int .i64 d4.room)).setCell ⟨gz, 1, none⟩ (.int .i64 d4.next)).setCell ⟨gz, 2, none⟩ (.slice xg1 xgn1 xgc1)).setCell ⟨gz, 3, none⟩ (.slice xg2 xgn2 xgc2)).setCell ⟨gz, 4, none⟩ (.slice xg3 xgn3 xgc3)) w11.heap.size #[.int .i64 d4.room, .int .i64 d4.next, .slice xe1 xen1 xec1, .slice xe2 xen2 xec2, .slice xe3 0 xec3] 28) := otherC5 KYz17.out NE _ _ _ _ _
    have VY17 : Hid (DiskV (((((wz17.setCell ⟨gz, 0, none⟩ (.int .i64 d4.room)).setCell ⟨gz, 1, none⟩ (.int .i64 d4.next)).setCell ⟨gz, 2, none⟩ (.slice xg1 xgn1 xgc1)).setCell ⟨gz, 3, none⟩ (.slice xg2 xgn2 xgc2)).setCell ⟨gz, 4, none⟩ (.slice xg3 xgn3 xgc3)) ((((((wz17.setCell ⟨gz, 0, none⟩ (.int .i64 d4.room)).setCell ⟨gz, 1, none⟩ (.int .i64 d4.next)).setCell ⟨gz, 2, none⟩ (.slice xg1 xgn1 xgc1)).setCell ⟨gz, 3, none⟩ (.slice xg2 xgn2 xgc2)).setCell ⟨gz, 4, none⟩ (.slice xg3 xgn3 xgc3))).heap.size (.agg #[.int .i64 d4.room, .int .i64 d4.next, .slice xe1 xen1 xec1, .slice xe2 xen2 xec2, .slice xe3 0 xec3]) d4) := (VYz17.out.on (hbs.mono HG.out)).up (Nat.le_trans SZz17.out hbs.size)
    have VZ17 : Hid (DiskV (((((wz17.setCell ⟨gz, 0, none⟩ (.int .i64 d4.room)).setCell ⟨gz, 1, none⟩ (.int .i64 d4.next)).setCell ⟨gz, 2, none⟩ (.slice xg1 xgn1 xgc1)).setCell ⟨gz, 3, none⟩ (.slice xg2 xgn2 xgc2)).setCell ⟨gz, 4, none⟩ (.slice xg3 xgn3 xgc3)) ((((((wz17.setCell ⟨gz, 0, none⟩ (.int .i64 d4.room)).setCell ⟨gz, 1, none⟩ (.int .i64 d4.next)).setCell ⟨gz, 2, none⟩ (.slice xg1 xgn1 xgc1)).setCell ⟨gz, 3, none⟩ (.slice xg2 xgn2 xgc2)).setCell ⟨gz, 4, none⟩ (.slice xg3 xgn3 xgc3))).heap.size (.agg #[.int .i64 d4.room, .int .i64 d4.next, .slice xg1 xgn1 xgc1, .slice xg2 xgn2 xgc2, .slice xg3 xgn3 xgc3]) d4) := (OZ.out.set5 HGC.out _ _ _ _ _).look
    have B17 : Hid (Below w.heap.size w (((((wz17.setCell ⟨gz, 0, none⟩ (.int .i64 d4.room)).setCell ⟨gz, 1, none⟩ (.int .i64 d4.next)).setCell ⟨gz, 2, none⟩ (.slice xg1 xgn1 xgc1)).setCell ⟨gz, 3, none⟩ (.slice xg2 xgn2 xgc2)).setCell ⟨gz, 4, none⟩ (.slice xg3 xgn3 xgc3))) := Bz17.out.trans (hbs.mono (by have := HG.out; have := HWW.out; omega))
    clear r0 r1 r2 r3 r4 f0 f1 f2 f3 f4 y0 y1 y2 y3 y4 hbs NE gzl OZ HGC KYz17 VYz17 SZz17 Bz17 Qz17 KZz17
    generalize ((((wz17.setCell ⟨gz, 0, none⟩ (.int .i64 d4.room)).setCell ⟨gz, 1, none⟩ (.int .i64 d4.next)).setCell ⟨gz, 2, none⟩ (.slice xg1 xgn1 xgc1)).setCell ⟨gz, 3, none⟩ (.slice xg2 xgn2 xgc2)).setCell ⟨gz, 4, none⟩ (.slice xg3 xgn3 xgc3) = w17 at *
    refine until_done (by kernel_rfl) ?_ _
    obtain ⟨e0, e1, e2, e3, e4⟩ := cellsC5 KY17.out
    go_wp2_with fail
    refine (specOkV d4 (.agg #[.int .i64 d4.room, .int .i64 d4.next, .slice xe1 xen1 xec1, .slice xe2 xen2 xec2, .slice xe3 0 xec3]) w17 w17.heap.size VY17.out HM4.out.1 HM4.out.2.2 (Nat.le_refl _)).mono ?_
    rintro e w18 ⟨rfl, hb⟩
    rw [hx4]
    have KY18h : Hid (Blk w18 w11.heap.size #[.int .i64 d4.room, .int .i64 d4.next, .slice xe1 xen1 xec1, .slice xe2 xen2 xec2, .slice xe3 0 xec3] 28) := KY17.out.on hb KY17.out.lt
    have KZ18 := KZ17.out.on hb KZ17.out.lt
    have VY18 : Hid (DiskV w18 w18.heap.size (.agg #[.int .i64 d4.room, .int .i64 d4.next, .slice xe1 xen1 xec1, .slice xe2 xen2 xec2, .slice xe3 0 xec3]) d4) := (VY17.out.on hb).up hb.size
    have VZ18 : Hid (DiskV w18 w18.heap.size (.agg #[.int .i64 d4.room, .int .i64 d4.next, .slice xg1 xgn1 xgc1, .slice xg2 xgn2 xgc2, .slice xg3 xgn3 xgc3]) d4) := (VZ17.out.on hb).up hb.size
    have B18 : Hid (Below w.heap.size w w18) := B17.out.trans (hb.mono B17.out.size)
    clear e0 e1 e2 e3 e4 hb KY17 KZ17 VY17 VZ17 B17
    obtain ⟨e0, e1, e2, e3, e4⟩ := cellsC5 KY18h.out
    obtain ⟨f0, f1, f2, f3, f4⟩ := cellsC5 KZ18
    clear KZ18
    go_wp2_with fail
    refine (sameDiskV d4 (.agg #[.int .i64 d4.room, .int .i64 d4.next, .slice xe1 xen1 xec1, .slice xe2 xen2 xec2, .slice xe3 0 xec3]) (.agg #[.int .i64 d4.room, .int .i64 d4.next, .slice xg1 xgn1 xgc1, .slice xg2 xgn2 xgc2, .slice xg3 xgn3 xgc3]) w18 w18.heap.size VY18.out VZ18.out (Nat.le_refl _) (by have := HR4.out.sz.n; omega) (by have := HR4.out.sz.l; omega) (by have := HR4.out.sz.m; omega)).mono ?_
    rintro e w19 ⟨rfl, hb⟩
    have B19 : Hid (Below w.heap.size w w19) := B18.out.trans (hb.mono B18.out.size)
    have KY19 := KY18h.out.on hb KY18h.out.lt
    clear e0 e1 e2 e3 e4 f0 f1 f2 f3 f4 hb VY18 VZ18 B18
    obtain ⟨e0, e1, e2, e3, e4⟩ := cellsC5 KY19
    go_wp2_with fail
    go_ret
    exact ⟨rfl, B19.out⟩
  ·have hd : d2 = d := HSA.out hc0
   subst hd
   have qc : decide (c2 = 0) = false := decide_eq_false hc0
   go_wp2_with fail
   refine (sameDiskV d2 (.agg #[.int .i64 d2.room, .int .i64 d2.next, .slice xb1 xbn1 xbc1, .slice xb2 xbn2 xbc2, .slice xb3 xbn3 xbc3]) (.agg #[.int .i64 d2.room, .int .i64 d2.next, .slice xa1 xan1 xac1, .slice xa2 xan2 xac2, .slice xa3 xan3 xac3]) w6 w6.heap.size VX6.out VD6.out (Nat.le_refl _) (by have := HSM.out.n; omega) (by have := HSM.out.l; omega) (by have := HSM.out.m; omega)).mono ?_
   rintro e w7 ⟨rfl, hb⟩
   have W7 := Hid.mkD hb
   clear hb
   go_wp2_with fail
   have B8 : Hid (Below w.heap.size w w7) := B6.out.trans (W7.out.mono B6.out.size)
   have KX8 : Hid (Blk w7 w3.heap.size #[.int .i64 d2.room, .int .i64 d2.next, .slice xb1 xbn1 xbc1, .slice xb2 xbn2 xbc2, .slice xb3 xbn3 xbc3] 28) := KX6.out.on W7.out KX6.out.lt
   have VX8 : Hid (DiskV w7 w7.heap.size (.agg #[.int .i64 d2.room, .int .i64 d2.next, .slice xb1 xbn1 xbc1, .slice xb2 xbn2 xbc2, .slice xb3 xbn3 xbc3]) d2) := (VX6.out.on W7.out).up W7.out.size
   have C8 := Hid.mkD (HC.out.on B8.out)
   clear KD6 KX6 VD6 VX6 e60 e61 e62 e63 e64 f60 f61 f62 f63 f64
   refine (drawCrash w7 ao len cap cs HL.out C8.out).mono ?_
   rintro e w9 ⟨d3, v, kp, l, u, rfl, hO, hsm, hnu, hll, hb⟩
   obtain ⟨v1, v2, v3, rfl, h1, h2, h3⟩ := hO
   obtain ⟨xc1, xcn1, xcc1, rfl⟩ := h1.shape
   obtain ⟨xc2, xcn2, xcc2, rfl⟩ := h2.shape
   obtain ⟨xc3, xcn3, xcc3, rfl⟩ := h3.shape
   obtain ⟨w10, hw10⟩ : ∃ w10, w10 = w9.alloc (.cells #[.int .i64 d3.room, .int .i64 d3.next, .slice xc1 xcn1 xcc1, .slice xc2 xcn2 xcc2, .slice xc3 xcn3 xcc3] 28) := ⟨_, rfl⟩
   have hal : Below w9.heap.size w9 w10 := by rw [hw10]; exact (Below.refl _ _).alloc (Nat.le_refl _) _
   have h810 : Below w7.heap.size w7 w10 := hb.trans (hal.mono hb.size)
   have B10 : Hid (Below w.heap.size w w10) := B8.out.trans (h810.mono B8.out.size)
   have KX10 : Hid (Blk w10 w3.heap.size #[.int .i64 d2.room, .int .i64 d2.next, .slice xb1 xbn1 xbc1, .slice xb2 xbn2 xbc2, .slice xb3 xbn3 xbc3] 28) := KX8.out.on h810 KX8.out.lt
   have VX10 : Hid (DiskV w10 w10.heap.size (.agg #[.int .i64 d2.room, .int .i64 d2.next, .slice xb1 xbn1 xbc1, .slice xb2 xbn2 xbc2, .slice xb3 xbn3 xbc3]) d2) := (VX8.out.on h810).up h810.size
   have NU10 : Hid (NumsV w10 w10.heap.size u l) := (hnu.on hal).mono hal.size
   have HLL : Hid (l.length ≤ 1048576) := by unfold Hid; omega
   clear hal h810 hb h1 h2 h3 hsm hnu hll B8 KX8 VX8
   obtain ⟨e00, e01, e02, e03, e04⟩ := cellsC5 KX10.out
   rw [hw10] at e00 e01 e02 e03 e04
   go_wp2_with fail
   rw [← hw10]
   clear e00 e01 e02 e03 e04 hw10
   refine (implCrashV d2 (.agg #[.int .i64 d2.room, .int .i64 d2.next, .slice xb1 xbn1 xbc1, .slice xb2 xbn2 xbc2, .slice xb3 xbn3 xbc3]) kp l u w10 w10.heap.size VX10.out NU10.out HLL.out HM2.out.1 HM2.out.2.1 HM2.out.2.2 (Nat.le_refl _)).mono ?_
   rintro e w11 ⟨v, rfl, hO, hb⟩
   rw [crashR_yes hx] at hO
   have hR4 := HR2.out.crash kp l
   have hB4 : bytesOf (crashD d2 kp l).nods ≤ 300000 := by have := HR2.out.crash_bytes kp l; have := HBY.out; omega
   have hmv : (crashD d2 kp l).movs = [] := rfl
   have htw : ∀ k2 c2, crashD (crashD d2 kp l) k2 c2 = crashD d2 kp l := fun k2 c2 => crash_twice HR2.out kp l k2 c2
   generalize crashD d2 kp l = d4 at *
   have HM4 := Hid.mkD (hR4.mid hB4)
   have HR4 := Hid.mkD hR4
   have HTW := Hid.mkD htw
   have hx4 : diskOk d4 = true := RD.iff.2 hR4
   obtain ⟨v1, v2, v3, rfl, h1, h2, h3⟩ := hO
   obtain ⟨xe1, xen1, xec1, rfl⟩ := h1.shape
   obtain ⟨xe2, xen2, xec2, rfl⟩ := h2.shape
   obtain ⟨xe3, xen3, xec3, rfl⟩ := h3.shape
   have hen : xen3 = 0 := by have := h3.len4; rw [hmv] at this; exact this
   subst hen
   obtain ⟨w12, hw12⟩ : ∃ w12, w12 = w11.alloc (.cells #[.int .i64 d4.room, .int .i64 d4.next, .slice xe1 xen1 xec1, .slice xe2 xen2 xec2, .slice xe3 0 xec3] 28) := ⟨_, rfl⟩
   have hal : Below w11.heap.size w11 w12 := by rw [hw12]; exact (Below.refl _ _).alloc (Nat.le_refl _) _
   have B12 : Hid (Below w.heap.size w w12) := B10.out.trans ((hb.trans (hal.mono hb.size)).mono B10.out.size)
   have KY12 : Hid (Blk w12 w11.heap.size #[.int .i64 d4.room, .int .i64 d4.next, .slice xe1 xen1 xec1, .slice xe2 xen2 xec2, .slice xe3 0 xec3] 28) := by unfold Hid; rw [hw12]; exact Blk.new w11 _ _
   have VY12 : Hid (DiskV w12 w12.heap.size (.agg #[.int .i64 d4.room, .int .i64 d4.next, .slice xe1 xen1 xec1, .slice xe2 xen2 xec2, .slice xe3 0 xec3]) d4) := (DiskV.on ⟨_, _, _, rfl, h1.lies, h2.lies, h3.lies⟩ hal).up hal.size
   have LT12 : Hid (w11.heap.size < w12.heap.size) := KY12.out.lt
   have HWW : Hid (w.heap.size ≤ w12.heap.size) := B12.out.size
   clear hal hb h1 h2 h3 hR4 hB4 hmv htw KX10 VX10 NU10 HLL B10
   go_upto_region 12 with fail
   rw [← hw12]
   clear hw12
   refine wp_region_until (fun w' => w'.cell? ⟨w11.heap.size, 0, none⟩ = some (.int .i64 d4.room) ∧ w'.cell? ⟨w11.heap.size, 1, none⟩ = some (.int .i64 d4.next) ∧ w'.cell? ⟨w11.heap.size, 2, none⟩ = some (.slice xe1 xen1 xec1) ∧ w'.cell? ⟨w11.heap.size, 3, none⟩ = some (.slice xe2 xen2 xec2) ∧ w'.cell? ⟨w11.heap.size, 4, none⟩ = some (.slice xe3 0 xec3)) (fun i => i == 10) 11 (by rfl) (by kernel_rfl) ?_
   have KYa : Hid (Blk w12.drew w11.heap.size #[.int .i64 d4.room, .int .i64 d4.next, .slice xe1 xen1 xec1, .slice xe2 xen2 xec2, .slice xe3 0 xec3] 28) := KY12.out.on (Below.refl _ w12).drew KY12.out.lt
   have VYa : Hid (DiskV w12.drew w12.heap.size (.agg #[.int .i64 d4.room, .int .i64 d4.next, .slice xe1 xen1 xec1, .slice xe2 xen2 xec2, .slice xe3 0 xec3]) d4) := VY12.out.on (Below.refl _ w12).drew
   have Ba : Hid (Below w.heap.size w w12.drew) := B12.out.drew
   have SZa : Hid (w12.heap.size ≤ w12.drew.heap.size) := Nat.le_refl _
   have Qa := Hid.mkD (cellsC5 KYa.out)
   clear KY12 VY12 B12
   generalize w12.drew = wa at *
   refine tF 0 Qa.out ?_
   refine pF 1 ?_
   refine pF 3 ?_
   refine pF 5 ?_
   refine until_two 2 9 (by rfl) (by rfl) (by kernel_rfl) (fun K hK => ?_) (fun K hK => ?_)
   ·go_simp
    refine (at_any wa ao len cap cs 1 HL.out (by omega) (HC.out.on Ba.out)).mono ?_
    rintro e w' ⟨rfl, rfl⟩
    refine hK.out _ _ (fun _ h => h) ?_
    clear hK K
    try simp only [Act.put, zQ1, zQ2, zQ3]
    generalize hk9 : ((atV len cs 1 : Nat) : Int) = k2 at *
    clear hk9
    refine until_two 4 9 (by rfl) (by rfl) (by kernel_rfl) (fun K hK => ?_) (fun K hK => ?_)
    ·go_simp
     refine (at_any wa ao len cap cs 2 HL.out (by omega) (HC.out.on Ba.out)).mono ?_
     rintro e w' ⟨rfl, rfl⟩
     refine hK.out _ _ (fun _ h => h) ?_
     clear hK K
     try simp only [Act.put, zQ1, zQ2, zQ3]
     generalize hk9 : ((atV len cs 2 : Nat) : Int) = m1 at *
     clear hk9
     refine until_two 6 9 (by rfl) (by rfl) (by kernel_rfl) (fun K hK => ?_) (fun K hK => ?_)
     ·go_simp
      refine (at_any wa ao len cap cs 3 HL.out (by omega) (HC.out.on Ba.out)).mono ?_
      rintro e w' ⟨rfl, rfl⟩
      refine hK.out _ _ (fun _ h => h) ?_
      clear hK K
      try simp only [Act.put, zQ1, zQ2, zQ3]
      generalize hk9 : ((atV len cs 3 : Nat) : Int) = m2 at *
      clear hk9
      refine until_two 7 9 (by rfl) (by rfl) (by kernel_rfl) (fun K hK => ?_) (fun K hK => ?_)
      ·obtain ⟨gu, hgu⟩ : ∃ gu, gu = wa.heap.size := ⟨_, rfl⟩
       obtain ⟨wz18, hwn⟩ : ∃ wz18, wz18 = wa.alloc (.cells #[.int .i64 m1, .int .i64 m2] 3) := ⟨_, rfl⟩
       have hal : Below wa.heap.size wa wz18 := by rw [hwn]; exact (Below.refl _ _).alloc (Nat.le_refl _) _
       have NUz18 : Hid (NumsV wz18 wz18.heap.size (.slice (some ⟨gu, 0, none⟩) 2 2) [m1, m2]) := by unfold Hid; rw [hwn, hgu]; exact numsTwo wa m1 m2
       have KYz18 : Hid (Blk wz18 w11.heap.size #[.int .i64 d4.room, .int .i64 d4.next, .slice xe1 xen1 xec1, .slice xe2 xen2 xec2, .slice xe3 0 xec3] 28) := KYa.out.on hal KYa.out.lt
       have VYz18 : Hid (DiskV wz18 w12.heap.size (.agg #[.int .i64 d4.room, .int .i64 d4.next, .slice xe1 xen1 xec1, .slice xe2 xen2 xec2, .slice xe3 0 xec3]) d4) := VYa.out.on (hal.mono SZa.out)
       have SZz18 : Hid (w12.heap.size ≤ wz18.heap.size) := Nat.le_trans SZa.out hal.size
       have Bz18 : Hid (Below w.heap.size w wz18) := Ba.out.trans (hal.mono Ba.out.size)
       have Qz18 := Hid.mkD (cellsC5 KYz18.out)
       go_simp
       rw [← hwn, ← hgu]
       refine hK.out _ _ (fun _ _ => Qz18.out) ?_
       clear hK K
       try simp only [Act.put, zQ1, zQ2, zQ3]
       clear hwn hal hgu
       clear KYa VYa SZa Ba Qa
       refine until_two 8 9 (by rfl) (by rfl) (by kernel_rfl) (fun K hK => ?_) (fun K hK => ?_)
       ·go_simp
        refine (implCrashV d4 (.agg #[.int .i64 d4.room, .int .i64 d4.next, .slice xe1 xen1 xec1, .slice xe2 xen2 xec2, .slice xe3 0 xec3]) k2 [m1, m2] (.slice (some ⟨gu, 0, none⟩) 2 2) wz18 wz18.heap.size (VYz18.out.up SZz18.out) NUz18.out (by simp) HM4.out.1 HM4.out.2.1 HM4.out.2.2 (Nat.le_refl _)).mono ?_
        rintro e wz19 ⟨v, rfl, hO, hb⟩
        rw [crashR_yes hx4, HTW.out] at hO
        have KYz19 : Hid (Blk wz19 w11.heap.size #[.int .i64 d4.room, .int .i64 d4.next, .slice xe1 xen1 xec1, .slice xe2 xen2 xec2, .slice xe3 0 xec3] 28) := KYz18.out.on hb KYz18.out.lt
        have VYz19 : Hid (DiskV wz19 w12.heap.size (.agg #[.int .i64 d4.room, .int .i64 d4.next, .slice xe1 xen1 xec1, .slice xe2 xen2 xec2, .slice xe3 0 xec3]) d4) := VYz18.out.on (hb.mono SZz18.out)
        have SZz19 : Hid (w12.heap.size ≤ wz19.heap.size) := Nat.le_trans SZz18.out hb.size
        have Bz19 : Hid (Below w.heap.size w wz19) := Bz18.out.trans (hb.mono Bz18.out.size)
        have Qz19 := Hid.mkD (cellsC5 KYz19.out)
        refine hK.out _ _ (fun _ _ => Qz19.out) ?_
        clear hK K
        try simp only [Act.put, zQ1, zQ2, zQ3]
        obtain ⟨v1, v2, v3, rfl, h1, h2, h3⟩ := hO
        obtain ⟨xg1, xgn1, xgc1, rfl⟩ := h1.shape
        obtain ⟨xg2, xgn2, xgc2, rfl⟩ := h2.shape
        obtain ⟨xg3, xgn3, xgc3, rfl⟩ := h3.shape
        have VZz19 : Hid (DiskV wz19 wz19.heap.size (.agg #[.int .i64 d4.room, .int .i64 d4.next, .slice xg1 xgn1 xgc1, .slice xg2 xgn2 xgc2, .slice xg3 xgn3 xgc3]) d4) := ⟨_, _, _, rfl, h1.lies, h2.lies, h3.lies⟩
        clear hb h1 h2 h3
        clear KYz18 VYz18 SZz18 Bz18 Qz18 NUz18
        refine uNe 9 (fun K hK => ?_)
        obtain ⟨gz, hgz⟩ : ∃ gz, gz = wz19.heap.size := ⟨_, rfl⟩
        obtain ⟨wz20, hwn⟩ : ∃ wz20, wz20 = wz19.alloc (.cells #[.int .i64 0, .int .i64 0, .slice none 0 0, .slice none 0 0, .slice none 0 0] 28) := ⟨_, rfl⟩
        have hal : Below wz19.heap.size wz19 wz20 := by rw [hwn]; exact (Below.refl _ _).alloc (Nat.le_refl _) _
        have KYz20 : Hid (Blk wz20 w11.heap.size #[.int .i64 d4.room, .int .i64 d4.next, .slice xe1 xen1 xec1, .slice xe2 xen2 xec2, .slice xe3 0 xec3] 28) := KYz19.out.on hal KYz19.out.lt
        have VYz20 : Hid (DiskV wz20 w12.heap.size (.agg #[.int .i64 d4.room, .int .i64 d4.next, .slice xe1 xen1 xec1, .slice xe2 xen2 xec2, .slice xe3 0 xec3]) d4) := VYz19.out.on (hal.mono SZz19.out)
        have SZz20 : Hid (w12.heap.size ≤ wz20.heap.size) := Nat.le_trans SZz19.out hal.size
        have Bz20 : Hid (Below w.heap.size w wz20) := Bz19.out.trans (hal.mono Bz19.out.size)
        have Qz20 := Hid.mkD (cellsC5 KYz20.out)
        have KZz20 : Hid (Blk wz20 gz #[.int .i64 0, .int .i64 0, .slice none 0 0, .slice none 0 0, .slice none 0 0] 28) := by unfold Hid; rw [hwn, hgz]; exact Blk.new wz19 _ _
        have HG : Hid (w12.heap.size ≤ gz) := by rw [hgz]; exact SZz19.out
        have VZz20 : Hid (DiskV wz20 gz (.agg #[.int .i64 d4.room, .int .i64 d4.next, .slice xg1 xgn1 xgc1, .slice xg2 xgn2 xgc2, .slice xg3 xgn3 xgc3]) d4) := by unfold Hid; rw [hgz]; exact VZz19.out.on hal
        go_simp
        rw [← hwn, ← hgz]
        refine hK.out _ _ (fun _ _ => Qz20.out) ?_
        clear hK K
        try simp only [Act.put, zQ1, zQ2, zQ3]
        clear hwn hal hgz VZz19
        clear KYz19 VYz19 SZz19 Bz19 Qz19
        obtain ⟨⟨r0, f0⟩, ⟨r1, f1⟩, ⟨r2, f2⟩, ⟨r3, f3⟩, ⟨r4, f4⟩, y0, y1, y2, y3, y4⟩ := resC5 (x0 := .int .i64 d4.room) (x1 := .int .i64 d4.next) (x2 := .slice xg1 xgn1 xgc1) (x3 := .slice xg2 xgn2 xgc2) (x4 := .slice xg3 xgn3 xgc3) KZz20.out
        refine uNe 10 (fun K hK => ?_)
        go_simp
        refine hK.out _ _ (fun h => by cases h) ?_
        clear hK K
        try simp only [Act.put, zQ1, zQ2, zQ3]
        have hbs : Below gz wz20 (((((wz20.setCell ⟨gz, 0, none⟩ (.int .i64 d4.room)).setCell ⟨gz, 1, none⟩ (.int .i64 d4.next)).setCell ⟨gz, 2, none⟩ (.slice xg1 xgn1 xgc1)).setCell ⟨gz, 3, none⟩ (.slice xg2 xgn2 xgc2)).setCell ⟨gz, 4, none⟩ (.slice xg3 xgn3 xgc3)) := belowC5 (Below.refl _ _) (Nat.le_refl _) _ _ _ _ _
        have NE : w11.heap.size ≠ gz := by have := LT12.out; have := HG.out; omega
        have gzl : gz < wz20.heap.size := KZz20.out.lt
        have KZ17 : Hid (Blk (((((wz20.setCell ⟨gz, 0, none⟩ (.int .i64 d4.room)).setCell ⟨gz, 1, none⟩ (.int .i64 d4.next)).setCell ⟨gz, 2, none⟩ (.slice xg1 xgn1 xgc1)).setCell ⟨gz, 3, none⟩ (.slice xg2 xgn2 xgc2)).setCell ⟨gz, 4, none⟩ (.slice xg3 xgn3 xgc3)) gz #[.int .i64 d4.room, .int .i64 d4.next, .slice xg1 xgn1 xgc1, .slice xg2 xgn2 xgc2, .slice xg3 xgn3 xgc3] 28) := blkC5 KZz20.out
        have KY17 : Hid (Blk (((((wz20.setCell ⟨gz, 0, none⟩ (.int .i64 d4.room)).setCell ⟨gz, 1, none⟩ (.int .i64 d4.next)).setCell ⟨gz, 2, none⟩ (.slice xg1 xgn1 xgc1)).setCell ⟨gz, 3, none⟩ (.slice xg2 xgn2 xgc2)).setCell ⟨gz, 4, none⟩ (.slice xg3 xgn3 xgc3)) w11.heap.size #[.int .i64 d4.room, .int .i64 d4.next, .slice xe1 xen1 xec1, .slice xe2 xen2 xec2, .slice xe3 0 xec3] 28) := otherC5 KYz20.out NE _ _ _ _ _
        have VY17 : Hid (DiskV (((((wz20.setCell ⟨gz, 0, none⟩ (.int .i64 d4.room)).setCell ⟨gz, 1, none⟩ (.int .i64 d4.next)).setCell ⟨gz, 2, none⟩ (.slice xg1 xgn1 xgc1)).setCell ⟨gz, 3, none⟩ (.slice xg2 xgn2 xgc2)).setCell ⟨gz, 4, none⟩ (.slice xg3 xgn3 xgc3)) ((((((wz20.setCell ⟨gz, 0, none⟩ (.int .i64 d4.room)).setCell ⟨gz, 1, none⟩ (.int .i64 d4.next)).setCell ⟨gz, 2, none⟩ (.slice xg1 xgn1 xgc1)).setCell ⟨gz, 3, none⟩ (.slice xg2 xgn2 xgc2)).setCell ⟨gz, 4, none⟩ (.slice xg3 xgn3 xgc3))).heap.size (.agg #[.int .i64 d4.room, .int .i64 d4.next, .slice xe1 xen1 xec1, .slice xe2 xen2 xec2, .slice xe3 0 xec3]) d4) := (VYz20.out.on (hbs.mono HG.out)).up (Nat.le_trans SZz20.out hbs.size)
        have VZ17 : Hid (DiskV (((((wz20.setCell ⟨gz, 0, none⟩ (.int .i64 d4.room)).setCell ⟨gz, 1, none⟩ (.int .i64 d4.next)).setCell ⟨gz, 2, none⟩ (.slice xg1 xgn1 xgc1)).setCell ⟨gz, 3, none⟩ (.slice xg2 xgn2 xgc2)).setCell ⟨gz, 4, none⟩ (.slice xg3 xgn3 xgc3)) ((((((wz20.setCell ⟨gz, 0, none⟩ (.int .i64 d4.room)).setCell ⟨gz, 1, none⟩ (.int .i64 d4.next)).setCell ⟨gz, 2, none⟩ (.slice xg1 xgn1 xgc1)).setCell ⟨gz, 3, none⟩ (.slice xg2 xgn2 xgc2)).setCell ⟨gz, 4, none⟩ (.slice xg3 xgn3 xgc3))).heap.size (.agg #[.int .i64 d4.room, .int .i64 d4.next, .slice xg1 xgn1 xgc1, .slice xg2 xgn2 xgc2, .slice xg3 xgn3 xgc3]) d4) := (VZz20.out.on hbs).up (Nat.le_trans (Nat.le_of_lt gzl) hbs.size)
        have B17 : Hid (Below w.heap.size w (((((wz20.setCell ⟨gz, 0, none⟩ (.int .i64 d4.room)).setCell ⟨gz, 1, none⟩ (.int .i64 d4.next)).setCell ⟨gz, 2, none⟩ (.slice xg1 xgn1 xgc1)).setCell ⟨gz, 3, none⟩ (.slice xg2 xgn2 xgc2)).setCell ⟨gz, 4, none⟩ (.slice xg3 xgn3 xgc3))) := Bz20.out.trans (hbs.mono (by have := HG.out; have := HWW.out; omega))
        clear r0 r1 r2 r3 r4 f0 f1 f2 f3 f4 y0 y1 y2 y3 y4 hbs NE gzl VZz20 KYz20 VYz20 SZz20 Bz20 Qz20 KZz20
        generalize ((((wz20.setCell ⟨gz, 0, none⟩ (.int .i64 d4.room)).setCell ⟨gz, 1, none⟩ (.int .i64 d4.next)).setCell ⟨gz, 2, none⟩ (.slice xg1 xgn1 xgc1)).setCell ⟨gz, 3, none⟩ (.slice xg2 xgn2 xgc2)).setCell ⟨gz, 4, none⟩ (.slice xg3 xgn3 xgc3) = w17 at *
        refine until_done (by kernel_rfl) ?_ _
        obtain ⟨e0, e1, e2, e3, e4⟩ := cellsC5 KY17.out
        go_wp2_with fail
        refine (specOkV d4 (.agg #[.int .i64 d4.room, .int .i64 d4.next, .slice xe1 xen1 xec1, .slice xe2 xen2 xec2, .slice xe3 0 xec3]) w17 w17.heap.size VY17.out HM4.out.1 HM4.out.2.2 (Nat.le_refl _)).mono ?_
        rintro e w18 ⟨rfl, hb⟩
        rw [hx4]
        have KY18h : Hid (Blk w18 w11.heap.size #[.int .i64 d4.room, .int .i64 d4.next, .slice xe1 xen1 xec1, .slice xe2 xen2 xec2, .slice xe3 0 xec3] 28) := KY17.out.on hb KY17.out.lt
        have KZ18 := KZ17.out.on hb KZ17.out.lt
        have VY18 : Hid (DiskV w18 w18.heap.size (.agg #[.int .i64 d4.room, .int .i64 d4.next, .slice xe1 xen1 xec1, .slice xe2 xen2 xec2, .slice xe3 0 xec3]) d4) := (VY17.out.on hb).up hb.size
        have VZ18 : Hid (DiskV w18 w18.heap.size (.agg #[.int .i64 d4.room, .int .i64 d4.next, .slice xg1 xgn1 xgc1, .slice xg2 xgn2 xgc2, .slice xg3 xgn3 xgc3]) d4) := (VZ17.out.on hb).up hb.size
        have B18 : Hid (Below w.heap.size w w18) := B17.out.trans (hb.mono B17.out.size)
        clear e0 e1 e2 e3 e4 hb KY17 KZ17 VY17 VZ17 B17
        obtain ⟨e0, e1, e2, e3, e4⟩ := cellsC5 KY18h.out
        obtain ⟨f0, f1, f2, f3, f4⟩ := cellsC5 KZ18
        clear KZ18
        go_wp2_with fail
        refine (sameDiskV d4 (.agg #[.int .i64 d4.room, .int .i64 d4.next, .slice xe1 xen1 xec1, .slice xe2 xen2 xec2, .slice xe3 0 xec3]) (.agg #[.int .i64 d4.room, .int .i64 d4.next, .slice xg1 xgn1 xgc1, .slice xg2 xgn2 xgc2, .slice xg3 xgn3 xgc3]) w18 w18.heap.size VY18.out VZ18.out (Nat.le_refl _) (by have := HR4.out.sz.n; omega) (by have := HR4.out.sz.l; omega) (by have := HR4.out.sz.m; omega)).mono ?_
        rintro e w19 ⟨rfl, hb⟩
        have B19 : Hid (Below w.heap.size w w19) := B18.out.trans (hb.mono B18.out.size)
        have KY19 := KY18h.out.on hb KY18h.out.lt
        clear e0 e1 e2 e3 e4 f0 f1 f2 f3 f4 hb VY18 VZ18 B18
        obtain ⟨e0, e1, e2, e3, e4⟩ := cellsC5 KY19
        go_wp2_with fail
        go_ret
        exact ⟨rfl, B19.out⟩
       ·obtain ⟨gz, hgz⟩ : ∃ gz, gz = wz18.heap.size := ⟨_, rfl⟩
        obtain ⟨wz21, hwn⟩ : ∃ wz21, wz21 = wz18.alloc (.cells #[.int .i64 0, .int .i64 0, .slice none 0 0, .slice none 0 0, .slice none 0 0] 28) := ⟨_, rfl⟩
        have hal : Below wz18.heap.size wz18 wz21 := by rw [hwn]; exact (Below.refl _ _).alloc (Nat.le_refl _) _
        have KYz21 : Hid (Blk wz21 w11.heap.size #[.int .i64 d4.room, .int .i64 d4.next, .slice xe1 xen1 xec1, .slice xe2 xen2 xec2, .slice xe3 0 xec3] 28) := KYz18.out.on hal KYz18.out.lt
        have VYz21 : Hid (DiskV wz21 w12.heap.size (.agg #[.int .i64 d4.room, .int .i64 d4.next, .slice xe1 xen1 xec1, .slice xe2 xen2 xec2, .slice xe3 0 xec3]) d4) := VYz18.out.on (hal.mono SZz18.out)
        have SZz21 : Hid (w12.heap.size ≤ wz21.heap.size) := Nat.le_trans SZz18.out hal.size
        have Bz21 : Hid (Below w.heap.size w wz21) := Bz18.out.trans (hal.mono Bz18.out.size)
        have Qz21 := Hid.mkD (cellsC5 KYz21.out)
        have NUz21 : Hid (NumsV wz21 wz21.heap.size (.slice (some ⟨gu, 0, none⟩) 2 2) [m1, m2]) := (NUz18.out.on hal).mono hal.size
        have KZz21 : Hid (Blk wz21 gz #[.int .i64 0, .int .i64 0, .slice none 0 0, .slice none 0 0, .slice none 0 0] 28) := by unfold Hid; rw [hwn, hgz]; exact Blk.new wz18 _ _
        have HG : Hid (w12.heap.size ≤ gz) := by rw [hgz]; exact SZz18.out
        go_simp
        rw [← hwn, ← hgz]
        refine hK.out _ _ (fun _ _ => Qz21.out) ?_
        clear hK K
        try simp only [Act.put, zQ1, zQ2, zQ3]
        clear hwn hal hgz
        clear KYz18 VYz18 SZz18 Bz18 Qz18 NUz18
        refine uNe 8 (fun K hK => ?_)
        go_simp
        refine (implCrashV d4 (.agg #[.int .i64 d4.room, .int .i64 d4.next, .slice xe1 xen1 xec1, .slice xe2 xen2 xec2, .slice xe3 0 xec3]) k2 [m1, m2] (.slice (some ⟨gu, 0, none⟩) 2 2) wz21 wz21.heap.size (VYz21.out.up SZz21.out) NUz21.out (by simp) HM4.out.1 HM4.out.2.1 HM4.out.2.2 (Nat.le_refl _)).mono ?_
        rintro e wz22 ⟨v, rfl, hO, hb⟩
        rw [crashR_yes hx4, HTW.out] at hO
        have KYz22 : Hid (Blk wz22 w11.heap.size #[.int .i64 d4.room, .int .i64 d4.next, .slice xe1 xen1 xec1, .slice xe2 xen2 xec2, .slice xe3 0 xec3] 28) := KYz21.out.on hb KYz21.out.lt
        have VYz22 : Hid (DiskV wz22 w12.heap.size (.agg #[.int .i64 d4.room, .int .i64 d4.next, .slice xe1 xen1 xec1, .slice xe2 xen2 xec2, .slice xe3 0 xec3]) d4) := VYz21.out.on (hb.mono SZz21.out)
        have SZz22 : Hid (w12.heap.size ≤ wz22.heap.size) := Nat.le_trans SZz21.out hb.size
        have Bz22 : Hid (Below w.heap.size w wz22) := Bz21.out.trans (hb.mono Bz21.out.size)
        have Qz22 := Hid.mkD (cellsC5 KYz22.out)
        have KZz22 : Hid (Blk wz22 gz #[.int .i64 0, .int .i64 0, .slice none 0 0, .slice none 0 0, .slice none 0 0] 28) := KZz21.out.on hb KZz21.out.lt
        refine hK.out _ _ (fun _ _ => Qz22.out) ?_
        clear hK K
        try simp only [Act.put, zQ1, zQ2, zQ3]
        have HGC : Hid (gz < wz21.heap.size) := KZz21.out.lt
        obtain ⟨v1, v2, v3, rfl, h1, h2, h3⟩ := hO
        obtain ⟨xg1, xgn1, xgc1, rfl⟩ := h1.shape
        obtain ⟨xg2, xgn2, xgc2, rfl⟩ := h2.shape
        obtain ⟨xg3, xgn3, xgc3, rfl⟩ := h3.shape
        have OZ : Hid (DiskO wz22 wz21.heap.size (.agg #[.int .i64 d4.room, .int .i64 d4.next, .slice xg1 xgn1 xgc1, .slice xg2 xgn2 xgc2, .slice xg3 xgn3 xgc3]) d4) := ⟨_, _, _, rfl, h1, h2, h3⟩
        clear hb h1 h2 h3
        clear KYz21 VYz21 SZz21 Bz21 Qz21 KZz21 NUz21
        obtain ⟨⟨r0, f0⟩, ⟨r1, f1⟩, ⟨r2, f2⟩, ⟨r3, f3⟩, ⟨r4, f4⟩, y0, y1, y2, y3, y4⟩ := resC5 (x0 := .int .i64 d4.room) (x1 := .int .i64 d4.next) (x2 := .slice xg1 xgn1 xgc1) (x3 := .slice xg2 xgn2 xgc2) (x4 := .slice xg3 xgn3 xgc3) KZz22.out
        refine uNe 10 (fun K hK => ?_)
        go_simp
        refine hK.out _ _ (fun h => by cases h) ?_
        clear hK K
        try simp only [Act.put, zQ1, zQ2, zQ3]
        have hbs : Below gz wz22 (((((wz22.setCell ⟨gz, 0, none⟩ (.int .i64 d4.room)).setCell ⟨gz, 1, none⟩ (.int .i64 d4.next)).setCell ⟨gz, 2, none⟩ (.slice xg1 xgn1 xgc1)).setCell ⟨gz, 3, none⟩ (.slice xg2 xgn2 xgc2)).setCell ⟨gz, 4, none⟩ (.slice xg3 xgn3 xgc3)) := belowC5 (Below.refl _ _) (Nat.le_refl _) _ _ _ _ _
        have NE : w11.heap.size ≠ gz := by have := LT12.out; have := HG.out; omega
        have gzl : gz < wz22.heap.size := KZz22.out.lt
        have KZ17 : Hid (Blk (((((wz22.setCell ⟨gz, 0, none⟩ (.int .i64 d4.room)).setCell ⟨gz, 1, none⟩ (.int .i64 d4.next)).setCell ⟨gz, 2, none⟩ (.slice xg1 xgn1 xgc1)).setCell ⟨gz, 3, none⟩ (.slice xg2 xgn2 xgc2)).setCell ⟨gz, 4, none⟩ (.slice xg3 xgn3 xgc3)) gz #[.int .i64 d4.room, .int .i64 d4.next, .slice xg1 xgn1 xgc1, .slice xg2 xgn2 xgc2, .slice xg3 xgn3 xgc3] 28) := blkC5 KZz22.out
        have KY17 : Hid (Blk (((((wz22.setCell ⟨gz, 0, none⟩ (.int .i64 d4.room)).setCell ⟨gz, 1, none⟩ (.int .i64 d4.next)).setCell ⟨gz, 2, none⟩ (.slice xg1 xgn1 xgc1)).setCell ⟨gz, 3, none⟩ (.slice xg2 xgn2 xgc2)).setCell ⟨gz, 4, none⟩ (.slice xg3 xgn3 xgc3)) w11.heap.size #[.int .i64 d4.room, .int .i64 d4.next, .slice xe1 xen1 xec1, .slice xe2 xen2 xec2, .slice xe3 0 xec3] 28) := otherC5 KYz22.out NE _ _ _ _ _
        have VY17 : Hid (DiskV (((((wz22.setCell ⟨gz, 0, none⟩ (.int .i64 d4.room)).setCell ⟨gz, 1, none⟩ (.int .i64 d4.next)).setCell ⟨gz, 2, none⟩ (.slice xg1 xgn1 xgc1)).setCell ⟨gz, 3, none⟩ (.slice xg2 xgn2 xgc2)).setCell ⟨gz, 4, none⟩ (.slice xg3 xgn3 xgc3)) ((((((wz22.setCell ⟨gz, 0, none⟩ (.int .i64 d4.room)).setCell ⟨gz, 1, none⟩ (.int .i64 d4.next)).setCell ⟨gz, 2, none⟩ (.slice xg1 xgn1 xgc1)).setCell ⟨gz, 3, none⟩ (.slice xg2 xgn2 xgc2)).setCell ⟨gz, 4, none⟩ (.slice xg3 xgn3 xgc3))).heap.size (.agg #[.int .i64 d4.room, .int .i64 d4.next, .slice xe1 xen1 xec1, .slice xe2 xen2 xec2, .slice xe3 0 xec3]) d4) := (VYz22.out.on (hbs.mono HG.out)).up (Nat.le_trans SZz22.out hbs.size)
        have VZ17 : Hid (DiskV (((((wz22.setCell ⟨gz, 0, none⟩ (.int .i64 d4.room)).setCell ⟨gz, 1, none⟩ (.int .i64 d4.next)).setCell ⟨gz, 2, none⟩ (.slice xg1 xgn1 xgc1)).setCell ⟨gz, 3, none⟩ (.slice xg2 xgn2 xgc2)).setCell ⟨gz, 4, none⟩ (.slice xg3 xgn3 xgc3)) ((((((wz22.setCell ⟨gz, 0, none⟩ (.int .i64 d4.room)).setCell ⟨gz, 1, none⟩ (.int .i64 d4.next)).setCell ⟨gz, 2, none⟩ (.slice xg1 xgn1 xgc1)).setCell ⟨gz, 3, none⟩ (.slice xg2 xgn2 xgc2)).setCell ⟨gz, 4, none⟩ (.slice xg3 xgn3 xgc3))).heap.size (.agg #[.int .i64 d4.room, .int .i64 d4.next, .slice xg1 xgn1 xgc1, .slice xg2 xgn2 xgc2, .slice xg3 xgn3 xgc3]) d4) := (OZ.out.set5 HGC.out _ _ _ _ _).look
        have B17 : Hid (Below w.heap.size w (((((wz22.setCell ⟨gz, 0, none⟩ (.int .i64 d4.room)).setCell ⟨gz, 1, none⟩ (.int .i64 d4.next)).setCell ⟨gz, 2, none⟩ (.slice xg1 xgn1 xgc1)).setCell ⟨gz, 3, none⟩ (.slice xg2 xgn2 xgc2)).setCell ⟨gz, 4, none⟩ (.slice xg3 xgn3 xgc3))) := Bz22.out.trans (hbs.mono (by have := HG.out; have := HWW.out; omega))
        clear r0 r1 r2 r3 r4 f0 f1 f2 f3 f4 y0 y1 y2 y3 y4 hbs NE gzl OZ HGC KYz22 VYz22 SZz22 Bz22 Qz22 KZz22
        generalize ((((wz22.setCell ⟨gz, 0, none⟩ (.int .i64 d4.room)).setCell ⟨gz, 1, none⟩ (.int .i64 d4.next)).setCell ⟨gz, 2, none⟩ (.slice xg1 xgn1 xgc1)).setCell ⟨gz, 3, none⟩ (.slice xg2 xgn2 xgc2)).setCell ⟨gz, 4, none⟩ (.slice xg3 xgn3 xgc3) = w17 at *
        refine until_done (by kernel_rfl) ?_ _
        obtain ⟨e0, e1, e2, e3, e4⟩ := cellsC5 KY17.out
        go_wp2_with fail
        refine (specOkV d4 (.agg #[.int .i64 d4.room, .int .i64 d4.next, .slice xe1 xen1 xec1, .slice xe2 xen2 xec2, .slice xe3 0 xec3]) w17 w17.heap.size VY17.out HM4.out.1 HM4.out.2.2 (Nat.le_refl _)).mono ?_
        rintro e w18 ⟨rfl, hb⟩
        rw [hx4]
        have KY18h : Hid (Blk w18 w11.heap.size #[.int .i64 d4.room, .int .i64 d4.next, .slice xe1 xen1 xec1, .slice xe2 xen2 xec2, .slice xe3 0 xec3] 28) := KY17.out.on hb KY17.out.lt
        have KZ18 := KZ17.out.on hb KZ17.out.lt
        have VY18 : Hid (DiskV w18 w18.heap.size (.agg #[.int .i64 d4.room, .int .i64 d4.next, .slice xe1 xen1 xec1, .slice xe2 xen2 xec2, .slice xe3 0 xec3]) d4) := (VY17.out.on hb).up hb.size
        have VZ18 : Hid (DiskV w18 w18.heap.size (.agg #[.int .i64 d4.room, .int .i64 d4.next, .slice xg1 xgn1 xgc1, .slice xg2 xgn2 xgc2, .slice xg3 xgn3 xgc3]) d4) := (VZ17.out.on hb).up hb.size
        have B18 : Hid (Below w.heap.size w w18) := B17.out.trans (hb.mono B17.out.size)
        clear e0 e1 e2 e3 e4 hb KY17 KZ17 VY17 VZ17 B17
        obtain ⟨e0, e1, e2, e3, e4⟩ := cellsC5 KY18h.out
        obtain ⟨f0, f1, f2, f3, f4⟩ := cellsC5 KZ18
        clear KZ18
        go_wp2_with fail
        refine (sameDiskV d4 (.agg #[.int .i64 d4.room, .int .i64 d4.next, .slice xe1 xen1 xec1, .slice xe2 xen2 xec2, .slice xe3 0 xec3]) (.agg #[.int .i64 d4.room, .int .i64 d4.next, .slice xg1 xgn1 xgc1, .slice xg2 xgn2 xgc2, .slice xg3 xgn3 xgc3]) w18 w18.heap.size VY18.out VZ18.out (Nat.le_refl _) (by have := HR4.out.sz.n; omega) (by have := HR4.out.sz.l; omega) (by have := HR4.out.sz.m; omega)).mono ?_
        rintro e w19 ⟨rfl, hb⟩
        have B19 : Hid (Below w.heap.size w w19) := B18.out.trans (hb.mono B18.out.size)
        have KY19 := KY18h.out.on hb KY18h.out.lt
        clear e0 e1 e2 e3 e4 f0 f1 f2 f3 f4 hb VY18 VZ18 B18
        obtain ⟨e0, e1, e2, e3, e4⟩ := cellsC5 KY19
        go_wp2_with fail
        go_ret
        exact ⟨rfl, B19.out⟩
      ·obtain ⟨gz, hgz⟩ : ∃ gz, gz = wa.heap.size := ⟨_, rfl⟩
       obtain ⟨wz23, hwn⟩ : ∃ wz23, wz23 = wa.alloc (.cells #[.int .i64 0, .int .i64 0, .slice none 0 0, .slice none 0 0, .slice none 0 0] 28) := ⟨_, rfl⟩
       have hal : Below wa.heap.size wa wz23 := by rw [hwn]; exact (Below.refl _ _).alloc (Nat.le_refl _) _
       have KYz23 : Hid (Blk wz23 w11.heap.size #[.int .i64 d4.room, .int .i64 d4.next, .slice xe1 xen1 xec1, .slice xe2 xen2 xec2, .slice xe3 0 xec3] 28) := KYa.out.on hal KYa.out.lt
       have VYz23 : Hid (DiskV wz23 w12.heap.size (.agg #[.int .i64 d4.room, .int .i64 d4.next, .slice xe1 xen1 xec1, .slice xe2 xen2 xec2, .slice xe3 0 xec3]) d4) := VYa.out.on (hal.mono SZa.out)
       have SZz23 : Hid (w12.heap.size ≤ wz23.heap.size) := Nat.le_trans SZa.out hal.size
       have Bz23 : Hid (Below w.heap.size w wz23) := Ba.out.trans (hal.mono Ba.out.size)
       have Qz23 := Hid.mkD (cellsC5 KYz23.out)
       have KZz23 : Hid (Blk wz23 gz #[.int .i64 0, .int .i64 0, .slice none 0 0, .slice none 0 0, .slice none 0 0] 28) := by unfold Hid; rw [hwn, hgz]; exact Blk.new wa _ _
       have HG : Hid (w12.heap.size ≤ gz) := by rw [hgz]; exact SZa.out
       go_simp
       rw [← hwn, ← hgz]
       refine hK.out _ _ (fun _ _ => Qz23.out) ?_
       clear hK K
       try simp only [Act.put, zQ1, zQ2, zQ3]
       clear hwn hal hgz
       clear KYa VYa SZa Ba Qa
       refine uNe 7 (fun K hK => ?_)
       obtain ⟨gu, hgu⟩ : ∃ gu, gu = wz23.heap.size := ⟨_, rfl⟩
       obtain ⟨wz24, hwn⟩ : ∃ wz24, wz24 = wz23.alloc (.cells #[.int .i64 m1, .int .i64 m2] 3) := ⟨_, rfl⟩
       have hal : Below wz23.heap.size wz23 wz24 := by rw [hwn]; exact (Below.refl _ _).alloc (Nat.le_refl _) _
       have NUz24 : Hid (NumsV wz24 wz24.heap.size (.slice (some ⟨gu, 0, none⟩) 2 2) [m1, m2]) := by unfold Hid; rw [hwn, hgu]; exact numsTwo wz23 m1 m2
       have KYz24 : Hid (Blk wz24 w11.heap.size #[.int .i64 d4.room, .int .i64 d4.next, .slice xe1 xen1 xec1, .slice xe2 xen2 xec2, .slice xe3 0 xec3] 28) := KYz23.out.on hal KYz23.out.lt
       have VYz24 : Hid (DiskV wz24 w12.heap.size (.agg #[.int .i64 d4.room, .int .i64 d4.next, .slice xe1 xen1 xec1, .slice xe2 xen2 xec2, .slice xe3 0 xec3]) d4) := VYz23.out.on (hal.mono SZz23.out)
       have SZz24 : Hid (w12.heap.size ≤ wz24.heap.size) := Nat.le_trans SZz23.out hal.size
       have Bz24 : Hid (Below w.heap.size w wz24) := Bz23.out.trans (hal.mono Bz23.out.size)
       have Qz24 := Hid.mkD (cellsC5 KYz24.out)
       have KZz24 : Hid (Blk wz24 gz #[.int .i64 0, .int .i64 0, .slice none 0 0, .slice none 0 0, .slice none 0 0] 28) := KZz23.out.on hal KZz23.out.lt
       go_simp
       rw [← hwn, ← hgu]
       refine hK.out _ _ (fun _ _ => Qz24.out) ?_
       clear hK K
       try simp only [Act.put, zQ1, zQ2, zQ3]
       clear hwn hal hgu
       clear KYz23 VYz23 SZz23 Bz23 Qz23 KZz23
       refine uNe 8 (fun K hK => ?_)
       go_simp
       refine (implCrashV d4 (.agg #[.int .i64 d4.room, .int .i64 d4.next, .slice xe1 xen1 xec1, .slice xe2 xen2 xec2, .slice xe3 0 xec3]) k2 [m1, m2] (.slice (some ⟨gu, 0, none⟩) 2 2) wz24 wz24.heap.size (VYz24.out.up SZz24.out) NUz24.out (by simp) HM4.out.1 HM4.out.2.1 HM4.out.2.2 (Nat.le_refl _)).mono ?_
       rintro e wz25 ⟨v, rfl, hO, hb⟩
       rw [crashR_yes hx4, HTW.out] at hO
       have KYz25 : Hid (Blk wz25 w11.heap.size #[.int .i64 d4.room, .int .i64 d4.next, .slice xe1 xen1 xec1, .slice xe2 xen2 xec2, .slice xe3 0 xec3] 28) := KYz24.out.on hb KYz24.out.lt
       have VYz25 : Hid (DiskV wz25 w12.heap.size (.agg #[.int .i64 d4.room, .int .i64 d4.next, .slice xe1 xen1 xec1, .slice xe2 xen2 xec2, .slice xe3 0 xec3]) d4) := VYz24.out.on (hb.mono SZz24.out)
       have SZz25 : Hid (w12.heap.size ≤ wz25.heap.size) := Nat.le_trans SZz24.out hb.size
       have Bz25 : Hid (Below w.heap.size w wz25) := Bz24.out.trans (hb.mono Bz24.out.size)
       have Qz25 := Hid.mkD (cellsC5 KYz25.out)
       have KZz25 : Hid (Blk wz25 gz #[.int .i64 0, .int .i64 0, .slice none 0 0, .slice none 0 0, .slice none 0 0] 28) := KZz24.out.on hb KZz24.out.lt
       refine hK.out _ _ (fun _ _ => Qz25.out) ?_
       clear hK K
       try simp only [Act.put, zQ1, zQ2, zQ3]
       have HGC : Hid (gz < wz24.heap.size) := KZz24.out.lt
       obtain ⟨v1, v2, v3, rfl, h1, h2, h3⟩ := hO
       obtain ⟨xg1, xgn1, xgc1, rfl⟩ := h1.shape
       obtain ⟨xg2, xgn2, xgc2, rfl⟩ := h2.shape
       obtain ⟨xg3, xgn3, xgc3, rfl⟩ := h3.shape
       have OZ : Hid (DiskO wz25 wz24.heap.size (.agg #[.int .i64 d4.room, .int .i64 d4.next, .slice xg1 xgn1 xgc1, .slice xg2 xgn2 xgc2, .slice xg3 xgn3 xgc3]) d4) := ⟨_, _, _, rfl, h1, h2, h3⟩
       clear hb h1 h2 h3
       clear KYz24 VYz24 SZz24 Bz24 Qz24 KZz24 NUz24
       obtain ⟨⟨r0, f0⟩, ⟨r1, f1⟩, ⟨r2, f2⟩, ⟨r3, f3⟩, ⟨r4, f4⟩, y0, y1, y2, y3, y4⟩ := resC5 (x0 := .int .i64 d4.room) (x1 := .int .i64 d4.next) (x2 := .slice xg1 xgn1 xgc1) (x3 := .slice xg2 xgn2 xgc2) (x4 := .slice xg3 xgn3 xgc3) KZz25.out
       refine uNe 10 (fun K hK => ?_)
       go_simp
       refine hK.out _ _ (fun h => by cases h) ?_
       clear hK K
       try simp only [Act.put, zQ1, zQ2, zQ3]
       have hbs : Below gz wz25 (((((wz25.setCell ⟨gz, 0, none⟩ (.int .i64 d4.room)).setCell ⟨gz, 1, none⟩ (.int .i64 d4.next)).setCell ⟨gz, 2, none⟩ (.slice xg1 xgn1 xgc1)).setCell ⟨gz, 3, none⟩ (.slice xg2 xgn2 xgc2)).setCell ⟨gz, 4, none⟩ (.slice xg3 xgn3 xgc3)) := belowC5 (Below.refl _ _) (Nat.le_refl _) _ _ _ _ _
       have NE : w11.heap.size ≠ gz := by have := LT12.out; have := HG.out; omega
       have gzl : gz < wz25.heap.size := KZz25.out.lt
       have KZ17 : Hid (Blk (((((wz25.setCell ⟨gz, 0, none⟩ (.int .i64 d4.room)).setCell ⟨gz, 1, none⟩ (.int .i64 d4.next)).setCell ⟨gz, 2, none⟩ (.slice xg1 xgn1 xgc1)).setCell ⟨gz, 3, none⟩ (.slice xg2 xgn2 xgc2)).setCell ⟨gz, 4, none⟩ (.slice xg3 xgn3 xgc3)) gz #[.int .i64 d4.room, .int .i64 d4.next, .slice xg1 xgn1 xgc1, .slice xg2 xgn2 xgc2, .slice xg3 xgn3 xgc3] 28) := blkC5 KZz25.out
       have KY17 : Hid (Blk (((((wz25.setCell ⟨gz, 0, none⟩ (.int .i64 d4.room)).setCell ⟨gz, 1, none⟩ (.int .i64 d4.next)).setCell ⟨gz, 2, none⟩ (.slice xg1 xgn1 xgc1)).setCell ⟨gz, 3, none⟩ (.slice xg2 xgn2 xgc2)).setCell ⟨gz, 4, none⟩ (.slice xg3 xgn3 xgc3)) w11.heap.size #[.int .i64 d4.room, .int .i64 d4.next, .slice xe1 xen1 xec1, .slice xe2 xen2 xec2, .slice xe3 0 xec3] 28) := otherC5 KYz25.out NE _ _ _ _ _
       have VY17 : Hid (DiskV (((((wz25.setCell ⟨gz, 0, none⟩ (.int .i64 d4.room)).setCell ⟨gz, 1, none⟩ (.int .i64 d4.next)).setCell ⟨gz, 2, none⟩ (.slice xg1 xgn1 xgc1)).setCell ⟨gz, 3, none⟩ (.slice xg2 xgn2 xgc2)).setCell ⟨gz, 4, none⟩ (.slice xg3 xgn3 xgc3)) ((((((wz25.setCell ⟨gz, 0, none⟩ (.int .i64 d4.room)).setCell ⟨gz, 1, none⟩ (.int .i64 d4.next)).setCell ⟨gz, 2, none⟩ (.slice xg1 xgn1 xgc1)).setCell ⟨gz, 3, none⟩ (.slice xg2 xgn2 xgc2)).setCell ⟨gz, 4, none⟩ (.slice xg3 xgn3 xgc3))).heap.size (.agg #[.int .i64 d4.room, .int .i64 d4.next, .slice xe1 xen1 xec1, .slice xe2 xen2 xec2, .slice xe3 0 xec3]) d4) := (VYz25.out.on (hbs.mono HG.out)).up (Nat.le_trans SZz25.out hbs.size)
       have VZ17 : Hid (DiskV (((((wz25.setCell ⟨gz, 0, none⟩ (.int .i64 d4.room)).setCell ⟨gz, 1, none⟩ (.int .i64 d4.next)).setCell ⟨gz, 2, none⟩ (.slice xg1 xgn1 xgc1)).setCell ⟨gz, 3, none⟩ (.slice xg2 xgn2 xgc2)).setCell ⟨gz, 4, none⟩ (.slice xg3 xgn3 xgc3)) ((((((wz25.setCell ⟨gz, 0, none⟩ (.int .i64 d4.room)).setCell ⟨gz, 1, none⟩ (.int .i64 d4.next)).setCell ⟨gz, 2, none⟩ (.slice xg1 xgn1 xgc1)).setCell ⟨gz, 3, none⟩ (.slice xg2 xgn2 xgc2)).setCell ⟨gz, 4, none⟩ (.slice xg3 xgn3 xgc3))).heap.size (.agg #[.int .i64 d4.room, .int .i64 d4.next, .slice xg1 xgn1 xgc1, .slice xg2 xgn2 xgc2, .slice xg3 xgn3 xgc3]) d4) := (OZ.out.set5 HGC.out _ _ _ _ _).look
       have B17 : Hid (Below w.heap.size w (((((wz25.setCell ⟨gz, 0, none⟩ (.int .i64 d4.room)).setCell ⟨gz, 1, none⟩ (.int .i64 d4.next)).setCell ⟨gz, 2, none⟩ (.slice xg1 xgn1 xgc1)).setCell ⟨gz, 3, none⟩ (.slice xg2 xgn2 xgc2)).setCell ⟨gz, 4, none⟩ (.slice xg3 xgn3 xgc3))) := Bz25.out.trans (hbs.mono (by have := HG.out; have := HWW.out; omega))
       clear r0 r1 r2 r3 r4 f0 f1 f2 f3 f4 y0 y1 y2 y3 y4 hbs NE gzl OZ HGC KYz25 VYz25 SZz25 Bz25 Qz25 KZz25
       generalize ((((wz25.setCell ⟨gz, 0, none⟩ (.int .i64 d4.room)).setCell ⟨gz, 1, none⟩ (.int .i64 d4.next)).setCell ⟨gz, 2, none⟩ (.slice xg1 xgn1 xgc1)).setCell ⟨gz, 3, none⟩ (.slice xg2 xgn2 xgc2)).setCell ⟨gz, 4, none⟩ (.slice xg3 xgn3 xgc3) = w17 at *
       refine until_done (by kernel_rfl) ?_ _
       obtain ⟨e0, e1, e2, e3, e4⟩ := cellsC5 KY17.out
       go_wp2_with fail
       refine (specOkV d4 (.agg #[.int .i64 d4.room, .int .i64 d4.next, .slice xe1 xen1 xec1, .slice xe2 xen2 xec2, .slice xe3 0 xec3]) w17 w17.heap.size VY17.out HM4.out.1 HM4.out.2.2 (Nat.le_refl _)).mono ?_
       rintro e w18 ⟨rfl, hb⟩
       rw [hx4]
       have KY18h : Hid (Blk w18 w11.heap.size #[.int .i64 d4.room, .int .i64 d4.next, .slice xe1 xen1 xec1, .slice xe2 xen2 xec2, .slice xe3 0 xec3] 28) := KY17.out.on hb KY17.out.lt
       have KZ18 := KZ17.out.on hb KZ17.out.lt
       have VY18 : Hid (DiskV w18 w18.heap.size (.agg #[.int .i64 d4.room, .int .i64 d4.next, .slice xe1 xen1 xec1, .slice xe2 xen2 xec2, .slice xe3 0 xec3]) d4) := (VY17.out.on hb).up hb.size
       have VZ18 : Hid (DiskV w18 w18.heap.size (.agg #[.int .i64 d4.room, .int .i64 d4.next, .slice xg1 xgn1 xgc1, .slice xg2 xgn2 xgc2, .slice xg3 xgn3 xgc3]) d4) := (VZ17.out.on hb).up hb.size
       have B18 : Hid (Below w.heap.size w w18) := B17.out.trans (hb.mono B17.out.size)
       clear e0 e1 e2 e3 e4 hb KY17 KZ17 VY17 VZ17 B17
       obtain ⟨e0, e1, e2, e3, e4⟩ := cellsC5 KY18h.out
       obtain ⟨f0, f1, f2, f3, f4⟩ := cellsC5 KZ18
       clear KZ18
       go_wp2_with fail
       refine (sameDiskV d4 (.agg #[.int .i64 d4.room, .int .i64 d4.next, .slice xe1 xen1 xec1, .slice xe2 xen2 xec2, .slice xe3 0 xec3]) (.agg #[.int .i64 d4.room, .int .i64 d4.next, .slice xg1 xgn1 xgc1, .slice xg2 xgn2 xgc2, .slice xg3 xgn3 xgc3]) w18 w18.heap.size VY18.out VZ18.out (Nat.le_refl _) (by have := HR4.out.sz.n; omega) (by have := HR4.out.sz.l; omega) (by have := HR4.out.sz.m; omega)).mono ?_
       rintro e w19 ⟨rfl, hb⟩
       have B19 : Hid (Below w.heap.size w w19) := B18.out.trans (hb.mono B18.out.size)
       have KY19 := KY18h.out.on hb KY18h.out.lt
       clear e0 e1 e2 e3 e4 f0 f1 f2 f3 f4 hb VY18 VZ18 B18
       obtain ⟨e0, e1, e2, e3, e4⟩ := cellsC5 KY19
       go_wp2_with fail
       go_ret
       exact ⟨rfl, B19.out⟩
     ·obtain ⟨gz, hgz⟩ : ∃ gz, gz = wa.heap.size := ⟨_, rfl⟩
      obtain ⟨wz26, hwn⟩ : ∃ wz26, wz26 = wa.alloc (.cells #[.int .i64 0, .int .i64 0, .slice none 0 0, .slice none 0 0, .slice none 0 0] 28) := ⟨_, rfl⟩
      have hal : Below wa.heap.size wa wz26 := by rw [hwn]; exact (Below.refl _ _).alloc (Nat.le_refl _) _
      have KYz26 : Hid (Blk wz26 w11.heap.size #[.int .i64 d4.room, .int .i64 d4.next, .slice xe1 xen1 xec1, .slice xe2 xen2 xec2, .slice xe3 0 xec3] 28) := KYa.out.on hal KYa.out.lt
      have VYz26 : Hid (DiskV wz26 w12.heap.size (.agg #[.int .i64 d4.room, .int .i64 d4.next, .slice xe1 xen1 xec1, .slice xe2 xen2 xec2, .slice xe3 0 xec3]) d4) := VYa.out.on (hal.mono SZa.out)
      have SZz26 : Hid (w12.heap.size ≤ wz26.heap.size) := Nat.le_trans SZa.out hal.size
      have Bz26 : Hid (Below w.heap.size w wz26) := Ba.out.trans (hal.mono Ba.out.size)
      have Qz26 := Hid.mkD (cellsC5 KYz26.out)
      have KZz26 : Hid (Blk wz26 gz #[.int .i64 0, .int .i64 0, .slice none 0 0, .slice none 0 0, .slice none 0 0] 28) := by unfold Hid; rw [hwn, hgz]; exact Blk.new wa _ _
      have HG : Hid (w12.heap.size ≤ gz) := by rw [hgz]; exact SZa.out
      go_simp
      rw [← hwn, ← hgz]
      refine hK.out _ _ (fun _ _ => Qz26.out) ?_
      clear hK K
      try simp only [Act.put, zQ1, zQ2, zQ3]
      clear hwn hal hgz
      clear KYa VYa SZa Ba Qa
      refine uNe 6 (fun K hK => ?_)
      go_simp
      refine (at_any wz26 ao len cap cs 3 HL.out (by omega) (HC.out.on Bz26.out)).mono ?_
      rintro e w' ⟨rfl, rfl⟩
      refine hK.out _ _ (fun _ h => h) ?_
      clear hK K
      try simp only [Act.put, zQ1, zQ2, zQ3]
      generalize hk9 : ((atV len cs 3 : Nat) : Int) = m2 at *
      clear hk9
      refine uNe 7 (fun K hK => ?_)
      obtain ⟨gu, hgu⟩ : ∃ gu, gu = wz26.heap.size := ⟨_, rfl⟩
      obtain ⟨wz27, hwn⟩ : ∃ wz27, wz27 = wz26.alloc (.cells #[.int .i64 m1, .int .i64 m2] 3) := ⟨_, rfl⟩
      have hal : Below wz26.heap.size wz26 wz27 := by rw [hwn]; exact (Below.refl _ _).alloc (Nat.le_refl _) _
      have NUz27 : Hid (NumsV wz27 wz27.heap.size (.slice (some ⟨gu, 0, none⟩) 2 2) [m1, m2]) := by unfold Hid; rw [hwn, hgu]; exact numsTwo wz26 m1 m2
      have KYz27 : Hid (Blk wz27 w11.heap.size #[.int .i64 d4.room, .int .i64 d4.next, .slice xe1 xen1 xec1, .slice xe2 xen2 xec2, .slice xe3 0 xec3] 28) := KYz26.out.on hal KYz26.out.lt
      have VYz27 : Hid (DiskV wz27 w12.heap.size (.agg #[.int .i64 d4.room, .int .i64 d4.next, .slice xe1 xen1 xec1, .slice xe2 xen2 xec2, .slice xe3 0 xec3]) d4) := VYz26.out.on (hal.mono SZz26.out)
      have SZz27 : Hid (w12.heap.size ≤ wz27.heap.size) := Nat.le_trans SZz26.out hal.size
      have Bz27 : Hid (Below w.heap.size w wz27) := Bz26.out.trans (hal.mono Bz26.out.size)
      have Qz27 := Hid.mkD (cellsC5 KYz27.out)
      have KZz27 : Hid (Blk wz27 gz #[.int .i64 0, .int .i64 0, .slice none 0 0, .slice none 0 0, .slice none 0 0] 28) := KZz26.out.on hal KZz26.out.lt
      go_simp
      rw [← hwn, ← hgu]
      refine hK.out _ _ (fun _ _ => Qz27.out) ?_
      clear hK K
      try simp only [Act.put, zQ1, zQ2, zQ3]
      clear hwn hal hgu
      clear KYz26 VYz26 SZz26 Bz26 Qz26 KZz26
      refine uNe 8 (fun K hK => ?_)
      go_simp
      refine (implCrashV d4 (.agg #[.int .i64 d4.room, .int .i64 d4.next, .slice xe1 xen1 xec1, .slice xe2 xen2 xec2, .slice xe3 0 xec3]) k2 [m1, m2] (.slice (some ⟨gu, 0, none⟩) 2 2) wz27 wz27.heap.size (VYz27.out.up SZz27.out) NUz27.out (by simp) HM4.out.1 HM4.out.2.1 HM4.out.2.2 (Nat.le_refl _)).mono ?_
      rintro e wz28 ⟨v, rfl, hO, hb⟩
      rw [crashR_yes hx4, HTW.out] at hO
      have KYz28 : Hid (Blk wz28 w11.heap.size #[.int .i64 d4.room, .int .i64 d4.next, .slice xe1 xen1 xec1, .slice xe2 xen2 xec2, .slice xe3 0 xec3] 28) := KYz27.out.on hb KYz27.out.lt
      have VYz28 : Hid (DiskV wz28 w12.heap.size (.agg #[.int .i64 d4.room, .int .i64 d4.next, .slice xe1 xen1 xec1, .slice xe2 xen2 xec2, .slice xe3 0 xec3]) d4) := VYz27.out.on (hb.mono SZz27.out)
      have SZz28 : Hid (w12.heap.size ≤ wz28.heap.size) := Nat.le_trans SZz27.out hb.size
      have Bz28 : Hid (Below w.heap.size w wz28) := Bz27.out.trans (hb.mono Bz27.out.size)
      have Qz28 := Hid.mkD (cellsC5 KYz28.out)
      have KZz28 : Hid (Blk wz28 gz #[.int .i64 0, .int .i64 0, .slice none 0 0, .slice none 0 0, .slice none 0 0] 28) := KZz27.out.on hb KZz27.out.lt
      refine hK.out _ _ (fun _ _ => Qz28.out) ?_
      clear hK K
      try simp only [Act.put, zQ1, zQ2, zQ3]
      have HGC : Hid (gz < wz27.heap.size) := KZz27.out.lt
      obtain ⟨v1, v2, v3, rfl, h1, h2, h3⟩ := hO
      obtain ⟨xg1, xgn1, xgc1, rfl⟩ := h1.shape
      obtain ⟨xg2, xgn2, xgc2, rfl⟩ := h2.shape
      obtain ⟨xg3, xgn3, xgc3, rfl⟩ := h3.shape
      have OZ : Hid (DiskO wz28 wz27.heap.size (.agg #[.int .i64 d4.room, .int .i64 d4.next, .slice xg1 xgn1 xgc1, .slice xg2 xgn2 xgc2, .slice xg3 xgn3 xgc3]) d4) := ⟨_, _, _, rfl, h1, h2, h3⟩
      clear hb h1 h2 h3
      clear KYz27 VYz27 SZz27 Bz27 Qz27 KZz27 NUz27
      obtain ⟨⟨r0, f0⟩, ⟨r1, f1⟩, ⟨r2, f2⟩, ⟨r3, f3⟩, ⟨r4, f4⟩, y0, y1, y2, y3, y4⟩ := resC5 (x0 := .int .i64 d4.room) (x1 := .int .i64 d4.next) (x2 := .slice xg1 xgn1 xgc1) (x3 := .slice xg2 xgn2 xgc2) (x4 := .slice xg3 xgn3 xgc3) KZz28.out
      refine uNe 10 (fun K hK => ?_)
      go_simp
      refine hK.out _ _ (fun h => by cases h) ?_
      clear hK K
      try simp only [Act.put, zQ1, zQ2, zQ3]
      have hbs : Below gz wz28 (((((wz28.setCell ⟨gz, 0, none⟩ (.int .i64 d4.room)).setCell ⟨gz, 1, none⟩ (.int .i64 d4.next)).setCell ⟨gz, 2, none⟩ (.slice xg1 xgn1 xgc1)).setCell ⟨gz, 3, none⟩ (.slice xg2 xgn2 xgc2)).setCell ⟨gz, 4, none⟩ (.slice xg3 xgn3 xgc3)) := belowC5 (Below.refl _ _) (Nat.le_refl _) _ _ _ _ _
      have NE : w11.heap.size ≠ gz := by have := LT12.out; have := HG.out; omega
      have gzl : gz < wz28.heap.size := KZz28.out.lt
      have KZ17 : Hid (Blk (((((wz28.setCell ⟨gz, 0, none⟩ (.int .i64 d4.room)).setCell ⟨gz, 1, none⟩ (.int .i64 d4.next)).setCell ⟨gz, 2, none⟩ (.slice xg1 xgn1 xgc1)).setCell ⟨gz, 3, none⟩ (.slice xg2 xgn2 xgc2)).setCell ⟨gz, 4, none⟩ (.slice xg3 xgn3 xgc3)) gz #[.int .i64 d4.room, .int .i64 d4.next, .slice xg1 xgn1 xgc1, .slice xg2 xgn2 xgc2, .slice xg3 xgn3 xgc3] 28) := blkC5 KZz28.out
      have KY17 : Hid (Blk (((((wz28.setCell ⟨gz, 0, none⟩ (.int .i64 d4.room)).setCell ⟨gz, 1, none⟩ (.int .i64 d4.next)).setCell ⟨gz, 2, none⟩ (.slice xg1 xgn1 xgc1)).setCell ⟨gz, 3, none⟩ (.slice xg2 xgn2 xgc2)).setCell ⟨gz, 4, none⟩ (.slice xg3 xgn3 xgc3)) w11.heap.size #[.int .i64 d4.room, .int .i64 d4.next, .slice xe1 xen1 xec1, .slice xe2 xen2 xec2, .slice xe3 0 xec3] 28) := otherC5 KYz28.out NE _ _ _ _ _
      have VY17 : Hid (DiskV (((((wz28.setCell ⟨gz, 0, none⟩ (.int .i64 d4.room)).setCell ⟨gz, 1, none⟩ (.int .i64 d4.next)).setCell ⟨gz, 2, none⟩ (.slice xg1 xgn1 xgc1)).setCell ⟨gz, 3, none⟩ (.slice xg2 xgn2 xgc2)).setCell ⟨gz, 4, none⟩ (.slice xg3 xgn3 xgc3)) ((((((wz28.setCell ⟨gz, 0, none⟩ (.int .i64 d4.room)).setCell ⟨gz, 1, none⟩ (.int .i64 d4.next)).setCell ⟨gz, 2, none⟩ (.slice xg1 xgn1 xgc1)).setCell ⟨gz, 3, none⟩ (.slice xg2 xgn2 xgc2)).setCell ⟨gz, 4, none⟩ (.slice xg3 xgn3 xgc3))).heap.size (.agg #[.int .i64 d4.room, .int .i64 d4.next, .slice xe1 xen1 xec1, .slice xe2 xen2 xec2, .slice xe3 0 xec3]) d4) := (VYz28.out.on (hbs.mono HG.out)).up (Nat.le_trans SZz28.out hbs.size)
      have VZ17 : Hid (DiskV (((((wz28.setCell ⟨gz, 0, none⟩ (.int .i64 d4.room)).setCell ⟨gz, 1, none⟩ (.int .i64 d4.next)).setCell ⟨gz, 2, none⟩ (.slice xg1 xgn1 xgc1)).setCell ⟨gz, 3, none⟩ (.slice xg2 xgn2 xgc2)).setCell ⟨gz, 4, none⟩ (.slice xg3 xgn3 xgc3)) ((((((wz28.setCell ⟨gz, 0, none⟩ (.int .i64 d4.room)).setCell ⟨gz, 1, none⟩ (.int .i64 d4.next)).setCell ⟨gz, 2, none⟩ (.slice xg1 xgn1 xgc1)).setCell ⟨gz, 3, none⟩ (.slice xg2 xgn2 xgc2)).setCell ⟨gz, 4, none⟩ (.slice xg3 xgn3 xgc3))).heap.size (.agg #[.int .i64 d4.room, .int .i64 d4.next, .slice xg1 xgn1 xgc1, .slice xg2 xgn2 xgc2, .slice xg3 xgn3 xgc3]) d4) := (OZ.out.set5 HGC.out _ _ _ _ _).look
      have B17 : Hid (Below w.heap.size w (((((wz28.setCell ⟨gz, 0, none⟩ (.int .i64 d4.room)).setCell ⟨gz, 1, none⟩ (.int .i64 d4.next)).setCell ⟨gz, 2, none⟩ (.slice xg1 xgn1 xgc1)).setCell ⟨gz, 3, none⟩ (.slice xg2 xgn2 xgc2)).setCell ⟨gz, 4, none⟩ (.slice xg3 xgn3 xgc3))) := Bz28.out.trans (hbs.mono (by have := HG.out; have := HWW.out; omega))
      clear r0 r1 r2 r3 r4 f0 f1 f2 f3 f4 y0 y1 y2 y3 y4 hbs NE gzl OZ HGC KYz28 VYz28 SZz28 Bz28 Qz28 KZz28
      generalize ((((wz28.setCell ⟨gz, 0, none⟩ (.int .i64 d4.room)).setCell ⟨gz, 1, none⟩ (.int .i64 d4.next)).setCell ⟨gz, 2, none⟩ (.slice xg1 xgn1 xgc1)).setCell ⟨gz, 3, none⟩ (.slice xg2 xgn2 xgc2)).setCell ⟨gz, 4, none⟩ (.slice xg3 xgn3 xgc3) = w17 at *
      refine until_done (by kernel_rfl) ?_ _
      obtain ⟨e0, e1, e2, e3, e4⟩ := cellsC5 KY17.out
      go_wp2_with fail
      refine (specOkV d4 (.agg #[.int .i64 d4.room, .int .i64 d4.next, .slice xe1 xen1 xec1, .slice xe2 xen2 xec2, .slice xe3 0 xec3]) w17 w17.heap.size VY17.out HM4.out.1 HM4.out.2.2 (Nat.le_refl _)).mono ?_
      rintro e w18 ⟨rfl, hb⟩
      rw [hx4]
      have KY18h : Hid (Blk w18 w11.heap.size #[.int .i64 d4.room, .int .i64 d4.next, .slice xe1 xen1 xec1, .slice xe2 xen2 xec2, .slice xe3 0 xec3] 28) := KY17.out.on hb KY17.out.lt
      have KZ18 := KZ17.out.on hb KZ17.out.lt
      have VY18 : Hid (DiskV w18 w18.heap.size (.agg #[.int .i64 d4.room, .int .i64 d4.next, .slice xe1 xen1 xec1, .slice xe2 xen2 xec2, .slice xe3 0 xec3]) d4) := (VY17.out.on hb).up hb.size
      have VZ18 : Hid (DiskV w18 w18.heap.size (.agg #[.int .i64 d4.room, .int .i64 d4.next, .slice xg1 xgn1 xgc1, .slice xg2 xgn2 xgc2, .slice xg3 xgn3 xgc3]) d4) := (VZ17.out.on hb).up hb.size
      have B18 : Hid (Below w.heap.size w w18) := B17.out.trans (hb.mono B17.out.size)
      clear e0 e1 e2 e3 e4 hb KY17 KZ17 VY17 VZ17 B17
      obtain ⟨e0, e1, e2, e3, e4⟩ := cellsC5 KY18h.out
      obtain ⟨f0, f1, f2, f3, f4⟩ := cellsC5 KZ18
      clear KZ18
      go_wp2_with fail
      refine (sameDiskV d4 (.agg #[.int .i64 d4.room, .int .i64 d4.next, .slice xe1 xen1 xec1, .slice xe2 xen2 xec2, .slice xe3 0 xec3]) (.agg #[.int .i64 d4.room, .int .i64 d4.next, .slice xg1 xgn1 xgc1, .slice xg2 xgn2 xgc2, .slice xg3 xgn3 xgc3]) w18 w18.heap.size VY18.out VZ18.out (Nat.le_refl _) (by have := HR4.out.sz.n; omega) (by have := HR4.out.sz.l; omega) (by have := HR4.out.sz.m; omega)).mono ?_
      rintro e w19 ⟨rfl, hb⟩
      have B19 : Hid (Below w.heap.size w w19) := B18.out.trans (hb.mono B18.out.size)
      have KY19 := KY18h.out.on hb KY18h.out.lt
      clear e0 e1 e2 e3 e4 f0 f1 f2 f3 f4 hb VY18 VZ18 B18
      obtain ⟨e0, e1, e2, e3, e4⟩ := cellsC5 KY19
      go_wp2_with fail
      go_ret
      exact ⟨rfl, B19.out⟩
    ·obtain ⟨gz, hgz⟩ : ∃ gz, gz = wa.heap.size := ⟨_, rfl⟩
     obtain ⟨wz29, hwn⟩ : ∃ wz29, wz29 = wa.alloc (.cells #[.int .i64 0, .int .i64 0, .slice none 0 0, .slice none 0 0, .slice none 0 0] 28) := ⟨_, rfl⟩
     have hal : Below wa.heap.size wa wz29 := by rw [hwn]; exact (Below.refl _ _).alloc (Nat.le_refl _) _
     have KYz29 : Hid (Blk wz29 w11.heap.size #[.int .i64 d4.room, .int .i64 d4.next, .slice xe1 xen1 xec1, .slice xe2 xen2 xec2, .slice xe3 0 xec3] 28) := KYa.out.on hal KYa.out.lt
     have VYz29 : Hid (DiskV wz29 w12.heap.size (.agg #[.int .i64 d4.room, .int .i64 d4.next, .slice xe1 xen1 xec1, .slice xe2 xen2 xec2, .slice xe3 0 xec3]) d4) := VYa.out.on (hal.mono SZa.out)
     have SZz29 : Hid (w12.heap.size ≤ wz29.heap.size) := Nat.le_trans SZa.out hal.size
     have Bz29 : Hid (Below w.heap.size w wz29) := Ba.out.trans (hal.mono Ba.out.size)
     have Qz29 := Hid.mkD (cellsC5 KYz29.out)
     have KZz29 : Hid (Blk wz29 gz #[.int .i64 0, .int .i64 0, .slice none 0 0, .slice none 0 0, .slice none 0 0] 28) := by unfold Hid; rw [hwn, hgz]; exact Blk.new wa _ _
     have HG : Hid (w12.heap.size ≤ gz) := by rw [hgz]; exact SZa.out
     go_simp
     rw [← hwn, ← hgz]
     refine hK.out _ _ (fun _ _ => Qz29.out) ?_
     clear hK K
     try simp only [Act.put, zQ1, zQ2, zQ3]
     clear hwn hal hgz
     clear KYa VYa SZa Ba Qa
     refine uNe 4 (fun K hK => ?_)
     go_simp
     refine (at_any wz29 ao len cap cs 2 HL.out (by omega) (HC.out.on Bz29.out)).mono ?_
     rintro e w' ⟨rfl, rfl⟩
     refine hK.out _ _ (fun _ h => h) ?_
     clear hK K
     try simp only [Act.put, zQ1, zQ2, zQ3]
     generalize hk9 : ((atV len cs 2 : Nat) : Int) = m1 at *
     clear hk9
     refine uNe 6 (fun K hK => ?_)
     go_simp
     refine (at_any wz29 ao len cap cs 3 HL.out (by omega) (HC.out.on Bz29.out)).mono ?_
     rintro e w' ⟨rfl, rfl⟩
     refine hK.out _ _ (fun _ h => h) ?_
     clear hK K
     try simp only [Act.put, zQ1, zQ2, zQ3]
     generalize hk9 : ((atV len cs 3 : Nat) : Int) = m2 at *
     clear hk9
     refine uNe 7 (fun K hK => ?_)
     obtain ⟨gu, hgu⟩ : ∃ gu, gu = wz29.heap.size := ⟨_, rfl⟩
     obtain ⟨wz30, hwn⟩ : ∃ wz30, wz30 = wz29.alloc (.cells #[.int .i64 m1, .int .i64 m2] 3) := ⟨_, rfl⟩
     have hal : Below wz29.heap.size wz29 wz30 := by rw [hwn]; exact (Below.refl _ _).alloc (Nat.le_refl _) _
     have NUz30 : Hid (NumsV wz30 wz30.heap.size (.slice (some ⟨gu, 0, none⟩) 2 2) [m1, m2]) := by unfold Hid; rw [hwn, hgu]; exact numsTwo wz29 m1 m2
     have KYz30 : Hid (Blk wz30 w11.heap.size #[.int .i64 d4.room, .int .i64 d4.next, .slice xe1 xen1 xec1, .slice xe2 xen2 xec2, .slice xe3 0 xec3] 28) := KYz29.out.on hal KYz29.out.lt
     have VYz30 : Hid (DiskV wz30 w12.heap.size (.agg #[.int .i64 d4.room, .int .i64 d4.next, .slice xe1 xen1 xec1, .slice xe2 xen2 xec2, .slice xe3 0 xec3]) d4) := VYz29.out.on (hal.mono SZz29.out)
     have SZz30 : Hid (w12.heap.size ≤ wz30.heap.size) := Nat.le_trans SZz29.out hal.size
     have Bz30 : Hid (Below w.heap.size w wz30) := Bz29.out.trans (hal.mono Bz29.out.size)
     have Qz30 := Hid.mkD (cellsC5 KYz30.out)
     have KZz30 : Hid (Blk wz30 gz #[.int .i64 0, .int .i64 0, .slice none 0 0, .slice none 0 0, .slice none 0 0] 28) := KZz29.out.on hal KZz29.out.lt
     go_simp
     rw [← hwn, ← hgu]
     refine hK.out _ _ (fun _ _ => Qz30.out) ?_
     clear hK K
     try simp only [Act.put, zQ1, zQ2, zQ3]
     clear hwn hal hgu
     clear KYz29 VYz29 SZz29 Bz29 Qz29 KZz29
     refine uNe 8 (fun K hK => ?_)
     go_simp
     refine (implCrashV d4 (.agg #[.int .i64 d4.room, .int .i64 d4.next, .slice xe1 xen1 xec1, .slice xe2 xen2 xec2, .slice xe3 0 xec3]) k2 [m1, m2] (.slice (some ⟨gu, 0, none⟩) 2 2) wz30 wz30.heap.size (VYz30.out.up SZz30.out) NUz30.out (by simp) HM4.out.1 HM4.out.2.1 HM4.out.2.2 (Nat.le_refl _)).mono ?_
     rintro e wz31 ⟨v, rfl, hO, hb⟩
     rw [crashR_yes hx4, HTW.out] at hO
     have KYz31 : Hid (Blk wz31 w11.heap.size #[.int .i64 d4.room, .int .i64 d4.next, .slice xe1 xen1 xec1, .slice xe2 xen2 xec2, .slice xe3 0 xec3] 28) := KYz30.out.on hb KYz30.out.lt
     have VYz31 : Hid (DiskV wz31 w12.heap.size (.agg #[.int .i64 d4.room, .int .i64 d4.next, .slice xe1 xen1 xec1, .slice xe2 xen2 xec2, .slice xe3 0 xec3]) d4) := VYz30.out.on (hb.mono SZz30.out)
     have SZz31 : Hid (w12.heap.size ≤ wz31.heap.size) := Nat.le_trans SZz30.out hb.size
     have Bz31 : Hid (Below w.heap.size w wz31) := Bz30.out.trans (hb.mono Bz30.out.size)
     have Qz31 := Hid.mkD (cellsC5 KYz31.out)
     have KZz31 : Hid (Blk wz31 gz #[.int .i64 0, .int .i64 0, .slice none 0 0, .slice none 0 0, .slice none 0 0] 28) := KZz30.out.on hb KZz30.out.lt
     refine hK.out _ _ (fun _ _ => Qz31.out) ?_
     clear hK K
     try simp only [Act.put, zQ1, zQ2, zQ3]
     have HGC : Hid (gz < wz30.heap.size) := KZz30.out.lt
     obtain ⟨v1, v2, v3, rfl, h1, h2, h3⟩ := hO
     obtain ⟨xg1, xgn1, xgc1, rfl⟩ := h1.shape
     obtain ⟨xg2, xgn2, xgc2, rfl⟩ := h2.shape
     obtain ⟨xg3, xgn3, xgc3, rfl⟩ := h3.shape
     have OZ : Hid (DiskO wz31 wz30.heap.size (.agg #[.int .i64 d4.room, .int .i64 d4.next, .slice xg1 xgn1 xgc1, .slice xg2 xgn2 xgc2, .slice xg3 xgn3 xgc3]) d4) := ⟨_, _, _, rfl, h1, h2, h3⟩
     clear hb h1 h2 h3
     clear KYz30 VYz30 SZz30 Bz30 Qz30 KZz30 NUz30
     obtain ⟨⟨r0, f0⟩, ⟨r1, f1⟩, ⟨r2, f2⟩, ⟨r3, f3⟩, ⟨r4, f4⟩, y0, y1, y2, y3, y4⟩ := resC5 (x0 := .int .i64 d4.room) (x1 := .int .i64 d4.next) (x2 := .slice xg1 xgn1 xgc1) (x3 := .slice xg2 xgn2 xgc2) (x4 := .slice xg3 xgn3 xgc3) KZz31.out
     refine uNe 10 (fun K hK => ?_)
     go_simp
     refine hK.out _ _ (fun h => by cases h) ?_
     clear hK K
     try simp only [Act.put, zQ1, zQ2, zQ3]
     have hbs : Below gz wz31 (((((wz31.setCell ⟨gz, 0, none⟩ (.int .i64 d4.room)).setCell ⟨gz, 1, none⟩ (.int .i64 d4.next)).setCell ⟨gz, 2, none⟩ (.slice xg1 xgn1 xgc1)).setCell ⟨gz, 3, none⟩ (.slice xg2 xgn2 xgc2)).setCell ⟨gz, 4, none⟩ (.slice xg3 xgn3 xgc3)) := belowC5 (Below.refl _ _) (Nat.le_refl _) _ _ _ _ _
     have NE : w11.heap.size ≠ gz := by have := LT12.out; have := HG.out; omega
     have gzl : gz < wz31.heap.size := KZz31.out.lt
     have KZ17 : Hid (Blk (((((wz31.setCell ⟨gz, 0, none⟩ (.int .i64 d4.room)).setCell ⟨gz, 1, none⟩ (.int .i64 d4.next)).setCell ⟨gz, 2, none⟩ (.slice xg1 xgn1 xgc1)).setCell ⟨gz, 3, none⟩ (.slice xg2 xgn2 xgc2)).setCell ⟨gz, 4, none⟩ (.slice xg3 xgn3 xgc3)) gz #[.int .i64 d4.room, .int .i64 d4.next, .slice xg1 xgn1 xgc1, .slice xg2 xgn2 xgc2, .slice xg3 xgn3 xgc3] 28) := blkC5 KZz31.out
     have KY17 : Hid (Blk (((((wz31.setCell ⟨gz, 0, none⟩ (.int .i64 d4.room)).setCell ⟨gz, 1, none⟩ (.int .i64 d4.next)).setCell ⟨gz, 2, none⟩ (.slice xg1 xgn1 xgc1)).setCell ⟨gz, 3, none⟩ (.slice xg2 xgn2 xgc2)).setCell ⟨gz, 4, none⟩ (.slice xg3 xgn3 xgc3)) w11.heap.size #[.int .i64 d4.room, .int .i64 d4.next, .slice xe1 xen1 xec1, .slice xe2 xen2 xec2, .slice xe3 0 xec3] 28) := otherC5 KYz31.out NE _ _ _ _ _
     have VY17 : Hid (DiskV (((((wz31.setCell ⟨gz, 0, none⟩ (.int .i64 d4.room)).setCell ⟨gz, 1, none⟩ (.int .i64 d4.next)).setCell ⟨gz, 2, none⟩ (.slice xg1 xgn1 xgc1)).setCell ⟨gz, 3, none⟩ (.slice xg2 xgn2 xgc2)).setCell ⟨gz, 4, none⟩ (.slice xg3 xgn3 xgc3)) ((((((wz31.setCell ⟨gz, 0, none⟩ (.int .i64 d4.room)).setCell ⟨gz, 1, none⟩ (.int .i64 d4.next)).setCell ⟨gz, 2, none⟩ (.slice xg1 xgn1 xgc1)).setCell ⟨gz, 3, none⟩ (.slice xg2 xgn2 xgc2)).setCell ⟨gz, 4, none⟩ (.slice xg3 xgn3 xgc3))).heap.size (.agg #[.int .i64 d4.room, .int .i64 d4.next, .slice xe1 xen1 xec1, .slice xe2 xen2 xec2, .slice xe3 0 xec3]) d4) := (VYz31.out.on (hbs.mono HG.out)).up (Nat.le_trans SZz31.out hbs.size)
     have VZ17 : Hid (DiskV (((((wz31.setCell ⟨gz, 0, none⟩ (.int .i64 d4.room)).setCell ⟨gz, 1, none⟩ (.int .i64 d4.next)).setCell ⟨gz, 2, none⟩ (.slice xg1 xgn1 xgc1)).setCell ⟨gz, 3, none⟩ (.slice xg2 xgn2 xgc2)).setCell ⟨gz, 4, none⟩ (.slice xg3 xgn3 xgc3)) ((((((wz31.setCell ⟨gz, 0, none⟩ (.int .i64 d4.room)).setCell ⟨gz, 1, none⟩ (.int .i64 d4.next)).setCell ⟨gz, 2, none⟩ (.slice xg1 xgn1 xgc1)).setCell ⟨gz, 3, none⟩ (.slice xg2 xgn2 xgc2)).setCell ⟨gz, 4, none⟩ (.slice xg3 xgn3 xgc3))).heap.size (.agg #[.int .i64 d4.room, .int .i64 d4.next, .slice xg1 xgn1 xgc1, .slice xg2 xgn2 xgc2, .slice xg3 xgn3 xgc3]) d4) := (OZ.out.set5 HGC.out _ _ _ _ _).look
     have B17 : Hid (Below w.heap.size w (((((wz31.setCell ⟨gz, 0, none⟩ (.int .i64 d4.room)).setCell ⟨gz, 1, none⟩ (.int .i64 d4.next)).setCell ⟨gz, 2, none⟩ (.slice xg1 xgn1 xgc1)).setCell ⟨gz, 3, none⟩ (.slice xg2 xgn2 xgc2)).setCell ⟨gz, 4, none⟩ (.slice xg3 xgn3 xgc3))) := Bz31.out.trans (hbs.mono (by have := HG.out; have := HWW.out; omega))
     clear r0 r1 r2 r3 r4 f0 f1 f2 f3 f4 y0 y1 y2 y3 y4 hbs NE gzl OZ HGC KYz31 VYz31 SZz31 Bz31 Qz31 KZz31
     generalize ((((wz31.setCell ⟨gz, 0, none⟩ (.int .i64 d4.room)).setCell ⟨gz, 1, none⟩ (.int .i64 d4.next)).setCell ⟨gz, 2, none⟩ (.slice xg1 xgn1 xgc1)).setCell ⟨gz, 3, none⟩ (.slice xg2 xgn2 xgc2)).setCell ⟨gz, 4, none⟩ (.slice xg3 xgn3 xgc3) = w17 at *
     refine until_done (by kernel_rfl) ?_ _
     obtain ⟨e0, e1, e2, e3, e4⟩ := cellsC5 KY17.out
     go_wp2_with fail
     refine (specOkV d4 (.agg #[.int .i64 d4.room, .int .i64 d4.next, .slice xe1 xen1 xec1, .slice xe2 xen2 xec2, .slice xe3 0 xec3]) w17 w17.heap.size VY17.out HM4.out.1 HM4.out.2.2 (Nat.le_refl _)).mono ?_
     rintro e w18 ⟨rfl, hb⟩
     rw [hx4]
     have KY18h : Hid (Blk w18 w11.heap.size #[.int .i64 d4.room, .int .i64 d4.next, .slice xe1 xen1 xec1, .slice xe2 xen2 xec2, .slice xe3 0 xec3] 28) := KY17.out.on hb KY17.out.lt
     have KZ18 := KZ17.out.on hb KZ17.out.lt
     have VY18 : Hid (DiskV w18 w18.heap.size (.agg #[.int .i64 d4.room, .int .i64 d4.next, .slice xe1 xen1 xec1, .slice xe2 xen2 xec2, .slice xe3 0 xec3]) d4) := (VY17.out.on hb).up hb.size
     have VZ18 : Hid (DiskV w18 w18.heap.size (.agg #[.int .i64 d4.room, .int .i64 d4.next, .slice xg1 xgn1 xgc1, .slice xg2 xgn2 xgc2, .slice xg3 xgn3 xgc3]) d4) := (VZ17.out.on hb).up hb.size
     have B18 : Hid (Below w.heap.size w w18) := B17.out.trans (hb.mono B17.out.size)
     clear e0 e1 e2 e3 e4 hb KY17 KZ17 VY17 VZ17 B17
     obtain ⟨e0, e1, e2, e3, e4⟩ := cellsC5 KY18h.out
     obtain ⟨f0, f1, f2, f3, f4⟩ := cellsC5 KZ18
     clear KZ18
     go_wp2_with fail
     refine (sameDiskV d4 (.agg #[.int .i64 d4.room, .int .i64 d4.next, .slice xe1 xen1 xec1, .slice xe2 xen2 xec2, .slice xe3 0 xec3]) (.agg #[.int .i64 d4.room, .int .i64 d4.next, .slice xg1 xgn1 xgc1, .slice xg2 xgn2 xgc2, .slice xg3 xgn3 xgc3]) w18 w18.heap.size VY18.out VZ18.out (Nat.le_refl _) (by have := HR4.out.sz.n; omega) (by have := HR4.out.sz.l; omega) (by have := HR4.out.sz.m; omega)).mono ?_
     rintro e w19 ⟨rfl, hb⟩
     have B19 : Hid (Below w.heap.size w w19) := B18.out.trans (hb.mono B18.out.size)
     have KY19 := KY18h.out.on hb KY18h.out.lt
     clear e0 e1 e2 e3 e4 f0 f1 f2 f3 f4 hb VY18 VZ18 B18
     obtain ⟨e0, e1, e2, e3, e4⟩ := cellsC5 KY19
     go_wp2_with fail
     go_ret
     exact ⟨rfl, B19.out⟩
   ·obtain ⟨gz, hgz⟩ : ∃ gz, gz = wa.heap.size := ⟨_, rfl⟩
    obtain ⟨wz32, hwn⟩ : ∃ wz32, wz32 = wa.alloc (.cells #[.int .i64 0, .int .i64 0, .slice none 0 0, .slice none 0 0, .slice none 0 0] 28) := ⟨_, rfl⟩
    have hal : Below wa.heap.size wa wz32 := by rw [hwn]; exact (Below.refl _ _).alloc (Nat.le_refl _) _
    have KYz32 : Hid (Blk wz32 w11.heap.size #[.int .i64 d4.room, .int .i64 d4.next, .slice xe1 xen1 xec1, .slice xe2 xen2 xec2, .slice xe3 0 xec3] 28) := KYa.out.on hal KYa.out.lt
    have VYz32 : Hid (DiskV wz32 w12.heap.size (.agg #[.int .i64 d4.room, .int .i64 d4.next, .slice xe1 xen1 xec1, .slice xe2 xen2 xec2, .slice xe3 0 xec3]) d4) := VYa.out.on (hal.mono SZa.out)
    have SZz32 : Hid (w12.heap.size ≤ wz32.heap.size) := Nat.le_trans SZa.out hal.size
    have Bz32 : Hid (Below w.heap.size w wz32) := Ba.out.trans (hal.mono Ba.out.size)
    have Qz32 := Hid.mkD (cellsC5 KYz32.out)
    have KZz32 : Hid (Blk wz32 gz #[.int .i64 0, .int .i64 0, .slice none 0 0, .slice none 0 0, .slice none 0 0] 28) := by unfold Hid; rw [hwn, hgz]; exact Blk.new wa _ _
    have HG : Hid (w12.heap.size ≤ gz) := by rw [hgz]; exact SZa.out
    go_simp
    rw [← hwn, ← hgz]
    refine hK.out _ _ (fun _ _ => Qz32.out) ?_
    clear hK K
    try simp only [Act.put, zQ1, zQ2, zQ3]
    clear hwn hal hgz
    clear KYa VYa SZa Ba Qa
    refine uNe 2 (fun K hK => ?_)
    go_simp
    refine (at_any wz32 ao len cap cs 1 HL.out (by omega) (HC.out.on Bz32.out)).mono ?_
    rintro e w' ⟨rfl, rfl⟩
    refine hK.out _ _ (fun _ h => h) ?_
    clear hK K
    try simp only [Act.put, zQ1, zQ2, zQ3]
    generalize hk9 : ((atV len cs 1 : Nat) : Int) = k2 at *
    clear hk9
    refine uNe 4 (fun K hK => ?_)
    go_simp
    refine (at_any wz32 ao len cap cs 2 HL.out (by omega) (HC.out.on Bz32.out)).mono ?_
    rintro e w' ⟨rfl, rfl⟩
    refine hK.out _ _ (fun _ h => h) ?_
    clear hK K
    try simp only [Act.put, zQ1, zQ2, zQ3]
    generalize hk9 : ((atV len cs 2 : Nat) : Int) = m1 at *
    clear hk9
    refine uNe 6 (fun K hK => ?_)
    go_simp
    refine (at_any wz32 ao len cap cs 3 HL.out (by omega) (HC.out.on Bz32.out)).mono ?_
    rintro e w' ⟨rfl, rfl⟩
    refine hK.out _ _ (fun _ h => h) ?_
    clear hK K
    try simp only [Act.put, zQ1, zQ2, zQ3]
    generalize hk9 : ((atV len cs 3 : Nat) : Int) = m2 at *
    clear hk9
    refine uNe 7 (fun K hK => ?_)
    obtain ⟨gu, hgu⟩ : ∃ gu, gu = wz32.heap.size := ⟨_, rfl⟩
    obtain ⟨wz33, hwn⟩ : ∃ wz33, wz33 = wz32.alloc (.cells #[.int .i64 m1, .int .i64 m2] 3) := ⟨_, rfl⟩
    have hal : Below wz32.heap.size wz32 wz33 := by rw [hwn]; exact (Below.refl _ _).alloc (Nat.le_refl _) _
    have NUz33 : Hid (NumsV wz33 wz33.heap.size (.slice (some ⟨gu, 0, none⟩) 2 2) [m1, m2]) := by unfold Hid; rw [hwn, hgu]; exact numsTwo wz32 m1 m2
    have KYz33 : Hid (Blk wz33 w11.heap.size #[.int .i64 d4.room, .int .i64 d4.next, .slice xe1 xen1 xec1, .slice xe2 xen2 xec2, .slice xe3 0 xec3] 28) := KYz32.out.on hal KYz32.out.lt
    have VYz33 : Hid (DiskV wz33 w12.heap.size (.agg #[.int .i64 d4.room, .int .i64 d4.next, .slice xe1 xen1 xec1, .slice xe2 xen2 xec2, .slice xe3 0 xec3]) d4) := VYz32.out.on (hal.mono SZz32.out)
    have SZz33 : Hid (w12.heap.size ≤ wz33.heap.size) := Nat.le_trans SZz32.out hal.size
    have Bz33 : Hid (Below w.heap.size w wz33) := Bz32.out.trans (hal.mono Bz32.out.size)
    have Qz33 := Hid.mkD (cellsC5 KYz33.out)
    have KZz33 : Hid (Blk wz33 gz #[.int .i64 0, .int .i64 0, .slice none 0 0, .slice none 0 0, .slice none 0 0] 28) := KZz32.out.on hal KZz32.out.lt
    go_simp
    rw [← hwn, ← hgu]
    refine hK.out _ _ (fun _ _ => Qz33.out) ?_
    clear hK K
    try simp only [Act.put, zQ1, zQ2, zQ3]
    clear hwn hal hgu
    clear KYz32 VYz32 SZz32 Bz32 Qz32 KZz32
    refine uNe 8 (fun K hK => ?_)
    go_simp
    refine (implCrashV d4 (.agg #[.int .i64 d4.room, .int .i64 d4.next, .slice xe1 xen1 xec1, .slice xe2 xen2 xec2, .slice xe3 0 xec3]) k2 [m1, m2] (.slice (some ⟨gu, 0, none⟩) 2 2) wz33 wz33.heap.size (VYz33.out.up SZz33.out) NUz33.out (by simp) HM4.out.1 HM4.out.2.1 HM4.out.2.2 (Nat.le_refl _)).mono ?_
    rintro e wz34 ⟨v, rfl, hO, hb⟩
    rw [crashR_yes hx4, HTW.out] at hO
    have KYz34 : Hid (Blk wz34 w11.heap.size #[.int .i64 d4.room, .int .i64 d4.next, .slice xe1 xen1 xec1, .slice xe2 xen2 xec2, .slice xe3 0 xec3] 28) := KYz33.out.on hb KYz33.out.lt
    have VYz34 : Hid (DiskV wz34 w12.heap.size (.agg #[.int .i64 d4.room, .int .i64 d4.next, .slice xe1 xen1 xec1, .slice xe2 xen2 xec2, .slice xe3 0 xec3]) d4) := VYz33.out.on (hb.mono SZz33.out)
    have SZz34 : Hid (w12.heap.size ≤ wz34.heap.size) := Nat.le_trans SZz33.out hb.size
    have Bz34 : Hid (Below w.heap.size w wz34) := Bz33.out.trans (hb.mono Bz33.out.size)
    have Qz34 := Hid.mkD (cellsC5 KYz34.out)
    have KZz34 : Hid (Blk wz34 gz #[.int .i64 0, .int .i64 0, .slice none 0 0, .slice none 0 0, .slice none 0 0] 28) := KZz33.out.on hb KZz33.out.lt
    refine hK.out _ _ (fun _ _ => Qz34.out) ?_
    clear hK K
    try simp only [Act.put, zQ1, zQ2, zQ3]
    have HGC : Hid (gz < wz33.heap.size) := KZz33.out.lt
    obtain ⟨v1, v2, v3, rfl, h1, h2, h3⟩ := hO
    obtain ⟨xg1, xgn1, xgc1, rfl⟩ := h1.shape
    obtain ⟨xg2, xgn2, xgc2, rfl⟩ := h2.shape
    obtain ⟨xg3, xgn3, xgc3, rfl⟩ := h3.shape
    have OZ : Hid (DiskO wz34 wz33.heap.size (.agg #[.int .i64 d4.room, .int .i64 d4.next, .slice xg1 xgn1 xgc1, .slice xg2 xgn2 xgc2, .slice xg3 xgn3 xgc3]) d4) := ⟨_, _, _, rfl, h1, h2, h3⟩
    clear hb h1 h2 h3
    clear KYz33 VYz33 SZz33 Bz33 Qz33 KZz33 NUz33
    obtain ⟨⟨r0, f0⟩, ⟨r1, f1⟩, ⟨r2, f2⟩, ⟨r3, f3⟩, ⟨r4, f4⟩, y0, y1, y2, y3, y4⟩ := resC5 (x0 := .int .i64 d4.room) (x1 := .int .i64 d4.next) (x2 := .slice xg1 xgn1 xgc1) (x3 := .slice xg2 xgn2 xgc2) (x4 := .slice xg3 xgn3 xgc3) KZz34.out
    refine uNe 10 (fun K hK => ?_)
    go_simp
    refine hK.out _ _ (fun h => by cases h) ?_
    clear hK K
    try simp only [Act.put, zQ1, zQ2, zQ3]
    have hbs : Below gz wz34 (((((wz34.setCell ⟨gz, 0, none⟩ (.int .i64 d4.room)).setCell ⟨gz, 1, none⟩ (.int .i64 d4.next)).setCell ⟨gz, 2, none⟩ (.slice xg1 xgn1 xgc1)).setCell ⟨gz, 3, none⟩ (.slice xg2 xgn2 xgc2)).setCell ⟨gz, 4, none⟩ (.slice xg3 xgn3 xgc3)) := belowC5 (Below.refl _ _) (Nat.le_refl _) _ _ _ _ _
    have NE : w11.heap.size ≠ gz := by have := LT12.out; have := HG.out; omega
    have gzl : gz < wz34.heap.size := KZz34.out.lt
    have KZ17 : Hid (Blk (((((wz34.setCell ⟨gz, 0, none⟩ (.int .i64 d4.room)).setCell ⟨gz, 1, none⟩ (.int .i64 d4.next)).setCell ⟨gz, 2, none⟩ (.slice xg1 xgn1 xgc1)).setCell ⟨gz, 3, none⟩ (.slice xg2 xgn2 xgc2)).setCell ⟨gz, 4, none⟩ (.slice xg3 xgn3 xgc3)) gz #[.int .i64 d4.room, .int .i64 d4.next, .slice xg1 xgn1 xgc1, .slice xg2 xgn2 xgc2, .slice xg3 xgn3 xgc3] 28) := blkC5 KZz34.out
    have KY17 : Hid (Blk (((((wz34.setCell ⟨gz, 0, none⟩ (.int .i64 d4.room)).setCell ⟨gz, 1, none⟩ (.int .i64 d4.next)).setCell ⟨gz, 2, none⟩ (.slice xg1 xgn1 xgc1)).setCell ⟨gz, 3, none⟩ (.slice xg2 xgn2 xgc2)).setCell ⟨gz, 4, none⟩ (.slice xg3 xgn3 xgc3)) w11.heap.size #[.int .i64 d4.room, .int .i64 d4.next, .slice xe1 xen1 xec1, .slice xe2 xen2 xec2, .slice xe3 0 xec3] 28) := otherC5 KYz34.out NE _ _ _ _ _
    have VY17 : Hid (DiskV (((((wz34.setCell ⟨gz, 0, none⟩ (.int .i64 d4.room)).setCell ⟨gz, 1, none⟩ (.int .i64 d4.next)).setCell ⟨gz, 2, none⟩ (.slice xg1 xgn1 xgc1)).setCell ⟨gz, 3, none⟩ (.slice xg2 xgn2 xgc2)).setCell ⟨gz, 4, none⟩ (.slice xg3 xgn3 xgc3)) ((((((wz34.setCell ⟨gz, 0, none⟩ (.int .i64 d4.room)).setCell ⟨gz, 1, none⟩ (.int .i64 d4.next)).setCell ⟨gz, 2, none⟩ (.slice xg1 xgn1 xgc1)).setCell ⟨gz, 3, none⟩ (.slice xg2 xgn2 xgc2)).setCell ⟨gz, 4, none⟩ (.slice xg3 xgn3 xgc3))).heap.size (.agg #[.int .i64 d4.room, .int .i64 d4.next, .slice xe1 xen1 xec1, .slice xe2 xen2 xec2, .slice xe3 0 xec3]) d4) := (VYz34.out.on (hbs.mono HG.out)).up (Nat.le_trans SZz34.out hbs.size)
    have VZ17 : Hid (DiskV (((((wz34.setCell ⟨gz, 0, none⟩ (.int .i64 d4.room)).setCell ⟨gz, 1, none⟩ (.int .i64 d4.next)).setCell ⟨gz, 2, none⟩ (.slice xg1 xgn1 xgc1)).setCell ⟨gz, 3, none⟩ (.slice xg2 xgn2 xgc2)).setCell ⟨gz, 4, none⟩ (.slice xg3 xgn3 xgc3)) ((((((wz34.setCell ⟨gz, 0, none⟩ (.int .i64 d4.room)).setCell ⟨gz, 1, none⟩ (.int .i64 d4.next)).setCell ⟨gz, 2, none⟩ (.slice xg1 xgn1 xgc1)).setCell ⟨gz, 3, none⟩ (.slice xg2 xgn2 xgc2)).setCell ⟨gz, 4, none⟩ (.slice xg3 xgn3 xgc3))).heap.size (.agg #[.int .i64 d4.room, .int .i64 d4.next, .slice xg1 xgn1 xgc1, .slice xg2 xgn2 xgc2, .slice xg3 xgn3 xgc3]) d4) := (OZ.out.set5 HGC.out _ _ _ _ _).look
    have B17 : Hid (Below w.heap.size w (((((wz34.setCell ⟨gz, 0, none⟩ (.int .i64 d4.room)).setCell ⟨gz, 1, none⟩ (.int .i64 d4.next)).setCell ⟨gz, 2, none⟩ (.slice xg1 xgn1 xgc1)).setCell ⟨gz, 3, none⟩ (.slice xg2 xgn2 xgc2)).setCell ⟨gz, 4, none⟩ (.slice xg3 xgn3 xgc3))) := Bz34.out.trans (hbs.mono (by have := HG.out; have := HWW.out; omega))
    clear r0 r1 r2 r3 r4 f0 f1 f2 f3 f4 y0 y1 y2 y3 y4 hbs NE gzl OZ HGC KYz34 VYz34 SZz34 Bz34 Qz34 KZz34
    generalize ((((wz34.setCell ⟨gz, 0, none⟩ (.int .i64 d4.room)).setCell ⟨gz, 1, none⟩ (.int .i64 d4.next)).setCell ⟨gz, 2, none⟩ (.slice xg1 xgn1 xgc1)).setCell ⟨gz, 3, none⟩ (.slice xg2 xgn2 xgc2)).setCell ⟨gz, 4, none⟩ (.slice xg3 xgn3 xgc3) = w17 at *
    refine until_done (by kernel_rfl) ?_ _
    obtain ⟨e0, e1, e2, e3, e4⟩ := cellsC5 KY17.out
    go_wp2_with fail
    refine (specOkV d4 (.agg #[.int .i64 d4.room, .int .i64 d4.next, .slice xe1 xen1 xec1, .slice xe2 xen2 xec2, .slice xe3 0 xec3]) w17 w17.heap.size VY17.out HM4.out.1 HM4.out.2.2 (Nat.le_refl _)).mono ?_
    rintro e w18 ⟨rfl, hb⟩
    rw [hx4]
    have KY18h : Hid (Blk w18 w11.heap.size #[.int .i64 d4.room, .int .i64 d4.next, .slice xe1 xen1 xec1, .slice xe2 xen2 xec2, .slice xe3 0 xec3] 28) := KY17.out.on hb KY17.out.lt
    have KZ18 := KZ17.out.on hb KZ17.out.lt
    have VY18 : Hid (DiskV w18 w18.heap.size (.agg #[.int .i64 d4.room, .int .i64 d4.next, .slice xe1 xen1 xec1, .slice xe2 xen2 xec2, .slice xe3 0 xec3]) d4) := (VY17.out.on hb).up hb.size
    have VZ18 : Hid (DiskV w18 w18.heap.size (.agg #[.int .i64 d4.room, .int .i64 d4.next, .slice xg1 xgn1 xgc1, .slice xg2 xgn2 xgc2, .slice xg3 xgn3 xgc3]) d4) := (VZ17.out.on hb).up hb.size
    have B18 : Hid (Below w.heap.size w w18) := B17.out.trans (hb.mono B17.out.size)
    clear e0 e1 e2 e3 e4 hb KY17 KZ17 VY17 VZ17 B17
    obtain ⟨e0, e1, e2, e3, e4⟩ := cellsC5 KY18h.out
    obtain ⟨f0, f1, f2, f3, f4⟩ := cellsC5 KZ18
    clear KZ18
    go_wp2_with fail
    refine (sameDiskV d4 (.agg #[.int .i64 d4.room, .int .i64 d4.next, .slice xe1 xen1 xec1, .slice xe2 xen2 xec2, .slice xe3 0 xec3]) (.agg #[.int .i64 d4.room, .int .i64 d4.next, .slice xg1 xgn1 xgc1, .slice xg2 xgn2 xgc2, .slice xg3 xgn3 xgc3]) w18 w18.heap.size VY18.out VZ18.out (Nat.le_refl _) (by have := HR4.out.sz.n; omega) (by have := HR4.out.sz.l; omega) (by have := HR4.out.sz.m; omega)).mono ?_
    rintro e w19 ⟨rfl, hb⟩
    have B19 : Hid (Below w.heap.size w w19) := B18.out.trans (hb.mono B18.out.size)
    have KY19 := KY18h.out.on hb KY18h.out.lt
    clear e0 e1 e2 e3 e4 f0 f1 f2 f3 f4 hb VY18 VZ18 B18
    obtain ⟨e0, e1, e2, e3, e4⟩ := cellsC5 KY19
    go_wp2_with fail
    go_ret
    exact ⟨rfl, B19.out⟩
end Go.Proofs.YtgjilgecklhglaaGreat
