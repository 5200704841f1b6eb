/- LawRecover DkArg -/
import Derived.Test.YtdimaoloapbeoaaGreatDoorRows
import Derived.Test.YtdimaoloapbeoaaGreatDoorQv27
import Derived.Test.YtdimaoloapbeoaaGreatDoorQv31
import Derived.Test.YtdimaoloapbeoaaGreatDoorQv24
import Derived.Test.YtdimaoloapbeoaaGreatDoorQv10
import Derived.Deep.RegionHeld3
import Derived.Deep.Slices
import Derived.ChangeArms
import Derived.OpenShut
namespace Go.Proofs.YtdimaoloapbeoaaGreatDoor
open Go.ChangeShapes Go.WideShapes Go.ChangeAt Go.RowKit Go.PlainAid
set_option linter.unusedVariables false
theorem recR_few (d : Dsk) : (recR d).1.wal.ents.length ≤ 60 := by
 unfold recR
 split
 ·exact Nat.zero_le _
 ·split
  ·exact Nat.zero_le _
  ·split
   ·exact Nat.zero_le _
   ·rename_i h
    have h1 : (repS (loadR d logN).1).2.2 = true := by
     simp only [Bool.and_eq_false_iff, not_or, Bool.not_eq_false] at h
     exact h.1.1
    have h2 := (wok_sizes (repS_ok _ h1)).1
    simp only
    split
    ·unfold behW behE
     simp only
     split
     ·rw [List.length_drop]; omega
     ·exact Nat.zero_le _
    ·exact h2
theorem KptO.parts {w : World} {base : Nat} {v : Value} {k : Kpt} (h : KptO w base v k) : ∃ A m c, v = .agg (kptC k (.slice A m c)) ∧ Owns w base 59 2 (.slice A m c) (entR k.wal.ents) := by
 obtain ⟨u, e, ho⟩ := h
 obtain ⟨A, m, c, rfl⟩ := ho.shape
 exact ⟨A, m, c, e, ho⟩
theorem KptV.parts {w : World} {B : Nat} {v : Value} {k : Kpt} (h : KptV w B v k) : ∃ A m c, v = .agg (kptC k (.slice A m c)) ∧ Lies w B 2 (.slice A m c) (entR k.wal.ents) := by
 obtain ⟨u, e, ho⟩ := h
 obtain ⟨A, c, e2, _⟩ := ho.look
 subst e2
 exact ⟨A, _, c, e, ho⟩
set_option maxRecDepth 20000 in
set_option maxHeartbeats 16000000 in
theorem law_fnExactRecover (d : Dsk) (v : Value) (w : World) (hv : DiskV w w.heap.size v d) (hf : Fits d) (hi : IntsOk d) (hst : SumTab w) (a0 a1 a2 : Addr) (he : Errs w a0 a1 a2) :
  Calls Tryz.prog 3 #[v] w fun e w' => e = .returned (.bool true) ∧ Below w.heap.size w w' := by
 have HV : Hid (DiskV w w.heap.size v d) := hv
 have HF : Hid (Fits d) := hf
 have HI : Hid (IntsOk d) := hi
 have HST : Hid (SumTab w) := hst
 have HER : Hid (Errs w a0 a1 a2) := he
 obtain ⟨v1, v2, v3, rfl, h1, h2, h3⟩ := hv
 have cS := fun wx hx hb => szDisk d (.agg #[.int .i64 d.room, .int .i64 d.next, v1, v2, v3]) wx w.heap.size 1048576 (by omega) (by omega) hx hf hb
 clear h1 h2 h3 hf hi hst he
 go_enter Tryz.func3, Tryz.ntmps3
 go_wp2_with fail
 have k0 := Blk.new w #[.int .i64 d.room, .int .i64 d.next, v1, v2, v3] 26
 have hb0 : Below w.heap.size w (w.alloc (.cells #[.int .i64 d.room, .int .i64 d.next, v1, v2, v3] 26)) := (Below.refl _ _).alloc (Nat.le_refl _) _
 generalize w.alloc (.cells #[.int .i64 d.room, .int .i64 d.next, v1, v2, v3] 26) = W at *
 have B0 : Hid (Below w.heap.size w W) := hb0
 have K0 : Hid (Blk W w.heap.size #[.int .i64 d.room, .int .i64 d.next, v1, v2, v3] 26) := k0
 clear hb0 k0
 refine (cS W (HV.out.on B0.out) B0.out.size).mono ?_
 rintro e w1 ⟨r, rfl, hr, hb1⟩
 have B1 : Hid (Below w.heap.size w w1) := B0.out.trans (hb1.mono B0.out.size)
 have K1 : Hid (Blk w1 w.heap.size #[.int .i64 d.room, .int .i64 d.next, v1, v2, v3] 26) := K0.out.on hb1 K0.out.lt
 clear hb1 cS K0
 rcases hr with rfl | ⟨hr0, hr1⟩
 ·go_wp2_with fail
  go_ret
  exact ⟨rfl, B1.out⟩
 ·have HW : Hid (wtD d ≤ 1048576) := by unfold Hid; omega
  have hr2 : decide (r < 0) = false := decide_eq_false (by omega)
  have cT := fun wx hx hb => toDisk d (.agg #[.int .i64 d.room, .int .i64 d.next, v1, v2, v3]) wx w.heap.size hx HW.out hb
  have cSp := fun wx u hx => specRecover d u wx wx.heap.size hx HF.out HW.out (Nat.le_refl _)
  have cG := fun wx u hx (hb : Below w.heap.size w wx) => implRecover d u wx wx.heap.size hx HF.out HI.out HW.out (Nat.le_refl _) (HST.out.on hb) a0 a1 a2 (HER.out.on hb)
  have LR : Hid ((recR d).1.wal.ents.length ≤ 60) := recR_few d
  clear hr1
  generalize recR d = RR at *
  obtain ⟨kk, kc⟩ := RR
  simp only at *
  have n1 : (kc != kc) = false := by simp
  have y0 := K1.out.cell 0 _ rfl
  have y1 := K1.out.cell 1 _ rfl
  have y2 := K1.out.cell 2 _ rfl
  have y3 := K1.out.cell 3 _ rfl
  have y4 := K1.out.cell 4 _ rfl
  go_wp2_with fail
  refine (cT w1 (HV.out.on B1.out) B1.out.size).mono ?_
  rintro e w2 ⟨u, rfl, hO, hb2⟩
  have B2 : Hid (Below w.heap.size w w2) := B1.out.trans (hb2.mono B1.out.size)
  have K2 : Hid (Blk w2 w.heap.size #[.int .i64 d.room, .int .i64 d.next, v1, v2, v3] 26) := K1.out.on hb2 K1.out.lt
  have cP := cSp w2 u hO.look
  clear y0 y1 y2 y3 y4 hb2 hO K1 cSp
  go_wp2_with fail
  refine cP.mono ?_
  rintro e w3 ⟨⟨x6, rfl, hO3⟩, hb3⟩
  have B3 : Hid (Below w.heap.size w w3) := B2.out.trans (hb3.mono B2.out.size)
  have K3 : Hid (Blk w3 w.heap.size #[.int .i64 d.room, .int .i64 d.next, v1, v2, v3] 26) := K2.out.on hb3 K2.out.lt
  obtain ⟨eA, em, ec, rfl, hL3⟩ := hO3.parts
  have T3 : Hid (Lies w3 w3.heap.size 2 (.slice eA em ec) (entR kk.wal.ents)) := hL3
  clear cP hb3 K2 hO3 hL3
  have K3a : Hid (Blk (w3.alloc (.cells #[.int .i64 kk.wal.term, .int .i64 kk.wal.vote, .int .i64 kk.wal.base, .int .i64 kk.wal.bterm, .slice eA em ec, .int .i64 kk.snap.index, .int .i64 kk.snap.term, .string kk.snap.data, .bool kk.dirty] 34)) w.heap.size #[.int .i64 d.room, .int .i64 d.next, v1, v2, v3] 26) := K3.out.alloc _
  have y0 := K3a.out.cell 0 _ rfl
  have y1 := K3a.out.cell 1 _ rfl
  have y2 := K3a.out.cell 2 _ rfl
  have y3 := K3a.out.cell 3 _ rfl
  have y4 := K3a.out.cell 4 _ rfl
  unfold kptC
  go_wp2_with fail
  have k6 := Blk.new w3 #[.int .i64 kk.wal.term, .int .i64 kk.wal.vote, .int .i64 kk.wal.base, .int .i64 kk.wal.bterm, .slice eA em ec, .int .i64 kk.snap.index, .int .i64 kk.snap.term, .string kk.snap.data, .bool kk.dirty] 34
  have hb6 : Below w3.heap.size w3 (w3.alloc (.cells #[.int .i64 kk.wal.term, .int .i64 kk.wal.vote, .int .i64 kk.wal.base, .int .i64 kk.wal.bterm, .slice eA em ec, .int .i64 kk.snap.index, .int .i64 kk.snap.term, .string kk.snap.data, .bool kk.dirty] 34)) := (Below.refl _ _).alloc (Nat.le_refl _) _
  clear y0 y1 y2 y3 y4
  generalize w3.alloc (.cells #[.int .i64 kk.wal.term, .int .i64 kk.wal.vote, .int .i64 kk.wal.base, .int .i64 kk.wal.bterm, .slice eA em ec, .int .i64 kk.snap.index, .int .i64 kk.snap.term, .string kk.snap.data, .bool kk.dirty] 34) = W3 at *
  have BW3 : Hid (Below w.heap.size w W3) := B3.out.trans (hb6.mono B3.out.size)
  have TW3 : Hid (Lies W3 W3.heap.size 2 (.slice eA em ec) (entR kk.wal.ents)) := (T3.out.on hb6).mono hb6.size
  have P6a : Hid (Blk W3 w3.heap.size #[.int .i64 kk.wal.term, .int .i64 kk.wal.vote, .int .i64 kk.wal.base, .int .i64 kk.wal.bterm, .slice eA em ec, .int .i64 kk.snap.index, .int .i64 kk.snap.term, .string kk.snap.data, .bool kk.dirty] 34) := k6
  clear k6 hb6 T3 K3
  generalize w3.heap.size = p6 at *
  refine (cT W3 (HV.out.on BW3.out) BW3.out.size).mono ?_
  rintro e w4 ⟨x, rfl, hO4, hb4⟩
  have B4 : Hid (Below w.heap.size w w4) := BW3.out.trans (hb4.mono BW3.out.size)
  have K4 : Hid (Blk w4 w.heap.size #[.int .i64 d.room, .int .i64 d.next, v1, v2, v3] 26) := K3a.out.on hb4 K3a.out.lt
  have O4 : Hid (DiskO w4 W3.heap.size x d) := hO4
  have T4 : Hid (Below W3.heap.size W3 w4) := hb4
  obtain ⟨x1, x2, x3, rfl, q1, q2, q3⟩ := hO4
  have XR1 : Hid (∀ g, x1.ownBlock = some g → g < w4.heap.size) := fun g hg => (q1.lt g hg).2
  have XR2 : Hid (∀ g, x2.ownBlock = some g → g < w4.heap.size) := fun g hg => (q2.lt g hg).2
  have XR3 : Hid (∀ g, x3.ownBlock = some g → g < w4.heap.size) := fun g hg => (q3.lt g hg).2
  obtain ⟨A1, m1, c1, rfl⟩ := q1.shape
  obtain ⟨A2, m2, c2, rfl⟩ := q2.shape
  obtain ⟨A3, m3, c3, rfl⟩ := q3.shape
  have KL30 : Hid (w.heap.size < W3.heap.size) := K3a.out.lt
  clear hb4 K3a q1 q2 q3
  go_wp2_with fail
  have k5 := Blk.new w4 #[.int .i64 d.room, .int .i64 d.next, .slice A1 m1 c1, .slice A2 m2 c2, .slice A3 m3 c3] 41
  have hb5 : Below w4.heap.size w4 (w4.alloc (.cells #[.int .i64 d.room, .int .i64 d.next, .slice A1 m1 c1, .slice A2 m2 c2, .slice A3 m3 c3] 41)) := (Below.refl _ _).alloc (Nat.le_refl _) _
  generalize w4.alloc (.cells #[.int .i64 d.room, .int .i64 d.next, .slice A1 m1 c1, .slice A2 m2 c2, .slice A3 m3 c3] 41) = W5 at *
  have B5 : Hid (Below w.heap.size w W5) := B4.out.trans (hb5.mono B4.out.size)
  have K5 : Hid (Blk W5 w.heap.size #[.int .i64 d.room, .int .i64 d.next, v1, v2, v3] 26) := K4.out.on hb5 K4.out.lt
  have O5 : Hid (DiskO W5 W3.heap.size (.agg #[.int .i64 d.room, .int .i64 d.next, .slice A1 m1 c1, .slice A2 m2 c2, .slice A3 m3 c3]) d) := O4.out.on hb5
  have T5 : Hid (Below W3.heap.size W3 W5) := T4.out.trans (hb5.mono T4.out.size)
  have X5 : Hid (Blk W5 w4.heap.size #[.int .i64 d.room, .int .i64 d.next, .slice A1 m1 c1, .slice A2 m2 c2, .slice A3 m3 c3] 41) := k5
  have XL : Hid (W3.heap.size ≤ w4.heap.size) := T4.out.size
  clear hb5 k5 K4 O4 T4
  generalize w4.heap.size = px at *
  have PX : Hid (px < W5.heap.size) := X5.out.lt
  refine (cG W5 _ O5.out.look B5.out).mono ?_
  rintro e w6 ⟨⟨y9, rfl, hO6⟩, hb6⟩
  have B6 : Hid (Below w.heap.size w w6) := B5.out.trans (hb6.mono B5.out.size)
  have T6 : Hid (Below W5.heap.size W5 w6) := hb6
  obtain ⟨gA, gm, gc, rfl, hG6⟩ := hO6.parts
  have G6 : Hid (Owns w6 W5.heap.size 59 2 (.slice gA gm gc) (entR kk.wal.ents)) := hG6
  clear hb6 hO6 hG6
  have bW6 : Below w6.heap.size w6 (w6.alloc (.cells #[.int .i64 kk.wal.term, .int .i64 kk.wal.vote, .int .i64 kk.wal.base, .int .i64 kk.wal.bterm, .slice gA gm gc, .int .i64 kk.snap.index, .int .i64 kk.snap.term, .string kk.snap.data, .bool kk.dirty] 34)) := (Below.refl _ _).alloc (Nat.le_refl _) _
  have P9a : Hid (Blk (w6.alloc (.cells #[.int .i64 kk.wal.term, .int .i64 kk.wal.vote, .int .i64 kk.wal.base, .int .i64 kk.wal.bterm, .slice gA gm gc, .int .i64 kk.snap.index, .int .i64 kk.snap.term, .string kk.snap.data, .bool kk.dirty] 34)) w6.heap.size #[.int .i64 kk.wal.term, .int .i64 kk.wal.vote, .int .i64 kk.wal.base, .int .i64 kk.wal.bterm, .slice gA gm gc, .int .i64 kk.snap.index, .int .i64 kk.snap.term, .string kk.snap.data, .bool kk.dirty] 34) := Blk.new w6 #[.int .i64 kk.wal.term, .int .i64 kk.wal.vote, .int .i64 kk.wal.base, .int .i64 kk.wal.bterm, .slice gA gm gc, .int .i64 kk.snap.index, .int .i64 kk.snap.term, .string kk.snap.data, .bool kk.dirty] 34
  have BW6 : Hid (Below w.heap.size w (w6.alloc (.cells #[.int .i64 kk.wal.term, .int .i64 kk.wal.vote, .int .i64 kk.wal.base, .int .i64 kk.wal.bterm, .slice gA gm gc, .int .i64 kk.snap.index, .int .i64 kk.snap.term, .string kk.snap.data, .bool kk.dirty] 34))) := B6.out.trans (bW6.mono B6.out.size)
  have TW6 : Hid (Below W5.heap.size W5 (w6.alloc (.cells #[.int .i64 kk.wal.term, .int .i64 kk.wal.vote, .int .i64 kk.wal.base, .int .i64 kk.wal.bterm, .slice gA gm gc, .int .i64 kk.snap.index, .int .i64 kk.snap.term, .string kk.snap.data, .bool kk.dirty] 34))) := T6.out.trans (bW6.mono T6.out.size)
  have GW6 : Hid (Owns (w6.alloc (.cells #[.int .i64 kk.wal.term, .int .i64 kk.wal.vote, .int .i64 kk.wal.base, .int .i64 kk.wal.bterm, .slice gA gm gc, .int .i64 kk.snap.index, .int .i64 kk.snap.term, .string kk.snap.data, .bool kk.dirty] 34)) W5.heap.size 59 2 (.slice gA gm gc) (entR kk.wal.ents)) := G6.out.on bW6
  have P6b : Hid (Blk (w6.alloc (.cells #[.int .i64 kk.wal.term, .int .i64 kk.wal.vote, .int .i64 kk.wal.base, .int .i64 kk.wal.bterm, .slice gA gm gc, .int .i64 kk.snap.index, .int .i64 kk.snap.term, .string kk.snap.data, .bool kk.dirty] 34)) p6 #[.int .i64 kk.wal.term, .int .i64 kk.wal.vote, .int .i64 kk.wal.base, .int .i64 kk.wal.bterm, .slice eA em ec, .int .i64 kk.snap.index, .int .i64 kk.snap.term, .string kk.snap.data, .bool kk.dirty] 34) := ((P6a.out.on T5.out P6a.out.lt).on TW6.out (P6a.out.on T5.out P6a.out.lt).lt)
  have z0 := P9a.out.cell 0 _ rfl
  have z1 := P9a.out.cell 1 _ rfl
  have z2 := P9a.out.cell 2 _ rfl
  have z3 := P9a.out.cell 3 _ rfl
  have z4 := P9a.out.cell 4 _ rfl
  have z5 := P9a.out.cell 5 _ rfl
  have z6 := P9a.out.cell 6 _ rfl
  have z7 := P9a.out.cell 7 _ rfl
  have z8 := P9a.out.cell 8 _ rfl
  have s0 := P6b.out.cell 0 _ rfl
  have s1 := P6b.out.cell 1 _ rfl
  have s2 := P6b.out.cell 2 _ rfl
  have s3 := P6b.out.cell 3 _ rfl
  have s4 := P6b.out.cell 4 _ rfl
  have s5 := P6b.out.cell 5 _ rfl
  have s6 := P6b.out.cell 6 _ rfl
  have s7 := P6b.out.cell 7 _ rfl
  have s8 := P6b.out.cell 8 _ rfl
  unfold kptC
  go_wp2_with fail
  clear z0 z1 z2 z3 z4 z5 z6 z7 z8 s0 s1 s2 s3 s4 s5 s6 s7 s8 bW6 G6
  have GLL : Hid (W5.heap.size ≤ w6.heap.size) := T6.out.size
  clear T6
  generalize w6.alloc (.cells #[.int .i64 kk.wal.term, .int .i64 kk.wal.vote, .int .i64 kk.wal.base, .int .i64 kk.wal.bterm, .slice gA gm gc, .int .i64 kk.snap.index, .int .i64 kk.snap.term, .string kk.snap.data, .bool kk.dirty] 34) = W6 at *
  have GL : Hid (W5.heap.size ≤ w6.heap.size) := GLL.out
  generalize w6.heap.size = p9 at *
  have TT6 : Hid (Below W3.heap.size W3 W6) := T5.out.trans (TW6.out.mono T5.out.size)
  have EQ : Hid (∀ wx gv, Below W3.heap.size W3 wx → Lies wx wx.heap.size 2 gv (entR kk.wal.ents) → Calls Tryz.prog 8 #[.agg (kptC kk gv), .agg (kptC kk (.slice eA em ec))] wx fun e w' => e = .returned (.bool true) ∧ Below wx.heap.size wx w') := fun wx gv hb hl => eqKept kk _ _ wx wx.heap.size ⟨gv, rfl, hl⟩ ⟨_, rfl, (TW3.out.on hb).mono hb.size⟩ (by have := LR.out; omega) (Nat.le_refl _)
  have cE := EQ.out W6 (.slice gA gm gc) TT6.out GW6.out.lies
  unfold kptC at cE
  refine cE.mono ?_
  rintro e w7 ⟨rfl, hb7⟩
  have hb7x : Hid (Below W6.heap.size W6 w7) := hb7
  have B7 : Hid (Below w.heap.size w w7) := BW6.out.trans (hb7.mono BW6.out.size)
  have K7 : Hid (Blk w7 w.heap.size #[.int .i64 d.room, .int .i64 d.next, v1, v2, v3] 26) := ((K5.out.on TW6.out K5.out.lt)).on hb7 (K5.out.on TW6.out K5.out.lt).lt
  have X7 : Hid (Blk w7 px #[.int .i64 d.room, .int .i64 d.next, .slice A1 m1 c1, .slice A2 m2 c2, .slice A3 m3 c3] 41) := (X5.out.on TW6.out X5.out.lt).on hb7 (X5.out.on TW6.out X5.out.lt).lt
  have O7 : Hid (DiskO w7 W3.heap.size (.agg #[.int .i64 d.room, .int .i64 d.next, .slice A1 m1 c1, .slice A2 m2 c2, .slice A3 m3 c3]) d) := (O5.out.on TW6.out).on hb7
  have G7 : Hid (Owns w7 W5.heap.size 59 2 (.slice gA gm gc) (entR kk.wal.ents)) := GW6.out.on hb7
  have P97 : Hid (Blk w7 p9 #[.int .i64 kk.wal.term, .int .i64 kk.wal.vote, .int .i64 kk.wal.base, .int .i64 kk.wal.bterm, .slice gA gm gc, .int .i64 kk.snap.index, .int .i64 kk.snap.term, .string kk.snap.data, .bool kk.dirty] 34) := P9a.out.on hb7 P9a.out.lt
  have P67 : Hid (Blk w7 p6 #[.int .i64 kk.wal.term, .int .i64 kk.wal.vote, .int .i64 kk.wal.base, .int .i64 kk.wal.bterm, .slice eA em ec, .int .i64 kk.snap.index, .int .i64 kk.snap.term, .string kk.snap.data, .bool kk.dirty] 34) := P6b.out.on hb7 P6b.out.lt
  clear hb7 K5 X5 O5 GW6 P9a P6b cE
  have TB7 : Hid (Below W3.heap.size W3 w7) := TT6.out.trans (hb7x.out.mono TT6.out.size)
  have S0 : Hid (w7.drew.cell? ⟨px, 0, none⟩ = some (.int .i64 d.room) ∧ w7.drew.cell? ⟨px, 1, none⟩ = some (.int .i64 d.next) ∧ w7.drew.cell? ⟨px, 2, none⟩ = some (.slice A1 m1 c1) ∧ w7.drew.cell? ⟨px, 3, none⟩ = some (.slice A2 m2 c2) ∧ w7.drew.cell? ⟨px, 4, none⟩ = some (.slice A3 m3 c3) ∧ w7.drew.cell? ⟨w.heap.size, 0, none⟩ = some (.int .i64 d.room) ∧ w7.drew.cell? ⟨w.heap.size, 1, none⟩ = some (.int .i64 d.next) ∧ w7.drew.cell? ⟨w.heap.size, 2, none⟩ = some (v1) ∧ w7.drew.cell? ⟨w.heap.size, 3, none⟩ = some (v2) ∧ w7.drew.cell? ⟨w.heap.size, 4, none⟩ = some (v3)) := ⟨X7.out.cell 0 _ rfl, X7.out.cell 1 _ rfl, X7.out.cell 2 _ rfl, X7.out.cell 3 _ rfl, X7.out.cell 4 _ rfl, K7.out.cell 0 _ rfl, K7.out.cell 1 _ rfl, K7.out.cell 2 _ rfl, K7.out.cell 3 _ rfl, K7.out.cell 4 _ rfl⟩
  have B7d : Hid (Below w.heap.size w w7.drew) := B7.out.drew
  have cT7 := cT w7.drew (HV.out.on B7d.out) B7d.out.size
  go_wp2_with fail
  go_region_held3 (fun w' => w'.cell? ⟨px, 0, none⟩ = some (.int .i64 d.room) ∧ w'.cell? ⟨px, 1, none⟩ = some (.int .i64 d.next) ∧ w'.cell? ⟨px, 2, none⟩ = some (.slice A1 m1 c1) ∧ w'.cell? ⟨px, 3, none⟩ = some (.slice A2 m2 c2) ∧ w'.cell? ⟨px, 4, none⟩ = some (.slice A3 m3 c3) ∧ w'.cell? ⟨w.heap.size, 0, none⟩ = some (.int .i64 d.room) ∧ w'.cell? ⟨w.heap.size, 1, none⟩ = some (.int .i64 d.next) ∧ w'.cell? ⟨w.heap.size, 2, none⟩ = some (v1) ∧ w'.cell? ⟨w.heap.size, 3, none⟩ = some (v2) ∧ w'.cell? ⟨w.heap.size, 4, none⟩ = some (v3)) (first | exact S0.out | exact S2.out | exact S3'.out)
   ((first | (go_at_call 6; refine cT7.mono ?_; rintro e w8 ⟨y, rfl, hO8, hb8⟩; have S2 : Hid (w8.cell? ⟨px, 0, none⟩ = some (.int .i64 d.room) ∧ w8.cell? ⟨px, 1, none⟩ = some (.int .i64 d.next) ∧ w8.cell? ⟨px, 2, none⟩ = some (.slice A1 m1 c1) ∧ w8.cell? ⟨px, 3, none⟩ = some (.slice A2 m2 c2) ∧ w8.cell? ⟨px, 4, none⟩ = some (.slice A3 m3 c3) ∧ w8.cell? ⟨w.heap.size, 0, none⟩ = some (.int .i64 d.room) ∧ w8.cell? ⟨w.heap.size, 1, none⟩ = some (.int .i64 d.next) ∧ w8.cell? ⟨w.heap.size, 2, none⟩ = some (v1) ∧ w8.cell? ⟨w.heap.size, 3, none⟩ = some (v2) ∧ w8.cell? ⟨w.heap.size, 4, none⟩ = some (v3)) := ⟨(Blk.on (w := w7.drew) X7.out hb8 X7.out.lt).cell 0 _ rfl, (Blk.on (w := w7.drew) X7.out hb8 X7.out.lt).cell 1 _ rfl, (Blk.on (w := w7.drew) X7.out hb8 X7.out.lt).cell 2 _ rfl, (Blk.on (w := w7.drew) X7.out hb8 X7.out.lt).cell 3 _ rfl, (Blk.on (w := w7.drew) X7.out hb8 X7.out.lt).cell 4 _ rfl, (Blk.on (w := w7.drew) K7.out hb8 K7.out.lt).cell 0 _ rfl, (Blk.on (w := w7.drew) K7.out hb8 K7.out.lt).cell 1 _ rfl, (Blk.on (w := w7.drew) K7.out hb8 K7.out.lt).cell 2 _ rfl, (Blk.on (w := w7.drew) K7.out hb8 K7.out.lt).cell 3 _ rfl, (Blk.on (w := w7.drew) K7.out hb8 K7.out.lt).cell 4 _ rfl⟩; have O8 : Hid (DiskO w8 w7.heap.size y d) := hO8; have BX8 : Hid (Below w7.heap.size w7 w8) := (Below.refl _ w7).drew.trans hb8; clear hO8) | (go_at_call 9; refine (eqDisk d _ _ w8 w8.heap.size (O7.out.on BX8.out).look O8.out.look HW.out (Nat.le_refl _)).mono ?_; rintro e w9 ⟨rfl, hb9⟩; have S3' : Hid (w9.cell? ⟨px, 0, none⟩ = some (.int .i64 d.room) ∧ w9.cell? ⟨px, 1, none⟩ = some (.int .i64 d.next) ∧ w9.cell? ⟨px, 2, none⟩ = some (.slice A1 m1 c1) ∧ w9.cell? ⟨px, 3, none⟩ = some (.slice A2 m2 c2) ∧ w9.cell? ⟨px, 4, none⟩ = some (.slice A3 m3 c3) ∧ w9.cell? ⟨w.heap.size, 0, none⟩ = some (.int .i64 d.room) ∧ w9.cell? ⟨w.heap.size, 1, none⟩ = some (.int .i64 d.next) ∧ w9.cell? ⟨w.heap.size, 2, none⟩ = some (v1) ∧ w9.cell? ⟨w.heap.size, 3, none⟩ = some (v2) ∧ w9.cell? ⟨w.heap.size, 4, none⟩ = some (v3)) := ⟨((X7.out.on BX8.out X7.out.lt).on hb9 (X7.out.on BX8.out X7.out.lt).lt).cell 0 _ rfl, ((X7.out.on BX8.out X7.out.lt).on hb9 (X7.out.on BX8.out X7.out.lt).lt).cell 1 _ rfl, ((X7.out.on BX8.out X7.out.lt).on hb9 (X7.out.on BX8.out X7.out.lt).lt).cell 2 _ rfl, ((X7.out.on BX8.out X7.out.lt).on hb9 (X7.out.on BX8.out X7.out.lt).lt).cell 3 _ rfl, ((X7.out.on BX8.out X7.out.lt).on hb9 (X7.out.on BX8.out X7.out.lt).lt).cell 4 _ rfl, ((K7.out.on BX8.out K7.out.lt).on hb9 (K7.out.on BX8.out K7.out.lt).lt).cell 0 _ rfl, ((K7.out.on BX8.out K7.out.lt).on hb9 (K7.out.on BX8.out K7.out.lt).lt).cell 1 _ rfl, ((K7.out.on BX8.out K7.out.lt).on hb9 (K7.out.on BX8.out K7.out.lt).lt).cell 2 _ rfl, ((K7.out.on BX8.out K7.out.lt).on hb9 (K7.out.on BX8.out K7.out.lt).lt).cell 3 _ rfl, ((K7.out.on BX8.out K7.out.lt).on hb9 (K7.out.on BX8.out K7.out.lt).lt).cell 4 _ rfl⟩)))
  have hb97 : Below w7.heap.size w7 w9 := BX8.out.trans (hb9.mono BX8.out.size)
  have B9 : Hid (Below w.heap.size w w9) := B7.out.trans (hb97.mono B7.out.size)
  have K9 : Hid (Blk w9 w.heap.size #[.int .i64 d.room, .int .i64 d.next, v1, v2, v3] 26) := K7.out.on hb97 K7.out.lt
  have X9 : Hid (Blk w9 px #[.int .i64 d.room, .int .i64 d.next, .slice A1 m1 c1, .slice A2 m2 c2, .slice A3 m3 c3] 41) := X7.out.on hb97 X7.out.lt
  have O9 := O7.out.on hb97
  have G9 : Hid (Owns w9 W5.heap.size 59 2 (.slice gA gm gc) (entR kk.wal.ents)) := G7.out.on hb97
  have P99 : Hid (Blk w9 p9 #[.int .i64 kk.wal.term, .int .i64 kk.wal.vote, .int .i64 kk.wal.base, .int .i64 kk.wal.bterm, .slice gA gm gc, .int .i64 kk.snap.index, .int .i64 kk.snap.term, .string kk.snap.data, .bool kk.dirty] 34) := P97.out.on hb97 P97.out.lt
  have P69 : Hid (Blk w9 p6 #[.int .i64 kk.wal.term, .int .i64 kk.wal.vote, .int .i64 kk.wal.base, .int .i64 kk.wal.bterm, .slice eA em ec, .int .i64 kk.snap.index, .int .i64 kk.snap.term, .string kk.snap.data, .bool kk.dirty] 34) := P67.out.on hb97 P67.out.lt
  have TB9 : Hid (Below W3.heap.size W3 w9) := TB7.out.trans (hb97.mono TB7.out.size)
  have Z59 : Hid (W5.heap.size ≤ w9.heap.size) := Nat.le_trans TW6.out.size (Nat.le_trans hb7x.out.size hb97.size)
  have WT : Hid (d.nods.length ≤ 1048576 ∧ d.dir.length ≤ 1048576 ∧ d.movs.length ≤ 1048576) := by
   have := HW.out
   unfold wtD at this
   unfold Hid
   omega
  have KL3 : Hid (w.heap.size < W3.heap.size) := KL30.out
  have PL6 : Hid (p6 < W3.heap.size) := P6a.out.lt
  have W35 : Hid (W3.heap.size ≤ W5.heap.size) := T5.out.size
  obtain ⟨y1', y2', y3', e', o1, o2, o3⟩ := O9
  cases e'
  have cM := markDisk 1 W3.heap.size px d.room d.next _ _ _ (nodR d.nods) (lnkR d.dir) (movR d.movs) w9 ⟨o1, o2, o3, XR1.out, XR2.out, XR3.out⟩ (by rw [nodR_length]; exact WT.out.1) (by rw [lnkR_length]; exact WT.out.2.1) (by rw [movR_length]; exact WT.out.2.2) (Nat.le_refl _) (by omega) (Nat.le_trans W35.out Z59.out)
  generalize hKK : (1 + 3 * (nodR d.nods).length + 2 * (lnkR d.dir).length + 4 * (movR d.movs).length : Nat) = KK at *
  have qK : (KK : Int) ≤ 10000000 := by
   rw [nodR_length, lnkR_length, movR_length] at hKK
   have := WT.out
   omega
  have qK0 : decide ((KK : Int) < 0) = false := decide_eq_false (by omega)
  clear S0 S2 S3' hb9 hb97 O8 BX8 K7 X7 G7 P97 P67 O7 o1 o2 o3 B7d cT7 hKK
  have x0 := X9.out.cell 0 _ rfl
  have x1 := X9.out.cell 1 _ rfl
  have x2 := X9.out.cell 2 _ rfl
  have x3 := X9.out.cell 3 _ rfl
  have x4 := X9.out.cell 4 _ rfl
  go_wp2_with fail
  refine cM.mono ?_
  rintro e w10 ⟨rfl, _, hb10, hk10⟩
  have B10 : Hid (Below w.heap.size w w10) := B9.out.trans (hb10.mono (Nat.le_of_lt KL3.out))
  have K10 : Hid (Blk w10 w.heap.size #[.int .i64 d.room, .int .i64 d.next, v1, v2, v3] 26) := K9.out.on hb10 KL3.out
  have P610 : Hid (Blk w10 p6 #[.int .i64 kk.wal.term, .int .i64 kk.wal.vote, .int .i64 kk.wal.base, .int .i64 kk.wal.bterm, .slice eA em ec, .int .i64 kk.snap.index, .int .i64 kk.snap.term, .string kk.snap.data, .bool kk.dirty] 34) := P69.out.on hb10 PL6.out
  have TB10 : Hid (Below W3.heap.size W3 w10) := TB9.out.trans hb10
  have G10 : Hid (Owns w10 W5.heap.size 59 2 (.slice gA gm gc) (entR kk.wal.ents)) := G9.out.kept fun g hg ho => hk10 g (by have := (G9.out.lt g ho).1; have := PX.out; omega) hg
  have P910 : Hid (Blk w10 p9 #[.int .i64 kk.wal.term, .int .i64 kk.wal.vote, .int .i64 kk.wal.base, .int .i64 kk.wal.bterm, .slice gA gm gc, .int .i64 kk.snap.index, .int .i64 kk.snap.term, .string kk.snap.data, .bool kk.dirty] 34) := by
   have h1 := hk10 p9 (by have := PX.out; have := GL.out; omega) P99.out.lt
   unfold Hid Blk
   rw [h1]
   exact P99.out
  have Z510 : Hid (W5.heap.size ≤ w10.heap.size) := Nat.le_trans Z59.out hb10.size
  clear cM hb10 hk10 x0 x1 x2 x3 x4 B9 K9 X9 G9 P99 P69 TB9
  have g0 := P910.out.cell 0 _ rfl
  have g1 := P910.out.cell 1 _ rfl
  have g2 := P910.out.cell 2 _ rfl
  have g3 := P910.out.cell 3 _ rfl
  have g4 := P910.out.cell 4 _ rfl
  have g5 := P910.out.cell 5 _ rfl
  have g6 := P910.out.cell 6 _ rfl
  have g7 := P910.out.cell 7 _ rfl
  have g8 := P910.out.cell 8 _ rfl
  have s0 := P610.out.cell 0 _ rfl
  have s1 := P610.out.cell 1 _ rfl
  have s2 := P610.out.cell 2 _ rfl
  have s3 := P610.out.cell 3 _ rfl
  have s4 := P610.out.cell 4 _ rfl
  have s5 := P610.out.cell 5 _ rfl
  have s6 := P610.out.cell 6 _ rfl
  have s7 := P610.out.cell 7 _ rfl
  have s8 := P610.out.cell 8 _ rfl
  have cE := EQ.out w10 (.slice gA gm gc) TB10.out G10.out.lies
  unfold kptC at cE
  go_wp2_with fail
  refine cE.mono ?_
  rintro e w11 ⟨rfl, hb11⟩
  have B11 : Hid (Below w.heap.size w w11) := B10.out.trans (hb11.mono B10.out.size)
  have K11 : Hid (Blk w11 w.heap.size #[.int .i64 d.room, .int .i64 d.next, v1, v2, v3] 26) := K10.out.on hb11 K10.out.lt
  have P611 : Hid (Blk w11 p6 #[.int .i64 kk.wal.term, .int .i64 kk.wal.vote, .int .i64 kk.wal.base, .int .i64 kk.wal.bterm, .slice eA em ec, .int .i64 kk.snap.index, .int .i64 kk.snap.term, .string kk.snap.data, .bool kk.dirty] 34) := P610.out.on hb11 P610.out.lt
  have TB11 : Hid (Below W3.heap.size W3 w11) := TB10.out.trans (hb11.mono TB10.out.size)
  have G11 := G10.out.on hb11
  have P911 : Hid (Blk w11 p9 #[.int .i64 kk.wal.term, .int .i64 kk.wal.vote, .int .i64 kk.wal.base, .int .i64 kk.wal.bterm, .slice gA gm gc, .int .i64 kk.snap.index, .int .i64 kk.snap.term, .string kk.snap.data, .bool kk.dirty] 34) := P910.out.on hb11 P910.out.lt
  have Z511 : Hid (W5.heap.size ≤ w11.heap.size) := Nat.le_trans Z510.out hb11.size
  have NB : Hid ((Value.slice gA gm gc).ownBlock ≠ some p9) := G11.notBlk P911.out (by decide)
  have cM := markKept 1 W5.heap.size kk (.slice gA gm gc) (entR kk.wal.ents) w11 G11 (by rw [entR_length]; have := LR.out; omega) (Nat.le_refl _) (by omega) Z511.out
  have cH := fun wx hl => heldKept 1 (entR kk.wal.ents).length kk (.slice gA gm gc) wx wx.heap.size hl (by rw [entR_length]; have := LR.out; omega) (Nat.le_refl _) (by omega) (Nat.le_refl _)
  unfold kptC at cM cH
  generalize hMM : (1 + 2 * (entR kk.wal.ents).length : Nat) = MM at *
  have qM : (MM : Int) ≤ 10000000 := by
   rw [entR_length] at hMM
   have := LR.out
   omega
  have qM0 : decide ((MM : Int) < 0) = false := decide_eq_false (by omega)
  have nM : ((MM : Int) != (MM : Int)) = false := by simp
  clear cE hb11 hMM B10 K10 P610 TB10 G10 P910 g0 g1 g2 g3 g4 g5 g6 g7 g8 s0 s1 s2 s3 s4 s5 s6 s7 s8
  have g0 := P911.out.cell 0 _ rfl
  have g1 := P911.out.cell 1 _ rfl
  have g2 := P911.out.cell 2 _ rfl
  have g3 := P911.out.cell 3 _ rfl
  have g4 := P911.out.cell 4 _ rfl
  have g5 := P911.out.cell 5 _ rfl
  have g6 := P911.out.cell 6 _ rfl
  have g7 := P911.out.cell 7 _ rfl
  have g8 := P911.out.cell 8 _ rfl
  go_wp2_with fail
  refine cM.mono ?_
  rintro e w12 ⟨rfl, hR12, hb12, hk12⟩
  have B12 : Hid (Below w.heap.size w w12) := B11.out.trans (hb12.mono (Nat.le_trans (Nat.le_of_lt KL3.out) W35.out))
  have K12 : Hid (Blk w12 w.heap.size #[.int .i64 d.room, .int .i64 d.next, v1, v2, v3] 26) := K11.out.on hb12 (Nat.lt_of_lt_of_le KL3.out W35.out)
  have P612 : Hid (Blk w12 p6 #[.int .i64 kk.wal.term, .int .i64 kk.wal.vote, .int .i64 kk.wal.base, .int .i64 kk.wal.bterm, .slice eA em ec, .int .i64 kk.snap.index, .int .i64 kk.snap.term, .string kk.snap.data, .bool kk.dirty] 34) := P611.out.on hb12 (Nat.lt_of_lt_of_le PL6.out W35.out)
  have TB12 : Hid (Below W3.heap.size W3 w12) := TB11.out.trans (hb12.mono W35.out)
  have P912 : Hid (Blk w12 p9 #[.int .i64 kk.wal.term, .int .i64 kk.wal.vote, .int .i64 kk.wal.base, .int .i64 kk.wal.bterm, .slice gA gm gc, .int .i64 kk.snap.index, .int .i64 kk.snap.term, .string kk.snap.data, .bool kk.dirty] 34) := by
   have h1 := hk12 p9 P911.out.lt NB.out
   unfold Hid Blk
   rw [h1]
   exact P911.out
  generalize newR (mkEnt 1) (entR kk.wal.ents).length = N1 at *
  have HR12 : Hid (Owns w12 W5.heap.size 59 2 (.slice gA gm gc) N1) := hR12
  clear cM hb12 hk12 hR12 B11 K11 P611 TB11 P911 G11 g0 g1 g2 g3 g4 g5 g6 g7 g8
  have g0 := P912.out.cell 0 _ rfl
  have g1 := P912.out.cell 1 _ rfl
  have g2 := P912.out.cell 2 _ rfl
  have g3 := P912.out.cell 3 _ rfl
  have g4 := P912.out.cell 4 _ rfl
  have g5 := P912.out.cell 5 _ rfl
  have g6 := P912.out.cell 6 _ rfl
  have g7 := P912.out.cell 7 _ rfl
  have g8 := P912.out.cell 8 _ rfl
  go_wp2_with fail
  refine (cH w12 HR12.out.lies).mono ?_
  rintro e w13 ⟨rfl, hb13⟩
  have B13 : Hid (Below w.heap.size w w13) := B12.out.trans (hb13.mono B12.out.size)
  have K13 : Hid (Blk w13 w.heap.size #[.int .i64 d.room, .int .i64 d.next, v1, v2, v3] 26) := K12.out.on hb13 K12.out.lt
  have P613 : Hid (Blk w13 p6 #[.int .i64 kk.wal.term, .int .i64 kk.wal.vote, .int .i64 kk.wal.base, .int .i64 kk.wal.bterm, .slice eA em ec, .int .i64 kk.snap.index, .int .i64 kk.snap.term, .string kk.snap.data, .bool kk.dirty] 34) := P612.out.on hb13 P612.out.lt
  have TB13 : Hid (Below W3.heap.size W3 w13) := TB12.out.trans (hb13.mono TB12.out.size)
  have P913 : Hid (Blk w13 p9 #[.int .i64 kk.wal.term, .int .i64 kk.wal.vote, .int .i64 kk.wal.base, .int .i64 kk.wal.bterm, .slice gA gm gc, .int .i64 kk.snap.index, .int .i64 kk.snap.term, .string kk.snap.data, .bool kk.dirty] 34) := P912.out.on hb13 P912.out.lt
  have HR13 : Hid (Owns w13 W5.heap.size 59 2 (.slice gA gm gc) N1) := HR12.out.on hb13
  clear hb13 B12 K12 P612 TB12 P912 HR12 g0 g1 g2 g3 g4 g5 g6 g7 g8
  have y0 := K13.out.cell 0 _ rfl
  have y1 := K13.out.cell 1 _ rfl
  have y2 := K13.out.cell 2 _ rfl
  have y3 := K13.out.cell 3 _ rfl
  have y4 := K13.out.cell 4 _ rfl
  go_wp2_with fail
  refine (cT w13 (HV.out.on B13.out) B13.out.size).mono ?_
  rintro e w14 ⟨u2, rfl, hO14, hb14⟩
  have B14 : Hid (Below w.heap.size w w14) := B13.out.trans (hb14.mono B13.out.size)
  have P614 : Hid (Blk w14 p6 #[.int .i64 kk.wal.term, .int .i64 kk.wal.vote, .int .i64 kk.wal.base, .int .i64 kk.wal.bterm, .slice eA em ec, .int .i64 kk.snap.index, .int .i64 kk.snap.term, .string kk.snap.data, .bool kk.dirty] 34) := P613.out.on hb14 P613.out.lt
  have TB14 : Hid (Below W3.heap.size W3 w14) := TB13.out.trans (hb14.mono TB13.out.size)
  have P914 : Hid (Blk w14 p9 #[.int .i64 kk.wal.term, .int .i64 kk.wal.vote, .int .i64 kk.wal.base, .int .i64 kk.wal.bterm, .slice gA gm gc, .int .i64 kk.snap.index, .int .i64 kk.snap.term, .string kk.snap.data, .bool kk.dirty] 34) := P913.out.on hb14 P913.out.lt
  have HR14 : Hid (Owns w14 W5.heap.size 59 2 (.slice gA gm gc) N1) := HR13.out.on hb14
  have cG14 := cG w14 u2 hO14.look B14.out
  clear hb14 hO14 B13 K13 P613 TB13 P913 HR13 y0 y1 y2 y3 y4
  go_wp2_with fail
  refine cG14.mono ?_
  rintro e w15 ⟨⟨h14, rfl, hO15⟩, hb15⟩
  obtain ⟨hA, hm, hc, rfl, hH⟩ := hO15.parts
  have bb : Below w14.heap.size w14 (w15.alloc (.cells #[.int .i64 kk.wal.term, .int .i64 kk.wal.vote, .int .i64 kk.wal.base, .int .i64 kk.wal.bterm, .slice hA hm hc, .int .i64 kk.snap.index, .int .i64 kk.snap.term, .string kk.snap.data, .bool kk.dirty] 34)) := hb15.trans (((Below.refl _ w15).alloc (Nat.le_refl _) _).mono hb15.size)
  have P14a : Hid (Blk (w15.alloc (.cells #[.int .i64 kk.wal.term, .int .i64 kk.wal.vote, .int .i64 kk.wal.base, .int .i64 kk.wal.bterm, .slice hA hm hc, .int .i64 kk.snap.index, .int .i64 kk.snap.term, .string kk.snap.data, .bool kk.dirty] 34)) w15.heap.size #[.int .i64 kk.wal.term, .int .i64 kk.wal.vote, .int .i64 kk.wal.base, .int .i64 kk.wal.bterm, .slice hA hm hc, .int .i64 kk.snap.index, .int .i64 kk.snap.term, .string kk.snap.data, .bool kk.dirty] 34) := Blk.new w15 #[.int .i64 kk.wal.term, .int .i64 kk.wal.vote, .int .i64 kk.wal.base, .int .i64 kk.wal.bterm, .slice hA hm hc, .int .i64 kk.snap.index, .int .i64 kk.snap.term, .string kk.snap.data, .bool kk.dirty] 34
  have P615 : Hid (Blk (w15.alloc (.cells #[.int .i64 kk.wal.term, .int .i64 kk.wal.vote, .int .i64 kk.wal.base, .int .i64 kk.wal.bterm, .slice hA hm hc, .int .i64 kk.snap.index, .int .i64 kk.snap.term, .string kk.snap.data, .bool kk.dirty] 34)) p6 #[.int .i64 kk.wal.term, .int .i64 kk.wal.vote, .int .i64 kk.wal.base, .int .i64 kk.wal.bterm, .slice eA em ec, .int .i64 kk.snap.index, .int .i64 kk.snap.term, .string kk.snap.data, .bool kk.dirty] 34) := P614.out.on bb P614.out.lt
  have P915 : Hid (Blk (w15.alloc (.cells #[.int .i64 kk.wal.term, .int .i64 kk.wal.vote, .int .i64 kk.wal.base, .int .i64 kk.wal.bterm, .slice hA hm hc, .int .i64 kk.snap.index, .int .i64 kk.snap.term, .string kk.snap.data, .bool kk.dirty] 34)) p9 #[.int .i64 kk.wal.term, .int .i64 kk.wal.vote, .int .i64 kk.wal.base, .int .i64 kk.wal.bterm, .slice gA gm gc, .int .i64 kk.snap.index, .int .i64 kk.snap.term, .string kk.snap.data, .bool kk.dirty] 34) := P914.out.on bb P914.out.lt
  have HR15 : Hid (Owns (w15.alloc (.cells #[.int .i64 kk.wal.term, .int .i64 kk.wal.vote, .int .i64 kk.wal.base, .int .i64 kk.wal.bterm, .slice hA hm hc, .int .i64 kk.snap.index, .int .i64 kk.snap.term, .string kk.snap.data, .bool kk.dirty] 34)) W5.heap.size 59 2 (.slice gA gm gc) N1) := HR14.out.on bb
  have TB15 : Hid (Below W3.heap.size W3 (w15.alloc (.cells #[.int .i64 kk.wal.term, .int .i64 kk.wal.vote, .int .i64 kk.wal.base, .int .i64 kk.wal.bterm, .slice hA hm hc, .int .i64 kk.snap.index, .int .i64 kk.snap.term, .string kk.snap.data, .bool kk.dirty] 34))) := TB14.out.trans (bb.mono TB14.out.size)
  have HH15 : Hid (Lies (w15.alloc (.cells #[.int .i64 kk.wal.term, .int .i64 kk.wal.vote, .int .i64 kk.wal.base, .int .i64 kk.wal.bterm, .slice hA hm hc, .int .i64 kk.snap.index, .int .i64 kk.snap.term, .string kk.snap.data, .bool kk.dirty] 34)) (w15.alloc (.cells #[.int .i64 kk.wal.term, .int .i64 kk.wal.vote, .int .i64 kk.wal.base, .int .i64 kk.wal.bterm, .slice hA hm hc, .int .i64 kk.snap.index, .int .i64 kk.snap.term, .string kk.snap.data, .bool kk.dirty] 34)).heap.size 2 (.slice hA hm hc) (entR kk.wal.ents)) := (hH.on ((Below.refl _ w15).alloc (Nat.le_refl _) _)).lies
  have BB15 : Hid (Below w.heap.size w (w15.alloc (.cells #[.int .i64 kk.wal.term, .int .i64 kk.wal.vote, .int .i64 kk.wal.base, .int .i64 kk.wal.bterm, .slice hA hm hc, .int .i64 kk.snap.index, .int .i64 kk.snap.term, .string kk.snap.data, .bool kk.dirty] 34))) := B14.out.trans (bb.mono B14.out.size)
  clear cG14 hb15 bb hH hO15 B14 P614 TB14 P914 HR14
  have h0 := P14a.out.cell 0 _ rfl
  have h1 := P14a.out.cell 1 _ rfl
  have h2 := P14a.out.cell 2 _ rfl
  have h3 := P14a.out.cell 3 _ rfl
  have h4 := P14a.out.cell 4 _ rfl
  have h5 := P14a.out.cell 5 _ rfl
  have h6 := P14a.out.cell 6 _ rfl
  have h7 := P14a.out.cell 7 _ rfl
  have h8 := P14a.out.cell 8 _ rfl
  have s0 := P615.out.cell 0 _ rfl
  have s1 := P615.out.cell 1 _ rfl
  have s2 := P615.out.cell 2 _ rfl
  have s3 := P615.out.cell 3 _ rfl
  have s4 := P615.out.cell 4 _ rfl
  have s5 := P615.out.cell 5 _ rfl
  have s6 := P615.out.cell 6 _ rfl
  have s7 := P615.out.cell 7 _ rfl
  have s8 := P615.out.cell 8 _ rfl
  unfold kptC
  go_wp2_with fail
  clear h0 h1 h2 h3 h4 h5 h6 h7 h8 s0 s1 s2 s3 s4 s5 s6 s7 s8
  generalize w15.alloc (.cells #[.int .i64 kk.wal.term, .int .i64 kk.wal.vote, .int .i64 kk.wal.base, .int .i64 kk.wal.bterm, .slice hA hm hc, .int .i64 kk.snap.index, .int .i64 kk.snap.term, .string kk.snap.data, .bool kk.dirty] 34) = W15 at *
  have cE := EQ.out W15 (.slice hA hm hc) TB15.out HH15.out
  unfold kptC at cE
  refine cE.mono ?_
  rintro e w16 ⟨rfl, hb16⟩
  have B16 : Hid (Below w.heap.size w w16) := BB15.out.trans (hb16.mono BB15.out.size)
  have P916 : Hid (Blk w16 p9 #[.int .i64 kk.wal.term, .int .i64 kk.wal.vote, .int .i64 kk.wal.base, .int .i64 kk.wal.bterm, .slice gA gm gc, .int .i64 kk.snap.index, .int .i64 kk.snap.term, .string kk.snap.data, .bool kk.dirty] 34) := P915.out.on hb16 P915.out.lt
  have HR16 : Hid (Owns w16 W5.heap.size 59 2 (.slice gA gm gc) N1) := HR15.out.on hb16
  clear hb16 cE
  have g0 := P916.out.cell 0 _ rfl
  have g1 := P916.out.cell 1 _ rfl
  have g2 := P916.out.cell 2 _ rfl
  have g3 := P916.out.cell 3 _ rfl
  have g4 := P916.out.cell 4 _ rfl
  have g5 := P916.out.cell 5 _ rfl
  have g6 := P916.out.cell 6 _ rfl
  have g7 := P916.out.cell 7 _ rfl
  have g8 := P916.out.cell 8 _ rfl
  go_wp2_with fail
  refine (cH w16 HR16.out.lies).mono ?_
  rintro e w17 ⟨rfl, hb17⟩
  have B17 : Hid (Below w.heap.size w w17) := B16.out.trans (hb17.mono B16.out.size)
  clear hb17 g0 g1 g2 g3 g4 g5 g6 g7 g8
  go_wp2_with fail
  go_ret
  exact ⟨rfl, B17.out⟩
end Go.Proofs.YtdimaoloapbeoaaGreatDoor
namespace Go.Proofs.YtdimaoloapbeoaaGreatDoor
open Go.ChangeShapes Go.WideShapes Go.ChangeAt Go.RowKit Go.PlainAid
set_option linter.unusedVariables false
section
variable {H : Type} {enc : TypeId × Value → H} {P : Program} {w : World} {base : Nat} {spare : Nat → Bool} {held : Bool}
theorem open_rows {α : Type} [Inhabited α] {t e : TypeId} {fuel : Nat} {v : Value} {x : DataW H × List MemPlace} (ht : P.underlying t = some (.slice e)) (sz : Nat) (hsz : P.cellsOf e = sz) (hpos : 0 < sz) (C : α → List Value) (hC : ∀ y, (C y).length = sz) (G : α → Prop)
  (hel : ∀ n cs y, DataW.trod enc P w base spare held n e cs = some y → ∃ z, cs = C z ∧ G z)
  (h : DataW.trod enc P w base spare held fuel t [v] = some x) : ∃ l : List α, Lies w w.heap.size sz v (l.map C) ∧ l.length ≤ maxLen ∧ ∀ z ∈ l, G z := by
 rcases Go.Deep.open_slice ht h with ⟨hv, _⟩ | ⟨a, len, cap, m, n, D, Pl, hv, hb, hl, hm, hmm, _, hx⟩
 ·obtain rfl : v = .slice none 0 0 := by simpa using hv
  exact ⟨[], ⟨none, 0, rfl, ⟨fun _ => rfl, Nat.le_refl _⟩, fun r hr => (by cases hr), .inl rfl⟩, Nat.zero_le _, fun z hz => (by cases hz)⟩
 ·obtain rfl : v = .slice (some a) len cap := by simpa using hv
  have hlm : len ≤ m := by rw [hmm]; split <;> omega
  have hp : ∀ i, i < len → ∃ z, (∀ f, f < sz → w.cell? (a.add (i * sz + f)) = (C z)[f]?) ∧ G z := fun i hi => by
   obtain ⟨cs', h1, h2⟩ := hx i (by omega)
   obtain ⟨_, hlen, hc⟩ := World.cells?_some h1
   obtain ⟨z, rfl, hg⟩ := hel n cs' _ h2
   refine ⟨z, fun f hf => ?_, hg⟩
   have := hc f (by rw [hsz]; exact hf)
   rw [hsz, Go.Deep.add_add] at this
   exact this
  obtain ⟨X, hX⟩ := Go.Deep.choose_lt (α := α) (p := fun i z => (∀ f, f < sz → w.cell? (a.add (i * sz + f)) = (C z)[f]?) ∧ G z) hp
  have hll : ((List.range len).map X).length = len := by simp
  refine ⟨(List.range len).map X, ⟨some a, cap, by simp, ⟨fun e => (by cases e), by simpa using hl⟩, fun r hr => ?_, ?_⟩, by rw [hll]; omega, fun z hz => ?_⟩
  ·obtain ⟨y, _, rfl⟩ := List.mem_map.1 hr
   exact hC y
  ·by_cases h0 : len = 0
   ·exact .inl (by simp [h0])
   ·right
    obtain ⟨b, off, spot⟩ := a
    have hc0 := (hX 0 (by omega)).1 0 hpos
    have hlt0 : 0 < (C (X 0)).length := by rw [hC]; exact hpos
    rw [List.getElem?_eq_getElem hlt0] at hc0
    have hspot : spot = none := by simpa [Addr.add] using World.cell?_spot hc0
    subst hspot
    have hadd : ∀ j, (⟨b, off, none⟩ : Addr).add j = ⟨b, off + j, none⟩ := by intro j; cases j <;> simp [Addr.add]
    refine ⟨b, off, rfl, ?_, fun k x hk => ?_⟩
    ·rw [hadd] at hc0
     rcases Nat.lt_or_ge b w.heap.size with h | h
     ·exact h
     ·simp [World.cell?, Array.getElem?_eq_none h] at hc0
    ·have hkl : k < (((List.range len).map X).map C).flatten.length := (List.getElem?_eq_some_iff.1 hk).1
     have hrow : ∀ r ∈ ((List.range len).map X).map C, r.length = sz := fun r hr => by
      obtain ⟨y, _, rfl⟩ := List.mem_map.1 hr
      exact hC y
     rw [flat_length sz _ hrow, List.length_map, hll] at hkl
     have hdiv : k / sz < len := (Nat.div_lt_iff_lt_mul hpos).2 hkl
     have hmod : k % sz < sz := Nat.mod_lt _ hpos
     have hke : k / sz * sz + k % sz = k := by rw [Nat.mul_comm]; exact Nat.div_add_mod k sz
     have hfa := flat_at sz (((List.range len).map X).map C) hrow (k / sz) (k % sz) (by rw [List.length_map, hll]; exact hdiv) hmod
     rw [hke, hk] at hfa
     have hcx := (hX (k / sz) hdiv).1 (k % sz) hmod
     rw [hke, hadd] at hcx
     rw [hcx, hfa]
     simp
  ·obtain ⟨i, hi, rfl⟩ := List.mem_map.1 hz
   exact (hX i (by simpa using hi)).2
end
theorem list2 {α : Type} {l : List α} (h : l.length = 2) : ∃ a b, l = [a, b] := by
 match l, h with
 | [a, b], _ => exact ⟨a, b, rfl⟩
theorem list3 {α : Type} {l : List α} (h : l.length = 3) : ∃ a b c, l = [a, b, c] := by
 match l, h with
 | [a, b, c], _ => exact ⟨a, b, c, rfl⟩
theorem list4 {α : Type} {l : List α} (h : l.length = 4) : ∃ a b c d, l = [a, b, c, d] := by
 match l, h with
 | [a, b, c, d], _ => exact ⟨a, b, c, d, rfl⟩
theorem list5 {α : Type} {l : List α} (h : l.length = 5) : ∃ a b c d e, l = [a, b, c, d, e] := by
 match l, h with
 | [a, b, c, d, e], _ => exact ⟨a, b, c, d, e, rfl⟩
theorem cNod : Tryz.prog.cellsOf 81 = 3 := by kernel_rfl
theorem cLnk : Tryz.prog.cellsOf 84 = 2 := by kernel_rfl
theorem cMov : Tryz.prog.cellsOf 87 = 4 := by kernel_rfl
theorem cDsk : Tryz.prog.cellsOf 26 = 5 := by kernel_rfl
section
variable {H : Type} {enc : TypeId × Value → H} {w : World} {base : Nat} {spare : Nat → Bool} {held : Bool}
set_option maxRecDepth 100000 in
theorem open_nod (n : Nat) (cs : List Value) (y : DataW H × List MemPlace) (h : DataW.trod enc Tryz.prog w base spare held n 81 cs = some y) : ∃ z : Nod, cs = nodC z ∧ z.data.size ≤ maxLen := by
 obtain ⟨xs, m, _, _, hl, hlen, hf⟩ := DataW.trod_struct Tryz.underlying81 h
 rw [cNod] at hl
 obtain ⟨a, b, c, rfl⟩ := list3 hl
 obtain ⟨x0, x1, x2, rfl⟩ := list3 (show xs.length = 3 from hlen)
 have f0 := hf 0 _ rfl
 have f1 := hf 1 _ rfl
 have f2 := hf 2 _ rfl
 simp only [List.getElem?_cons_zero, List.getElem?_cons_succ] at f0 f1 f2
 obtain ⟨i0, e0, _, _⟩ := DataW.trod_int Tryz.underlying3 f0
 obtain ⟨s1, e1, _, hs⟩ := DataW.trod_string Tryz.underlying9 f1
 obtain ⟨i2, e2, _, _⟩ := DataW.trod_int Tryz.underlying3 f2
 cases e0
 cases e1
 cases e2
 exact ⟨⟨i0, s1, i2⟩, rfl, hs⟩
set_option maxRecDepth 100000 in
theorem open_lnk (n : Nat) (cs : List Value) (y : DataW H × List MemPlace) (h : DataW.trod enc Tryz.prog w base spare held n 84 cs = some y) : ∃ z : Lnk, cs = lnkC z ∧ (z.name.size ≤ maxLen ∧ IntOk z.id) := by
 obtain ⟨xs, m, _, _, hl, hlen, hf⟩ := DataW.trod_struct Tryz.underlying84 h
 rw [cLnk] at hl
 obtain ⟨a, b, rfl⟩ := list2 hl
 obtain ⟨x0, x1, rfl⟩ := list2 (show xs.length = 2 from hlen)
 have f0 := hf 0 _ rfl
 have f1 := hf 1 _ rfl
 simp only [List.getElem?_cons_zero, List.getElem?_cons_succ] at f0 f1
 obtain ⟨s0, e0, _, hs⟩ := DataW.trod_string Tryz.underlying9 f0
 obtain ⟨i1, e1, _, hw⟩ := DataW.trod_int Tryz.underlying3 f1
 cases e0
 cases e1
 exact ⟨⟨s0, i1⟩, rfl, hs, bounds_i64 hw⟩
set_option maxRecDepth 100000 in
theorem open_mov (n : Nat) (cs : List Value) (y : DataW H × List MemPlace) (h : DataW.trod enc Tryz.prog w base spare held n 87 cs = some y) : ∃ z : Mov, cs = movC z ∧ ((z.name.size ≤ maxLen ∧ z.to.size ≤ maxLen) ∧ IntOk z.id) := by
 obtain ⟨xs, m, _, _, hl, hlen, hf⟩ := DataW.trod_struct Tryz.underlying87 h
 rw [cMov] at hl
 obtain ⟨a, b, c, d, rfl⟩ := list4 hl
 obtain ⟨x0, x1, x2, x3, rfl⟩ := list4 (show xs.length = 4 from hlen)
 have f0 := hf 0 _ rfl
 have f1 := hf 1 _ rfl
 have f2 := hf 2 _ rfl
 have f3 := hf 3 _ rfl
 simp only [List.getElem?_cons_zero, List.getElem?_cons_succ] at f0 f1 f2 f3
 obtain ⟨i0, e0, _, _⟩ := DataW.trod_int Tryz.underlying3 f0
 obtain ⟨s1, e1, _, h1⟩ := DataW.trod_string Tryz.underlying9 f1
 obtain ⟨s2, e2, _, h2⟩ := DataW.trod_string Tryz.underlying9 f2
 obtain ⟨i3, e3, _, hw⟩ := DataW.trod_int Tryz.underlying3 f3
 cases e0
 cases e1
 cases e2
 cases e3
 exact ⟨⟨i0, s1, s2, i3⟩, rfl, ⟨h1, h2⟩, bounds_i64 hw⟩
set_option maxRecDepth 100000 in
theorem open_disk {r : Reach} {b0 : Nat} {v : Value} {dd : DataW H} {ps : List MemPlace} (hval : Value.okWide Tryz.prog w r b0 26 v) (hd : DataW.Trod enc Tryz.prog w base spare held 26 v dd ps) : ∃ d : Dsk, DiskV w w.heap.size v d ∧ Fits d ∧ IntsOk d ∧ IntOk d.room ∧ IntOk d.next := by
 obtain ⟨cs, rfl, hsz⟩ := okWide_struct Tryz.underlying26 hval
 rw [cDsk] at hsz
 obtain ⟨fuel, hf0⟩ := hd
 obtain ⟨xs, m, _, _, _, hlen, hf⟩ := DataW.trod_struct Tryz.underlying26 hf0
 obtain ⟨l⟩ := cs
 obtain ⟨a, b, c, d, e, rfl⟩ := list5 (show l.length = 5 from hsz)
 obtain ⟨x0, x1, x2, x3, x4, rfl⟩ := list5 (show xs.length = 5 from hlen)
 have f0 := hf 0 _ rfl
 have f1 := hf 1 _ rfl
 have f2 := hf 2 _ rfl
 have f3 := hf 3 _ rfl
 have f4 := hf 4 _ rfl
 simp only [Value.cells, List.getElem?_cons_zero, List.getElem?_cons_succ] at f0 f1 f2 f3 f4
 obtain ⟨i0, e0, _, w0⟩ := DataW.trod_int Tryz.underlying3 f0
 obtain ⟨i1, e1, _, w1⟩ := DataW.trod_int Tryz.underlying3 f1
 cases e0
 cases e1
 obtain ⟨ns, n1, n2, n3⟩ := open_rows Tryz.underlying22 3 cNod (by omega) nodC (fun _ => rfl) _ open_nod f2
 obtain ⟨ls, l1, l2, l3⟩ := open_rows Tryz.underlying23 2 cLnk (by omega) lnkC (fun _ => rfl) _ open_lnk f3
 obtain ⟨ms, m1, m2, m3⟩ := open_rows Tryz.underlying24 4 cMov (by omega) movC (fun _ => rfl) _ open_mov f4
 exact ⟨⟨i0, i1, ns, ls, ms⟩, ⟨c, d, e, rfl, n1, l1, m1⟩, ⟨n2, l2, m2, n3, fun x hx => (l3 x hx).1, fun x hx => (m3 x hx).1⟩, ⟨fun x hx => (l3 x hx).2, fun x hx => (m3 x hx).2⟩, bounds_i64 w0, bounds_i64 w1⟩
end
end Go.Proofs.YtdimaoloapbeoaaGreatDoor
