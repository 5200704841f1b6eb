/-
  The walk of laws.FnExactSyncDir.
-/
import Derived.Test.YtgogcdfceggeaaaGreatRows
import Derived.Test.YtgogcdfceggeaaaGreatDkSyncDirS
import Derived.Test.YtgogcdfceggeaaaGreatDkToD
import Derived.Test.YtgogcdfceggeaaaGreatDkEqL
import Derived.Test.YtgogcdfceggeaaaGreatDkMkD
import Derived.Deep.RegionHeld3
namespace Go.Proofs.YtgogcdfceggeaaaGreat
open Go.ChangeShapes Go.WideShapes Go.ChangeAt Go.RowKit Go.PlainAid
set_option linter.unusedVariables false

set_option maxRecDepth 20000 in
set_option maxHeartbeats 8000000 in
theorem law_fnExactSyncDir (d : Dsk) (v : Value)  (w : World) (hv : DiskV w w.heap.size v d) (hf : Fits d) (hi : IntsOk d)  :
    Calls Tryz.prog 3 #[v] w fun e w' => e = .returned (.bool true) ∧ Below w.heap.size w w' := by
  have HV : Hid (DiskV w w.heap.size v d) := hv
  have HF : Hid (Fits d) := hf
  have HI : Hid (IntsOk d) := hi
  obtain ⟨v1, v2, v3, rfl, h1, h2, h3⟩ := hv
  have cS := fun wx hx hb => szDisk d (.agg #[.int .i64 d.room, .int .i64 d.next, v1, v2, v3]) wx w.heap.size 1048576 (by omega) (by omega) hx hf hb
  clear h1 h2 h3 hf hi 
  go_enter Tryz.func3, Tryz.ntmps3
  go_wp2_with fail
  have k0 := Blk.new w #[.int .i64 d.room, .int .i64 d.next, v1, v2, v3] 26
  have hb0 : Below w.heap.size w (w.alloc (.cells #[.int .i64 d.room, .int .i64 d.next, v1, v2, v3] 26)) := (Below.refl _ _).alloc (Nat.le_refl _) _
  generalize w.alloc (.cells #[.int .i64 d.room, .int .i64 d.next, v1, v2, v3] 26) = W at *
  have B0 : Hid (Below w.heap.size w W) := hb0
  have K0 : Hid (Blk W w.heap.size #[.int .i64 d.room, .int .i64 d.next, v1, v2, v3] 26) := k0
  clear hb0 k0
  refine (cS W (HV.out.on B0.out) B0.out.size).mono ?_
  rintro e w1 ⟨r, rfl, hr, hb1⟩
  have B1 : Hid (Below w.heap.size w w1) := B0.out.trans (hb1.mono B0.out.size)
  have K1 : Hid (Blk w1 w.heap.size #[.int .i64 d.room, .int .i64 d.next, v1, v2, v3] 26) := K0.out.on hb1 K0.out.lt
  clear hb1 cS K0
  rcases hr with rfl | ⟨hr0, hr1⟩
  · go_wp2_with fail
    go_ret
    exact ⟨rfl, B1.out⟩
  · have HW : Hid (wtD d ≤ 1048576) := by unfold Hid; omega
    have hr2 : decide (r < 0) = false := decide_eq_false (by omega)
    have cT := fun wx hx hb => toDisk d (.agg #[.int .i64 d.room, .int .i64 d.next, v1, v2, v3]) wx w.heap.size hx HW.out hb
    have cSp := fun wx u hx => specSyncDirV d u  wx wx.heap.size hx HF.out HW.out (Nat.le_refl _) 
    have cG := fun wx u hx => implSyncDirV d u  wx wx.heap.size hx HF.out HI.out HW.out (Nat.le_refl _) 
    have LR : Hid ((syncDirR d ).1.nods.length ≤ 1000 ∧ (syncDirR d ).1.dir.length ≤ 1000 ∧ (syncDirR d ).1.movs.length ≤ 1000) := syncDirR_len d  HF.out
    clear hr1
    generalize syncDirR d  = RR at *
    have n1 : (RR.2 != RR.2) = false := by simp
    have y0 := K1.out.cell 0 _ rfl
    have y1 := K1.out.cell 1 _ rfl
    have y2 := K1.out.cell 2 _ rfl
    have y3 := K1.out.cell 3 _ rfl
    have y4 := K1.out.cell 4 _ rfl
    go_wp2_with fail
    refine (cT w1 (HV.out.on B1.out) B1.out.size).mono ?_
    rintro e w2 ⟨u, rfl, hO, hb2⟩
    have B2 : Hid (Below w.heap.size w w2) := B1.out.trans (hb2.mono B1.out.size)
    have K2 : Hid (Blk w2 w.heap.size #[.int .i64 d.room, .int .i64 d.next, v1, v2, v3] 26) := K1.out.on hb2 K1.out.lt
    have cP := cSp w2 u hO.look
    clear y0 y1 y2 y3 y4 hb2 hO K1 cSp
    go_wp2_with fail
    refine cP.mono ?_
    rintro e w3 ⟨x6, rfl, hO3, hb3⟩
    have B3 : Hid (Below w.heap.size w w3) := B2.out.trans (hb3.mono B2.out.size)
    have K3 : Hid (Blk w3 w.heap.size #[.int .i64 d.room, .int .i64 d.next, v1, v2, v3] 26) := K2.out.on hb3 K2.out.lt
    have T3 : Hid (DiskO w3 w2.heap.size x6 RR.1) := hO3
    obtain ⟨s1, s2, s3, rfl, a1, a2, a3⟩ := hO3
    obtain ⟨E1, em1, ec1, rfl⟩ := a1.shape
    obtain ⟨E2, em2, ec2, rfl⟩ := a2.shape
    obtain ⟨E3, em3, ec3, rfl⟩ := a3.shape
    clear cP hb3 K2 a1 a2 a3
    have K3a : Hid (Blk (w3.alloc (.cells #[.int .i64 RR.1.room, .int .i64 RR.1.next, .slice E1 em1 ec1, .slice E2 em2 ec2, .slice E3 em3 ec3] 32)) w.heap.size #[.int .i64 d.room, .int .i64 d.next, v1, v2, v3] 26) := K3.out.alloc _
    have y0 := K3a.out.cell 0 _ rfl
    have y1 := K3a.out.cell 1 _ rfl
    have y2 := K3a.out.cell 2 _ rfl
    have y3 := K3a.out.cell 3 _ rfl
    have y4 := K3a.out.cell 4 _ rfl
    go_wp2_with fail
    have k6 := Blk.new w3 #[.int .i64 RR.1.room, .int .i64 RR.1.next, .slice E1 em1 ec1, .slice E2 em2 ec2, .slice E3 em3 ec3] 32
    have hb6 : Below w3.heap.size w3 (w3.alloc (.cells #[.int .i64 RR.1.room, .int .i64 RR.1.next, .slice E1 em1 ec1, .slice E2 em2 ec2, .slice E3 em3 ec3] 32)) := (Below.refl _ _).alloc (Nat.le_refl _) _
    clear y0 y1 y2 y3 y4
    generalize w3.alloc (.cells #[.int .i64 RR.1.room, .int .i64 RR.1.next, .slice E1 em1 ec1, .slice E2 em2 ec2, .slice E3 em3 ec3] 32) = W3 at *
    have BW3 : Hid (Below w.heap.size w W3) := B3.out.trans (hb6.mono B3.out.size)
    have TW3 : Hid (DiskO W3 w2.heap.size (.agg #[.int .i64 RR.1.room, .int .i64 RR.1.next, .slice E1 em1 ec1, .slice E2 em2 ec2, .slice E3 em3 ec3]) RR.1) := T3.out.on hb6
    have P6a : Hid (Blk W3 w3.heap.size #[.int .i64 RR.1.room, .int .i64 RR.1.next, .slice E1 em1 ec1, .slice E2 em2 ec2, .slice E3 em3 ec3] 32) := k6
    clear k6 hb6 T3 K3
    generalize w3.heap.size = p6 at *
    refine (cT W3 (HV.out.on BW3.out) BW3.out.size).mono ?_
    rintro e w4 ⟨x, rfl, hO4, hb4⟩
    have B4 : Hid (Below w.heap.size w w4) := BW3.out.trans (hb4.mono BW3.out.size)
    have K4 : Hid (Blk w4 w.heap.size #[.int .i64 d.room, .int .i64 d.next, v1, v2, v3] 26) := K3a.out.on hb4 K3a.out.lt
    have O4 : Hid (DiskO w4 W3.heap.size x d) := hO4
    have T4 : Hid (Below W3.heap.size W3 w4) := hb4
    obtain ⟨x1, x2, x3, rfl, q1, q2, q3⟩ := hO4
    have XR1 : Hid (∀ g, x1.ownBlock = some g → g < w4.heap.size) := fun g hg => (q1.lt g hg).2
    have XR2 : Hid (∀ g, x2.ownBlock = some g → g < w4.heap.size) := fun g hg => (q2.lt g hg).2
    have XR3 : Hid (∀ g, x3.ownBlock = some g → g < w4.heap.size) := fun g hg => (q3.lt g hg).2
    obtain ⟨A1, m1, c1, rfl⟩ := q1.shape
    obtain ⟨A2, m2, c2, rfl⟩ := q2.shape
    obtain ⟨A3, m3, c3, rfl⟩ := q3.shape
    have KL30 : Hid (w.heap.size < W3.heap.size) := K3a.out.lt
    clear hb4 K3a q1 q2 q3
    go_wp2_with fail
    have k5 := Blk.new w4 #[.int .i64 d.room, .int .i64 d.next, .slice A1 m1 c1, .slice A2 m2 c2, .slice A3 m3 c3] 32
    have hb5 : Below w4.heap.size w4 (w4.alloc (.cells #[.int .i64 d.room, .int .i64 d.next, .slice A1 m1 c1, .slice A2 m2 c2, .slice A3 m3 c3] 32)) := (Below.refl _ _).alloc (Nat.le_refl _) _
    generalize w4.alloc (.cells #[.int .i64 d.room, .int .i64 d.next, .slice A1 m1 c1, .slice A2 m2 c2, .slice A3 m3 c3] 32) = W5 at *
    have B5 : Hid (Below w.heap.size w W5) := B4.out.trans (hb5.mono B4.out.size)
    have K5 : Hid (Blk W5 w.heap.size #[.int .i64 d.room, .int .i64 d.next, v1, v2, v3] 26) := K4.out.on hb5 K4.out.lt
    have O5 : Hid (DiskO W5 W3.heap.size (.agg #[.int .i64 d.room, .int .i64 d.next, .slice A1 m1 c1, .slice A2 m2 c2, .slice A3 m3 c3]) d) := O4.out.on hb5
    have T5 : Hid (Below W3.heap.size W3 W5) := T4.out.trans (hb5.mono T4.out.size)
    have X5 : Hid (Blk W5 w4.heap.size #[.int .i64 d.room, .int .i64 d.next, .slice A1 m1 c1, .slice A2 m2 c2, .slice A3 m3 c3] 32) := k5
    have XL : Hid (W3.heap.size ≤ w4.heap.size) := T4.out.size
    clear hb5 k5 K4 O4 T4
    generalize w4.heap.size = px at *
    have PX : Hid (px < W5.heap.size) := X5.out.lt
    refine (cG W5 _ O5.out.look).mono ?_
    rintro e w6 ⟨y9, rfl, hO6, hb6⟩
    have B6 : Hid (Below w.heap.size w w6) := B5.out.trans (hb6.mono B5.out.size)
    have T6 : Hid (Below W5.heap.size W5 w6) := hb6
    have G6 : Hid (DiskO w6 W5.heap.size y9 RR.1) := hO6
    obtain ⟨g1, g2, g3, rfl, q1, q2, q3⟩ := hO6
    have GR1 : Hid (∀ g, g1.ownBlock = some g → g < w6.heap.size) := fun g hg => (q1.lt g hg).2
    have GR2 : Hid (∀ g, g2.ownBlock = some g → g < w6.heap.size) := fun g hg => (q2.lt g hg).2
    have GR3 : Hid (∀ g, g3.ownBlock = some g → g < w6.heap.size) := fun g hg => (q3.lt g hg).2
    obtain ⟨G1, gm1, gc1, rfl⟩ := q1.shape
    obtain ⟨G2, gm2, gc2, rfl⟩ := q2.shape
    obtain ⟨G3, gm3, gc3, rfl⟩ := q3.shape
    clear hb6 q1 q2 q3
    have bW6 : Below w6.heap.size w6 (w6.alloc (.cells #[.int .i64 RR.1.room, .int .i64 RR.1.next, .slice G1 gm1 gc1, .slice G2 gm2 gc2, .slice G3 gm3 gc3] 32)) := (Below.refl _ _).alloc (Nat.le_refl _) _
    have P9a : Hid (Blk (w6.alloc (.cells #[.int .i64 RR.1.room, .int .i64 RR.1.next, .slice G1 gm1 gc1, .slice G2 gm2 gc2, .slice G3 gm3 gc3] 32)) w6.heap.size #[.int .i64 RR.1.room, .int .i64 RR.1.next, .slice G1 gm1 gc1, .slice G2 gm2 gc2, .slice G3 gm3 gc3] 32) := Blk.new w6 #[.int .i64 RR.1.room, .int .i64 RR.1.next, .slice G1 gm1 gc1, .slice G2 gm2 gc2, .slice G3 gm3 gc3] 32
    have BW6 : Hid (Below w.heap.size w (w6.alloc (.cells #[.int .i64 RR.1.room, .int .i64 RR.1.next, .slice G1 gm1 gc1, .slice G2 gm2 gc2, .slice G3 gm3 gc3] 32))) := B6.out.trans (bW6.mono B6.out.size)
    have TW6 : Hid (Below W5.heap.size W5 (w6.alloc (.cells #[.int .i64 RR.1.room, .int .i64 RR.1.next, .slice G1 gm1 gc1, .slice G2 gm2 gc2, .slice G3 gm3 gc3] 32))) := T6.out.trans (bW6.mono T6.out.size)
    have GW6 : Hid (DiskO (w6.alloc (.cells #[.int .i64 RR.1.room, .int .i64 RR.1.next, .slice G1 gm1 gc1, .slice G2 gm2 gc2, .slice G3 gm3 gc3] 32)) W5.heap.size (.agg #[.int .i64 RR.1.room, .int .i64 RR.1.next, .slice G1 gm1 gc1, .slice G2 gm2 gc2, .slice G3 gm3 gc3]) RR.1) := G6.out.on bW6
    have P6b : Hid (Blk (w6.alloc (.cells #[.int .i64 RR.1.room, .int .i64 RR.1.next, .slice G1 gm1 gc1, .slice G2 gm2 gc2, .slice G3 gm3 gc3] 32)) p6 #[.int .i64 RR.1.room, .int .i64 RR.1.next, .slice E1 em1 ec1, .slice E2 em2 ec2, .slice E3 em3 ec3] 32) := ((P6a.out.on T5.out P6a.out.lt).on TW6.out (P6a.out.on T5.out P6a.out.lt).lt)
    have z0 := P9a.out.cell 0 _ rfl
    have z1 := P9a.out.cell 1 _ rfl
    have z2 := P9a.out.cell 2 _ rfl
    have z3 := P9a.out.cell 3 _ rfl
    have z4 := P9a.out.cell 4 _ rfl
    have s0 := P6b.out.cell 0 _ rfl
    have s1 := P6b.out.cell 1 _ rfl
    have s2 := P6b.out.cell 2 _ rfl
    have s3 := P6b.out.cell 3 _ rfl
    have s4 := P6b.out.cell 4 _ rfl
    go_wp2_with fail
    clear z0 z1 z2 z3 z4 s0 s1 s2 s3 s4 bW6 G6
    have GLL : Hid (W5.heap.size ≤ w6.heap.size) := T6.out.size
    clear T6
    generalize w6.alloc (.cells #[.int .i64 RR.1.room, .int .i64 RR.1.next, .slice G1 gm1 gc1, .slice G2 gm2 gc2, .slice G3 gm3 gc3] 32) = W6 at *
    have GL : Hid (W5.heap.size ≤ w6.heap.size) := GLL.out
    generalize w6.heap.size = p9 at *
    have TT6 : Hid (Below W3.heap.size W3 W6) := T5.out.trans (TW6.out.mono T5.out.size)
    have TO6 : Hid (DiskO W6 w2.heap.size (.agg #[.int .i64 RR.1.room, .int .i64 RR.1.next, .slice E1 em1 ec1, .slice E2 em2 ec2, .slice E3 em3 ec3]) RR.1) := (TW3.out.on T5.out).on (TW6.out)
    refine (eqDiskL RR.1 _ _ W6 W6.heap.size GW6.out.look TO6.out.look (by have := LR.out; omega) (by have := LR.out; omega) (by have := LR.out; omega) (Nat.le_refl _)).mono ?_
    rintro e w7 ⟨rfl, hb7⟩
    have hb7x : Hid (Below W6.heap.size W6 w7) := hb7
    have B7 : Hid (Below w.heap.size w w7) := BW6.out.trans (hb7.mono BW6.out.size)
    have K7 : Hid (Blk w7 w.heap.size #[.int .i64 d.room, .int .i64 d.next, v1, v2, v3] 26) := ((K5.out.on TW6.out K5.out.lt)).on hb7 (K5.out.on TW6.out K5.out.lt).lt
    have X7 : Hid (Blk w7 px #[.int .i64 d.room, .int .i64 d.next, .slice A1 m1 c1, .slice A2 m2 c2, .slice A3 m3 c3] 32) := (X5.out.on TW6.out X5.out.lt).on hb7 (X5.out.on TW6.out X5.out.lt).lt
    have O7 : Hid (DiskO w7 W3.heap.size (.agg #[.int .i64 d.room, .int .i64 d.next, .slice A1 m1 c1, .slice A2 m2 c2, .slice A3 m3 c3]) d) := (O5.out.on TW6.out).on hb7
    have G7 : Hid (DiskO w7 W5.heap.size (.agg #[.int .i64 RR.1.room, .int .i64 RR.1.next, .slice G1 gm1 gc1, .slice G2 gm2 gc2, .slice G3 gm3 gc3]) RR.1) := GW6.out.on hb7
    have T7 : Hid (DiskO w7 w2.heap.size (.agg #[.int .i64 RR.1.room, .int .i64 RR.1.next, .slice E1 em1 ec1, .slice E2 em2 ec2, .slice E3 em3 ec3]) RR.1) := TO6.out.on hb7
    have P97 : Hid (Blk w7 p9 #[.int .i64 RR.1.room, .int .i64 RR.1.next, .slice G1 gm1 gc1, .slice G2 gm2 gc2, .slice G3 gm3 gc3] 32) := P9a.out.on hb7 P9a.out.lt
    have P67 : Hid (Blk w7 p6 #[.int .i64 RR.1.room, .int .i64 RR.1.next, .slice E1 em1 ec1, .slice E2 em2 ec2, .slice E3 em3 ec3] 32) := P6b.out.on hb7 P6b.out.lt
    clear hb7 K5 X5 O5 GW6 TO6 P9a P6b
    have TB7 : Hid (Below W3.heap.size W3 w7) := TT6.out.trans (hb7x.out.mono TT6.out.size)
    have S0 : Hid (w7.drew.cell? ⟨px, 0, none⟩ = some (.int .i64 d.room) ∧ w7.drew.cell? ⟨px, 1, none⟩ = some (.int .i64 d.next) ∧ w7.drew.cell? ⟨px, 2, none⟩ = some (.slice A1 m1 c1) ∧ w7.drew.cell? ⟨px, 3, none⟩ = some (.slice A2 m2 c2) ∧ w7.drew.cell? ⟨px, 4, none⟩ = some (.slice A3 m3 c3) ∧ w7.drew.cell? ⟨w.heap.size, 0, none⟩ = some (.int .i64 d.room) ∧ w7.drew.cell? ⟨w.heap.size, 1, none⟩ = some (.int .i64 d.next) ∧ w7.drew.cell? ⟨w.heap.size, 2, none⟩ = some v1 ∧ w7.drew.cell? ⟨w.heap.size, 3, none⟩ = some v2 ∧ w7.drew.cell? ⟨w.heap.size, 4, none⟩ = some v3) := ⟨X7.out.cell 0 _ rfl, X7.out.cell 1 _ rfl, X7.out.cell 2 _ rfl, X7.out.cell 3 _ rfl, X7.out.cell 4 _ rfl, K7.out.cell 0 _ rfl, K7.out.cell 1 _ rfl, K7.out.cell 2 _ rfl, K7.out.cell 3 _ rfl, K7.out.cell 4 _ rfl⟩
    have B7d : Hid (Below w.heap.size w w7.drew) := B7.out.drew
    have cT7 := cT w7.drew (HV.out.on B7d.out) B7d.out.size
    go_wp2_with fail
    go_region_held3 (fun w' => w'.cell? ⟨px, 0, none⟩ = some (.int .i64 d.room) ∧ w'.cell? ⟨px, 1, none⟩ = some (.int .i64 d.next) ∧ w'.cell? ⟨px, 2, none⟩ = some (.slice A1 m1 c1) ∧ w'.cell? ⟨px, 3, none⟩ = some (.slice A2 m2 c2) ∧ w'.cell? ⟨px, 4, none⟩ = some (.slice A3 m3 c3) ∧ w'.cell? ⟨w.heap.size, 0, none⟩ = some (.int .i64 d.room) ∧ w'.cell? ⟨w.heap.size, 1, none⟩ = some (.int .i64 d.next) ∧ w'.cell? ⟨w.heap.size, 2, none⟩ = some v1 ∧ w'.cell? ⟨w.heap.size, 3, none⟩ = some v2 ∧ w'.cell? ⟨w.heap.size, 4, none⟩ = some v3) (first | exact S0.out | exact S2.out | exact S3'.out)
      ((first | (go_at_call 6; refine cT7.mono ?_; rintro e w8 ⟨y, rfl, hO8, hb8⟩; have S2 : Hid (w8.cell? ⟨px, 0, none⟩ = some (.int .i64 d.room) ∧ w8.cell? ⟨px, 1, none⟩ = some (.int .i64 d.next) ∧ w8.cell? ⟨px, 2, none⟩ = some (.slice A1 m1 c1) ∧ w8.cell? ⟨px, 3, none⟩ = some (.slice A2 m2 c2) ∧ w8.cell? ⟨px, 4, none⟩ = some (.slice A3 m3 c3) ∧ w8.cell? ⟨w.heap.size, 0, none⟩ = some (.int .i64 d.room) ∧ w8.cell? ⟨w.heap.size, 1, none⟩ = some (.int .i64 d.next) ∧ w8.cell? ⟨w.heap.size, 2, none⟩ = some v1 ∧ w8.cell? ⟨w.heap.size, 3, none⟩ = some v2 ∧ w8.cell? ⟨w.heap.size, 4, none⟩ = some v3) := ⟨(Blk.on (w := w7.drew) X7.out hb8 X7.out.lt).cell 0 _ rfl, (Blk.on (w := w7.drew) X7.out hb8 X7.out.lt).cell 1 _ rfl, (Blk.on (w := w7.drew) X7.out hb8 X7.out.lt).cell 2 _ rfl, (Blk.on (w := w7.drew) X7.out hb8 X7.out.lt).cell 3 _ rfl, (Blk.on (w := w7.drew) X7.out hb8 X7.out.lt).cell 4 _ rfl, (Blk.on (w := w7.drew) K7.out hb8 K7.out.lt).cell 0 _ rfl, (Blk.on (w := w7.drew) K7.out hb8 K7.out.lt).cell 1 _ rfl, (Blk.on (w := w7.drew) K7.out hb8 K7.out.lt).cell 2 _ rfl, (Blk.on (w := w7.drew) K7.out hb8 K7.out.lt).cell 3 _ rfl, (Blk.on (w := w7.drew) K7.out hb8 K7.out.lt).cell 4 _ rfl⟩; have O8 : Hid (DiskO w8 w7.heap.size y d) := hO8; have BX8 : Hid (Below w7.heap.size w7 w8) := (Below.refl _ w7).drew.trans hb8; clear hO8) | (go_at_call 8; refine (eqDisk d _ _ w8 w8.heap.size (O7.out.on BX8.out).look O8.out.look HW.out (Nat.le_refl _)).mono ?_; rintro e w9 ⟨rfl, hb9⟩; have S3' : Hid (w9.cell? ⟨px, 0, none⟩ = some (.int .i64 d.room) ∧ w9.cell? ⟨px, 1, none⟩ = some (.int .i64 d.next) ∧ w9.cell? ⟨px, 2, none⟩ = some (.slice A1 m1 c1) ∧ w9.cell? ⟨px, 3, none⟩ = some (.slice A2 m2 c2) ∧ w9.cell? ⟨px, 4, none⟩ = some (.slice A3 m3 c3) ∧ w9.cell? ⟨w.heap.size, 0, none⟩ = some (.int .i64 d.room) ∧ w9.cell? ⟨w.heap.size, 1, none⟩ = some (.int .i64 d.next) ∧ w9.cell? ⟨w.heap.size, 2, none⟩ = some v1 ∧ w9.cell? ⟨w.heap.size, 3, none⟩ = some v2 ∧ w9.cell? ⟨w.heap.size, 4, none⟩ = some v3) := ⟨((X7.out.on BX8.out X7.out.lt).on hb9 (X7.out.on BX8.out X7.out.lt).lt).cell 0 _ rfl, ((X7.out.on BX8.out X7.out.lt).on hb9 (X7.out.on BX8.out X7.out.lt).lt).cell 1 _ rfl, ((X7.out.on BX8.out X7.out.lt).on hb9 (X7.out.on BX8.out X7.out.lt).lt).cell 2 _ rfl, ((X7.out.on BX8.out X7.out.lt).on hb9 (X7.out.on BX8.out X7.out.lt).lt).cell 3 _ rfl, ((X7.out.on BX8.out X7.out.lt).on hb9 (X7.out.on BX8.out X7.out.lt).lt).cell 4 _ rfl, ((K7.out.on BX8.out K7.out.lt).on hb9 (K7.out.on BX8.out K7.out.lt).lt).cell 0 _ rfl, ((K7.out.on BX8.out K7.out.lt).on hb9 (K7.out.on BX8.out K7.out.lt).lt).cell 1 _ rfl, ((K7.out.on BX8.out K7.out.lt).on hb9 (K7.out.on BX8.out K7.out.lt).lt).cell 2 _ rfl, ((K7.out.on BX8.out K7.out.lt).on hb9 (K7.out.on BX8.out K7.out.lt).lt).cell 3 _ rfl, ((K7.out.on BX8.out K7.out.lt).on hb9 (K7.out.on BX8.out K7.out.lt).lt).cell 4 _ rfl⟩)))
    have hb97 : Below w7.heap.size w7 w9 := BX8.out.trans (hb9.mono BX8.out.size)
    have B9 : Hid (Below w.heap.size w w9) := B7.out.trans (hb97.mono B7.out.size)
    have K9 : Hid (Blk w9 w.heap.size #[.int .i64 d.room, .int .i64 d.next, v1, v2, v3] 26) := K7.out.on hb97 K7.out.lt
    have X9 : Hid (Blk w9 px #[.int .i64 d.room, .int .i64 d.next, .slice A1 m1 c1, .slice A2 m2 c2, .slice A3 m3 c3] 32) := X7.out.on hb97 X7.out.lt
    have O9 := O7.out.on hb97
    have G9 : Hid (DiskO w9 W5.heap.size (.agg #[.int .i64 RR.1.room, .int .i64 RR.1.next, .slice G1 gm1 gc1, .slice G2 gm2 gc2, .slice G3 gm3 gc3]) RR.1) := G7.out.on hb97
    have P99 : Hid (Blk w9 p9 #[.int .i64 RR.1.room, .int .i64 RR.1.next, .slice G1 gm1 gc1, .slice G2 gm2 gc2, .slice G3 gm3 gc3] 32) := P97.out.on hb97 P97.out.lt
    have P69 : Hid (Blk w9 p6 #[.int .i64 RR.1.room, .int .i64 RR.1.next, .slice E1 em1 ec1, .slice E2 em2 ec2, .slice E3 em3 ec3] 32) := P67.out.on hb97 P67.out.lt
    have TB9 : Hid (Below W3.heap.size W3 w9) := TB7.out.trans (hb97.mono TB7.out.size)
    have Z59 : Hid (W5.heap.size ≤ w9.heap.size) := Nat.le_trans TW6.out.size (Nat.le_trans hb7x.out.size hb97.size)
    have WT : Hid (d.nods.length ≤ 1048576 ∧ d.dir.length ≤ 1048576 ∧ d.movs.length ≤ 1048576) := by
      have := HW.out
      unfold wtD at this
      unfold Hid
      omega
    have KL3 : Hid (w.heap.size < W3.heap.size) := KL30.out
    have PL6 : Hid (p6 < W3.heap.size) := P6a.out.lt
    have W35 : Hid (W3.heap.size ≤ W5.heap.size) := T5.out.size
    obtain ⟨y1', y2', y3', e', o1, o2, o3⟩ := O9
    cases e'
    have cM := markDisk 1 W3.heap.size px d.room d.next _ _ _ (nodR d.nods) (lnkR d.dir) (movR d.movs) w9 ⟨o1, o2, o3, XR1.out, XR2.out, XR3.out⟩ (by rw [nodR_length]; exact WT.out.1) (by rw [lnkR_length]; exact WT.out.2.1) (by rw [movR_length]; exact WT.out.2.2) (Nat.le_refl _) (by omega) (Nat.le_trans W35.out Z59.out)
    generalize hKK : (1 + 3 * (nodR d.nods).length + 2 * (lnkR d.dir).length + 4 * (movR d.movs).length : Nat) = KK at *
    have qK : (KK : Int) ≤ 10000000 := by
      rw [nodR_length, lnkR_length, movR_length] at hKK
      have := WT.out
      omega
    have qK0 : decide ((KK : Int) < 0) = false := decide_eq_false (by omega)
    clear S0 S2 S3' hb9 hb97 O8 BX8 K7 X7 G7 P97 P67 T7 O7 o1 o2 o3 B7d cT7 hKK
    have x0 := X9.out.cell 0 _ rfl
    have x1 := X9.out.cell 1 _ rfl
    have x2 := X9.out.cell 2 _ rfl
    have x3 := X9.out.cell 3 _ rfl
    have x4 := X9.out.cell 4 _ rfl
    go_wp2_with fail
    refine cM.mono ?_
    rintro e w10 ⟨rfl, _, hb10, hk10⟩
    have B10 : Hid (Below w.heap.size w w10) := B9.out.trans (hb10.mono (Nat.le_of_lt KL3.out))
    have K10 : Hid (Blk w10 w.heap.size #[.int .i64 d.room, .int .i64 d.next, v1, v2, v3] 26) := K9.out.on hb10 KL3.out
    have P610 : Hid (Blk w10 p6 #[.int .i64 RR.1.room, .int .i64 RR.1.next, .slice E1 em1 ec1, .slice E2 em2 ec2, .slice E3 em3 ec3] 32) := P69.out.on hb10 PL6.out
    have TB10 : Hid (Below W3.heap.size W3 w10) := TB9.out.trans hb10
    have T10 : Hid (DiskO w10 w2.heap.size (.agg #[.int .i64 RR.1.room, .int .i64 RR.1.next, .slice E1 em1 ec1, .slice E2 em2 ec2, .slice E3 em3 ec3]) RR.1) := TW3.out.on TB10.out
    have G10 : Hid (DiskO w10 W5.heap.size (.agg #[.int .i64 RR.1.room, .int .i64 RR.1.next, .slice G1 gm1 gc1, .slice G2 gm2 gc2, .slice G3 gm3 gc3]) RR.1) := G9.out.above fun g h1 h2 => hk10 g (by have := PX.out; omega) h2
    have P910 : Hid (Blk w10 p9 #[.int .i64 RR.1.room, .int .i64 RR.1.next, .slice G1 gm1 gc1, .slice G2 gm2 gc2, .slice G3 gm3 gc3] 32) := by
      have h1 := hk10 p9 (by have := PX.out; have := GL.out; omega) P99.out.lt
      unfold Hid Blk
      rw [h1]
      exact P99.out
    have Z510 : Hid (W5.heap.size ≤ w10.heap.size) := Nat.le_trans Z59.out hb10.size
    clear cM hb10 hk10 x0 x1 x2 x3 x4 B9 K9 X9 G9 P99 P69 TB9
    have g0 := P910.out.cell 0 _ rfl
    have g1 := P910.out.cell 1 _ rfl
    have g2 := P910.out.cell 2 _ rfl
    have g3 := P910.out.cell 3 _ rfl
    have g4 := P910.out.cell 4 _ rfl
    have s0 := P610.out.cell 0 _ rfl
    have s1 := P610.out.cell 1 _ rfl
    have s2 := P610.out.cell 2 _ rfl
    have s3 := P610.out.cell 3 _ rfl
    have s4 := P610.out.cell 4 _ rfl
    have cE := eqDiskL RR.1 _ _ w10 w10.heap.size G10.out.look T10.out.look (by have := LR.out; omega) (by have := LR.out; omega) (by have := LR.out; omega) (Nat.le_refl _)
    go_wp2_with fail
    refine cE.mono ?_
    rintro e w11 ⟨rfl, hb11⟩
    have B11 : Hid (Below w.heap.size w w11) := B10.out.trans (hb11.mono B10.out.size)
    have K11 : Hid (Blk w11 w.heap.size #[.int .i64 d.room, .int .i64 d.next, v1, v2, v3] 26) := K10.out.on hb11 K10.out.lt
    have P611 : Hid (Blk w11 p6 #[.int .i64 RR.1.room, .int .i64 RR.1.next, .slice E1 em1 ec1, .slice E2 em2 ec2, .slice E3 em3 ec3] 32) := P610.out.on hb11 P610.out.lt
    have TB11 : Hid (Below W3.heap.size W3 w11) := TB10.out.trans (hb11.mono TB10.out.size)
    have G11 := G10.out.on hb11
    have P911 : Hid (Blk w11 p9 #[.int .i64 RR.1.room, .int .i64 RR.1.next, .slice G1 gm1 gc1, .slice G2 gm2 gc2, .slice G3 gm3 gc3] 32) := P910.out.on hb11 P910.out.lt
    have Z511 : Hid (W5.heap.size ≤ w11.heap.size) := Nat.le_trans Z510.out hb11.size
    obtain ⟨y1', y2', y3', e', o1, o2, o3⟩ := G11
    cases e'
    have cM := markDisk 1 W5.heap.size p9 RR.1.room RR.1.next _ _ _ (nodR RR.1.nods) (lnkR RR.1.dir) (movR RR.1.movs) w11 ⟨o1, o2, o3, GR1.out, GR2.out, GR3.out⟩ (by rw [nodR_length]; have := LR.out; omega) (by rw [lnkR_length]; have := LR.out; omega) (by rw [movR_length]; have := LR.out; omega) (Nat.le_refl _) (by omega) Z511.out
    have cH := fun wx h1 h2 h3 => heldDisk 1 (nodR RR.1.nods).length (lnkR RR.1.dir).length (movR RR.1.movs).length RR.1.room RR.1.next (.slice G1 gm1 gc1) (.slice G2 gm2 gc2) (.slice G3 gm3 gc3) wx wx.heap.size h1 h2 h3 (by rw [nodR_length]; have := LR.out; omega) (by rw [lnkR_length]; have := LR.out; omega) (by rw [movR_length]; have := LR.out; omega) (Nat.le_refl _) (by omega) (Nat.le_refl _)
    generalize hMM : (1 + 3 * (nodR RR.1.nods).length + 2 * (lnkR RR.1.dir).length + 4 * (movR RR.1.movs).length : Nat) = MM at *
    have qM : (MM : Int) ≤ 10000000 := by
      rw [nodR_length, lnkR_length, movR_length] at hMM
      have := LR.out
      omega
    have qM0 : decide ((MM : Int) < 0) = false := decide_eq_false (by omega)
    have nM : ((MM : Int) != (MM : Int)) = false := by simp
    clear cE hb11 o1 o2 o3 hMM B10 K10 P610 TB10 T10 G10 P910 g0 g1 g2 g3 g4 s0 s1 s2 s3 s4
    have g0 := P911.out.cell 0 _ rfl
    have g1 := P911.out.cell 1 _ rfl
    have g2 := P911.out.cell 2 _ rfl
    have g3 := P911.out.cell 3 _ rfl
    have g4 := P911.out.cell 4 _ rfl
    go_wp2_with fail
    refine cM.mono ?_
    rintro e w12 ⟨rfl, hR12, hb12, hk12⟩
    have B12 : Hid (Below w.heap.size w w12) := B11.out.trans (hb12.mono (Nat.le_trans (Nat.le_of_lt KL3.out) W35.out))
    have K12 : Hid (Blk w12 w.heap.size #[.int .i64 d.room, .int .i64 d.next, v1, v2, v3] 26) := K11.out.on hb12 (Nat.lt_of_lt_of_le KL3.out W35.out)
    have P612 : Hid (Blk w12 p6 #[.int .i64 RR.1.room, .int .i64 RR.1.next, .slice E1 em1 ec1, .slice E2 em2 ec2, .slice E3 em3 ec3] 32) := P611.out.on hb12 (Nat.lt_of_lt_of_le PL6.out W35.out)
    have TB12 : Hid (Below W3.heap.size W3 w12) := TB11.out.trans (hb12.mono W35.out)
    have P912 : Hid (Blk w12 p9 #[.int .i64 RR.1.room, .int .i64 RR.1.next, .slice G1 gm1 gc1, .slice G2 gm2 gc2, .slice G3 gm3 gc3] 32) := by
      have h1 := hk12 p9 (Nat.le_refl _) P911.out.lt
      unfold Hid Blk
      rw [h1]
      exact P911.out
    have R12 := hR12
    generalize newR (mkNod 1) (nodR RR.1.nods).length = N1 at *
    generalize newR (mkLnk (1 + 3 * (nodR RR.1.nods).length)) (lnkR RR.1.dir).length = N2 at *
    generalize newR (mkMov (1 + 3 * (nodR RR.1.nods).length + 2 * (lnkR RR.1.dir).length)) (movR RR.1.movs).length = N3 at *
    have HR12 : Hid (Rows3 w12 W5.heap.size p9 (.slice G1 gm1 gc1) (.slice G2 gm2 gc2) (.slice G3 gm3 gc3) N1 N2 N3) := R12
    clear cM hb12 hk12 R12 hR12 B11 K11 P611 TB11 P911 g0 g1 g2 g3 g4
    have g0 := P912.out.cell 0 _ rfl
    have g1 := P912.out.cell 1 _ rfl
    have g2 := P912.out.cell 2 _ rfl
    have g3 := P912.out.cell 3 _ rfl
    have g4 := P912.out.cell 4 _ rfl
    go_wp2_with fail
    refine (cH w12 HR12.out.o1.lies HR12.out.o2.lies HR12.out.o3.lies).mono ?_
    rintro e w13 ⟨rfl, hb13⟩
    have B13 : Hid (Below w.heap.size w w13) := B12.out.trans (hb13.mono B12.out.size)
    have K13 : Hid (Blk w13 w.heap.size #[.int .i64 d.room, .int .i64 d.next, v1, v2, v3] 26) := K12.out.on hb13 K12.out.lt
    have P613 : Hid (Blk w13 p6 #[.int .i64 RR.1.room, .int .i64 RR.1.next, .slice E1 em1 ec1, .slice E2 em2 ec2, .slice E3 em3 ec3] 32) := P612.out.on hb13 P612.out.lt
    have TB13 : Hid (Below W3.heap.size W3 w13) := TB12.out.trans (hb13.mono TB12.out.size)
    have P913 : Hid (Blk w13 p9 #[.int .i64 RR.1.room, .int .i64 RR.1.next, .slice G1 gm1 gc1, .slice G2 gm2 gc2, .slice G3 gm3 gc3] 32) := P912.out.on hb13 P912.out.lt
    have HR13 : Hid (Rows3 w13 W5.heap.size p9 (.slice G1 gm1 gc1) (.slice G2 gm2 gc2) (.slice G3 gm3 gc3) N1 N2 N3) := HR12.out.on hb13
    clear hb13 B12 K12 P612 TB12 P912 HR12 g0 g1 g2 g3 g4
    have y0 := K13.out.cell 0 _ rfl
    have y1 := K13.out.cell 1 _ rfl
    have y2 := K13.out.cell 2 _ rfl
    have y3 := K13.out.cell 3 _ rfl
    have y4 := K13.out.cell 4 _ rfl
    go_wp2_with fail
    refine (cT w13 (HV.out.on B13.out) B13.out.size).mono ?_
    rintro e w14 ⟨u2, rfl, hO14, hb14⟩
    have B14 : Hid (Below w.heap.size w w14) := B13.out.trans (hb14.mono B13.out.size)
    have P614 : Hid (Blk w14 p6 #[.int .i64 RR.1.room, .int .i64 RR.1.next, .slice E1 em1 ec1, .slice E2 em2 ec2, .slice E3 em3 ec3] 32) := P613.out.on hb14 P613.out.lt
    have TB14 : Hid (Below W3.heap.size W3 w14) := TB13.out.trans (hb14.mono TB13.out.size)
    have P914 : Hid (Blk w14 p9 #[.int .i64 RR.1.room, .int .i64 RR.1.next, .slice G1 gm1 gc1, .slice G2 gm2 gc2, .slice G3 gm3 gc3] 32) := P913.out.on hb14 P913.out.lt
    have HR14 : Hid (Rows3 w14 W5.heap.size p9 (.slice G1 gm1 gc1) (.slice G2 gm2 gc2) (.slice G3 gm3 gc3) N1 N2 N3) := HR13.out.on hb14
    have cG14 := cG w14 u2 hO14.look
    clear hb14 hO14 B13 K13 P613 TB13 P913 HR13 y0 y1 y2 y3 y4
    go_wp2_with fail
    refine cG14.mono ?_
    rintro e w15 ⟨h14, rfl, hO15, hb15⟩
    have B15 : Hid (Below w.heap.size w w15) := B14.out.trans (hb15.mono B14.out.size)
    have H15 : Hid (DiskO w15 w14.heap.size h14 RR.1) := hO15
    obtain ⟨t1, t2, t3, rfl, q1, q2, q3⟩ := hO15
    obtain ⟨H1, hm1, hc1, rfl⟩ := q1.shape
    obtain ⟨H2, hm2, hc2, rfl⟩ := q2.shape
    obtain ⟨H3, hm3, hc3, rfl⟩ := q3.shape
    have bb : Below w14.heap.size w14 (w15.alloc (.cells #[.int .i64 RR.1.room, .int .i64 RR.1.next, .slice H1 hm1 hc1, .slice H2 hm2 hc2, .slice H3 hm3 hc3] 32)) := hb15.trans (((Below.refl _ w15).alloc (Nat.le_refl _) _).mono hb15.size)
    have P14a : Hid (Blk (w15.alloc (.cells #[.int .i64 RR.1.room, .int .i64 RR.1.next, .slice H1 hm1 hc1, .slice H2 hm2 hc2, .slice H3 hm3 hc3] 32)) w15.heap.size #[.int .i64 RR.1.room, .int .i64 RR.1.next, .slice H1 hm1 hc1, .slice H2 hm2 hc2, .slice H3 hm3 hc3] 32) := Blk.new w15 #[.int .i64 RR.1.room, .int .i64 RR.1.next, .slice H1 hm1 hc1, .slice H2 hm2 hc2, .slice H3 hm3 hc3] 32
    have P615 : Hid (Blk (w15.alloc (.cells #[.int .i64 RR.1.room, .int .i64 RR.1.next, .slice H1 hm1 hc1, .slice H2 hm2 hc2, .slice H3 hm3 hc3] 32)) p6 #[.int .i64 RR.1.room, .int .i64 RR.1.next, .slice E1 em1 ec1, .slice E2 em2 ec2, .slice E3 em3 ec3] 32) := P614.out.on bb P614.out.lt
    have P915 : Hid (Blk (w15.alloc (.cells #[.int .i64 RR.1.room, .int .i64 RR.1.next, .slice H1 hm1 hc1, .slice H2 hm2 hc2, .slice H3 hm3 hc3] 32)) p9 #[.int .i64 RR.1.room, .int .i64 RR.1.next, .slice G1 gm1 gc1, .slice G2 gm2 gc2, .slice G3 gm3 gc3] 32) := P914.out.on bb P914.out.lt
    have HR15 : Hid (Rows3 (w15.alloc (.cells #[.int .i64 RR.1.room, .int .i64 RR.1.next, .slice H1 hm1 hc1, .slice H2 hm2 hc2, .slice H3 hm3 hc3] 32)) W5.heap.size p9 (.slice G1 gm1 gc1) (.slice G2 gm2 gc2) (.slice G3 gm3 gc3) N1 N2 N3) := HR14.out.on bb
    have T15 : Hid (DiskO (w15.alloc (.cells #[.int .i64 RR.1.room, .int .i64 RR.1.next, .slice H1 hm1 hc1, .slice H2 hm2 hc2, .slice H3 hm3 hc3] 32)) w2.heap.size (.agg #[.int .i64 RR.1.room, .int .i64 RR.1.next, .slice E1 em1 ec1, .slice E2 em2 ec2, .slice E3 em3 ec3]) RR.1) := TW3.out.on (TB14.out.trans (bb.mono TB14.out.size))
    have HH15 : Hid (DiskO (w15.alloc (.cells #[.int .i64 RR.1.room, .int .i64 RR.1.next, .slice H1 hm1 hc1, .slice H2 hm2 hc2, .slice H3 hm3 hc3] 32)) w14.heap.size (.agg #[.int .i64 RR.1.room, .int .i64 RR.1.next, .slice H1 hm1 hc1, .slice H2 hm2 hc2, .slice H3 hm3 hc3]) RR.1) := H15.out.on ((Below.refl _ w15).alloc (Nat.le_refl _) _)
    have BB15 : Hid (Below w.heap.size w (w15.alloc (.cells #[.int .i64 RR.1.room, .int .i64 RR.1.next, .slice H1 hm1 hc1, .slice H2 hm2 hc2, .slice H3 hm3 hc3] 32))) := B14.out.trans (bb.mono B14.out.size)
    clear cG14 hb15 q1 q2 q3 bb H15 B14 P614 TB14 P914 HR14
    have h0 := P14a.out.cell 0 _ rfl
    have h1 := P14a.out.cell 1 _ rfl
    have h2 := P14a.out.cell 2 _ rfl
    have h3 := P14a.out.cell 3 _ rfl
    have h4 := P14a.out.cell 4 _ rfl
    have s0 := P615.out.cell 0 _ rfl
    have s1 := P615.out.cell 1 _ rfl
    have s2 := P615.out.cell 2 _ rfl
    have s3 := P615.out.cell 3 _ rfl
    have s4 := P615.out.cell 4 _ rfl
    go_wp2_with fail
    clear h0 h1 h2 h3 h4 s0 s1 s2 s3 s4
    generalize w15.alloc (.cells #[.int .i64 RR.1.room, .int .i64 RR.1.next, .slice H1 hm1 hc1, .slice H2 hm2 hc2, .slice H3 hm3 hc3] 32) = W15 at *
    refine (eqDiskL RR.1 _ _ W15 W15.heap.size HH15.out.look T15.out.look (by have := LR.out; omega) (by have := LR.out; omega) (by have := LR.out; omega) (Nat.le_refl _)).mono ?_
    rintro e w16 ⟨rfl, hb16⟩
    have B16 : Hid (Below w.heap.size w w16) := BB15.out.trans (hb16.mono BB15.out.size)
    have P916 : Hid (Blk w16 p9 #[.int .i64 RR.1.room, .int .i64 RR.1.next, .slice G1 gm1 gc1, .slice G2 gm2 gc2, .slice G3 gm3 gc3] 32) := P915.out.on hb16 P915.out.lt
    have HR16 : Hid (Rows3 w16 W5.heap.size p9 (.slice G1 gm1 gc1) (.slice G2 gm2 gc2) (.slice G3 gm3 gc3) N1 N2 N3) := HR15.out.on hb16
    clear hb16
    have g0 := P916.out.cell 0 _ rfl
    have g1 := P916.out.cell 1 _ rfl
    have g2 := P916.out.cell 2 _ rfl
    have g3 := P916.out.cell 3 _ rfl
    have g4 := P916.out.cell 4 _ rfl
    go_wp2_with fail
    refine (cH w16 HR16.out.o1.lies HR16.out.o2.lies HR16.out.o3.lies).mono ?_
    rintro e w17 ⟨rfl, hb17⟩
    have B17 : Hid (Below w.heap.size w w17) := B16.out.trans (hb17.mono B16.out.size)
    clear hb17 g0 g1 g2 g3 g4
    go_wp2_with fail
    go_ret
    exact ⟨rfl, B17.out⟩

end Go.Proofs.YtgogcdfceggeaaaGreat
