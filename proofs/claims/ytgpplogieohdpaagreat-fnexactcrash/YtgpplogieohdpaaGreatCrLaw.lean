/-
  The walk of laws.FnExactCrash.
-/
import Derived.Test.YtgpplogieohdpaaGreatRows
import Derived.Test.YtgpplogieohdpaaGreatCrImpl
import Derived.Test.YtgpplogieohdpaaGreatCrSpecA
import Derived.Test.YtgpplogieohdpaaGreatNmAll
import Derived.Test.YtgpplogieohdpaaGreatDkToD
import Derived.Test.YtgpplogieohdpaaGreatDkEqL
import Derived.Test.YtgpplogieohdpaaGreatDkMkD
import Derived.Deep.RegionHeld3
namespace Go.Proofs.YtgpplogieohdpaaGreat
open Go.ChangeShapes Go.WideShapes Go.ChangeAt Go.RowKit Go.PlainAid
set_option linter.unusedVariables false

theorem crashR_len (d : Dsk) (keep : Int) (cuts : List Int) : (crashR d keep cuts).nods.length ≤ 1000 ∧ (crashR d keep cuts).dir.length ≤ 1000 ∧ (crashR d keep cuts).movs.length ≤ 1000 := by
  cases h : diskOk d with
  | false =>
    rw [crashR_no h]
    exact ⟨by show (0 : Nat) ≤ 1000; omega, by show (0 : Nat) ≤ 1000; omega, by show (0 : Nat) ≤ 1000; omega⟩
  | true =>
    rw [crashR_yes h]
    have hR := (sizeOk_iff d).1 ((whole_iff d).1 h).size
    have h1 : (keptN (crashL d keep) (cutL cuts d.nods)).length ≤ (cutL cuts d.nods).length := List.length_filter_le _ _
    rw [cutL_length] at h1
    have h2 := names_len d.dir (d.movs.take keep.toNat)
    rw [List.length_take] at h2
    have := hR.l
    have := hR.m
    have := hR.n
    refine ⟨?_, ?_, ?_⟩
    · show (keptN (crashL d keep) (cutL cuts d.nods)).length ≤ 1000
      omega
    · show (crashL d keep).length ≤ 1000
      unfold crashL
      omega
    · show (0 : Nat) ≤ 1000
      omega
set_option maxHeartbeats 1000000 in
theorem markIntK (k base : Nat) (v : Value) (l : List Int) (w : World) (hv : Nums w base v l) (hl : l.length ≤ 2097152) (h2 : k ≤ 100000000) :
    Calls Tryz.prog 12 #[v, .int .i64 (k : Int)] w fun e w' => e = .returned (.int .i64 ((k + l.length : Nat) : Int)) ∧ Below base w w' ∧ (∀ g, v.ownBlock ≠ some g → w'.heap[g]? = w.heap[g]?) := by
  have HV : Hid (Nums w base v l) := hv
  have hlt0 := hv.lt
  obtain ⟨A, ca, rfl, _, _⟩ := hv.shape
  have q1 : (l.length : Int) ≤ 2097152 := by omega
  have q3 : (k : Int) ≤ 100000000 := by omega
  clear hv hl
  generalize hn : l.length = n at *
  have HN : Hid (l.length = n) := hn
  clear hn
  go_enter Tryz.func12, Tryz.ntmps12
  go_wp2
  go_loopw [1, 5] (fun v1 v5 wr => ∃ j : Nat, j ≤ n ∧ v5 = .int .i64 j ∧ v1 = .int .i64 ((k + j : Nat) : Int) ∧ Nums wr base (.slice A n ca) (nmarked k l j) ∧ Below base w wr ∧ (∀ g, (Value.slice A n ca).ownBlock ≠ some g → wr.heap[g]? = w.heap[g]?)) (fun _ i _ => n - (intOf i).toNat)
  case atStart => exact ⟨0, by omega, rfl, rfl, by rw [nmarked_zero]; exact HV.out, Below.refl _ _, fun _ _ => rfl⟩
  case round =>
    obtain ⟨j, hj, rfl, rfl, hS, hB, hKp⟩ := hrel
    have HKP : Hid (∀ g, (Value.slice A n ca).ownBlock ≠ some g → wr.heap[g]? = w.heap[g]?) := hKp
    clear hKp
    have HS : Hid (Nums wr base (.slice A n ca) (nmarked k l j)) := hS
    have HB : Hid (Below base w wr) := hB
    clear hB
    by_cases hlt : j < n
    · have q2 : (j : Int) < (n : Int) := by omega
      have hml : (nmarked k l j).length = n := by rw [nmarked_length _ _ _ (by rw [HN.out]; exact hj), HN.out]
      obtain ⟨g, rfl, hg, _⟩ := hS.block (by omega)
      have HG : Hid (base ≤ g) := hg
      have e1 := hS.cell j (by rw [hml]; exact hlt)
      have e2 := hS.frozen j
      have hS2 := hS.stored j ((k + j : Nat) : Int)
      rw [nmarked_set _ _ _ (by rw [HN.out]; exact hlt)] at hS2
      have HS2 : Hid (Nums (wr.setCell ⟨g, j, none⟩ (.int .i64 ((k + j : Nat) : Int))) base (.slice (some ⟨g, 0, none⟩) n ca) (nmarked k l (j + 1))) := hS2
      generalize (nmarked k l j).getD j 0 = x at *
      clear hS hS2 hml hg
      go_wp2_with fail
      go_roundw
      case rel => exact ⟨j + 1, by omega, by go_num, by go_num, by have := HS2.out; rwa [show ((k + j : Nat) : Int) = (k : Int) + (j : Int) by omega] at this, HB.out.setCell HG.out _, fun g' hg' => by rw [Below.heap_setCell _ _ _ _ (fun e => hg' (by rw [e]; rfl))]; exact HKP.out g' hg'⟩
      case measure => simp [intOf]; omega
    · have hkk : j = n := by omega
      subst hkk
      clear hS
      go_wp2
      go_ret
      exact ⟨rfl, HB.out, HKP.out⟩

set_option maxRecDepth 20000 in
set_option maxHeartbeats 8000000 in
theorem law_fnExactCrash (d : Dsk) (v : Value) (keep : Int) (cuts : List Int) (cv : Value) (w : World) (hv : DiskV w w.heap.size v d) (hcv : NumsV w w.heap.size cv cuts) (hf : Fits d) (hi : IntsOk d) (hcm : cuts.length ≤ maxLen) :
    Calls Tryz.prog 3 #[v, .int .i64 keep, cv] w fun e w' => e = .returned (.bool true) ∧ Below w.heap.size w w' := by
  have HV : Hid (DiskV w w.heap.size v d) := hv
  have HF : Hid (Fits d) := hf
  have HI : Hid (IntsOk d) := hi
  obtain ⟨v1, v2, v3, rfl, h1, h2, h3⟩ := hv
  have cS := fun wx hx hb => szDisk d (.agg #[.int .i64 d.room, .int .i64 d.next, v1, v2, v3]) wx w.heap.size 1048576 (by omega) (by omega) hx hf hb
  have HC : Hid (NumsV w w.heap.size cv cuts) := hcv
  obtain ⟨cA, cc, rfl, _, _, _⟩ := hcv
  have qn : (cuts.length : Int) ≤ 9223372036854775807 := by unfold maxLen at hcm; omega
  clear h1 h2 h3 hf hi hcm
  by_cases hbig : (1048576 : Int) < (cuts.length : Int)
  · have hbd : decide ((1048576 : Int) < (cuts.length : Int)) = true := decide_eq_true hbig
    clear cS
    go_enter Tryz.func3, Tryz.ntmps3
    go_wp2_with fail
    go_ret
    exact ⟨rfl, (Below.refl _ _).alloc (Nat.le_refl _) _⟩
  have hbd : decide ((1048576 : Int) < (cuts.length : Int)) = false := decide_eq_false hbig
  have HCL : Hid (cuts.length ≤ 1048576) := by unfold Hid; omega
  clear hbig
  go_enter Tryz.func3, Tryz.ntmps3
  go_wp2_with fail
  have k0 := Blk.new w #[.int .i64 d.room, .int .i64 d.next, v1, v2, v3] 26
  have hb0 : Below w.heap.size w (w.alloc (.cells #[.int .i64 d.room, .int .i64 d.next, v1, v2, v3] 26)) := (Below.refl _ _).alloc (Nat.le_refl _) _
  generalize w.alloc (.cells #[.int .i64 d.room, .int .i64 d.next, v1, v2, v3] 26) = W at *
  have B0 : Hid (Below w.heap.size w W) := hb0
  have K0 : Hid (Blk W w.heap.size #[.int .i64 d.room, .int .i64 d.next, v1, v2, v3] 26) := k0
  clear hb0 k0
  refine (cS W (HV.out.on B0.out) B0.out.size).mono ?_
  rintro e w1 ⟨r, rfl, hr, hb1⟩
  have B1 : Hid (Below w.heap.size w w1) := B0.out.trans (hb1.mono B0.out.size)
  have K1 : Hid (Blk w1 w.heap.size #[.int .i64 d.room, .int .i64 d.next, v1, v2, v3] 26) := K0.out.on hb1 K0.out.lt
  clear hb1 cS K0
  rcases hr with rfl | ⟨hr0, hr1⟩
  · go_wp2_with fail
    go_ret
    exact ⟨rfl, B1.out⟩
  · have HW : Hid (wtD d ≤ 1048576) := by unfold Hid; omega
    have hr2 : decide (r < 0) = false := decide_eq_false (by omega)
    have cT := fun wx hx hb => toDisk d (.agg #[.int .i64 d.room, .int .i64 d.next, v1, v2, v3]) wx w.heap.size hx HW.out hb
    have cSp := fun wx u c hx hc => specCrashV d u keep cuts c wx wx.heap.size hx hc HCL.out HF.out HW.out (Nat.le_refl _)
    have cI := fun wx hx hb => toIntS cuts (.slice cA cuts.length cc) wx w.heap.size hx HCL.out hb
    have cG := fun wx u c hx hc => implCrashV d u keep cuts c wx wx.heap.size hx hc HCL.out HF.out HI.out HW.out (Nat.le_refl _)
    have LR : Hid ((crashR d keep cuts).nods.length ≤ 1000 ∧ (crashR d keep cuts).dir.length ≤ 1000 ∧ (crashR d keep cuts).movs.length ≤ 1000) := crashR_len d keep cuts
    clear hr1
    generalize crashR d keep cuts = RR at *
    have y0 := K1.out.cell 0 _ rfl
    have y1 := K1.out.cell 1 _ rfl
    have y2 := K1.out.cell 2 _ rfl
    have y3 := K1.out.cell 3 _ rfl
    have y4 := K1.out.cell 4 _ rfl
    go_wp2_with fail
    refine (cT w1 (HV.out.on B1.out) B1.out.size).mono ?_
    rintro e w2a ⟨u, rfl, hO, hb2a⟩
    have B2a : Hid (Below w.heap.size w w2a) := B1.out.trans (hb2a.mono B1.out.size)
    have K2a : Hid (Blk w2a w.heap.size #[.int .i64 d.room, .int .i64 d.next, v1, v2, v3] 26) := K1.out.on hb2a K1.out.lt
    have OU : Hid (DiskO w2a w1.heap.size u d) := hO
    clear y0 y1 y2 y3 y4 hb2a hO K1
    go_wp2_with fail
    refine (cI w2a (HC.out.on B2a.out) B2a.out.size).mono ?_
    rintro e w2 ⟨ci, rfl, hNi, hb2⟩
    have B2 : Hid (Below w.heap.size w w2) := B2a.out.trans (hb2.mono B2a.out.size)
    have K2 : Hid (Blk w2 w.heap.size #[.int .i64 d.room, .int .i64 d.next, v1, v2, v3] 26) := K2a.out.on hb2 K2a.out.lt
    have cP := cSp w2 u ci (OU.out.on hb2).look hNi.lies
    clear hb2 hNi K2a B2a OU cSp
    go_wp2_with fail
    refine cP.mono ?_
    rintro e w3 ⟨x6, rfl, hO3, hb3⟩
    have B3 : Hid (Below w.heap.size w w3) := B2.out.trans (hb3.mono B2.out.size)
    have K3 : Hid (Blk w3 w.heap.size #[.int .i64 d.room, .int .i64 d.next, v1, v2, v3] 26) := K2.out.on hb3 K2.out.lt
    have T3 : Hid (DiskO w3 w2.heap.size x6 RR) := hO3
    obtain ⟨s1, s2, s3, rfl, a1, a2, a3⟩ := hO3
    obtain ⟨E1, em1, ec1, rfl⟩ := a1.shape
    obtain ⟨E2, em2, ec2, rfl⟩ := a2.shape
    obtain ⟨E3, em3, ec3, rfl⟩ := a3.shape
    clear cP hb3 K2 a1 a2 a3
    have K3a : Hid (Blk (w3.alloc (.cells #[.int .i64 RR.room, .int .i64 RR.next, .slice E1 em1 ec1, .slice E2 em2 ec2, .slice E3 em3 ec3] 33)) w.heap.size #[.int .i64 d.room, .int .i64 d.next, v1, v2, v3] 26) := K3.out.alloc _
    have y0 := K3a.out.cell 0 _ rfl
    have y1 := K3a.out.cell 1 _ rfl
    have y2 := K3a.out.cell 2 _ rfl
    have y3 := K3a.out.cell 3 _ rfl
    have y4 := K3a.out.cell 4 _ rfl
    go_wp2_with fail
    have k6 := Blk.new w3 #[.int .i64 RR.room, .int .i64 RR.next, .slice E1 em1 ec1, .slice E2 em2 ec2, .slice E3 em3 ec3] 33
    have hb6 : Below w3.heap.size w3 (w3.alloc (.cells #[.int .i64 RR.room, .int .i64 RR.next, .slice E1 em1 ec1, .slice E2 em2 ec2, .slice E3 em3 ec3] 33)) := (Below.refl _ _).alloc (Nat.le_refl _) _
    clear y0 y1 y2 y3 y4
    generalize w3.alloc (.cells #[.int .i64 RR.room, .int .i64 RR.next, .slice E1 em1 ec1, .slice E2 em2 ec2, .slice E3 em3 ec3] 33) = W3 at *
    have BW3 : Hid (Below w.heap.size w W3) := B3.out.trans (hb6.mono B3.out.size)
    have TW3 : Hid (DiskO W3 w2.heap.size (.agg #[.int .i64 RR.room, .int .i64 RR.next, .slice E1 em1 ec1, .slice E2 em2 ec2, .slice E3 em3 ec3]) RR) := T3.out.on hb6
    have P6a : Hid (Blk W3 w3.heap.size #[.int .i64 RR.room, .int .i64 RR.next, .slice E1 em1 ec1, .slice E2 em2 ec2, .slice E3 em3 ec3] 33) := k6
    clear k6 hb6 T3 K3
    generalize w3.heap.size = p6 at *
    refine (cT W3 (HV.out.on BW3.out) BW3.out.size).mono ?_
    rintro e w4 ⟨x, rfl, hO4, hb4⟩
    have B4 : Hid (Below w.heap.size w w4) := BW3.out.trans (hb4.mono BW3.out.size)
    have K4 : Hid (Blk w4 w.heap.size #[.int .i64 d.room, .int .i64 d.next, v1, v2, v3] 26) := K3a.out.on hb4 K3a.out.lt
    have O4 : Hid (DiskO w4 W3.heap.size x d) := hO4
    have T4 : Hid (Below W3.heap.size W3 w4) := hb4
    obtain ⟨x1, x2, x3, rfl, q1, q2, q3⟩ := hO4
    have XR1 : Hid (∀ g, x1.ownBlock = some g → g < w4.heap.size) := fun g hg => (q1.lt g hg).2
    have XR2 : Hid (∀ g, x2.ownBlock = some g → g < w4.heap.size) := fun g hg => (q2.lt g hg).2
    have XR3 : Hid (∀ g, x3.ownBlock = some g → g < w4.heap.size) := fun g hg => (q3.lt g hg).2
    obtain ⟨A1, m1, c1, rfl⟩ := q1.shape
    obtain ⟨A2, m2, c2, rfl⟩ := q2.shape
    obtain ⟨A3, m3, c3, rfl⟩ := q3.shape
    have KL30 : Hid (w.heap.size < W3.heap.size) := K3a.out.lt
    clear hb4 K3a q1 q2 q3
    go_wp2_with fail
    have k5 := Blk.new w4 #[.int .i64 d.room, .int .i64 d.next, .slice A1 m1 c1, .slice A2 m2 c2, .slice A3 m3 c3] 33
    have hb5 : Below w4.heap.size w4 (w4.alloc (.cells #[.int .i64 d.room, .int .i64 d.next, .slice A1 m1 c1, .slice A2 m2 c2, .slice A3 m3 c3] 33)) := (Below.refl _ _).alloc (Nat.le_refl _) _
    generalize w4.alloc (.cells #[.int .i64 d.room, .int .i64 d.next, .slice A1 m1 c1, .slice A2 m2 c2, .slice A3 m3 c3] 33) = W5a at *
    have B5a : Hid (Below w.heap.size w W5a) := B4.out.trans (hb5.mono B4.out.size)
    have K5a : Hid (Blk W5a w.heap.size #[.int .i64 d.room, .int .i64 d.next, v1, v2, v3] 26) := K4.out.on hb5 K4.out.lt
    have O5a : Hid (DiskO W5a W3.heap.size (.agg #[.int .i64 d.room, .int .i64 d.next, .slice A1 m1 c1, .slice A2 m2 c2, .slice A3 m3 c3]) d) := O4.out.on hb5
    have T5a : Hid (Below W3.heap.size W3 W5a) := T4.out.trans (hb5.mono T4.out.size)
    have X5a : Hid (Blk W5a w4.heap.size #[.int .i64 d.room, .int .i64 d.next, .slice A1 m1 c1, .slice A2 m2 c2, .slice A3 m3 c3] 33) := k5
    have XL : Hid (W3.heap.size ≤ w4.heap.size) := T4.out.size
    clear hb5 k5 K4 O4 T4
    generalize w4.heap.size = px at *
    have PXa : Hid (px < W5a.heap.size) := X5a.out.lt
    refine (cI W5a (HC.out.on B5a.out) B5a.out.size).mono ?_
    rintro e W5 ⟨cx, rfl, hNx, hb5x⟩
    have B5 : Hid (Below w.heap.size w W5) := B5a.out.trans (hb5x.mono B5a.out.size)
    have K5 : Hid (Blk W5 w.heap.size #[.int .i64 d.room, .int .i64 d.next, v1, v2, v3] 26) := K5a.out.on hb5x K5a.out.lt
    have O5 : Hid (DiskO W5 W3.heap.size (.agg #[.int .i64 d.room, .int .i64 d.next, .slice A1 m1 c1, .slice A2 m2 c2, .slice A3 m3 c3]) d) := O5a.out.on hb5x
    have T5 : Hid (Below W3.heap.size W3 W5) := T5a.out.trans (hb5x.mono T5a.out.size)
    have X5 : Hid (Blk W5 px #[.int .i64 d.room, .int .i64 d.next, .slice A1 m1 c1, .slice A2 m2 c2, .slice A3 m3 c3] 33) := X5a.out.on hb5x X5a.out.lt
    have PX : Hid (px < W5.heap.size) := X5.out.lt
    have PXA : Hid (px < W5a.heap.size) := PXa.out
    have W3A : Hid (W3.heap.size ≤ W5a.heap.size) := T5a.out.size
    have NX5 : Hid (Nums W5 W5a.heap.size cx cuts) := hNx
    obtain ⟨xA, xc, rfl, _, _⟩ := hNx.shape
    have CXL : Hid (∀ g, (Value.slice xA cuts.length xc).ownBlock = some g → W5a.heap.size ≤ g ∧ g < W5.heap.size) := fun g hg => hNx.lt g hg
    clear hb5x hNx B5a K5a O5a T5a X5a PXa
    generalize W5a.heap.size = z5 at *
    have x0 := X5.out.cell 0 _ rfl
    have x1 := X5.out.cell 1 _ rfl
    have x2 := X5.out.cell 2 _ rfl
    have x3 := X5.out.cell 3 _ rfl
    have x4 := X5.out.cell 4 _ rfl
    go_wp2_with fail
    clear x0 x1 x2 x3 x4
    refine (cG W5 _ _ O5.out.look NX5.out.lies).mono ?_
    rintro e w6 ⟨y9, rfl, hO6, hb6⟩
    have B6 : Hid (Below w.heap.size w w6) := B5.out.trans (hb6.mono B5.out.size)
    have T6 : Hid (Below W5.heap.size W5 w6) := hb6
    have G6 : Hid (DiskO w6 W5.heap.size y9 RR) := hO6
    obtain ⟨g1, g2, g3, rfl, q1, q2, q3⟩ := hO6
    have GR1 : Hid (∀ g, g1.ownBlock = some g → g < w6.heap.size) := fun g hg => (q1.lt g hg).2
    have GR2 : Hid (∀ g, g2.ownBlock = some g → g < w6.heap.size) := fun g hg => (q2.lt g hg).2
    have GR3 : Hid (∀ g, g3.ownBlock = some g → g < w6.heap.size) := fun g hg => (q3.lt g hg).2
    obtain ⟨G1, gm1, gc1, rfl⟩ := q1.shape
    obtain ⟨G2, gm2, gc2, rfl⟩ := q2.shape
    obtain ⟨G3, gm3, gc3, rfl⟩ := q3.shape
    clear hb6 q1 q2 q3
    have bW6 : Below w6.heap.size w6 (w6.alloc (.cells #[.int .i64 RR.room, .int .i64 RR.next, .slice G1 gm1 gc1, .slice G2 gm2 gc2, .slice G3 gm3 gc3] 33)) := (Below.refl _ _).alloc (Nat.le_refl _) _
    have P9a : Hid (Blk (w6.alloc (.cells #[.int .i64 RR.room, .int .i64 RR.next, .slice G1 gm1 gc1, .slice G2 gm2 gc2, .slice G3 gm3 gc3] 33)) w6.heap.size #[.int .i64 RR.room, .int .i64 RR.next, .slice G1 gm1 gc1, .slice G2 gm2 gc2, .slice G3 gm3 gc3] 33) := Blk.new w6 #[.int .i64 RR.room, .int .i64 RR.next, .slice G1 gm1 gc1, .slice G2 gm2 gc2, .slice G3 gm3 gc3] 33
    have BW6 : Hid (Below w.heap.size w (w6.alloc (.cells #[.int .i64 RR.room, .int .i64 RR.next, .slice G1 gm1 gc1, .slice G2 gm2 gc2, .slice G3 gm3 gc3] 33))) := B6.out.trans (bW6.mono B6.out.size)
    have TW6 : Hid (Below W5.heap.size W5 (w6.alloc (.cells #[.int .i64 RR.room, .int .i64 RR.next, .slice G1 gm1 gc1, .slice G2 gm2 gc2, .slice G3 gm3 gc3] 33))) := T6.out.trans (bW6.mono T6.out.size)
    have GW6 : Hid (DiskO (w6.alloc (.cells #[.int .i64 RR.room, .int .i64 RR.next, .slice G1 gm1 gc1, .slice G2 gm2 gc2, .slice G3 gm3 gc3] 33)) W5.heap.size (.agg #[.int .i64 RR.room, .int .i64 RR.next, .slice G1 gm1 gc1, .slice G2 gm2 gc2, .slice G3 gm3 gc3]) RR) := G6.out.on bW6
    have P6b : Hid (Blk (w6.alloc (.cells #[.int .i64 RR.room, .int .i64 RR.next, .slice G1 gm1 gc1, .slice G2 gm2 gc2, .slice G3 gm3 gc3] 33)) p6 #[.int .i64 RR.room, .int .i64 RR.next, .slice E1 em1 ec1, .slice E2 em2 ec2, .slice E3 em3 ec3] 33) := ((P6a.out.on T5.out P6a.out.lt).on TW6.out (P6a.out.on T5.out P6a.out.lt).lt)
    have z0 := P9a.out.cell 0 _ rfl
    have z1 := P9a.out.cell 1 _ rfl
    have z2 := P9a.out.cell 2 _ rfl
    have z3 := P9a.out.cell 3 _ rfl
    have z4 := P9a.out.cell 4 _ rfl
    have s0 := P6b.out.cell 0 _ rfl
    have s1 := P6b.out.cell 1 _ rfl
    have s2 := P6b.out.cell 2 _ rfl
    have s3 := P6b.out.cell 3 _ rfl
    have s4 := P6b.out.cell 4 _ rfl
    go_wp2_with fail
    clear z0 z1 z2 z3 z4 s0 s1 s2 s3 s4 bW6 G6
    have GLL : Hid (W5.heap.size ≤ w6.heap.size) := T6.out.size
    clear T6
    generalize w6.alloc (.cells #[.int .i64 RR.room, .int .i64 RR.next, .slice G1 gm1 gc1, .slice G2 gm2 gc2, .slice G3 gm3 gc3] 33) = W6 at *
    have GL : Hid (W5.heap.size ≤ w6.heap.size) := GLL.out
    generalize w6.heap.size = p9 at *
    have TT6 : Hid (Below W3.heap.size W3 W6) := T5.out.trans (TW6.out.mono T5.out.size)
    have TO6 : Hid (DiskO W6 w2.heap.size (.agg #[.int .i64 RR.room, .int .i64 RR.next, .slice E1 em1 ec1, .slice E2 em2 ec2, .slice E3 em3 ec3]) RR) := (TW3.out.on T5.out).on (TW6.out)
    refine (eqDiskL RR _ _ W6 W6.heap.size GW6.out.look TO6.out.look (by have := LR.out; omega) (by have := LR.out; omega) (by have := LR.out; omega) (Nat.le_refl _)).mono ?_
    rintro e w7 ⟨rfl, hb7⟩
    have hb7x : Hid (Below W6.heap.size W6 w7) := hb7
    have B7 : Hid (Below w.heap.size w w7) := BW6.out.trans (hb7.mono BW6.out.size)
    have K7 : Hid (Blk w7 w.heap.size #[.int .i64 d.room, .int .i64 d.next, v1, v2, v3] 26) := ((K5.out.on TW6.out K5.out.lt)).on hb7 (K5.out.on TW6.out K5.out.lt).lt
    have X7 : Hid (Blk w7 px #[.int .i64 d.room, .int .i64 d.next, .slice A1 m1 c1, .slice A2 m2 c2, .slice A3 m3 c3] 33) := (X5.out.on TW6.out X5.out.lt).on hb7 (X5.out.on TW6.out X5.out.lt).lt
    have O7 : Hid (DiskO w7 W3.heap.size (.agg #[.int .i64 d.room, .int .i64 d.next, .slice A1 m1 c1, .slice A2 m2 c2, .slice A3 m3 c3]) d) := (O5.out.on TW6.out).on hb7
    have G7 : Hid (DiskO w7 W5.heap.size (.agg #[.int .i64 RR.room, .int .i64 RR.next, .slice G1 gm1 gc1, .slice G2 gm2 gc2, .slice G3 gm3 gc3]) RR) := GW6.out.on hb7
    have T7 : Hid (DiskO w7 w2.heap.size (.agg #[.int .i64 RR.room, .int .i64 RR.next, .slice E1 em1 ec1, .slice E2 em2 ec2, .slice E3 em3 ec3]) RR) := TO6.out.on hb7
    have P97 : Hid (Blk w7 p9 #[.int .i64 RR.room, .int .i64 RR.next, .slice G1 gm1 gc1, .slice G2 gm2 gc2, .slice G3 gm3 gc3] 33) := P9a.out.on hb7 P9a.out.lt
    have P67 : Hid (Blk w7 p6 #[.int .i64 RR.room, .int .i64 RR.next, .slice E1 em1 ec1, .slice E2 em2 ec2, .slice E3 em3 ec3] 33) := P6b.out.on hb7 P6b.out.lt
    clear hb7 K5 X5 O5 GW6 TO6 P9a P6b
    have TB7 : Hid (Below W3.heap.size W3 w7) := TT6.out.trans (hb7x.out.mono TT6.out.size)
    have S0 : Hid (w7.drew.cell? ⟨px, 0, none⟩ = some (.int .i64 d.room) ∧ w7.drew.cell? ⟨px, 1, none⟩ = some (.int .i64 d.next) ∧ w7.drew.cell? ⟨px, 2, none⟩ = some (.slice A1 m1 c1) ∧ w7.drew.cell? ⟨px, 3, none⟩ = some (.slice A2 m2 c2) ∧ w7.drew.cell? ⟨px, 4, none⟩ = some (.slice A3 m3 c3) ∧ w7.drew.cell? ⟨w.heap.size, 0, none⟩ = some (.int .i64 d.room) ∧ w7.drew.cell? ⟨w.heap.size, 1, none⟩ = some (.int .i64 d.next) ∧ w7.drew.cell? ⟨w.heap.size, 2, none⟩ = some v1 ∧ w7.drew.cell? ⟨w.heap.size, 3, none⟩ = some v2 ∧ w7.drew.cell? ⟨w.heap.size, 4, none⟩ = some v3) := ⟨X7.out.cell 0 _ rfl, X7.out.cell 1 _ rfl, X7.out.cell 2 _ rfl, X7.out.cell 3 _ rfl, X7.out.cell 4 _ rfl, K7.out.cell 0 _ rfl, K7.out.cell 1 _ rfl, K7.out.cell 2 _ rfl, K7.out.cell 3 _ rfl, K7.out.cell 4 _ rfl⟩
    have B7d : Hid (Below w.heap.size w w7.drew) := B7.out.drew
    have cT7 := cT w7.drew (HV.out.on B7d.out) B7d.out.size
    go_wp2_with fail
    go_region_held3 (fun w' => w'.cell? ⟨px, 0, none⟩ = some (.int .i64 d.room) ∧ w'.cell? ⟨px, 1, none⟩ = some (.int .i64 d.next) ∧ w'.cell? ⟨px, 2, none⟩ = some (.slice A1 m1 c1) ∧ w'.cell? ⟨px, 3, none⟩ = some (.slice A2 m2 c2) ∧ w'.cell? ⟨px, 4, none⟩ = some (.slice A3 m3 c3) ∧ w'.cell? ⟨w.heap.size, 0, none⟩ = some (.int .i64 d.room) ∧ w'.cell? ⟨w.heap.size, 1, none⟩ = some (.int .i64 d.next) ∧ w'.cell? ⟨w.heap.size, 2, none⟩ = some v1 ∧ w'.cell? ⟨w.heap.size, 3, none⟩ = some v2 ∧ w'.cell? ⟨w.heap.size, 4, none⟩ = some v3) (first | exact S0.out | exact S2.out | exact S3'.out)
      ((first | (go_at_call 6; refine cT7.mono ?_; rintro e w8 ⟨y, rfl, hO8, hb8⟩; have S2 : Hid (w8.cell? ⟨px, 0, none⟩ = some (.int .i64 d.room) ∧ w8.cell? ⟨px, 1, none⟩ = some (.int .i64 d.next) ∧ w8.cell? ⟨px, 2, none⟩ = some (.slice A1 m1 c1) ∧ w8.cell? ⟨px, 3, none⟩ = some (.slice A2 m2 c2) ∧ w8.cell? ⟨px, 4, none⟩ = some (.slice A3 m3 c3) ∧ w8.cell? ⟨w.heap.size, 0, none⟩ = some (.int .i64 d.room) ∧ w8.cell? ⟨w.heap.size, 1, none⟩ = some (.int .i64 d.next) ∧ w8.cell? ⟨w.heap.size, 2, none⟩ = some v1 ∧ w8.cell? ⟨w.heap.size, 3, none⟩ = some v2 ∧ w8.cell? ⟨w.heap.size, 4, none⟩ = some v3) := ⟨(Blk.on (w := w7.drew) X7.out hb8 X7.out.lt).cell 0 _ rfl, (Blk.on (w := w7.drew) X7.out hb8 X7.out.lt).cell 1 _ rfl, (Blk.on (w := w7.drew) X7.out hb8 X7.out.lt).cell 2 _ rfl, (Blk.on (w := w7.drew) X7.out hb8 X7.out.lt).cell 3 _ rfl, (Blk.on (w := w7.drew) X7.out hb8 X7.out.lt).cell 4 _ rfl, (Blk.on (w := w7.drew) K7.out hb8 K7.out.lt).cell 0 _ rfl, (Blk.on (w := w7.drew) K7.out hb8 K7.out.lt).cell 1 _ rfl, (Blk.on (w := w7.drew) K7.out hb8 K7.out.lt).cell 2 _ rfl, (Blk.on (w := w7.drew) K7.out hb8 K7.out.lt).cell 3 _ rfl, (Blk.on (w := w7.drew) K7.out hb8 K7.out.lt).cell 4 _ rfl⟩; have O8 : Hid (DiskO w8 w7.heap.size y d) := hO8; have BX8 : Hid (Below w7.heap.size w7 w8) := (Below.refl _ w7).drew.trans hb8; clear hO8) | (go_at_call 9; refine (eqDisk d _ _ w8 w8.heap.size (O7.out.on BX8.out).look O8.out.look HW.out (Nat.le_refl _)).mono ?_; rintro e w9a ⟨rfl, hb9a⟩; have S3' : Hid (w9a.cell? ⟨px, 0, none⟩ = some (.int .i64 d.room) ∧ w9a.cell? ⟨px, 1, none⟩ = some (.int .i64 d.next) ∧ w9a.cell? ⟨px, 2, none⟩ = some (.slice A1 m1 c1) ∧ w9a.cell? ⟨px, 3, none⟩ = some (.slice A2 m2 c2) ∧ w9a.cell? ⟨px, 4, none⟩ = some (.slice A3 m3 c3) ∧ w9a.cell? ⟨w.heap.size, 0, none⟩ = some (.int .i64 d.room) ∧ w9a.cell? ⟨w.heap.size, 1, none⟩ = some (.int .i64 d.next) ∧ w9a.cell? ⟨w.heap.size, 2, none⟩ = some v1 ∧ w9a.cell? ⟨w.heap.size, 3, none⟩ = some v2 ∧ w9a.cell? ⟨w.heap.size, 4, none⟩ = some v3) := ⟨((X7.out.on BX8.out X7.out.lt).on hb9a (X7.out.on BX8.out X7.out.lt).lt).cell 0 _ rfl, ((X7.out.on BX8.out X7.out.lt).on hb9a (X7.out.on BX8.out X7.out.lt).lt).cell 1 _ rfl, ((X7.out.on BX8.out X7.out.lt).on hb9a (X7.out.on BX8.out X7.out.lt).lt).cell 2 _ rfl, ((X7.out.on BX8.out X7.out.lt).on hb9a (X7.out.on BX8.out X7.out.lt).lt).cell 3 _ rfl, ((X7.out.on BX8.out X7.out.lt).on hb9a (X7.out.on BX8.out X7.out.lt).lt).cell 4 _ rfl, ((K7.out.on BX8.out K7.out.lt).on hb9a (K7.out.on BX8.out K7.out.lt).lt).cell 0 _ rfl, ((K7.out.on BX8.out K7.out.lt).on hb9a (K7.out.on BX8.out K7.out.lt).lt).cell 1 _ rfl, ((K7.out.on BX8.out K7.out.lt).on hb9a (K7.out.on BX8.out K7.out.lt).lt).cell 2 _ rfl, ((K7.out.on BX8.out K7.out.lt).on hb9a (K7.out.on BX8.out K7.out.lt).lt).cell 3 _ rfl, ((K7.out.on BX8.out K7.out.lt).on hb9a (K7.out.on BX8.out K7.out.lt).lt).cell 4 _ rfl⟩)))
    have hb97a : Below w7.heap.size w7 w9a := BX8.out.trans (hb9a.mono BX8.out.size)
    have HB97A : Hid (Below w7.heap.size w7 w9a) := hb97a
    have B9a : Hid (Below w.heap.size w w9a) := B7.out.trans (hb97a.mono B7.out.size)
    have NX9a : Hid (Nums w9a z5 (.slice xA cuts.length xc) cuts) := ((NX5.out.on TW6.out).on hb7x.out).on hb97a
    clear hb97a S0 S2 S3' hb9a O8 cT7 B7d
    go_wp2_with fail
    refine (cI w9a (HC.out.on B9a.out) B9a.out.size).mono ?_
    rintro e w9b ⟨ce, rfl, hNe, hb9b⟩
    have NE : Hid (Nums w9b w9a.heap.size ce cuts) := hNe
    have HB9B : Hid (Below w9a.heap.size w9a w9b) := hb9b
    clear hNe hb9b
    go_wp2_with fail
    refine (eqIntS cuts _ _ w9b w9b.heap.size (NX9a.out.on HB9B.out).lies NE.out.lies (by have := HCL.out; omega)).mono ?_
    rintro e w9 ⟨rfl, hlike⟩
    have hb97 : Below w7.heap.size w7 w9 := HB97A.out.trans ((HB9B.out.trans (hlike.below.mono HB9B.out.size)).mono HB97A.out.size)
    have NX9 : Hid (Nums w9 z5 (.slice xA cuts.length xc) cuts) := ((NX5.out.on TW6.out).on hb7x.out).on hb97
    have B9 : Hid (Below w.heap.size w w9) := B7.out.trans (hb97.mono B7.out.size)
    have K9 : Hid (Blk w9 w.heap.size #[.int .i64 d.room, .int .i64 d.next, v1, v2, v3] 26) := K7.out.on hb97 K7.out.lt
    have X9 : Hid (Blk w9 px #[.int .i64 d.room, .int .i64 d.next, .slice A1 m1 c1, .slice A2 m2 c2, .slice A3 m3 c3] 33) := X7.out.on hb97 X7.out.lt
    have O9 := O7.out.on hb97
    have G9 : Hid (DiskO w9 W5.heap.size (.agg #[.int .i64 RR.room, .int .i64 RR.next, .slice G1 gm1 gc1, .slice G2 gm2 gc2, .slice G3 gm3 gc3]) RR) := G7.out.on hb97
    have P99 : Hid (Blk w9 p9 #[.int .i64 RR.room, .int .i64 RR.next, .slice G1 gm1 gc1, .slice G2 gm2 gc2, .slice G3 gm3 gc3] 33) := P97.out.on hb97 P97.out.lt
    have P69 : Hid (Blk w9 p6 #[.int .i64 RR.room, .int .i64 RR.next, .slice E1 em1 ec1, .slice E2 em2 ec2, .slice E3 em3 ec3] 33) := P67.out.on hb97 P67.out.lt
    have TB9 : Hid (Below W3.heap.size W3 w9) := TB7.out.trans (hb97.mono TB7.out.size)
    have Z59 : Hid (W5.heap.size ≤ w9.heap.size) := Nat.le_trans TW6.out.size (Nat.le_trans hb7x.out.size hb97.size)
    have WT : Hid (d.nods.length ≤ 1048576 ∧ d.dir.length ≤ 1048576 ∧ d.movs.length ≤ 1048576) := by
      have := HW.out
      unfold wtD at this
      unfold Hid
      omega
    have KL3 : Hid (w.heap.size < W3.heap.size) := KL30.out
    have PL6 : Hid (p6 < W3.heap.size) := P6a.out.lt
    have W35 : Hid (W3.heap.size ≤ W5.heap.size) := T5.out.size
    obtain ⟨y1', y2', y3', e', o1, o2, o3⟩ := O9
    cases e'
    have cM := markDisk 1 W3.heap.size px d.room d.next _ _ _ (nodR d.nods) (lnkR d.dir) (movR d.movs) w9 ⟨o1, o2, o3, XR1.out, XR2.out, XR3.out⟩ (by rw [nodR_length]; exact WT.out.1) (by rw [lnkR_length]; exact WT.out.2.1) (by rw [movR_length]; exact WT.out.2.2) (Nat.le_refl _) (by omega) (Nat.le_trans W35.out Z59.out)
    generalize hKK : (1 + 3 * (nodR d.nods).length + 2 * (lnkR d.dir).length + 4 * (movR d.movs).length : Nat) = KK at *
    have qK : (KK : Int) ≤ 10000000 := by
      rw [nodR_length, lnkR_length, movR_length] at hKK
      have := WT.out
      omega
    have qK0 : decide ((KK : Int) < 0) = false := decide_eq_false (by omega)
    clear hb97 hlike K7 X7 G7 P97 P67 T7 O7 o1 o2 o3 hKK
    have x0 := X9.out.cell 0 _ rfl
    have x1 := X9.out.cell 1 _ rfl
    have x2 := X9.out.cell 2 _ rfl
    have x3 := X9.out.cell 3 _ rfl
    have x4 := X9.out.cell 4 _ rfl
    go_wp2_with fail
    refine cM.mono ?_
    rintro e w10a ⟨rfl, _, hb10a, hk10a⟩
    have NX10 : Hid (Nums w10a z5 (.slice xA cuts.length xc) cuts) := NX9.out.kept fun g hg ho => hk10a g (by have := CXL.out g ho; have := PXA.out; omega) hg
    have HB10A : Hid (Below W3.heap.size w9 w10a) := hb10a
    have HK10A : Hid (∀ g, px ≤ g → g < w9.heap.size → w10a.heap[g]? = w9.heap[g]?) := hk10a
    have cMI := markIntK KK z5 (.slice xA cuts.length xc) cuts w10a NX10.out (by have := HCL.out; omega) (by omega)
    obtain ⟨K2, hK2⟩ : ∃ K2, K2 = KK + cuts.length := ⟨_, rfl⟩
    rw [← hK2] at cMI
    have qK2 : decide ((K2 : Int) < 0) = false := decide_eq_false (by omega)
    clear cM hb10a hk10a x0 x1 x2 x3 x4 hK2
    go_wp2_with fail
    refine cMI.mono ?_
    rintro e w10 ⟨rfl, hbm, hkm⟩
    have hb10 : Below W3.heap.size w9 w10 := HB10A.out.trans (hbm.mono W3A.out)
    have hk10 : ∀ g, W5.heap.size ≤ g → g < w9.heap.size → w10.heap[g]? = w9.heap[g]? := fun g h1 h2 => by
      rw [hkm g (fun e => by have := CXL.out g e; omega), HK10A.out g (by have := PX.out; omega) h2]
    have B10 : Hid (Below w.heap.size w w10) := B9.out.trans (hb10.mono (Nat.le_of_lt KL3.out))
    have K10 : Hid (Blk w10 w.heap.size #[.int .i64 d.room, .int .i64 d.next, v1, v2, v3] 26) := K9.out.on hb10 KL3.out
    have P610 : Hid (Blk w10 p6 #[.int .i64 RR.room, .int .i64 RR.next, .slice E1 em1 ec1, .slice E2 em2 ec2, .slice E3 em3 ec3] 33) := P69.out.on hb10 PL6.out
    have TB10 : Hid (Below W3.heap.size W3 w10) := TB9.out.trans hb10
    have T10 : Hid (DiskO w10 w2.heap.size (.agg #[.int .i64 RR.room, .int .i64 RR.next, .slice E1 em1 ec1, .slice E2 em2 ec2, .slice E3 em3 ec3]) RR) := TW3.out.on TB10.out
    have G10 : Hid (DiskO w10 W5.heap.size (.agg #[.int .i64 RR.room, .int .i64 RR.next, .slice G1 gm1 gc1, .slice G2 gm2 gc2, .slice G3 gm3 gc3]) RR) := G9.out.above fun g h1 h2 => hk10 g (by have := PX.out; omega) h2
    have P910 : Hid (Blk w10 p9 #[.int .i64 RR.room, .int .i64 RR.next, .slice G1 gm1 gc1, .slice G2 gm2 gc2, .slice G3 gm3 gc3] 33) := by
      have h1 := hk10 p9 (by have := PX.out; have := GL.out; omega) P99.out.lt
      unfold Hid Blk
      rw [h1]
      exact P99.out
    have Z510 : Hid (W5.heap.size ≤ w10.heap.size) := Nat.le_trans Z59.out hb10.size
    clear cMI hb10 hk10 hbm hkm B9 K9 X9 G9 P99 P69 TB9
    have g0 := P910.out.cell 0 _ rfl
    have g1 := P910.out.cell 1 _ rfl
    have g2 := P910.out.cell 2 _ rfl
    have g3 := P910.out.cell 3 _ rfl
    have g4 := P910.out.cell 4 _ rfl
    have s0 := P610.out.cell 0 _ rfl
    have s1 := P610.out.cell 1 _ rfl
    have s2 := P610.out.cell 2 _ rfl
    have s3 := P610.out.cell 3 _ rfl
    have s4 := P610.out.cell 4 _ rfl
    have cE := eqDiskL RR _ _ w10 w10.heap.size G10.out.look T10.out.look (by have := LR.out; omega) (by have := LR.out; omega) (by have := LR.out; omega) (Nat.le_refl _)
    go_wp2_with fail
    refine cE.mono ?_
    rintro e w11 ⟨rfl, hb11⟩
    have B11 : Hid (Below w.heap.size w w11) := B10.out.trans (hb11.mono B10.out.size)
    have K11 : Hid (Blk w11 w.heap.size #[.int .i64 d.room, .int .i64 d.next, v1, v2, v3] 26) := K10.out.on hb11 K10.out.lt
    have P611 : Hid (Blk w11 p6 #[.int .i64 RR.room, .int .i64 RR.next, .slice E1 em1 ec1, .slice E2 em2 ec2, .slice E3 em3 ec3] 33) := P610.out.on hb11 P610.out.lt
    have TB11 : Hid (Below W3.heap.size W3 w11) := TB10.out.trans (hb11.mono TB10.out.size)
    have G11 := G10.out.on hb11
    have P911 : Hid (Blk w11 p9 #[.int .i64 RR.room, .int .i64 RR.next, .slice G1 gm1 gc1, .slice G2 gm2 gc2, .slice G3 gm3 gc3] 33) := P910.out.on hb11 P910.out.lt
    have Z511 : Hid (W5.heap.size ≤ w11.heap.size) := Nat.le_trans Z510.out hb11.size
    obtain ⟨y1', y2', y3', e', o1, o2, o3⟩ := G11
    cases e'
    have cM := markDisk 1 W5.heap.size p9 RR.room RR.next _ _ _ (nodR RR.nods) (lnkR RR.dir) (movR RR.movs) w11 ⟨o1, o2, o3, GR1.out, GR2.out, GR3.out⟩ (by rw [nodR_length]; have := LR.out; omega) (by rw [lnkR_length]; have := LR.out; omega) (by rw [movR_length]; have := LR.out; omega) (Nat.le_refl _) (by omega) Z511.out
    have cH := fun wx h1 h2 h3 => heldDisk 1 (nodR RR.nods).length (lnkR RR.dir).length (movR RR.movs).length RR.room RR.next (.slice G1 gm1 gc1) (.slice G2 gm2 gc2) (.slice G3 gm3 gc3) wx wx.heap.size h1 h2 h3 (by rw [nodR_length]; have := LR.out; omega) (by rw [lnkR_length]; have := LR.out; omega) (by rw [movR_length]; have := LR.out; omega) (Nat.le_refl _) (by omega) (Nat.le_refl _)
    generalize hMM : (1 + 3 * (nodR RR.nods).length + 2 * (lnkR RR.dir).length + 4 * (movR RR.movs).length : Nat) = MM at *
    have qM : (MM : Int) ≤ 10000000 := by
      rw [nodR_length, lnkR_length, movR_length] at hMM
      have := LR.out
      omega
    have qM0 : decide ((MM : Int) < 0) = false := decide_eq_false (by omega)
    have nM : ((MM : Int) != (MM : Int)) = false := by simp
    clear cE hb11 o1 o2 o3 hMM B10 K10 P610 TB10 T10 G10 P910 g0 g1 g2 g3 g4 s0 s1 s2 s3 s4
    have g0 := P911.out.cell 0 _ rfl
    have g1 := P911.out.cell 1 _ rfl
    have g2 := P911.out.cell 2 _ rfl
    have g3 := P911.out.cell 3 _ rfl
    have g4 := P911.out.cell 4 _ rfl
    go_wp2_with fail
    refine cM.mono ?_
    rintro e w12 ⟨rfl, hR12, hb12, hk12⟩
    have B12 : Hid (Below w.heap.size w w12) := B11.out.trans (hb12.mono (Nat.le_trans (Nat.le_of_lt KL3.out) W35.out))
    have K12 : Hid (Blk w12 w.heap.size #[.int .i64 d.room, .int .i64 d.next, v1, v2, v3] 26) := K11.out.on hb12 (Nat.lt_of_lt_of_le KL3.out W35.out)
    have P612 : Hid (Blk w12 p6 #[.int .i64 RR.room, .int .i64 RR.next, .slice E1 em1 ec1, .slice E2 em2 ec2, .slice E3 em3 ec3] 33) := P611.out.on hb12 (Nat.lt_of_lt_of_le PL6.out W35.out)
    have TB12 : Hid (Below W3.heap.size W3 w12) := TB11.out.trans (hb12.mono W35.out)
    have P912 : Hid (Blk w12 p9 #[.int .i64 RR.room, .int .i64 RR.next, .slice G1 gm1 gc1, .slice G2 gm2 gc2, .slice G3 gm3 gc3] 33) := by
      have h1 := hk12 p9 (Nat.le_refl _) P911.out.lt
      unfold Hid Blk
      rw [h1]
      exact P911.out
    have R12 := hR12
    generalize newR (mkNod 1) (nodR RR.nods).length = N1 at *
    generalize newR (mkLnk (1 + 3 * (nodR RR.nods).length)) (lnkR RR.dir).length = N2 at *
    generalize newR (mkMov (1 + 3 * (nodR RR.nods).length + 2 * (lnkR RR.dir).length)) (movR RR.movs).length = N3 at *
    have HR12 : Hid (Rows3 w12 W5.heap.size p9 (.slice G1 gm1 gc1) (.slice G2 gm2 gc2) (.slice G3 gm3 gc3) N1 N2 N3) := R12
    clear cM hb12 hk12 R12 hR12 B11 K11 P611 TB11 P911 g0 g1 g2 g3 g4
    have g0 := P912.out.cell 0 _ rfl
    have g1 := P912.out.cell 1 _ rfl
    have g2 := P912.out.cell 2 _ rfl
    have g3 := P912.out.cell 3 _ rfl
    have g4 := P912.out.cell 4 _ rfl
    go_wp2_with fail
    refine (cH w12 HR12.out.o1.lies HR12.out.o2.lies HR12.out.o3.lies).mono ?_
    rintro e w13 ⟨rfl, hb13⟩
    have B13 : Hid (Below w.heap.size w w13) := B12.out.trans (hb13.mono B12.out.size)
    have K13 : Hid (Blk w13 w.heap.size #[.int .i64 d.room, .int .i64 d.next, v1, v2, v3] 26) := K12.out.on hb13 K12.out.lt
    have P613 : Hid (Blk w13 p6 #[.int .i64 RR.room, .int .i64 RR.next, .slice E1 em1 ec1, .slice E2 em2 ec2, .slice E3 em3 ec3] 33) := P612.out.on hb13 P612.out.lt
    have TB13 : Hid (Below W3.heap.size W3 w13) := TB12.out.trans (hb13.mono TB12.out.size)
    have P913 : Hid (Blk w13 p9 #[.int .i64 RR.room, .int .i64 RR.next, .slice G1 gm1 gc1, .slice G2 gm2 gc2, .slice G3 gm3 gc3] 33) := P912.out.on hb13 P912.out.lt
    have HR13 : Hid (Rows3 w13 W5.heap.size p9 (.slice G1 gm1 gc1) (.slice G2 gm2 gc2) (.slice G3 gm3 gc3) N1 N2 N3) := HR12.out.on hb13
    clear hb13 B12 K12 P612 TB12 P912 HR12 g0 g1 g2 g3 g4
    have y0 := K13.out.cell 0 _ rfl
    have y1 := K13.out.cell 1 _ rfl
    have y2 := K13.out.cell 2 _ rfl
    have y3 := K13.out.cell 3 _ rfl
    have y4 := K13.out.cell 4 _ rfl
    go_wp2_with fail
    refine (cT w13 (HV.out.on B13.out) B13.out.size).mono ?_
    rintro e w14a ⟨u2, rfl, hO14, hb14a⟩
    have B14a : Hid (Below w.heap.size w w14a) := B13.out.trans (hb14a.mono B13.out.size)
    have O14A : Hid (DiskO w14a w13.heap.size u2 d) := hO14
    have HB14A : Hid (Below w13.heap.size w13 w14a) := hb14a
    clear hO14 hb14a y0 y1 y2 y3 y4
    go_wp2_with fail
    refine (cI w14a (HC.out.on B14a.out) B14a.out.size).mono ?_
    rintro e w14 ⟨ch, rfl, hNh, hb14b⟩
    have hb14 : Below w13.heap.size w13 w14 := HB14A.out.trans (hb14b.mono HB14A.out.size)
    have B14 : Hid (Below w.heap.size w w14) := B13.out.trans (hb14.mono B13.out.size)
    have P614 : Hid (Blk w14 p6 #[.int .i64 RR.room, .int .i64 RR.next, .slice E1 em1 ec1, .slice E2 em2 ec2, .slice E3 em3 ec3] 33) := P613.out.on hb14 P613.out.lt
    have TB14 : Hid (Below W3.heap.size W3 w14) := TB13.out.trans (hb14.mono TB13.out.size)
    have P914 : Hid (Blk w14 p9 #[.int .i64 RR.room, .int .i64 RR.next, .slice G1 gm1 gc1, .slice G2 gm2 gc2, .slice G3 gm3 gc3] 33) := P913.out.on hb14 P913.out.lt
    have HR14 : Hid (Rows3 w14 W5.heap.size p9 (.slice G1 gm1 gc1) (.slice G2 gm2 gc2) (.slice G3 gm3 gc3) N1 N2 N3) := HR13.out.on hb14
    have cG14 := cG w14 u2 ch (O14A.out.on hb14b).look hNh.lies
    clear hb14 hb14b hNh B13 K13 P613 TB13 P913 HR13
    go_wp2_with fail
    refine cG14.mono ?_
    rintro e w15 ⟨h14, rfl, hO15, hb15⟩
    have B15 : Hid (Below w.heap.size w w15) := B14.out.trans (hb15.mono B14.out.size)
    have H15 : Hid (DiskO w15 w14.heap.size h14 RR) := hO15
    obtain ⟨t1, t2, t3, rfl, q1, q2, q3⟩ := hO15
    obtain ⟨H1, hm1, hc1, rfl⟩ := q1.shape
    obtain ⟨H2, hm2, hc2, rfl⟩ := q2.shape
    obtain ⟨H3, hm3, hc3, rfl⟩ := q3.shape
    have bb : Below w14.heap.size w14 (w15.alloc (.cells #[.int .i64 RR.room, .int .i64 RR.next, .slice H1 hm1 hc1, .slice H2 hm2 hc2, .slice H3 hm3 hc3] 33)) := hb15.trans (((Below.refl _ w15).alloc (Nat.le_refl _) _).mono hb15.size)
    have P14a : Hid (Blk (w15.alloc (.cells #[.int .i64 RR.room, .int .i64 RR.next, .slice H1 hm1 hc1, .slice H2 hm2 hc2, .slice H3 hm3 hc3] 33)) w15.heap.size #[.int .i64 RR.room, .int .i64 RR.next, .slice H1 hm1 hc1, .slice H2 hm2 hc2, .slice H3 hm3 hc3] 33) := Blk.new w15 #[.int .i64 RR.room, .int .i64 RR.next, .slice H1 hm1 hc1, .slice H2 hm2 hc2, .slice H3 hm3 hc3] 33
    have P615 : Hid (Blk (w15.alloc (.cells #[.int .i64 RR.room, .int .i64 RR.next, .slice H1 hm1 hc1, .slice H2 hm2 hc2, .slice H3 hm3 hc3] 33)) p6 #[.int .i64 RR.room, .int .i64 RR.next, .slice E1 em1 ec1, .slice E2 em2 ec2, .slice E3 em3 ec3] 33) := P614.out.on bb P614.out.lt
    have P915 : Hid (Blk (w15.alloc (.cells #[.int .i64 RR.room, .int .i64 RR.next, .slice H1 hm1 hc1, .slice H2 hm2 hc2, .slice H3 hm3 hc3] 33)) p9 #[.int .i64 RR.room, .int .i64 RR.next, .slice G1 gm1 gc1, .slice G2 gm2 gc2, .slice G3 gm3 gc3] 33) := P914.out.on bb P914.out.lt
    have HR15 : Hid (Rows3 (w15.alloc (.cells #[.int .i64 RR.room, .int .i64 RR.next, .slice H1 hm1 hc1, .slice H2 hm2 hc2, .slice H3 hm3 hc3] 33)) W5.heap.size p9 (.slice G1 gm1 gc1) (.slice G2 gm2 gc2) (.slice G3 gm3 gc3) N1 N2 N3) := HR14.out.on bb
    have T15 : Hid (DiskO (w15.alloc (.cells #[.int .i64 RR.room, .int .i64 RR.next, .slice H1 hm1 hc1, .slice H2 hm2 hc2, .slice H3 hm3 hc3] 33)) w2.heap.size (.agg #[.int .i64 RR.room, .int .i64 RR.next, .slice E1 em1 ec1, .slice E2 em2 ec2, .slice E3 em3 ec3]) RR) := TW3.out.on (TB14.out.trans (bb.mono TB14.out.size))
    have HH15 : Hid (DiskO (w15.alloc (.cells #[.int .i64 RR.room, .int .i64 RR.next, .slice H1 hm1 hc1, .slice H2 hm2 hc2, .slice H3 hm3 hc3] 33)) w14.heap.size (.agg #[.int .i64 RR.room, .int .i64 RR.next, .slice H1 hm1 hc1, .slice H2 hm2 hc2, .slice H3 hm3 hc3]) RR) := H15.out.on ((Below.refl _ w15).alloc (Nat.le_refl _) _)
    have BB15 : Hid (Below w.heap.size w (w15.alloc (.cells #[.int .i64 RR.room, .int .i64 RR.next, .slice H1 hm1 hc1, .slice H2 hm2 hc2, .slice H3 hm3 hc3] 33))) := B14.out.trans (bb.mono B14.out.size)
    clear cG14 hb15 q1 q2 q3 bb H15 B14 P614 TB14 P914 HR14
    have h0 := P14a.out.cell 0 _ rfl
    have h1 := P14a.out.cell 1 _ rfl
    have h2 := P14a.out.cell 2 _ rfl
    have h3 := P14a.out.cell 3 _ rfl
    have h4 := P14a.out.cell 4 _ rfl
    have s0 := P615.out.cell 0 _ rfl
    have s1 := P615.out.cell 1 _ rfl
    have s2 := P615.out.cell 2 _ rfl
    have s3 := P615.out.cell 3 _ rfl
    have s4 := P615.out.cell 4 _ rfl
    go_wp2_with fail
    clear h0 h1 h2 h3 h4 s0 s1 s2 s3 s4
    generalize w15.alloc (.cells #[.int .i64 RR.room, .int .i64 RR.next, .slice H1 hm1 hc1, .slice H2 hm2 hc2, .slice H3 hm3 hc3] 33) = W15 at *
    refine (eqDiskL RR _ _ W15 W15.heap.size HH15.out.look T15.out.look (by have := LR.out; omega) (by have := LR.out; omega) (by have := LR.out; omega) (Nat.le_refl _)).mono ?_
    rintro e w16 ⟨rfl, hb16⟩
    have B16 : Hid (Below w.heap.size w w16) := BB15.out.trans (hb16.mono BB15.out.size)
    have P916 : Hid (Blk w16 p9 #[.int .i64 RR.room, .int .i64 RR.next, .slice G1 gm1 gc1, .slice G2 gm2 gc2, .slice G3 gm3 gc3] 33) := P915.out.on hb16 P915.out.lt
    have HR16 : Hid (Rows3 w16 W5.heap.size p9 (.slice G1 gm1 gc1) (.slice G2 gm2 gc2) (.slice G3 gm3 gc3) N1 N2 N3) := HR15.out.on hb16
    clear hb16
    have g0 := P916.out.cell 0 _ rfl
    have g1 := P916.out.cell 1 _ rfl
    have g2 := P916.out.cell 2 _ rfl
    have g3 := P916.out.cell 3 _ rfl
    have g4 := P916.out.cell 4 _ rfl
    go_wp2_with fail
    refine (cH w16 HR16.out.o1.lies HR16.out.o2.lies HR16.out.o3.lies).mono ?_
    rintro e w17 ⟨rfl, hb17⟩
    have B17 : Hid (Below w.heap.size w w17) := B16.out.trans (hb17.mono B16.out.size)
    clear hb17 g0 g1 g2 g3 g4
    go_wp2_with fail
    go_ret
    exact ⟨rfl, B17.out⟩

end Go.Proofs.YtgpplogieohdpaaGreat
