/- DkSync DkMoved -/
import Derived.Test.YtgjilgecklhglaaGreatQt7
import Derived.Test.YtgjilgecklhglaaGreatRows
import Derived.Test.YtgjilgecklhglaaGreatQt6
import Derived.Test.YtgjilgecklhglaaGreatQt5
import Derived.Deep.Cut
open List (setIfInBounds_toArray set_cons_zero set_cons_succ)
namespace Go.Proofs.YtgjilgecklhglaaGreat
open Go.ChangeShapes Go.WideShapes Go.ChangeAt Go.RowKit Go.PlainAid
set_option linter.unusedVariables false
set_option maxRecDepth 20000 in
set_option maxHeartbeats 4000000 in
theorem specSyncV (d : Dsk) (v : Value) (name : ByteArray) (w : World) (B : Nat) (hv : DiskV w B v d) (hf : Fits d) (hw : wtD d ≤ 1048576) (hB : B ≤ w.heap.size) (hs : name.size ≤ maxLen) :
  Calls Tryz.prog 10 #[v, .string name] w fun e w' => ∃ x, e = .returned (.tuple #[x, .int .i64 (syncR d name).2]) ∧ DiskO w' w.heap.size x (syncR d name).1 ∧ Below w.heap.size w w' := by
 have HV : Hid (DiskV w B v d) := hv
 have HF : Hid (Fits d) := hf
 have HB : Hid (B ≤ w.heap.size) := hB
 have HW : Hid (wtD d ≤ 1048576) := hw
 have HS : Hid (name.size ≤ maxLen) := hs
 obtain ⟨v1, v2, v3, rfl, h1, h2, h3⟩ := hv
 clear h1 h2 h3 hf hB hw hs
 go_enter Tryz.func10, Tryz.ntmps10
 go_wp2_with fail
 have hb0 := below_alloc2' w (.cells #[.int .i64 d.room, .int .i64 d.next, v1, v2, v3] 28) (.cells #[.int .i64 0, .int .i64 0, .slice none 0 0, .slice none 0 0, .slice none 0 0] 28)
 have bA := (Blk.new w #[.int .i64 d.room, .int .i64 d.next, v1, v2, v3] 28).alloc (.cells #[.int .i64 0, .int .i64 0, .slice none 0 0, .slice none 0 0, .slice none 0 0] 28)
 have bR := Blk.new (w.alloc (.cells #[.int .i64 d.room, .int .i64 d.next, v1, v2, v3] 28)) #[.int .i64 0, .int .i64 0, .slice none 0 0, .slice none 0 0, .slice none 0 0] 28
 simp only [World.size_alloc] at bR
 generalize (w.alloc (.cells #[.int .i64 d.room, .int .i64 d.next, v1, v2, v3] 28)).alloc (.cells #[.int .i64 0, .int .i64 0, .slice none 0 0, .slice none 0 0, .slice none 0 0] 28) = W at *
 have B0 : Hid (Below w.heap.size w W) := hb0
 have K0 : Hid (Blk W w.heap.size #[.int .i64 d.room, .int .i64 d.next, v1, v2, v3] 28) := bA
 have R0 : Hid (Blk W (w.heap.size + 1) #[.int .i64 0, .int .i64 0, .slice none 0 0, .slice none 0 0, .slice none 0 0] 28) := bR
 clear hb0 bA bR
 refine (specOkV d _ W B (HV.out.on (B0.out.mono HB.out)) HF.out HW.out (Nat.le_trans HB.out B0.out.size)).mono ?_
 rintro e w1 ⟨rfl, hb1⟩
 have B1 : Hid (Below w.heap.size w w1) := B0.out.trans (hb1.mono B0.out.size)
 have K1 : Hid (Blk w1 w.heap.size #[.int .i64 d.room, .int .i64 d.next, v1, v2, v3] 28) := K0.out.on hb1 K0.out.lt
 have R1 : Hid (Blk w1 (w.heap.size + 1) #[.int .i64 0, .int .i64 0, .slice none 0 0, .slice none 0 0, .slice none 0 0] 28) := R0.out.on hb1 R0.out.lt
 clear hb1 K0 R0
 have hg : w.heap.size ≤ w.heap.size + 1 := by omega
 cases hok : diskOk d with
 | false =>
  have hRR : syncR d name = (zeroD, 1) := syncR_no hok
  clear hok
  have g0 := R1.out.cell 0 _ rfl
  have f0 := R1.out.free 0
  have g1 := R1.out.cell 1 _ rfl
  have f1 := R1.out.free 1
  have g2 := R1.out.cell 2 _ rfl
  have f2 := R1.out.free 2
  have g3 := R1.out.cell 3 _ rfl
  have f3 := R1.out.free 3
  have g4 := R1.out.cell 4 _ rfl
  have f4 := R1.out.free 4
  go_wp2_with fail
  have hB := B1.out
  have FB := (((((hB.setCell hg (.int .i64 0) (p := ⟨_, 0, none⟩)).setCell hg (.int .i64 0) (p := ⟨_, 1, none⟩)).setCell hg (.slice none 0 0) (p := ⟨_, 2, none⟩)).setCell hg (.slice none 0 0) (p := ⟨_, 3, none⟩)).setCell hg (.slice none 0 0) (p := ⟨_, 4, none⟩))
  have hF := (((((R1.out.set 0 (.int .i64 0)).set 1 (.int .i64 0)).set 2 (.slice none 0 0)).set 3 (.slice none 0 0)).set 4 (.slice none 0 0))
  clear g0 f0 g1 f1 g2 f2 g3 f3 g4 f4
  generalize (((((w1.setCell ⟨w.heap.size + 1, 0, none⟩ (.int .i64 0)).setCell ⟨w.heap.size + 1, 1, none⟩ (.int .i64 0)).setCell ⟨w.heap.size + 1, 2, none⟩ (.slice none 0 0)).setCell ⟨w.heap.size + 1, 3, none⟩ (.slice none 0 0)).setCell ⟨w.heap.size + 1, 4, none⟩ (.slice none 0 0)) = WF at *
  have hG : Blk WF (w.heap.size + 1) #[.int .i64 0, .int .i64 0, .slice none 0 0, .slice none 0 0, .slice none 0 0] 28 := hF
  have l0 := hG.cell 0 (.int .i64 0) rfl
  have l1 := hG.cell 1 (.int .i64 0) rfl
  have l2 := hG.cell 2 (.slice none 0 0) rfl
  have l3 := hG.cell 3 (.slice none 0 0) rfl
  have l4 := hG.cell 4 (.slice none 0 0) rfl
  exact bodyPost_ret (v := .tuple #[.agg #[.int .i64 0, .int .i64 0, .slice none 0 0, .slice none 0 0, .slice none 0 0], .int .i64 1]) (by simp [results, go_sem, l0, l1, l2, l3, l4]) rfl (by rw [hRR]; exact ⟨_, rfl, ⟨_, _, _, rfl, Owns.nil _ _ _ _, Owns.nil _ _ _ _, Owns.nil _ _ _ _⟩, FB⟩)
 | true =>
  have hR := (sizeOk_iff d).1 ((whole_iff d).1 hok).size
  have HSZ : Hid (d.dir.length + d.movs.length ≤ 1048575 ∧ d.nods.length ≤ 10 ∧ d.dir.length ≤ 1048576 ∧ d.movs.length ≤ 1048576) := by
   have := hR.l; have := hR.m; have := hR.n
   unfold Hid
   omega
  have HRR : Hid (syncR d name = (syncD d name, named d name)) := syncR_yes hok
  have cN := namedV d (.agg #[.int .i64 d.room, .int .i64 d.next, v1, v2, v3]) name w1 B (HV.out.on (B1.out.mono HB.out)) HF.out (by have := HS.out; unfold maxLen at this; omega) HSZ.out.1 (by have := HSZ.out; omega) (Nat.le_trans HB.out B1.out.size)
  have y0 := K1.out.cell 0 _ rfl
  have y1 := K1.out.cell 1 _ rfl
  have y2 := K1.out.cell 2 _ rfl
  have y3 := K1.out.cell 3 _ rfl
  have y4 := K1.out.cell 4 _ rfl
  clear hR hok
  go_wp2_with fail
  refine cN.mono ?_
  rintro e w2 ⟨rfl, hb2⟩
  have B2 : Hid (Below w.heap.size w w2) := B1.out.trans (hb2.mono B1.out.size)
  have K2 : Hid (Blk w2 w.heap.size #[.int .i64 d.room, .int .i64 d.next, v1, v2, v3] 28) := K1.out.on hb2 K1.out.lt
  have R2 : Hid (Blk w2 (w.heap.size + 1) #[.int .i64 0, .int .i64 0, .slice none 0 0, .slice none 0 0, .slice none 0 0] 28) := R1.out.on hb2 R1.out.lt
  clear cN hb2 y0 y1 y2 y3 y4 K1 R1
  have cC := copyV d (.agg #[.int .i64 d.room, .int .i64 d.next, v1, v2, v3]) w2 B (HV.out.on (B2.out.mono HB.out)) (by have := HSZ.out; omega) HSZ.out.2.2.1 HSZ.out.2.2.2 (Nat.le_trans HB.out B2.out.size)
  have y0 := K2.out.cell 0 _ rfl
  have y1 := K2.out.cell 1 _ rfl
  have y2 := K2.out.cell 2 _ rfl
  have y3 := K2.out.cell 3 _ rfl
  have y4 := K2.out.cell 4 _ rfl
  go_wp2_with fail
  refine cC.mono ?_
  rintro e w3 ⟨x, rfl, hO3, hb3⟩
  have B3 : Hid (Below w.heap.size w w3) := B2.out.trans (hb3.mono B2.out.size)
  have K3 : Hid (Blk w3 w.heap.size #[.int .i64 d.room, .int .i64 d.next, v1, v2, v3] 28) := K2.out.on hb3 K2.out.lt
  have R3 : Hid (Blk w3 (w.heap.size + 1) #[.int .i64 0, .int .i64 0, .slice none 0 0, .slice none 0 0, .slice none 0 0] 28) := R2.out.on hb3 R2.out.lt
  obtain ⟨x1, x2, x3, rfl, o1, o2, o3⟩ := hO3
  obtain ⟨A1, m1, k1, rfl⟩ := o1.shape
  obtain ⟨A2, m2, k2, rfl⟩ := o2.shape
  obtain ⟨A3, m3, k3, rfl⟩ := o3.shape
  have hz : w.heap.size + 1 < w2.heap.size := R2.out.lt
  have p1 := (((((o1.other (o1.below (show w.heap.size < w2.heap.size by omega)) 0 (.int .i64 d.room)).other (o1.below (show w.heap.size < w2.heap.size by omega)) 1 (.int .i64 d.next)).other (o1.below (show w.heap.size < w2.heap.size by omega)) 2 (.slice A1 m1 k1)).other (o1.below (show w.heap.size < w2.heap.size by omega)) 3 (.slice A2 m2 k2)).other (o1.below (show w.heap.size < w2.heap.size by omega)) 4 (.slice A3 m3 k3))
  have p2 := (((((o2.other (o2.below (show w.heap.size < w2.heap.size by omega)) 0 (.int .i64 d.room)).other (o2.below (show w.heap.size < w2.heap.size by omega)) 1 (.int .i64 d.next)).other (o2.below (show w.heap.size < w2.heap.size by omega)) 2 (.slice A1 m1 k1)).other (o2.below (show w.heap.size < w2.heap.size by omega)) 3 (.slice A2 m2 k2)).other (o2.below (show w.heap.size < w2.heap.size by omega)) 4 (.slice A3 m3 k3))
  have p3 := (((((o3.other (o3.below (show w.heap.size < w2.heap.size by omega)) 0 (.int .i64 d.room)).other (o3.below (show w.heap.size < w2.heap.size by omega)) 1 (.int .i64 d.next)).other (o3.below (show w.heap.size < w2.heap.size by omega)) 2 (.slice A1 m1 k1)).other (o3.below (show w.heap.size < w2.heap.size by omega)) 3 (.slice A2 m2 k2)).other (o3.below (show w.heap.size < w2.heap.size by omega)) 4 (.slice A3 m3 k3))
  have pB : Below w.heap.size w (((((w3.setCell ⟨w.heap.size, 0, none⟩ (.int .i64 d.room)).setCell ⟨w.heap.size, 1, none⟩ (.int .i64 d.next)).setCell ⟨w.heap.size, 2, none⟩ (.slice A1 m1 k1)).setCell ⟨w.heap.size, 3, none⟩ (.slice A2 m2 k2)).setCell ⟨w.heap.size, 4, none⟩ (.slice A3 m3 k3)) := (((((B3.out.setCell (Nat.le_refl _) (.int .i64 d.room) (p := ⟨_, 0, none⟩)).setCell (Nat.le_refl _) (.int .i64 d.next) (p := ⟨_, 1, none⟩)).setCell (Nat.le_refl _) (.slice A1 m1 k1) (p := ⟨_, 2, none⟩)).setCell (Nat.le_refl _) (.slice A2 m2 k2) (p := ⟨_, 3, none⟩)).setCell (Nat.le_refl _) (.slice A3 m3 k3) (p := ⟨_, 4, none⟩))
  have pK := (((((K3.out.set 0 (.int .i64 d.room)).set 1 (.int .i64 d.next)).set 2 (.slice A1 m1 k1)).set 3 (.slice A2 m2 k2)).set 4 (.slice A3 m3 k3))
  have pR := (((((R3.out.other (show w.heap.size + 1 ≠ w.heap.size by omega) 0 (.int .i64 d.room)).other (show w.heap.size + 1 ≠ w.heap.size by omega) 1 (.int .i64 d.next)).other (show w.heap.size + 1 ≠ w.heap.size by omega) 2 (.slice A1 m1 k1)).other (show w.heap.size + 1 ≠ w.heap.size by omega) 3 (.slice A2 m2 k2)).other (show w.heap.size + 1 ≠ w.heap.size by omega) 4 (.slice A3 m3 k3))
  clear cC hb3 y0 y1 y2 y3 y4 K2 R2 o1 o2 o3 R3
  have e0 := K3.out.cell 0 _ rfl
  have e1 := K3.out.cell 1 _ rfl
  have e2 := K3.out.cell 2 _ rfl
  have e3 := K3.out.cell 3 _ rfl
  have e4 := K3.out.cell 4 _ rfl
  have t0 := K3.out.free 0
  have t1 := K3.out.free 1
  have t2 := K3.out.free 2
  have t3 := K3.out.free 3
  have t4 := K3.out.free 4
  have hcode : (nameOk name = false ∧ named d name = 1 ∧ syncD d name = d) ∨ (nameOk name = true ∧ find d name = none ∧ named d name = 2 ∧ syncD d name = d) ∨ (nameOk name = true ∧ ∃ j, find d name = some j ∧ j < d.nods.length ∧ named d name = 0 ∧ syncD d name = ⟨d.room, d.next, d.nods.set j ⟨(d.nods.getD j default).id, (d.nods.getD j default).data, ((d.nods.getD j default).data.size : Int)⟩, d.dir, d.movs⟩) := by
   cases hn : nameOk name with
   | false => exact .inl ⟨rfl, named_bad hn, syncD_bad hn⟩
   | true =>
    rcases hfd : find d name with _ | j
    ·exact .inr (.inl ⟨rfl, rfl, named_none hn hfd, syncD_none hfd⟩)
    ·exact .inr (.inr ⟨rfl, j, rfl, find_lt hfd, named_some hn hfd, syncD_some hn hfd⟩)
  rcases hcode with ⟨hn, hc, hD⟩ | ⟨hn, hfd, hc, hD⟩ | ⟨hn, j, hfd, hj, hc, hD⟩
  ·have hRR : syncR d name = (d, 1) := by rw [HRR.out, hc, hD]
   rw [hc]
   have HP1 : Hid (Owns (((((w3.setCell ⟨w.heap.size, 0, none⟩ (.int .i64 d.room)).setCell ⟨w.heap.size, 1, none⟩ (.int .i64 d.next)).setCell ⟨w.heap.size, 2, none⟩ (.slice A1 m1 k1)).setCell ⟨w.heap.size, 3, none⟩ (.slice A2 m2 k2)).setCell ⟨w.heap.size, 4, none⟩ (.slice A3 m3 k3)) w2.heap.size 47 3 (.slice A1 m1 k1) (nodR d.nods)) := p1
   have HP2 : Hid (Owns (((((w3.setCell ⟨w.heap.size, 0, none⟩ (.int .i64 d.room)).setCell ⟨w.heap.size, 1, none⟩ (.int .i64 d.next)).setCell ⟨w.heap.size, 2, none⟩ (.slice A1 m1 k1)).setCell ⟨w.heap.size, 3, none⟩ (.slice A2 m2 k2)).setCell ⟨w.heap.size, 4, none⟩ (.slice A3 m3 k3)) w2.heap.size 49 2 (.slice A2 m2 k2) (lnkR d.dir)) := p2
   have HP3 : Hid (Owns (((((w3.setCell ⟨w.heap.size, 0, none⟩ (.int .i64 d.room)).setCell ⟨w.heap.size, 1, none⟩ (.int .i64 d.next)).setCell ⟨w.heap.size, 2, none⟩ (.slice A1 m1 k1)).setCell ⟨w.heap.size, 3, none⟩ (.slice A2 m2 k2)).setCell ⟨w.heap.size, 4, none⟩ (.slice A3 m3 k3)) w2.heap.size 51 4 (.slice A3 m3 k3) (movR d.movs)) := p3
   have HPB : Hid (Below w.heap.size w (((((w3.setCell ⟨w.heap.size, 0, none⟩ (.int .i64 d.room)).setCell ⟨w.heap.size, 1, none⟩ (.int .i64 d.next)).setCell ⟨w.heap.size, 2, none⟩ (.slice A1 m1 k1)).setCell ⟨w.heap.size, 3, none⟩ (.slice A2 m2 k2)).setCell ⟨w.heap.size, 4, none⟩ (.slice A3 m3 k3))) := pB
   have HPK : Hid (Blk (((((w3.setCell ⟨w.heap.size, 0, none⟩ (.int .i64 d.room)).setCell ⟨w.heap.size, 1, none⟩ (.int .i64 d.next)).setCell ⟨w.heap.size, 2, none⟩ (.slice A1 m1 k1)).setCell ⟨w.heap.size, 3, none⟩ (.slice A2 m2 k2)).setCell ⟨w.heap.size, 4, none⟩ (.slice A3 m3 k3)) w.heap.size #[.int .i64 d.room, .int .i64 d.next, .slice A1 m1 k1, .slice A2 m2 k2, .slice A3 m3 k3] 28) := pK
   have HPR : Hid (Blk (((((w3.setCell ⟨w.heap.size, 0, none⟩ (.int .i64 d.room)).setCell ⟨w.heap.size, 1, none⟩ (.int .i64 d.next)).setCell ⟨w.heap.size, 2, none⟩ (.slice A1 m1 k1)).setCell ⟨w.heap.size, 3, none⟩ (.slice A2 m2 k2)).setCell ⟨w.heap.size, 4, none⟩ (.slice A3 m3 k3)) (w.heap.size + 1) #[.int .i64 0, .int .i64 0, .slice none 0 0, .slice none 0 0, .slice none 0 0] 28) := pR
   clear p1 p2 p3 pB pK pR hc hD hn 
   have r0 := HPK.out.cell 0 _ rfl
   have r1 := HPK.out.cell 1 _ rfl
   have r2 := HPK.out.cell 2 _ rfl
   have r3 := HPK.out.cell 3 _ rfl
   have r4 := HPK.out.cell 4 _ rfl
   have g0 := HPR.out.cell 0 _ rfl
   have f0 := HPR.out.free 0
   have g1 := HPR.out.cell 1 _ rfl
   have f1 := HPR.out.free 1
   have g2 := HPR.out.cell 2 _ rfl
   have f2 := HPR.out.free 2
   have g3 := HPR.out.cell 3 _ rfl
   have f3 := HPR.out.free 3
   have g4 := HPR.out.cell 4 _ rfl
   have f4 := HPR.out.free 4
   go_wp2_with fail
   have hB := HPB.out
   have hm : w.heap.size ≤ w2.heap.size := B2.out.size
   clear r0 r1 r2 r3 r4 e0 e1 e2 e3 e4 t0 t1 t2 t3 t4
   have FB := (((((hB.setCell hg (.int .i64 d.room) (p := ⟨_, 0, none⟩)).setCell hg (.int .i64 d.next) (p := ⟨_, 1, none⟩)).setCell hg (.slice A1 m1 k1) (p := ⟨_, 2, none⟩)).setCell hg (.slice A2 m2 k2) (p := ⟨_, 3, none⟩)).setCell hg (.slice A3 m3 k3) (p := ⟨_, 4, none⟩))
   have hF := (((((HPR.out.set 0 (.int .i64 d.room)).set 1 (.int .i64 d.next)).set 2 (.slice A1 m1 k1)).set 3 (.slice A2 m2 k2)).set 4 (.slice A3 m3 k3))
   have mm0 := HP1.out.notBlk HPR.out (by decide)
   have F0 := (((((HP1.out.other mm0 0 (.int .i64 d.room)).other mm0 1 (.int .i64 d.next)).other mm0 2 (.slice A1 m1 k1)).other mm0 3 (.slice A2 m2 k2)).other mm0 4 (.slice A3 m3 k3))
   have mm1 := HP2.out.notBlk HPR.out (by decide)
   have F1 := (((((HP2.out.other mm1 0 (.int .i64 d.room)).other mm1 1 (.int .i64 d.next)).other mm1 2 (.slice A1 m1 k1)).other mm1 3 (.slice A2 m2 k2)).other mm1 4 (.slice A3 m3 k3))
   have mm2 := HP3.out.notBlk HPR.out (by decide)
   have F2 := (((((HP3.out.other mm2 0 (.int .i64 d.room)).other mm2 1 (.int .i64 d.next)).other mm2 2 (.slice A1 m1 k1)).other mm2 3 (.slice A2 m2 k2)).other mm2 4 (.slice A3 m3 k3))
   clear g0 f0 g1 f1 g2 f2 g3 f3 g4 f4
   generalize ((((((((((w3.setCell ⟨w.heap.size, 0, none⟩ (.int .i64 d.room)).setCell ⟨w.heap.size, 1, none⟩ (.int .i64 d.next)).setCell ⟨w.heap.size, 2, none⟩ (.slice A1 m1 k1)).setCell ⟨w.heap.size, 3, none⟩ (.slice A2 m2 k2)).setCell ⟨w.heap.size, 4, none⟩ (.slice A3 m3 k3)).setCell ⟨w.heap.size + 1, 0, none⟩ (.int .i64 d.room)).setCell ⟨w.heap.size + 1, 1, none⟩ (.int .i64 d.next)).setCell ⟨w.heap.size + 1, 2, none⟩ (.slice A1 m1 k1)).setCell ⟨w.heap.size + 1, 3, none⟩ (.slice A2 m2 k2)).setCell ⟨w.heap.size + 1, 4, none⟩ (.slice A3 m3 k3)) = WF at *
   have hG : Blk WF (w.heap.size + 1) #[.int .i64 d.room, .int .i64 d.next, .slice A1 m1 k1, .slice A2 m2 k2, .slice A3 m3 k3] 28 := hF
   have l0 := hG.cell 0 (.int .i64 d.room) rfl
   have l1 := hG.cell 1 (.int .i64 d.next) rfl
   have l2 := hG.cell 2 (.slice A1 m1 k1) rfl
   have l3 := hG.cell 3 (.slice A2 m2 k2) rfl
   have l4 := hG.cell 4 (.slice A3 m3 k3) rfl
   exact bodyPost_ret (v := .tuple #[.agg #[.int .i64 d.room, .int .i64 d.next, .slice A1 m1 k1, .slice A2 m2 k2, .slice A3 m3 k3], .int .i64 1]) (by simp [results, go_sem, l0, l1, l2, l3, l4]) rfl (by rw [hRR]; exact ⟨_, rfl, ⟨_, _, _, rfl, F0.mono hm, F1.mono hm, F2.mono hm⟩, FB⟩)
  ·have hRR : syncR d name = (d, 2) := by rw [HRR.out, hc, hD]
   rw [hc]
   have HP1 : Hid (Owns (((((w3.setCell ⟨w.heap.size, 0, none⟩ (.int .i64 d.room)).setCell ⟨w.heap.size, 1, none⟩ (.int .i64 d.next)).setCell ⟨w.heap.size, 2, none⟩ (.slice A1 m1 k1)).setCell ⟨w.heap.size, 3, none⟩ (.slice A2 m2 k2)).setCell ⟨w.heap.size, 4, none⟩ (.slice A3 m3 k3)) w2.heap.size 47 3 (.slice A1 m1 k1) (nodR d.nods)) := p1
   have HP2 : Hid (Owns (((((w3.setCell ⟨w.heap.size, 0, none⟩ (.int .i64 d.room)).setCell ⟨w.heap.size, 1, none⟩ (.int .i64 d.next)).setCell ⟨w.heap.size, 2, none⟩ (.slice A1 m1 k1)).setCell ⟨w.heap.size, 3, none⟩ (.slice A2 m2 k2)).setCell ⟨w.heap.size, 4, none⟩ (.slice A3 m3 k3)) w2.heap.size 49 2 (.slice A2 m2 k2) (lnkR d.dir)) := p2
   have HP3 : Hid (Owns (((((w3.setCell ⟨w.heap.size, 0, none⟩ (.int .i64 d.room)).setCell ⟨w.heap.size, 1, none⟩ (.int .i64 d.next)).setCell ⟨w.heap.size, 2, none⟩ (.slice A1 m1 k1)).setCell ⟨w.heap.size, 3, none⟩ (.slice A2 m2 k2)).setCell ⟨w.heap.size, 4, none⟩ (.slice A3 m3 k3)) w2.heap.size 51 4 (.slice A3 m3 k3) (movR d.movs)) := p3
   have HPB : Hid (Below w.heap.size w (((((w3.setCell ⟨w.heap.size, 0, none⟩ (.int .i64 d.room)).setCell ⟨w.heap.size, 1, none⟩ (.int .i64 d.next)).setCell ⟨w.heap.size, 2, none⟩ (.slice A1 m1 k1)).setCell ⟨w.heap.size, 3, none⟩ (.slice A2 m2 k2)).setCell ⟨w.heap.size, 4, none⟩ (.slice A3 m3 k3))) := pB
   have HPK : Hid (Blk (((((w3.setCell ⟨w.heap.size, 0, none⟩ (.int .i64 d.room)).setCell ⟨w.heap.size, 1, none⟩ (.int .i64 d.next)).setCell ⟨w.heap.size, 2, none⟩ (.slice A1 m1 k1)).setCell ⟨w.heap.size, 3, none⟩ (.slice A2 m2 k2)).setCell ⟨w.heap.size, 4, none⟩ (.slice A3 m3 k3)) w.heap.size #[.int .i64 d.room, .int .i64 d.next, .slice A1 m1 k1, .slice A2 m2 k2, .slice A3 m3 k3] 28) := pK
   have HPR : Hid (Blk (((((w3.setCell ⟨w.heap.size, 0, none⟩ (.int .i64 d.room)).setCell ⟨w.heap.size, 1, none⟩ (.int .i64 d.next)).setCell ⟨w.heap.size, 2, none⟩ (.slice A1 m1 k1)).setCell ⟨w.heap.size, 3, none⟩ (.slice A2 m2 k2)).setCell ⟨w.heap.size, 4, none⟩ (.slice A3 m3 k3)) (w.heap.size + 1) #[.int .i64 0, .int .i64 0, .slice none 0 0, .slice none 0 0, .slice none 0 0] 28) := pR
   clear p1 p2 p3 pB pK pR hc hD hn hfd
   have r0 := HPK.out.cell 0 _ rfl
   have r1 := HPK.out.cell 1 _ rfl
   have r2 := HPK.out.cell 2 _ rfl
   have r3 := HPK.out.cell 3 _ rfl
   have r4 := HPK.out.cell 4 _ rfl
   have g0 := HPR.out.cell 0 _ rfl
   have f0 := HPR.out.free 0
   have g1 := HPR.out.cell 1 _ rfl
   have f1 := HPR.out.free 1
   have g2 := HPR.out.cell 2 _ rfl
   have f2 := HPR.out.free 2
   have g3 := HPR.out.cell 3 _ rfl
   have f3 := HPR.out.free 3
   have g4 := HPR.out.cell 4 _ rfl
   have f4 := HPR.out.free 4
   go_wp2_with fail
   have hB := HPB.out
   have hm : w.heap.size ≤ w2.heap.size := B2.out.size
   clear r0 r1 r2 r3 r4 e0 e1 e2 e3 e4 t0 t1 t2 t3 t4
   have FB := (((((hB.setCell hg (.int .i64 d.room) (p := ⟨_, 0, none⟩)).setCell hg (.int .i64 d.next) (p := ⟨_, 1, none⟩)).setCell hg (.slice A1 m1 k1) (p := ⟨_, 2, none⟩)).setCell hg (.slice A2 m2 k2) (p := ⟨_, 3, none⟩)).setCell hg (.slice A3 m3 k3) (p := ⟨_, 4, none⟩))
   have hF := (((((HPR.out.set 0 (.int .i64 d.room)).set 1 (.int .i64 d.next)).set 2 (.slice A1 m1 k1)).set 3 (.slice A2 m2 k2)).set 4 (.slice A3 m3 k3))
   have mm0 := HP1.out.notBlk HPR.out (by decide)
   have F0 := (((((HP1.out.other mm0 0 (.int .i64 d.room)).other mm0 1 (.int .i64 d.next)).other mm0 2 (.slice A1 m1 k1)).other mm0 3 (.slice A2 m2 k2)).other mm0 4 (.slice A3 m3 k3))
   have mm1 := HP2.out.notBlk HPR.out (by decide)
   have F1 := (((((HP2.out.other mm1 0 (.int .i64 d.room)).other mm1 1 (.int .i64 d.next)).other mm1 2 (.slice A1 m1 k1)).other mm1 3 (.slice A2 m2 k2)).other mm1 4 (.slice A3 m3 k3))
   have mm2 := HP3.out.notBlk HPR.out (by decide)
   have F2 := (((((HP3.out.other mm2 0 (.int .i64 d.room)).other mm2 1 (.int .i64 d.next)).other mm2 2 (.slice A1 m1 k1)).other mm2 3 (.slice A2 m2 k2)).other mm2 4 (.slice A3 m3 k3))
   clear g0 f0 g1 f1 g2 f2 g3 f3 g4 f4
   generalize ((((((((((w3.setCell ⟨w.heap.size, 0, none⟩ (.int .i64 d.room)).setCell ⟨w.heap.size, 1, none⟩ (.int .i64 d.next)).setCell ⟨w.heap.size, 2, none⟩ (.slice A1 m1 k1)).setCell ⟨w.heap.size, 3, none⟩ (.slice A2 m2 k2)).setCell ⟨w.heap.size, 4, none⟩ (.slice A3 m3 k3)).setCell ⟨w.heap.size + 1, 0, none⟩ (.int .i64 d.room)).setCell ⟨w.heap.size + 1, 1, none⟩ (.int .i64 d.next)).setCell ⟨w.heap.size + 1, 2, none⟩ (.slice A1 m1 k1)).setCell ⟨w.heap.size + 1, 3, none⟩ (.slice A2 m2 k2)).setCell ⟨w.heap.size + 1, 4, none⟩ (.slice A3 m3 k3)) = WF at *
   have hG : Blk WF (w.heap.size + 1) #[.int .i64 d.room, .int .i64 d.next, .slice A1 m1 k1, .slice A2 m2 k2, .slice A3 m3 k3] 28 := hF
   have l0 := hG.cell 0 (.int .i64 d.room) rfl
   have l1 := hG.cell 1 (.int .i64 d.next) rfl
   have l2 := hG.cell 2 (.slice A1 m1 k1) rfl
   have l3 := hG.cell 3 (.slice A2 m2 k2) rfl
   have l4 := hG.cell 4 (.slice A3 m3 k3) rfl
   exact bodyPost_ret (v := .tuple #[.agg #[.int .i64 d.room, .int .i64 d.next, .slice A1 m1 k1, .slice A2 m2 k2, .slice A3 m3 k3], .int .i64 2]) (by simp [results, go_sem, l0, l1, l2, l3, l4]) rfl (by rw [hRR]; exact ⟨_, rfl, ⟨_, _, _, rfl, F0.mono hm, F1.mono hm, F2.mono hm⟩, FB⟩)
  ·have hRR : syncR d name = (⟨d.room, d.next, d.nods.set j ⟨(d.nods.getD j default).id, (d.nods.getD j default).data, ((d.nods.getD j default).data.size : Int)⟩, d.dir, d.movs⟩, 0) := by rw [HRR.out, hc, hD]
   rw [hc]
   have HJ : Hid (j < d.nods.length) := hj
   have HFD : Hid (find d name = some j) := hfd
   have HP1 : Hid (Owns (((((w3.setCell ⟨w.heap.size, 0, none⟩ (.int .i64 d.room)).setCell ⟨w.heap.size, 1, none⟩ (.int .i64 d.next)).setCell ⟨w.heap.size, 2, none⟩ (.slice A1 m1 k1)).setCell ⟨w.heap.size, 3, none⟩ (.slice A2 m2 k2)).setCell ⟨w.heap.size, 4, none⟩ (.slice A3 m3 k3)) w2.heap.size 47 3 (.slice A1 m1 k1) (nodR d.nods)) := p1
   have HP2 : Hid (Owns (((((w3.setCell ⟨w.heap.size, 0, none⟩ (.int .i64 d.room)).setCell ⟨w.heap.size, 1, none⟩ (.int .i64 d.next)).setCell ⟨w.heap.size, 2, none⟩ (.slice A1 m1 k1)).setCell ⟨w.heap.size, 3, none⟩ (.slice A2 m2 k2)).setCell ⟨w.heap.size, 4, none⟩ (.slice A3 m3 k3)) w2.heap.size 49 2 (.slice A2 m2 k2) (lnkR d.dir)) := p2
   have HP3 : Hid (Owns (((((w3.setCell ⟨w.heap.size, 0, none⟩ (.int .i64 d.room)).setCell ⟨w.heap.size, 1, none⟩ (.int .i64 d.next)).setCell ⟨w.heap.size, 2, none⟩ (.slice A1 m1 k1)).setCell ⟨w.heap.size, 3, none⟩ (.slice A2 m2 k2)).setCell ⟨w.heap.size, 4, none⟩ (.slice A3 m3 k3)) w2.heap.size 51 4 (.slice A3 m3 k3) (movR d.movs)) := p3
   have HPB : Hid (Below w.heap.size w (((((w3.setCell ⟨w.heap.size, 0, none⟩ (.int .i64 d.room)).setCell ⟨w.heap.size, 1, none⟩ (.int .i64 d.next)).setCell ⟨w.heap.size, 2, none⟩ (.slice A1 m1 k1)).setCell ⟨w.heap.size, 3, none⟩ (.slice A2 m2 k2)).setCell ⟨w.heap.size, 4, none⟩ (.slice A3 m3 k3))) := pB
   have HPK : Hid (Blk (((((w3.setCell ⟨w.heap.size, 0, none⟩ (.int .i64 d.room)).setCell ⟨w.heap.size, 1, none⟩ (.int .i64 d.next)).setCell ⟨w.heap.size, 2, none⟩ (.slice A1 m1 k1)).setCell ⟨w.heap.size, 3, none⟩ (.slice A2 m2 k2)).setCell ⟨w.heap.size, 4, none⟩ (.slice A3 m3 k3)) w.heap.size #[.int .i64 d.room, .int .i64 d.next, .slice A1 m1 k1, .slice A2 m2 k2, .slice A3 m3 k3] 28) := pK
   have HPR : Hid (Blk (((((w3.setCell ⟨w.heap.size, 0, none⟩ (.int .i64 d.room)).setCell ⟨w.heap.size, 1, none⟩ (.int .i64 d.next)).setCell ⟨w.heap.size, 2, none⟩ (.slice A1 m1 k1)).setCell ⟨w.heap.size, 3, none⟩ (.slice A2 m2 k2)).setCell ⟨w.heap.size, 4, none⟩ (.slice A3 m3 k3)) (w.heap.size + 1) #[.int .i64 0, .int .i64 0, .slice none 0 0, .slice none 0 0, .slice none 0 0] 28) := pR
   clear p1 p2 p3 pB pK pR hc hD hn hfd hj
   go_wp2_with fail
   clear e0 e1 e2 e3 e4 t0 t1 t2 t3 t4
   generalize (((((w3.setCell ⟨w.heap.size, 0, none⟩ (.int .i64 d.room)).setCell ⟨w.heap.size, 1, none⟩ (.int .i64 d.next)).setCell ⟨w.heap.size, 2, none⟩ (.slice A1 m1 k1)).setCell ⟨w.heap.size, 3, none⟩ (.slice A2 m2 k2)).setCell ⟨w.heap.size, 4, none⟩ (.slice A3 m3 k3)) = Y at *
   have hDV : DiskV Y Y.heap.size (.agg #[.int .i64 d.room, .int .i64 d.next, .slice A1 m1 k1, .slice A2 m2 k2, .slice A3 m3 k3]) d := ⟨_, _, _, rfl, HP1.out.lies, HP2.out.lies, HP3.out.lies⟩
   refine (findV d (.agg #[.int .i64 d.room, .int .i64 d.next, .slice A1 m1 k1, .slice A2 m2 k2, .slice A3 m3 k3]) name Y Y.heap.size hDV HF.out HSZ.out.1 (by have := HSZ.out; omega) (Nat.le_refl _)).mono ?_
   rintro e w5 ⟨rfl, hb5⟩
   rw [HFD.out]
   have ei : idxV (some j) = (j : Int) := rfl
   rw [ei]
   obtain ⟨rfl, g, rfl, hgl⟩ := own_at HP1.out (by have := HJ.out; omega)
   have Q1 : Hid (Owns w5 w2.heap.size 47 3 (.slice (some ⟨g, 0, none⟩) d.nods.length k1) (nodR d.nods)) := HP1.out.on hb5
   have Q2 : Hid (Owns w5 w2.heap.size 49 2 (.slice A2 m2 k2) (lnkR d.dir)) := HP2.out.on hb5
   have Q3 : Hid (Owns w5 w2.heap.size 51 4 (.slice A3 m3 k3) (movR d.movs)) := HP3.out.on hb5
   have QB : Hid (Below w.heap.size w w5) := HPB.out.trans (hb5.mono HPB.out.size)
   have QK : Hid (Blk w5 w.heap.size #[.int .i64 d.room, .int .i64 d.next, .slice (some ⟨g, 0, none⟩) d.nods.length k1, .slice A2 m2 k2, .slice A3 m3 k3] 28) := HPK.out.on hb5 HPK.out.lt
   have QR : Hid (Blk w5 (w.heap.size + 1) #[.int .i64 0, .int .i64 0, .slice none 0 0, .slice none 0 0, .slice none 0 0] 28) := HPR.out.on hb5 HPR.out.lt
   have HG : Hid (w2.heap.size ≤ g) := hgl
   have q1 : (d.nods.length : Int) ≤ 10 := by have := HSZ.out; omega
   have q4 : (j : Int) < (d.nods.length : Int) := by have := HJ.out; omega
   have q5 : (0 : Int) ≤ (j : Int) := by omega
   have hds := wt_data _ (getD_mem d.nods j HJ.out)
   have qd : ((d.nods.getD j default).data.size : Int) ≤ 1048576 := by
    have := HW.out
    unfold wtD at this
    omega
   have cD : w5.cell? ⟨g, j * 3 + 1, none⟩ = some (.string (d.nods.getD j default).data) := (by obtain ⟨A, cp, e, hl⟩ := nod_look Q1.out.lies; obtain ⟨g2, off, e2, _, _, h1, _⟩ := hl j HJ.out; cases e; cases e2; simpa using h1)
   have cS : w5.cell? ⟨g, j * 3 + 2, none⟩ = some (.int .i64 (d.nods.getD j default).sure) := (by obtain ⟨A, cp, e, hl⟩ := nod_look Q1.out.lies; obtain ⟨g2, off, e2, _, _, _, h2⟩ := hl j HJ.out; cases e; cases e2; simpa using h2)
   have fS := (Q1.out.nodAt HJ.out).free2 (nodR_length _) (j * 3 + 2)
   have PK := Q1.out.pokeSure HJ.out ((d.nods.getD j default).data.size : Int)
   have P1 : Hid (Owns (w5.setCell ⟨g, j * 3 + 2, none⟩ (.int .i64 ((d.nods.getD j default).data.size : Int))) w2.heap.size 47 3 (.slice (some ⟨g, 0, none⟩) d.nods.length k1) (nodR (d.nods.set j ⟨(d.nods.getD j default).id, (d.nods.getD j default).data, ((d.nods.getD j default).data.size : Int)⟩))) := PK
   have x2 := QK.out.cell 2 _ rfl
   clear HP1 HP2 HP3 HPB HPK HPR hb5 hDV hgl PK hds
   generalize hxd : (d.nods.getD j default).data = xd at *
   generalize hxs : (d.nods.getD j default).sure = xs at *
   generalize hNN : d.nods.length = N at *
   go_wp2_with fail
   have S0 : Hid (w5.drew.cell? ⟨w.heap.size, 2, none⟩ = some (.slice (some ⟨g, 0, none⟩) N k1) ∧ w5.drew.cell? ⟨g, j * 3 + 1, none⟩ = some (.string xd)) := ⟨x2, cD⟩
   refine wp_region_until (fun w' => w'.cell? ⟨w.heap.size, 2, none⟩ = some (.slice (some ⟨g, 0, none⟩) N k1) ∧ w'.cell? ⟨g, j * 3 + 1, none⟩ = some (.string xd)) (fun i => i == 12) 13 (by rfl) (by kernel_rfl) ?_
   refine until_take 0 (v := ?vk0) (by rfl) (by kernel_rfl) (by exact fun _ _ _ h => h) (by rfl) ?hyk0 S0.out ?rk0
   case hyk0 =>
    intro w hSw
    try dsimp only at hSw
    go_simp
    try with_reducible rfl
   try simp only [Act.put, zQ1, zQ2, zQ3]
   refine until_take 1 (v := ?vk1) (by rfl) (by kernel_rfl) (by exact fun _ _ _ h => h) (by rfl) ?hyk1 S0.out ?rk1
   case hyk1 =>
    intro w hSw
    try dsimp only at hSw
    go_simp
    try with_reducible rfl
   try simp only [Act.put, zQ1, zQ2, zQ3]
   refine until_take 2 (v := ?vk2) (by rfl) (by kernel_rfl) (by exact fun _ _ _ h => h) (by rfl) ?hyk2 S0.out ?rk2
   case hyk2 =>
    intro w hSw
    try dsimp only at hSw
    go_simp
    try with_reducible rfl
   try simp only [Act.put, zQ1, zQ2, zQ3]
   refine until_take 3 (v := ?vk3) (by rfl) (by kernel_rfl) (by exact fun _ _ _ h => h) (by rfl) ?hyk3 S0.out ?rk3
   case hyk3 =>
    intro w hSw
    try dsimp only at hSw
    go_simp
    try with_reducible rfl
   try simp only [Act.put, zQ1, zQ2, zQ3]
   refine until_take 4 (v := ?vk4) (by rfl) (by kernel_rfl) (by exact fun _ _ _ h => h) (by rfl) ?hyk4 S0.out ?rk4
   case hyk4 =>
    intro w hSw
    try dsimp only at hSw
    go_simp
    try with_reducible rfl
   try simp only [Act.put, zQ1, zQ2, zQ3]
   refine until_take 5 (v := ?vk5) (by rfl) (by kernel_rfl) (by exact fun _ _ _ h => h) (by rfl) ?hyk5 S0.out ?rk5
   case hyk5 =>
    intro w hSw
    try dsimp only at hSw
    go_simp
    try with_reducible rfl
   try simp only [Act.put, zQ1, zQ2, zQ3]
   refine until_take 6 (v := ?vk6) (by rfl) (by kernel_rfl) (by exact fun _ _ _ h => h) (by rfl) ?hyk6 S0.out ?rk6
   case hyk6 =>
    intro w hSw
    try dsimp only at hSw
    go_simp
    try with_reducible rfl
   try simp only [Act.put, zQ1, zQ2, zQ3]
   refine until_take 7 (v := ?vk7) (by rfl) (by kernel_rfl) (by exact fun _ _ _ h => h) (by rfl) ?hyk7 S0.out ?rk7
   case hyk7 =>
    intro w hSw
    try dsimp only at hSw
    go_simp
    try with_reducible rfl
   try simp only [Act.put, zQ1, zQ2, zQ3]
   refine until_take 8 (v := ?vk8) (by rfl) (by kernel_rfl) (by exact fun _ _ _ h => h) (by rfl) ?hyk8 S0.out ?rk8
   case hyk8 =>
    intro w hSw
    try dsimp only at hSw
    go_simp
    try with_reducible rfl
   try simp only [Act.put, zQ1, zQ2, zQ3]
   refine until_take 9 (v := ?vk9) (by rfl) (by kernel_rfl) (by exact fun _ _ _ h => h) (by rfl) ?hyk9 S0.out ?rk9
   case hyk9 =>
    intro w hSw
    try dsimp only at hSw
    go_simp
    try with_reducible rfl
   try simp only [Act.put, zQ1, zQ2, zQ3]
   refine until_take 10 (v := ?vk10) (by rfl) (by kernel_rfl) (by exact fun _ _ _ h => h) (by rfl) ?hyk10 S0.out ?rk10
   case hyk10 =>
    intro w hSw
    try dsimp only at hSw
    go_simp
    try with_reducible rfl
   try simp only [Act.put, zQ1, zQ2, zQ3]
   refine until_take 11 (v := ?vk11) (by rfl) (by kernel_rfl) (by exact fun _ _ _ h => h) (by rfl) ?hyk11 S0.out ?rk11
   case hyk11 =>
    intro w hSw
    try dsimp only at hSw
    go_simp
    try with_reducible rfl
   try simp only [Act.put, zQ1, zQ2, zQ3]
   refine uNe 12 (fun K hK => ?_)
   go_simp
   refine hK.out _ _ (fun h => by cases h) ?_
   clear hK K
   refine until_done (by kernel_rfl) ?_ _
   have hgw : w.heap.size + 1 < g := Nat.lt_of_lt_of_le hz HG.out
   have zK : Blk (w5.setCell ⟨g, j * 3 + 2, none⟩ (.int .i64 (xd.size : Int))).drew w.heap.size #[.int .i64 d.room, .int .i64 d.next, .slice (some ⟨g, 0, none⟩) N k1, .slice A2 m2 k2, .slice A3 m3 k3] 28 := QK.out.other (by omega) _ _
   have zR : Blk (w5.setCell ⟨g, j * 3 + 2, none⟩ (.int .i64 (xd.size : Int))).drew (w.heap.size + 1) #[.int .i64 0, .int .i64 0, .slice none 0 0, .slice none 0 0, .slice none 0 0] 28 := QR.out.other (by omega) _ _
   have z1 := P1.out.kept (w' := (w5.setCell ⟨g, j * 3 + 2, none⟩ (.int .i64 (xd.size : Int))).drew) fun _ _ _ => rfl
   have z2 := (Q2.out.other (Q1.out.apart Q2.out (by decide) g rfl) (j * 3 + 2) (.int .i64 (xd.size : Int))).kept (w' := (w5.setCell ⟨g, j * 3 + 2, none⟩ (.int .i64 (xd.size : Int))).drew) fun _ _ _ => rfl
   have z3 := (Q3.out.other (Q1.out.apart Q3.out (by decide) g rfl) (j * 3 + 2) (.int .i64 (xd.size : Int))).kept (w' := (w5.setCell ⟨g, j * 3 + 2, none⟩ (.int .i64 (xd.size : Int))).drew) fun _ _ _ => rfl
   have zB : Below w.heap.size w (w5.setCell ⟨g, j * 3 + 2, none⟩ (.int .i64 (xd.size : Int))).drew := (QB.out.setCell (p := ⟨g, j * 3 + 2, none⟩) (show w.heap.size ≤ g by omega) _).drew
   clear cD cS fS x2 S0 Q1 Q2 Q3 QB QK QR P1
   generalize (w5.setCell ⟨g, j * 3 + 2, none⟩ (.int .i64 (xd.size : Int))).drew = Z at *
   have ZK : Hid (Blk Z w.heap.size #[.int .i64 d.room, .int .i64 d.next, .slice (some ⟨g, 0, none⟩) N k1, .slice A2 m2 k2, .slice A3 m3 k3] 28) := zK
   have ZR : Hid (Blk Z (w.heap.size + 1) #[.int .i64 0, .int .i64 0, .slice none 0 0, .slice none 0 0, .slice none 0 0] 28) := zR
   have Z1 : Hid (Owns Z w2.heap.size 47 3 (.slice (some ⟨g, 0, none⟩) N k1) _) := z1
   have Z2 : Hid (Owns Z w2.heap.size 49 2 (.slice A2 m2 k2) (lnkR d.dir)) := z2
   have Z3 : Hid (Owns Z w2.heap.size 51 4 (.slice A3 m3 k3) (movR d.movs)) := z3
   have ZB : Hid (Below w.heap.size w Z) := zB
   have hm : w.heap.size ≤ w2.heap.size := B2.out.size
   clear zK zR z1 z2 z3 zB
   have r0 := ZK.out.cell 0 _ rfl
   have r1 := ZK.out.cell 1 _ rfl
   have r2 := ZK.out.cell 2 _ rfl
   have r3 := ZK.out.cell 3 _ rfl
   have r4 := ZK.out.cell 4 _ rfl
   have g0 := ZR.out.cell 0 _ rfl
   have f0 := ZR.out.free 0
   have g1 := ZR.out.cell 1 _ rfl
   have f1 := ZR.out.free 1
   have g2 := ZR.out.cell 2 _ rfl
   have f2 := ZR.out.free 2
   have g3 := ZR.out.cell 3 _ rfl
   have f3 := ZR.out.free 3
   have g4 := ZR.out.cell 4 _ rfl
   have f4 := ZR.out.free 4
   go_wp2_with fail
   have hB := ZB.out
   clear r0 r1 r2 r3 r4
   have FB := (((((hB.setCell hg (.int .i64 d.room) (p := ⟨_, 0, none⟩)).setCell hg (.int .i64 d.next) (p := ⟨_, 1, none⟩)).setCell hg (.slice (some ⟨g, 0, none⟩) N k1) (p := ⟨_, 2, none⟩)).setCell hg (.slice A2 m2 k2) (p := ⟨_, 3, none⟩)).setCell hg (.slice A3 m3 k3) (p := ⟨_, 4, none⟩))
   have hF := (((((ZR.out.set 0 (.int .i64 d.room)).set 1 (.int .i64 d.next)).set 2 (.slice (some ⟨g, 0, none⟩) N k1)).set 3 (.slice A2 m2 k2)).set 4 (.slice A3 m3 k3))
   have mm0 := Z1.out.notBlk ZR.out (by decide)
   have F0 := (((((Z1.out.other mm0 0 (.int .i64 d.room)).other mm0 1 (.int .i64 d.next)).other mm0 2 (.slice (some ⟨g, 0, none⟩) N k1)).other mm0 3 (.slice A2 m2 k2)).other mm0 4 (.slice A3 m3 k3))
   have mm1 := Z2.out.notBlk ZR.out (by decide)
   have F1 := (((((Z2.out.other mm1 0 (.int .i64 d.room)).other mm1 1 (.int .i64 d.next)).other mm1 2 (.slice (some ⟨g, 0, none⟩) N k1)).other mm1 3 (.slice A2 m2 k2)).other mm1 4 (.slice A3 m3 k3))
   have mm2 := Z3.out.notBlk ZR.out (by decide)
   have F2 := (((((Z3.out.other mm2 0 (.int .i64 d.room)).other mm2 1 (.int .i64 d.next)).other mm2 2 (.slice (some ⟨g, 0, none⟩) N k1)).other mm2 3 (.slice A2 m2 k2)).other mm2 4 (.slice A3 m3 k3))
   clear g0 f0 g1 f1 g2 f2 g3 f3 g4 f4
   generalize (((((Z.setCell ⟨w.heap.size + 1, 0, none⟩ (.int .i64 d.room)).setCell ⟨w.heap.size + 1, 1, none⟩ (.int .i64 d.next)).setCell ⟨w.heap.size + 1, 2, none⟩ (.slice (some ⟨g, 0, none⟩) N k1)).setCell ⟨w.heap.size + 1, 3, none⟩ (.slice A2 m2 k2)).setCell ⟨w.heap.size + 1, 4, none⟩ (.slice A3 m3 k3)) = WF at *
   have hG : Blk WF (w.heap.size + 1) #[.int .i64 d.room, .int .i64 d.next, .slice (some ⟨g, 0, none⟩) N k1, .slice A2 m2 k2, .slice A3 m3 k3] 28 := hF
   have l0 := hG.cell 0 (.int .i64 d.room) rfl
   have l1 := hG.cell 1 (.int .i64 d.next) rfl
   have l2 := hG.cell 2 (.slice (some ⟨g, 0, none⟩) N k1) rfl
   have l3 := hG.cell 3 (.slice A2 m2 k2) rfl
   have l4 := hG.cell 4 (.slice A3 m3 k3) rfl
   exact bodyPost_ret (v := .tuple #[.agg #[.int .i64 d.room, .int .i64 d.next, .slice (some ⟨g, 0, none⟩) N k1, .slice A2 m2 k2, .slice A3 m3 k3], .int .i64 0]) (by simp [results, go_sem, l0, l1, l2, l3, l4]) rfl (by rw [hRR]; exact ⟨_, rfl, ⟨_, _, _, rfl, F0.mono hm, F1.mono hm, F2.mono hm⟩, FB⟩)
end Go.Proofs.YtgjilgecklhglaaGreat
namespace Go.Proofs.YtgjilgecklhglaaGreat
open Go.ChangeShapes Go.WideShapes Go.ChangeAt Go.RowKit Go.PlainAid
set_option linter.unusedVariables false
set_option maxRecDepth 20000 in
set_option maxHeartbeats 4000000 in
theorem addMoveV (w : World) (base p : Nat) (d : Dsk) (bi bd bw : Nat) (gs : List Nat) (u : Value) (mk : Int) (mn mt : ByteArray) (mi : Int) (h : OpenD w base p d bi bd bw gs u) (hd : Whole d) (hw : wtD d ≤ 1048576) (hs1 : mn.size ≤ 1000) (hs2 : mt.size ≤ 1000) (hB : base ≤ w.heap.size) :
  Calls Tryz.prog 65 #[.pointer (some ⟨p, 0, none⟩), .agg #[.int .i64 mk, .string mn, .string mt, .int .i64 mi]] w fun e w' => e = .returned (.int .i64 (movedD d ⟨mk, mn, mt, mi⟩).2) ∧ Tellable w' p (movedD d ⟨mk, mn, mt, mi⟩).1 ∧ Below base w w' := by
 have HT : Hid (Tellable w p d) := h.tell hd hw
 obtain ⟨uA, um, uc, rfl⟩ := h.mv.shape
 obtain rfl := slice_len h.mv
 have HO : Hid (OpenD w base p d bi bd bw gs (.slice uA d.movs.length uc)) := h
 have HB : Hid (base ≤ w.heap.size) := hB
 have HS1 : Hid (mn.size ≤ 1000) := hs1
 have HS2 : Hid (mt.size ≤ 1000) := hs2
 have hR := (sizeOk_iff d).1 hd.size
 have HM : Hid (d.movs.length ≤ 20) := hR.m
 have HL : Hid ((now d).length ≤ 1000) := by
  have h1 := names_len d.dir d.movs
  have := hR.l
  have := hR.m
  unfold Hid now
  omega
 have HNO : Hid (NamesOk (now d)) := (now_linked hd).ok
 have HR : Hid ((20 ≤ d.movs.length → movedD d ⟨mk, mn, mt, mi⟩ = (d, 4)) ∧ (¬ 20 ≤ d.movs.length → movedD d ⟨mk, mn, mt, mi⟩ = (⟨d.room, d.next, d.nods, d.dir, d.movs ++ [⟨mk, mn, mt, mi⟩]⟩, 0))) := ⟨movedD_full, movedD_room⟩
 clear h hd hw hB hs1 hs2 hR
 generalize hUM : d.movs.length = um at *
 have q1 : (um : Int) ≤ 20 := by have := HM.out; omega
 have PY0 : Hid (Blk (w.alloc (.cells #[.int .i64 mk, .string mn, .string mt, .int .i64 mi] 51)) p #[.int .i64 d.room, .int .i64 d.next, .map (some bi), .map (some bd), .slice uA um uc, .map (some bw)] 86) := HO.out.blk.alloc _
 have x4 := PY0.out.cell 4 _ rfl
 by_cases hfull : 20 ≤ um
 ·have t1 : decide ((20 : Int) ≤ (um : Int)) = true := decide_eq_true (by omega)
  have HRR := HR.out.1 hfull
  clear hfull HR
  go_enter Tryz.func65, Tryz.ntmps65
  go_wp2_with fail
  go_ret
  have hb : Below w.heap.size w (w.alloc (.cells #[.int .i64 mk, .string mn, .string mt, .int .i64 mi] 51)) := (Below.refl _ w).alloc (Nat.le_refl _) _
  exact ⟨by rw [HRR]; rfl, by rw [HRR]; exact tell_on HT.out hb, hb.mono HB.out⟩
 ·have t1 : decide ((20 : Int) ≤ (um : Int)) = false := decide_eq_false (by omega)
  have HRR : Hid (movedD d ⟨mk, mn, mt, mi⟩ = _) := HR.out.2 hfull
  clear hfull HR
  go_enter Tryz.func65, Tryz.ntmps65
  go_wp2_with fail
  clear x4
  have hbY : Below w.heap.size w (w.alloc (.cells #[.int .i64 mk, .string mn, .string mt, .int .i64 mi] 51)) := (Below.refl _ w).alloc (Nat.le_refl _) _
  have zY := Blk.new w #[.int .i64 mk, .string mn, .string mt, .int .i64 mi] 51
  have szY : (w.alloc (.cells #[.int .i64 mk, .string mn, .string mt, .int .i64 mi] 51)).heap.size = w.heap.size + 1 := by simp
  generalize w.alloc (.cells #[.int .i64 mk, .string mn, .string mt, .int .i64 mi] 51) = Y at *
  have OY : Hid (OpenD Y base p d bi bd bw gs (.slice uA um uc)) := HO.out.on hbY
  have ZY : Hid (Blk Y w.heap.size #[.int .i64 mk, .string mn, .string mt, .int .i64 mi] 51) := zY
  have BY : Hid (Below w.heap.size w Y) := hbY
  have ZNE : Hid (∀ g, (Value.slice uA um uc).ownBlock = some g → g ≠ w.heap.size) := fun g hg => by
   have := (HO.out.mv.lt g hg).2
   omega
  have PZN : Hid (w.heap.size ≠ p ∧ w.heap.size ≠ bw) := by
   have h1 := HO.out.blk.lt
   have h2 := HO.out.nw.lt
   exact ⟨by omega, by omega⟩
  have hszY : Hid (w.heap.size ≤ Y.heap.size) := hbY.size
  clear hbY zY szY
  generalize hpz : w.heap.size = pz at *
  have HB2 : Hid (base ≤ pz) := HB.out
  have S0 : Hid (Y.drew.cell? ⟨p, 4, none⟩ = some (.slice uA um uc) ∧ Y.drew.cell? ⟨pz, 0, none⟩ = some (.int .i64 mk) ∧ Y.drew.cell? ⟨pz, 1, none⟩ = some (.string mn) ∧ Y.drew.cell? ⟨pz, 2, none⟩ = some (.string mt) ∧ Y.drew.cell? ⟨pz, 3, none⟩ = some (.int .i64 mi)) := ⟨OY.out.blk.cell 4 _ rfl, ZY.out.cell 0 _ rfl, ZY.out.cell 1 _ rfl, ZY.out.cell 2 _ rfl, ZY.out.cell 3 _ rfl⟩
  have OYd : Owns Y.drew base 51 4 (.slice uA um uc) (movR d.movs) := OY.out.mv.kept fun _ _ _ => rfl
  have Z5 : base ≤ Y.drew.heap.size := Nat.le_trans HB.out hszY.out
  obtain ⟨nA, nm, nc, w5, r5, hO5, hb5, hk5, _⟩ := run_append_row (P := Tryz.prog) Y.drew 26 26 51 (.agg #[.int .i64 0, .string ⟨#[]⟩, .string ⟨#[]⟩, .int .i64 0]) 4 48 Tryz.underlying26 Tryz.infoMov rfl (by omega) base (.slice uA um uc) (movR d.movs) OYd [.int .i64 mk, .string mn, .string mt, .int .i64 mi] rfl (by intro y hy; simp at hy; rcases hy with rfl | rfl | rfl | rfl <;> rfl) (by rw [movR_length]; have := HM.out; omega) (by omega) Z5
  have hk : ∀ g, g < Y.heap.size → (Value.slice uA um uc).ownBlock ≠ some g → w5.heap[g]? = Y.heap[g]? := hk5
  have P5 : Hid (Blk w5 p #[.int .i64 d.room, .int .i64 d.next, .map (some bi), .map (some bd), .slice uA um uc, .map (some bw)] 86) := by
   unfold Hid Blk
   rw [hk p OY.out.blk.lt (OY.out.mv.notBlk OY.out.blk (by decide))]
   exact OY.out.blk
  have K5 : Hid (Blk w5 pz #[.int .i64 mk, .string mn, .string mt, .int .i64 mi] 51) := by
   unfold Hid Blk
   rw [hk pz ZY.out.lt (fun e => ZNE.out pz e rfl)]
   exact ZY.out
  have I5 : Hid (IT w5 bi (prs d.nods gs)) := OY.out.it.kept (hk bi OY.out.it.lt (OY.out.it.notOwn OY.out.mv))
  have N5 : Hid (NT w5 bd d.dir) := OY.out.nd.kept (hk bd OY.out.nd.lt (OY.out.nd.notOwn OY.out.mv))
  have W5 : Hid (NT w5 bw (now d)) := OY.out.nw.kept (hk bw OY.out.nw.lt (OY.out.nw.notOwn OY.out.mv))
  have H5 : Hid (Held w5 d.nods gs) := OY.out.held.kept fun g hg => hk g (OY.out.held.lt g hg) (by
   obtain ⟨j, hj, rfl⟩ := List.getElem_of_mem hg
   have h1 := OY.out.held.blk j (by rw [← OY.out.held.len]; exact hj)
   rw [List.getD_eq_getElem?_getD, List.getElem?_eq_getElem hj] at h1
   exact OY.out.mv.notBlk h1 (by decide))
  have O5 : Hid (Owns w5 base 51 4 (.slice nA nm nc) (movR d.movs ++ [[.int .i64 mk, .string mn, .string mt, .int .i64 mi]])) := hO5
  have B5 : Hid (Below base Y w5) := (Below.refl base Y).drew.trans hb5
  have y4 := P5.out.cell 4 _ rfl
  have z4 := P5.out.free 4
  clear hO5 hb5 hk5 hk OYd Z5
  refine wp_region_until (fun w' => w'.cell? ⟨p, 4, none⟩ = some (.slice uA um uc) ∧ w'.cell? ⟨pz, 0, none⟩ = some (.int .i64 mk) ∧ w'.cell? ⟨pz, 1, none⟩ = some (.string mn) ∧ w'.cell? ⟨pz, 2, none⟩ = some (.string mt) ∧ w'.cell? ⟨pz, 3, none⟩ = some (.int .i64 mi)) (fun i => i == 7 || i == 10) 11 (by rfl) (by kernel_rfl) ?_
  refine until_pure 0 (v := ?va0) (by rfl) (by kernel_rfl) (by exact fun _ _ _ h => h) (by rfl) ?hya0 ?ra0
  case hya0 =>
   intro w
   go_simp
   try with_reducible rfl
  try simp only [Act.put, zQ1, zQ2, zQ3]
  refine until_take 1 (v := ?va1) (by rfl) (by kernel_rfl) (by exact fun _ _ _ h => h) (by rfl) ?hya1 S0.out ?ra1
  case hya1 =>
   intro w hSw
   try dsimp only at hSw
   go_simp
   try with_reducible rfl
  try simp only [Act.put, zQ1, zQ2, zQ3]
  refine until_take 2 (v := ?va2) (by rfl) (by kernel_rfl) (by exact fun _ _ _ h => h) (by rfl) ?hya2 S0.out ?ra2
  case hya2 =>
   intro w hSw
   try dsimp only at hSw
   go_simp
   try with_reducible rfl
  try simp only [Act.put, zQ1, zQ2, zQ3]
  refine until_take 3 (v := ?va3) (by rfl) (by kernel_rfl) (by exact fun _ _ _ h => h) (by rfl) ?hya3 S0.out ?ra3
  case hya3 =>
   intro w hSw
   try dsimp only at hSw
   go_simp
   try with_reducible rfl
  try simp only [Act.put, zQ1, zQ2, zQ3]
  refine until_take 4 (v := ?va4) (by rfl) (by kernel_rfl) (by exact fun _ _ _ h => h) (by rfl) ?hya4 S0.out ?ra4
  case hya4 =>
   intro w hSw
   try dsimp only at hSw
   go_simp
   try with_reducible rfl
  try simp only [Act.put, zQ1, zQ2, zQ3]
  refine until_take 5 (v := ?va5) (by rfl) (by kernel_rfl) (by exact fun _ _ _ h => h) (by rfl) ?hya5 S0.out ?ra5
  case hya5 =>
   intro w hSw
   try dsimp only at hSw
   go_simp
   try with_reducible rfl
  try simp only [Act.put, zQ1, zQ2, zQ3]
  refine uNe 6 (fun K hK => ?_)
  go_simp
  refine hK.out _ _ (fun _ _ => ⟨(Blk.alloc (w := Y.drew) OY.out.blk _).cell 4 _ rfl, (Blk.alloc (w := Y.drew) ZY.out _).cell 0 _ rfl, (Blk.alloc (w := Y.drew) ZY.out _).cell 1 _ rfl, (Blk.alloc (w := Y.drew) ZY.out _).cell 2 _ rfl, (Blk.alloc (w := Y.drew) ZY.out _).cell 3 _ rfl⟩) ?_
  clear hK K
  try simp only [Act.put, zQ1, zQ2, zQ3]
  refine uNe 7 (fun K hK => ?_)
  refine step_append_run (by rfl) (.tmp 15) (.tmp 17) 26 (by rfl) _ _ _ _ (by rfl) (by rfl) r5 ?_
  refine hK.out _ _ (fun h => by cases h) ?_
  clear hK K
  try simp only [Act.put, zQ1, zQ2, zQ3]
  refine until_pure 8 (v := ?vb8) (by rfl) (by kernel_rfl) (by exact fun _ _ _ h => h) (by rfl) ?hyb8 ?rb8
  case hyb8 =>
   intro w
   go_simp
   try with_reducible rfl
  try simp only [Act.put, zQ1, zQ2, zQ3]
  refine until_pure 9 (v := ?vb9) (by rfl) (by kernel_rfl) (by exact fun _ _ _ h => h) (by rfl) ?hyb9 ?rb9
  case hyb9 =>
   intro w
   go_simp
   try with_reducible rfl
  try simp only [Act.put, zQ1, zQ2, zQ3]
  refine uNe 10 (fun K hK => ?_)
  go_simp
  refine hK.out _ _ (fun h => by cases h) ?_
  clear hK K
  refine until_done (by kernel_rfl) ?_ _
  go_wp2_with fail
  have P6 : Hid (Blk (w5.setCell ⟨p, 4, none⟩ (.slice nA nm nc)) p #[.int .i64 d.room, .int .i64 d.next, .map (some bi), .map (some bd), .slice nA nm nc, .map (some bw)] 86) := P5.out.set 4 _
  have K6 : Hid (Blk (w5.setCell ⟨p, 4, none⟩ (.slice nA nm nc)) pz #[.int .i64 mk, .string mn, .string mt, .int .i64 mi] 51) := K5.out.other PZN.out.1 _ _
  have hkeep : ∀ g, g ≠ p → (w5.setCell ⟨p, 4, none⟩ (.slice nA nm nc)).heap[g]? = w5.heap[g]? := fun g hg => Below.heap_setCell _ ⟨p, 4, none⟩ _ _ hg
  have I6 : Hid (IT (w5.setCell ⟨p, 4, none⟩ (.slice nA nm nc)) bi (prs d.nods gs)) := I5.out.kept (hkeep bi HO.out.pi.symm)
  have N6 : Hid (NT (w5.setCell ⟨p, 4, none⟩ (.slice nA nm nc)) bd d.dir) := N5.out.kept (hkeep bd HO.out.pd.symm)
  have W6 : Hid (NT (w5.setCell ⟨p, 4, none⟩ (.slice nA nm nc)) bw (now d)) := W5.out.kept (hkeep bw HO.out.pw.symm)
  have H6 : Hid (Held (w5.setCell ⟨p, 4, none⟩ (.slice nA nm nc)) d.nods gs) := H5.out.kept fun g hg => hkeep g (HO.out.gl g hg).2.1
  have O6 : Hid (Owns (w5.setCell ⟨p, 4, none⟩ (.slice nA nm nc)) base 51 4 (.slice nA nm nc) (movR d.movs ++ [[.int .i64 mk, .string mn, .string mt, .int .i64 mi]])) := O5.out.other (O5.out.notBlk P5.out (by decide)) _ _
  have B6 : Hid (Below base Y (w5.setCell ⟨p, 4, none⟩ (.slice nA nm nc))) := B5.out.setCell (p := ⟨p, 4, none⟩) HO.out.lo.1 _
  clear hkeep y4 z4 S0 r5 P5 K5 I5 N5 W5 H5 O5 B5
  generalize w5.setCell ⟨p, 4, none⟩ (.slice nA nm nc) = w6 at *
  have S0 : Hid (w6.drew.cell? ⟨p, 5, none⟩ = some (.map (some bw)) ∧ w6.drew.cell? ⟨pz, 0, none⟩ = some (.int .i64 mk) ∧ w6.drew.cell? ⟨pz, 1, none⟩ = some (.string mn) ∧ w6.drew.cell? ⟨pz, 2, none⟩ = some (.string mt) ∧ w6.drew.cell? ⟨pz, 3, none⟩ = some (.int .i64 mi)) := ⟨P6.out.cell 5 _ rfl, K6.out.cell 0 _ rfl, K6.out.cell 1 _ rfl, K6.out.cell 2 _ rfl, K6.out.cell 3 _ rfl⟩
  have cA := applyI (now d) bw ⟨mk, mn, mt, mi⟩ w6.drew (W6.out.kept rfl) HL.out HNO.out (by have := HS1.out; unfold maxLen; simp only; omega) (by have := HS2.out; unfold maxLen; simp only; omega)
  unfold movV at cA
  simp only at cA
  generalize (apply (now d) ⟨mk, mn, mt, mi⟩).isSome = ok at *
  refine wp_region_until (fun w' => w'.cell? ⟨p, 5, none⟩ = some (.map (some bw)) ∧ w'.cell? ⟨pz, 0, none⟩ = some (.int .i64 mk) ∧ w'.cell? ⟨pz, 1, none⟩ = some (.string mn) ∧ w'.cell? ⟨pz, 2, none⟩ = some (.string mt) ∧ w'.cell? ⟨pz, 3, none⟩ = some (.int .i64 mi)) (fun i => i == 5) 6 (by rfl) (by kernel_rfl) ?_
  refine until_take 0 (v := ?vd0) (by rfl) (by kernel_rfl) (by exact fun _ _ _ h => h) (by rfl) ?hyd0 S0.out ?rd0
  case hyd0 =>
   intro w hSw
   try dsimp only at hSw
   go_simp
   try with_reducible rfl
  try simp only [Act.put, zQ1, zQ2, zQ3]
  refine until_take 1 (v := ?vd1) (by rfl) (by kernel_rfl) (by exact fun _ _ _ h => h) (by rfl) ?hyd1 S0.out ?rd1
  case hyd1 =>
   intro w hSw
   try dsimp only at hSw
   go_simp
   try with_reducible rfl
  try simp only [Act.put, zQ1, zQ2, zQ3]
  refine until_take 2 (v := ?vd2) (by rfl) (by kernel_rfl) (by exact fun _ _ _ h => h) (by rfl) ?hyd2 S0.out ?rd2
  case hyd2 =>
   intro w hSw
   try dsimp only at hSw
   go_simp
   try with_reducible rfl
  try simp only [Act.put, zQ1, zQ2, zQ3]
  refine until_take 3 (v := ?vd3) (by rfl) (by kernel_rfl) (by exact fun _ _ _ h => h) (by rfl) ?hyd3 S0.out ?rd3
  case hyd3 =>
   intro w hSw
   try dsimp only at hSw
   go_simp
   try with_reducible rfl
  try simp only [Act.put, zQ1, zQ2, zQ3]
  refine until_take 4 (v := ?vd4) (by rfl) (by kernel_rfl) (by exact fun _ _ _ h => h) (by rfl) ?hyd4 S0.out ?rd4
  case hyd4 =>
   intro w hSw
   try dsimp only at hSw
   go_simp
   try with_reducible rfl
  try simp only [Act.put, zQ1, zQ2, zQ3]
  refine uNe 5 (fun K hK => ?_)
  go_simp
  refine cA.mono ?_
  rintro e w7 ⟨rfl, _, hB7⟩
  have P7 : Hid (Blk w7 p #[.int .i64 d.room, .int .i64 d.next, .map (some bi), .map (some bd), .slice nA nm nc, .map (some bw)] 86) := hB7.blk (w := w6.drew) P6.out HO.out.pw
  have I7 : Hid (IT w7 bi (prs d.nods gs)) := IT.but (w := w6.drew) (I6.out.kept rfl) hB7 HO.out.iw
  have N7 : Hid (NT w7 bd d.dir) := NT.kept (w := w6.drew) (N6.out.kept rfl) (hB7.block bd N6.out.lt HO.out.dw)
  have H7 : Hid (Held w7 d.nods gs) := Held.but (w := w6.drew) (H6.out.kept fun _ _ => rfl) hB7 (fun g hg => (HO.out.gl g hg).2.2.2.2)
  have O7 : Hid (Owns w7 base 51 4 (.slice nA nm nc) (movR d.movs ++ [[.int .i64 mk, .string mn, .string mt, .int .i64 mi]])) := O6.out.kept fun g hg ho => hB7.block g hg (fun e => by subst e; exact W6.out.notOwn O6.out ho)
  have B7 : Hid (Below base Y w7) := (B6.out.drew).trans (hB7.below base (Nat.le_trans HB.out (Nat.le_trans hszY.out B6.out.size)) fun i hi e => by have := HO.out.lo.2.2.2; omega)
  clear cA hB7 S0 P6 K6 I6 N6 W6 H6 O6 B6
  go_wp2_with fail
  refine hK.out _ _ (fun h => by cases h) ?_
  clear hK K
  refine until_done (by kernel_rfl) ?_ _
  go_wp2_with fail
  go_ret
  refine ⟨by rw [HRR.out]; rfl, ?_, ?_⟩
  ·rw [HRR.out]
   refine ⟨⟨bi, bd, gs, _, _, P7.out, I7.out, H7.out, N7.out, ?_⟩, HT.out.rise, HT.out.sorted, HT.out.ok, HT.out.n1, HT.out.n2, ?_, HT.out.nx, fun x hx => ?_⟩
   ·have h1 := O7.out.lies
    have e1 : movR (d.movs ++ [⟨mk, mn, mt, mi⟩]) = movR d.movs ++ [[.int .i64 mk, .string mn, .string mt, .int .i64 mi]] := by unfold movR; rw [List.map_append]; rfl
    show Lies w7 w7.heap.size 4 (.slice nA nm nc) (movR (d.movs ++ [⟨mk, mn, mt, mi⟩]))
    rw [e1]
    exact h1
   ·show (d.movs ++ [_]).length ≤ 1000
    rw [List.length_append, hUM, List.length_singleton]
    have := HM.out
    omega
   ·have hx' : x ∈ d.movs ++ [⟨mk, mn, mt, mi⟩] := hx
    rcases List.mem_append.1 hx' with h1 | h1
    ·exact HT.out.mx x h1
    ·obtain rfl := List.mem_singleton.1 h1
     have := HS1.out
     have := HS2.out
     exact ⟨by show mn.size ≤ _; omega, by show mt.size ≤ _; omega⟩
  ·exact (BY.out.mono HB2.out).trans B7.out
def movedC (d : Dsk) (m : Mov) (code : Int) : Dsk × Int := if code = 0 then movedD d m else (d, code)
theorem movedC_no {d : Dsk} {m : Mov} {code : Int} (h : code ≠ 0) : movedC d m code = (d, code) := by unfold movedC; rw [if_neg h]
theorem movedC_yes {d : Dsk} {m : Mov} : movedC d m 0 = movedD d m := by unfold movedC; rw [if_pos rfl]
set_option maxRecDepth 20000 in
set_option maxHeartbeats 4000000 in
theorem movedV (d : Dsk) (v : Value) (mk : Int) (mn mt : ByteArray) (mi code : Int) (w : World) (B : Nat) (hv : DiskV w B v d) (l1 : d.nods.length ≤ 1048576) (l2 : d.dir.length ≤ 1048576) (l3 : d.movs.length ≤ 1048576) (hB : B ≤ w.heap.size) :
  Calls Tryz.prog 98 #[v, .agg #[.int .i64 mk, .string mn, .string mt, .int .i64 mi], .int .i64 code] w fun e w' => ∃ x, e = .returned (.tuple #[x, .int .i64 (movedC d ⟨mk, mn, mt, mi⟩ code).2]) ∧ DiskO w' w.heap.size x (movedC d ⟨mk, mn, mt, mi⟩ code).1 ∧ Below w.heap.size w w' := by
 have HV : Hid (DiskV w B v d) := hv
 have HB : Hid (B ≤ w.heap.size) := hB
 have L1 : Hid (d.nods.length ≤ 1048576) := l1
 have L2 : Hid (d.dir.length ≤ 1048576) := l2
 have L3 : Hid (d.movs.length ≤ 1048576) := l3
 obtain ⟨v1, v2, v3, rfl, h1, h2, h3⟩ := hv
 obtain ⟨A0, c0, rfl, _⟩ := mov_look h3
 have q1 : (d.movs.length : Int) ≤ 1048576 := by omega
 have hb0 := ((Below.refl _ w).alloc (Nat.le_refl _) (.cells #[.int .i64 d.room, .int .i64 d.next, v1, v2, .slice A0 d.movs.length c0] 28)).alloc (by simp only [World.size_alloc]; omega) (.cells #[.int .i64 mk, .string mn, .string mt, .int .i64 mi] 51)
 have hb1 := hb0.alloc (by simp only [World.size_alloc]; omega) (.cells #[.int .i64 0, .int .i64 0, .slice none 0 0, .slice none 0 0, .slice none 0 0] 28)
 have bA := ((Blk.new w #[.int .i64 d.room, .int .i64 d.next, v1, v2, .slice A0 d.movs.length c0] 28).alloc (.cells #[.int .i64 mk, .string mn, .string mt, .int .i64 mi] 51)).alloc (.cells #[.int .i64 0, .int .i64 0, .slice none 0 0, .slice none 0 0, .slice none 0 0] 28)
 have bM := (Blk.new (w.alloc (.cells #[.int .i64 d.room, .int .i64 d.next, v1, v2, .slice A0 d.movs.length c0] 28)) #[.int .i64 mk, .string mn, .string mt, .int .i64 mi] 51).alloc (.cells #[.int .i64 0, .int .i64 0, .slice none 0 0, .slice none 0 0, .slice none 0 0] 28)
 have bR := Blk.new ((w.alloc (.cells #[.int .i64 d.room, .int .i64 d.next, v1, v2, .slice A0 d.movs.length c0] 28)).alloc (.cells #[.int .i64 mk, .string mn, .string mt, .int .i64 mi] 51)) #[.int .i64 0, .int .i64 0, .slice none 0 0, .slice none 0 0, .slice none 0 0] 28
 simp only [World.size_alloc] at bM bR
 clear h1 h2 h3 hB l1 l2 l3 hb0
 have y4 := bA.cell 4 _ rfl
 by_cases hc : code = 0
 ·subst hc
  by_cases hfull : 20 ≤ d.movs.length
  ·have t1 : decide ((20 : Int) ≤ (d.movs.length : Int)) = true := decide_eq_true (by omega)
   have hRR : Hid (movedC d ⟨mk, mn, mt, mi⟩ 0 = (d, 4)) := by unfold Hid; rw [movedC_yes, movedD_full hfull]
   clear hfull
   go_enter Tryz.func98, Tryz.ntmps98
   go_upto_region 3 with fail
   clear y4
   generalize ((w.alloc (.cells #[.int .i64 d.room, .int .i64 d.next, v1, v2, .slice A0 d.movs.length c0] 28)).alloc (.cells #[.int .i64 mk, .string mn, .string mt, .int .i64 mi] 51)).alloc (.cells #[.int .i64 0, .int .i64 0, .slice none 0 0, .slice none 0 0, .slice none 0 0] 28) = W at *
   have B0 : Hid (Below w.heap.size w W) := hb1
   have K0 : Hid (Blk W w.heap.size #[.int .i64 d.room, .int .i64 d.next, v1, v2, .slice A0 d.movs.length c0] 28) := bA
   have M0 : Hid (Blk W (w.heap.size + 1) #[.int .i64 mk, .string mn, .string mt, .int .i64 mi] 51) := bM
   have R0 : Hid (Blk W (w.heap.size + 1 + 1) #[.int .i64 0, .int .i64 0, .slice none 0 0, .slice none 0 0, .slice none 0 0] 28) := bR
   clear hb1 bA bM bR
   have y0 := K0.out.cell 0 _ rfl
   have y1 := K0.out.cell 1 _ rfl
   have y2 := K0.out.cell 2 _ rfl
   have y3 := K0.out.cell 3 _ rfl
   have y4 := K0.out.cell 4 _ rfl
   go_wp2_with fail
   refine (copyV d (.agg #[.int .i64 d.room, .int .i64 d.next, v1, v2, .slice A0 d.movs.length c0]) W B (HV.out.on (B0.out.mono HB.out)) L1.out L2.out L3.out (Nat.le_trans HB.out B0.out.size)).mono ?_
   rintro e w3 ⟨x, rfl, hO3, hb3⟩
   clear y0 y1 y2 y3 y4
   have hsz3 : Hid (W.heap.size ≤ w3.heap.size) := hb3.size
   have B3 : Hid (Below w.heap.size w w3) := B0.out.trans (hb3.mono B0.out.size)
   have K3 : Hid (Blk w3 w.heap.size #[.int .i64 d.room, .int .i64 d.next, v1, v2, .slice A0 d.movs.length c0] 28) := K0.out.on hb3 K0.out.lt
   have M3 : Hid (Blk w3 (w.heap.size + 1) #[.int .i64 mk, .string mn, .string mt, .int .i64 mi] 51) := M0.out.on hb3 M0.out.lt
   have R3 : Hid (Blk w3 (w.heap.size + 1 + 1) #[.int .i64 0, .int .i64 0, .slice none 0 0, .slice none 0 0, .slice none 0 0] 28) := R0.out.on hb3 R0.out.lt
   obtain ⟨x1, x2, x3, rfl, o1, o2, o3⟩ := hO3
   obtain ⟨A1, m1, k1, rfl⟩ := o1.shape
   obtain ⟨A2, m2, k2, rfl⟩ := o2.shape
   obtain ⟨A3, m3, k3, rfl⟩ := o3.shape
   have hz : w.heap.size + 1 + 1 < W.heap.size := R0.out.lt
   have hm : w.heap.size ≤ W.heap.size := B0.out.size
   have HP1 : Hid (Owns (((((w3.setCell ⟨w.heap.size, 0, none⟩ (.int .i64 d.room)).setCell ⟨w.heap.size, 1, none⟩ (.int .i64 d.next)).setCell ⟨w.heap.size, 2, none⟩ (.slice A1 m1 k1)).setCell ⟨w.heap.size, 3, none⟩ (.slice A2 m2 k2)).setCell ⟨w.heap.size, 4, none⟩ (.slice A3 m3 k3)) W.heap.size 47 3 (.slice A1 m1 k1) (nodR d.nods)) := (((((o1.other (o1.below (show w.heap.size < W.heap.size by omega)) 0 (.int .i64 d.room)).other (o1.below (show w.heap.size < W.heap.size by omega)) 1 (.int .i64 d.next)).other (o1.below (show w.heap.size < W.heap.size by omega)) 2 (.slice A1 m1 k1)).other (o1.below (show w.heap.size < W.heap.size by omega)) 3 (.slice A2 m2 k2)).other (o1.below (show w.heap.size < W.heap.size by omega)) 4 (.slice A3 m3 k3))
   have HP2 : Hid (Owns (((((w3.setCell ⟨w.heap.size, 0, none⟩ (.int .i64 d.room)).setCell ⟨w.heap.size, 1, none⟩ (.int .i64 d.next)).setCell ⟨w.heap.size, 2, none⟩ (.slice A1 m1 k1)).setCell ⟨w.heap.size, 3, none⟩ (.slice A2 m2 k2)).setCell ⟨w.heap.size, 4, none⟩ (.slice A3 m3 k3)) W.heap.size 49 2 (.slice A2 m2 k2) (lnkR d.dir)) := (((((o2.other (o2.below (show w.heap.size < W.heap.size by omega)) 0 (.int .i64 d.room)).other (o2.below (show w.heap.size < W.heap.size by omega)) 1 (.int .i64 d.next)).other (o2.below (show w.heap.size < W.heap.size by omega)) 2 (.slice A1 m1 k1)).other (o2.below (show w.heap.size < W.heap.size by omega)) 3 (.slice A2 m2 k2)).other (o2.below (show w.heap.size < W.heap.size by omega)) 4 (.slice A3 m3 k3))
   have HP3 : Hid (Owns (((((w3.setCell ⟨w.heap.size, 0, none⟩ (.int .i64 d.room)).setCell ⟨w.heap.size, 1, none⟩ (.int .i64 d.next)).setCell ⟨w.heap.size, 2, none⟩ (.slice A1 m1 k1)).setCell ⟨w.heap.size, 3, none⟩ (.slice A2 m2 k2)).setCell ⟨w.heap.size, 4, none⟩ (.slice A3 m3 k3)) W.heap.size 51 4 (.slice A3 m3 k3) (movR d.movs)) := (((((o3.other (o3.below (show w.heap.size < W.heap.size by omega)) 0 (.int .i64 d.room)).other (o3.below (show w.heap.size < W.heap.size by omega)) 1 (.int .i64 d.next)).other (o3.below (show w.heap.size < W.heap.size by omega)) 2 (.slice A1 m1 k1)).other (o3.below (show w.heap.size < W.heap.size by omega)) 3 (.slice A2 m2 k2)).other (o3.below (show w.heap.size < W.heap.size by omega)) 4 (.slice A3 m3 k3))
   have HPB : Hid (Below w.heap.size w (((((w3.setCell ⟨w.heap.size, 0, none⟩ (.int .i64 d.room)).setCell ⟨w.heap.size, 1, none⟩ (.int .i64 d.next)).setCell ⟨w.heap.size, 2, none⟩ (.slice A1 m1 k1)).setCell ⟨w.heap.size, 3, none⟩ (.slice A2 m2 k2)).setCell ⟨w.heap.size, 4, none⟩ (.slice A3 m3 k3))) := (((((B3.out.setCell (Nat.le_refl _) (.int .i64 d.room) (p := ⟨_, 0, none⟩)).setCell (Nat.le_refl _) (.int .i64 d.next) (p := ⟨_, 1, none⟩)).setCell (Nat.le_refl _) (.slice A1 m1 k1) (p := ⟨_, 2, none⟩)).setCell (Nat.le_refl _) (.slice A2 m2 k2) (p := ⟨_, 3, none⟩)).setCell (Nat.le_refl _) (.slice A3 m3 k3) (p := ⟨_, 4, none⟩))
   have HPK : Hid (Blk (((((w3.setCell ⟨w.heap.size, 0, none⟩ (.int .i64 d.room)).setCell ⟨w.heap.size, 1, none⟩ (.int .i64 d.next)).setCell ⟨w.heap.size, 2, none⟩ (.slice A1 m1 k1)).setCell ⟨w.heap.size, 3, none⟩ (.slice A2 m2 k2)).setCell ⟨w.heap.size, 4, none⟩ (.slice A3 m3 k3)) w.heap.size #[.int .i64 d.room, .int .i64 d.next, .slice A1 m1 k1, .slice A2 m2 k2, .slice A3 m3 k3] 28) := (((((K3.out.set 0 (.int .i64 d.room)).set 1 (.int .i64 d.next)).set 2 (.slice A1 m1 k1)).set 3 (.slice A2 m2 k2)).set 4 (.slice A3 m3 k3))
   have HPM : Hid (Blk (((((w3.setCell ⟨w.heap.size, 0, none⟩ (.int .i64 d.room)).setCell ⟨w.heap.size, 1, none⟩ (.int .i64 d.next)).setCell ⟨w.heap.size, 2, none⟩ (.slice A1 m1 k1)).setCell ⟨w.heap.size, 3, none⟩ (.slice A2 m2 k2)).setCell ⟨w.heap.size, 4, none⟩ (.slice A3 m3 k3)) (w.heap.size + 1) #[.int .i64 mk, .string mn, .string mt, .int .i64 mi] 51) := (((((M3.out.other (show w.heap.size + 1 ≠ w.heap.size by omega) 0 (.int .i64 d.room)).other (show w.heap.size + 1 ≠ w.heap.size by omega) 1 (.int .i64 d.next)).other (show w.heap.size + 1 ≠ w.heap.size by omega) 2 (.slice A1 m1 k1)).other (show w.heap.size + 1 ≠ w.heap.size by omega) 3 (.slice A2 m2 k2)).other (show w.heap.size + 1 ≠ w.heap.size by omega) 4 (.slice A3 m3 k3))
   have HPR : Hid (Blk (((((w3.setCell ⟨w.heap.size, 0, none⟩ (.int .i64 d.room)).setCell ⟨w.heap.size, 1, none⟩ (.int .i64 d.next)).setCell ⟨w.heap.size, 2, none⟩ (.slice A1 m1 k1)).setCell ⟨w.heap.size, 3, none⟩ (.slice A2 m2 k2)).setCell ⟨w.heap.size, 4, none⟩ (.slice A3 m3 k3)) (w.heap.size + 1 + 1) #[.int .i64 0, .int .i64 0, .slice none 0 0, .slice none 0 0, .slice none 0 0] 28) := (((((R3.out.other (show w.heap.size + 1 + 1 ≠ w.heap.size by omega) 0 (.int .i64 d.room)).other (show w.heap.size + 1 + 1 ≠ w.heap.size by omega) 1 (.int .i64 d.next)).other (show w.heap.size + 1 + 1 ≠ w.heap.size by omega) 2 (.slice A1 m1 k1)).other (show w.heap.size + 1 + 1 ≠ w.heap.size by omega) 3 (.slice A2 m2 k2)).other (show w.heap.size + 1 + 1 ≠ w.heap.size by omega) 4 (.slice A3 m3 k3))
   clear hb3 o1 o2 o3
   have e0 := K3.out.cell 0 _ rfl
   have t0 := K3.out.free 0
   have e1 := K3.out.cell 1 _ rfl
   have t1 := K3.out.free 1
   have e2 := K3.out.cell 2 _ rfl
   have t2 := K3.out.free 2
   have e3 := K3.out.cell 3 _ rfl
   have t3 := K3.out.free 3
   have e4 := K3.out.cell 4 _ rfl
   have t4 := K3.out.free 4
   have r0 := HPK.out.cell 0 _ rfl
   have r1 := HPK.out.cell 1 _ rfl
   have r2 := HPK.out.cell 2 _ rfl
   have r3 := HPK.out.cell 3 _ rfl
   have r4 := HPK.out.cell 4 _ rfl
   have g0 := HPR.out.cell 0 _ rfl
   have f0 := HPR.out.free 0
   have g1 := HPR.out.cell 1 _ rfl
   have f1 := HPR.out.free 1
   have g2 := HPR.out.cell 2 _ rfl
   have f2 := HPR.out.free 2
   have g3 := HPR.out.cell 3 _ rfl
   have f3 := HPR.out.free 3
   have g4 := HPR.out.cell 4 _ rfl
   have f4 := HPR.out.free 4
   go_wp2_with fail
   have hB := HPB.out
   have hg : w.heap.size ≤ w.heap.size + 1 + 1 := by omega
   clear r0 e0 t0 r1 e1 t1 r2 e2 t2 r3 e3 t3 r4 e4 t4
   have FB := (((((hB.setCell hg (.int .i64 d.room) (p := ⟨_, 0, none⟩)).setCell hg (.int .i64 d.next) (p := ⟨_, 1, none⟩)).setCell hg (.slice A1 m1 k1) (p := ⟨_, 2, none⟩)).setCell hg (.slice A2 m2 k2) (p := ⟨_, 3, none⟩)).setCell hg (.slice A3 m3 k3) (p := ⟨_, 4, none⟩))
   have hF := (((((HPR.out.set 0 (.int .i64 d.room)).set 1 (.int .i64 d.next)).set 2 (.slice A1 m1 k1)).set 3 (.slice A2 m2 k2)).set 4 (.slice A3 m3 k3))
   have mm0 := HP1.out.notBlk HPR.out (by decide)
   have F0 := (((((HP1.out.other mm0 0 (.int .i64 d.room)).other mm0 1 (.int .i64 d.next)).other mm0 2 (.slice A1 m1 k1)).other mm0 3 (.slice A2 m2 k2)).other mm0 4 (.slice A3 m3 k3))
   have mm1 := HP2.out.notBlk HPR.out (by decide)
   have F1 := (((((HP2.out.other mm1 0 (.int .i64 d.room)).other mm1 1 (.int .i64 d.next)).other mm1 2 (.slice A1 m1 k1)).other mm1 3 (.slice A2 m2 k2)).other mm1 4 (.slice A3 m3 k3))
   have mm2 := HP3.out.notBlk HPR.out (by decide)
   have F2 := (((((HP3.out.other mm2 0 (.int .i64 d.room)).other mm2 1 (.int .i64 d.next)).other mm2 2 (.slice A1 m1 k1)).other mm2 3 (.slice A2 m2 k2)).other mm2 4 (.slice A3 m3 k3))
   clear g0 f0 g1 f1 g2 f2 g3 f3 g4 f4
   generalize ((((((((((w3.setCell ⟨w.heap.size, 0, none⟩ (.int .i64 d.room)).setCell ⟨w.heap.size, 1, none⟩ (.int .i64 d.next)).setCell ⟨w.heap.size, 2, none⟩ (.slice A1 m1 k1)).setCell ⟨w.heap.size, 3, none⟩ (.slice A2 m2 k2)).setCell ⟨w.heap.size, 4, none⟩ (.slice A3 m3 k3)).setCell ⟨w.heap.size + 1 + 1, 0, none⟩ (.int .i64 d.room)).setCell ⟨w.heap.size + 1 + 1, 1, none⟩ (.int .i64 d.next)).setCell ⟨w.heap.size + 1 + 1, 2, none⟩ (.slice A1 m1 k1)).setCell ⟨w.heap.size + 1 + 1, 3, none⟩ (.slice A2 m2 k2)).setCell ⟨w.heap.size + 1 + 1, 4, none⟩ (.slice A3 m3 k3)) = WF at *
   have hG : Blk WF (w.heap.size + 1 + 1) #[.int .i64 d.room, .int .i64 d.next, .slice A1 m1 k1, .slice A2 m2 k2, .slice A3 m3 k3] 28 := hF
   have l0 := hG.cell 0 (.int .i64 d.room) rfl
   have l1 := hG.cell 1 (.int .i64 d.next) rfl
   have l2 := hG.cell 2 (.slice A1 m1 k1) rfl
   have l3 := hG.cell 3 (.slice A2 m2 k2) rfl
   have l4 := hG.cell 4 (.slice A3 m3 k3) rfl
   exact bodyPost_ret (v := .tuple #[.agg #[.int .i64 d.room, .int .i64 d.next, .slice A1 m1 k1, .slice A2 m2 k2, .slice A3 m3 k3], .int .i64 4]) (by simp [results, go_sem, l0, l1, l2, l3, l4]) rfl (by rw [hRR.out]; exact ⟨_, rfl, ⟨_, _, _, rfl, F0.mono hm, F1.mono hm, F2.mono hm⟩, FB⟩)
  ·have t1 : decide ((20 : Int) ≤ (d.movs.length : Int)) = false := decide_eq_false (by omega)
   have hRR : Hid (movedC d ⟨mk, mn, mt, mi⟩ 0 = (⟨d.room, d.next, d.nods, d.dir, d.movs ++ [⟨mk, mn, mt, mi⟩]⟩, 0)) := by unfold Hid; rw [movedC_yes, movedD_room hfull]
   clear hfull
   go_enter Tryz.func98, Tryz.ntmps98
   go_upto_region 3 with fail
   clear y4
   generalize ((w.alloc (.cells #[.int .i64 d.room, .int .i64 d.next, v1, v2, .slice A0 d.movs.length c0] 28)).alloc (.cells #[.int .i64 mk, .string mn, .string mt, .int .i64 mi] 51)).alloc (.cells #[.int .i64 0, .int .i64 0, .slice none 0 0, .slice none 0 0, .slice none 0 0] 28) = W at *
   have B0 : Hid (Below w.heap.size w W) := hb1
   have K0 : Hid (Blk W w.heap.size #[.int .i64 d.room, .int .i64 d.next, v1, v2, .slice A0 d.movs.length c0] 28) := bA
   have M0 : Hid (Blk W (w.heap.size + 1) #[.int .i64 mk, .string mn, .string mt, .int .i64 mi] 51) := bM
   have R0 : Hid (Blk W (w.heap.size + 1 + 1) #[.int .i64 0, .int .i64 0, .slice none 0 0, .slice none 0 0, .slice none 0 0] 28) := bR
   clear hb1 bA bM bR
   have y0 := K0.out.cell 0 _ rfl
   have y1 := K0.out.cell 1 _ rfl
   have y2 := K0.out.cell 2 _ rfl
   have y3 := K0.out.cell 3 _ rfl
   have y4 := K0.out.cell 4 _ rfl
   go_wp2_with fail
   refine (copyV d (.agg #[.int .i64 d.room, .int .i64 d.next, v1, v2, .slice A0 d.movs.length c0]) W B (HV.out.on (B0.out.mono HB.out)) L1.out L2.out L3.out (Nat.le_trans HB.out B0.out.size)).mono ?_
   rintro e w3 ⟨x, rfl, hO3, hb3⟩
   clear y0 y1 y2 y3 y4
   have hsz3 : Hid (W.heap.size ≤ w3.heap.size) := hb3.size
   have B3 : Hid (Below w.heap.size w w3) := B0.out.trans (hb3.mono B0.out.size)
   have K3 : Hid (Blk w3 w.heap.size #[.int .i64 d.room, .int .i64 d.next, v1, v2, .slice A0 d.movs.length c0] 28) := K0.out.on hb3 K0.out.lt
   have M3 : Hid (Blk w3 (w.heap.size + 1) #[.int .i64 mk, .string mn, .string mt, .int .i64 mi] 51) := M0.out.on hb3 M0.out.lt
   have R3 : Hid (Blk w3 (w.heap.size + 1 + 1) #[.int .i64 0, .int .i64 0, .slice none 0 0, .slice none 0 0, .slice none 0 0] 28) := R0.out.on hb3 R0.out.lt
   obtain ⟨x1, x2, x3, rfl, o1, o2, o3⟩ := hO3
   obtain ⟨A1, m1, k1, rfl⟩ := o1.shape
   obtain ⟨A2, m2, k2, rfl⟩ := o2.shape
   obtain ⟨A3, m3, k3, rfl⟩ := o3.shape
   have hz : w.heap.size + 1 + 1 < W.heap.size := R0.out.lt
   have hm : w.heap.size ≤ W.heap.size := B0.out.size
   have HP1 : Hid (Owns (((((w3.setCell ⟨w.heap.size, 0, none⟩ (.int .i64 d.room)).setCell ⟨w.heap.size, 1, none⟩ (.int .i64 d.next)).setCell ⟨w.heap.size, 2, none⟩ (.slice A1 m1 k1)).setCell ⟨w.heap.size, 3, none⟩ (.slice A2 m2 k2)).setCell ⟨w.heap.size, 4, none⟩ (.slice A3 m3 k3)) W.heap.size 47 3 (.slice A1 m1 k1) (nodR d.nods)) := (((((o1.other (o1.below (show w.heap.size < W.heap.size by omega)) 0 (.int .i64 d.room)).other (o1.below (show w.heap.size < W.heap.size by omega)) 1 (.int .i64 d.next)).other (o1.below (show w.heap.size < W.heap.size by omega)) 2 (.slice A1 m1 k1)).other (o1.below (show w.heap.size < W.heap.size by omega)) 3 (.slice A2 m2 k2)).other (o1.below (show w.heap.size < W.heap.size by omega)) 4 (.slice A3 m3 k3))
   have HP2 : Hid (Owns (((((w3.setCell ⟨w.heap.size, 0, none⟩ (.int .i64 d.room)).setCell ⟨w.heap.size, 1, none⟩ (.int .i64 d.next)).setCell ⟨w.heap.size, 2, none⟩ (.slice A1 m1 k1)).setCell ⟨w.heap.size, 3, none⟩ (.slice A2 m2 k2)).setCell ⟨w.heap.size, 4, none⟩ (.slice A3 m3 k3)) W.heap.size 49 2 (.slice A2 m2 k2) (lnkR d.dir)) := (((((o2.other (o2.below (show w.heap.size < W.heap.size by omega)) 0 (.int .i64 d.room)).other (o2.below (show w.heap.size < W.heap.size by omega)) 1 (.int .i64 d.next)).other (o2.below (show w.heap.size < W.heap.size by omega)) 2 (.slice A1 m1 k1)).other (o2.below (show w.heap.size < W.heap.size by omega)) 3 (.slice A2 m2 k2)).other (o2.below (show w.heap.size < W.heap.size by omega)) 4 (.slice A3 m3 k3))
   have HP3 : Hid (Owns (((((w3.setCell ⟨w.heap.size, 0, none⟩ (.int .i64 d.room)).setCell ⟨w.heap.size, 1, none⟩ (.int .i64 d.next)).setCell ⟨w.heap.size, 2, none⟩ (.slice A1 m1 k1)).setCell ⟨w.heap.size, 3, none⟩ (.slice A2 m2 k2)).setCell ⟨w.heap.size, 4, none⟩ (.slice A3 m3 k3)) W.heap.size 51 4 (.slice A3 m3 k3) (movR d.movs)) := (((((o3.other (o3.below (show w.heap.size < W.heap.size by omega)) 0 (.int .i64 d.room)).other (o3.below (show w.heap.size < W.heap.size by omega)) 1 (.int .i64 d.next)).other (o3.below (show w.heap.size < W.heap.size by omega)) 2 (.slice A1 m1 k1)).other (o3.below (show w.heap.size < W.heap.size by omega)) 3 (.slice A2 m2 k2)).other (o3.below (show w.heap.size < W.heap.size by omega)) 4 (.slice A3 m3 k3))
   have HPB : Hid (Below w.heap.size w (((((w3.setCell ⟨w.heap.size, 0, none⟩ (.int .i64 d.room)).setCell ⟨w.heap.size, 1, none⟩ (.int .i64 d.next)).setCell ⟨w.heap.size, 2, none⟩ (.slice A1 m1 k1)).setCell ⟨w.heap.size, 3, none⟩ (.slice A2 m2 k2)).setCell ⟨w.heap.size, 4, none⟩ (.slice A3 m3 k3))) := (((((B3.out.setCell (Nat.le_refl _) (.int .i64 d.room) (p := ⟨_, 0, none⟩)).setCell (Nat.le_refl _) (.int .i64 d.next) (p := ⟨_, 1, none⟩)).setCell (Nat.le_refl _) (.slice A1 m1 k1) (p := ⟨_, 2, none⟩)).setCell (Nat.le_refl _) (.slice A2 m2 k2) (p := ⟨_, 3, none⟩)).setCell (Nat.le_refl _) (.slice A3 m3 k3) (p := ⟨_, 4, none⟩))
   have HPK : Hid (Blk (((((w3.setCell ⟨w.heap.size, 0, none⟩ (.int .i64 d.room)).setCell ⟨w.heap.size, 1, none⟩ (.int .i64 d.next)).setCell ⟨w.heap.size, 2, none⟩ (.slice A1 m1 k1)).setCell ⟨w.heap.size, 3, none⟩ (.slice A2 m2 k2)).setCell ⟨w.heap.size, 4, none⟩ (.slice A3 m3 k3)) w.heap.size #[.int .i64 d.room, .int .i64 d.next, .slice A1 m1 k1, .slice A2 m2 k2, .slice A3 m3 k3] 28) := (((((K3.out.set 0 (.int .i64 d.room)).set 1 (.int .i64 d.next)).set 2 (.slice A1 m1 k1)).set 3 (.slice A2 m2 k2)).set 4 (.slice A3 m3 k3))
   have HPM : Hid (Blk (((((w3.setCell ⟨w.heap.size, 0, none⟩ (.int .i64 d.room)).setCell ⟨w.heap.size, 1, none⟩ (.int .i64 d.next)).setCell ⟨w.heap.size, 2, none⟩ (.slice A1 m1 k1)).setCell ⟨w.heap.size, 3, none⟩ (.slice A2 m2 k2)).setCell ⟨w.heap.size, 4, none⟩ (.slice A3 m3 k3)) (w.heap.size + 1) #[.int .i64 mk, .string mn, .string mt, .int .i64 mi] 51) := (((((M3.out.other (show w.heap.size + 1 ≠ w.heap.size by omega) 0 (.int .i64 d.room)).other (show w.heap.size + 1 ≠ w.heap.size by omega) 1 (.int .i64 d.next)).other (show w.heap.size + 1 ≠ w.heap.size by omega) 2 (.slice A1 m1 k1)).other (show w.heap.size + 1 ≠ w.heap.size by omega) 3 (.slice A2 m2 k2)).other (show w.heap.size + 1 ≠ w.heap.size by omega) 4 (.slice A3 m3 k3))
   have HPR : Hid (Blk (((((w3.setCell ⟨w.heap.size, 0, none⟩ (.int .i64 d.room)).setCell ⟨w.heap.size, 1, none⟩ (.int .i64 d.next)).setCell ⟨w.heap.size, 2, none⟩ (.slice A1 m1 k1)).setCell ⟨w.heap.size, 3, none⟩ (.slice A2 m2 k2)).setCell ⟨w.heap.size, 4, none⟩ (.slice A3 m3 k3)) (w.heap.size + 1 + 1) #[.int .i64 0, .int .i64 0, .slice none 0 0, .slice none 0 0, .slice none 0 0] 28) := (((((R3.out.other (show w.heap.size + 1 + 1 ≠ w.heap.size by omega) 0 (.int .i64 d.room)).other (show w.heap.size + 1 + 1 ≠ w.heap.size by omega) 1 (.int .i64 d.next)).other (show w.heap.size + 1 + 1 ≠ w.heap.size by omega) 2 (.slice A1 m1 k1)).other (show w.heap.size + 1 + 1 ≠ w.heap.size by omega) 3 (.slice A2 m2 k2)).other (show w.heap.size + 1 + 1 ≠ w.heap.size by omega) 4 (.slice A3 m3 k3))
   clear hb3 o1 o2 o3
   have e0 := K3.out.cell 0 _ rfl
   have t0 := K3.out.free 0
   have e1 := K3.out.cell 1 _ rfl
   have t1 := K3.out.free 1
   have e2 := K3.out.cell 2 _ rfl
   have t2 := K3.out.free 2
   have e3 := K3.out.cell 3 _ rfl
   have t3 := K3.out.free 3
   have e4 := K3.out.cell 4 _ rfl
   have t4 := K3.out.free 4
   have r4 := HPK.out.cell 4 _ rfl
   have n0 := HPM.out.cell 0 _ rfl
   have n1 := HPM.out.cell 1 _ rfl
   have n2 := HPM.out.cell 2 _ rfl
   have n3 := HPM.out.cell 3 _ rfl
   have hzz : W.heap.size ≤ ((((((w3.setCell ⟨w.heap.size, 0, none⟩ (.int .i64 d.room)).setCell ⟨w.heap.size, 1, none⟩ (.int .i64 d.next)).setCell ⟨w.heap.size, 2, none⟩ (.slice A1 m1 k1)).setCell ⟨w.heap.size, 3, none⟩ (.slice A2 m2 k2)).setCell ⟨w.heap.size, 4, none⟩ (.slice A3 m3 k3))).heap.size := by simp only [World.size_setCell]; exact hsz3.out
   have hYs : ((((((w3.setCell ⟨w.heap.size, 0, none⟩ (.int .i64 d.room)).setCell ⟨w.heap.size, 1, none⟩ (.int .i64 d.next)).setCell ⟨w.heap.size, 2, none⟩ (.slice A1 m1 k1)).setCell ⟨w.heap.size, 3, none⟩ (.slice A2 m2 k2)).setCell ⟨w.heap.size, 4, none⟩ (.slice A3 m3 k3))).heap.size = w3.heap.size := by simp only [World.size_setCell]
   go_wp2_with (at_builtin; refine Shut.out ?_)
   clear r4 n0 n1 n2 n3 e0 t0 e1 t1 e2 t2 e3 t3 e4 t4
   generalize (((((w3.setCell ⟨w.heap.size, 0, none⟩ (.int .i64 d.room)).setCell ⟨w.heap.size, 1, none⟩ (.int .i64 d.next)).setCell ⟨w.heap.size, 2, none⟩ (.slice A1 m1 k1)).setCell ⟨w.heap.size, 3, none⟩ (.slice A2 m2 k2)).setCell ⟨w.heap.size, 4, none⟩ (.slice A3 m3 k3)) = Y at *
   unfold Shut
   refine wpList_append_row (w := Y) rfl (.tmp 21) (.tmp 23) 26 51 (.agg #[.int .i64 0, .string ⟨#[]⟩, .string ⟨#[]⟩, .int .i64 0]) 4 48 rfl Tryz.underlying26 Tryz.infoMov rfl (by omega) W.heap.size (.slice A3 m3 k3) (movR d.movs) rfl HP3.out [.int .i64 mk, .string mn, .string mt, .int .i64 mi] rfl (by intro y hy; simp at hy; rcases hy with rfl | rfl | rfl | rfl <;> rfl) (by rw [hYs]; rfl) (by rw [movR_length]; have := L3.out; omega) (by omega) hzz ?_
   intro v' w5 hO5 hb5 hk5 _
   obtain ⟨nA, nm, nc, rfl⟩ := hO5.shape
   have Q1 : Hid (Owns w5 W.heap.size 47 3 (.slice A1 m1 k1) (nodR d.nods)) := HP1.out.kept fun g hg ho => hk5 g hg (HP1.out.apart HP3.out (by decide) g ho)
   have Q2 : Hid (Owns w5 W.heap.size 49 2 (.slice A2 m2 k2) (lnkR d.dir)) := HP2.out.kept fun g hg ho => hk5 g hg (HP2.out.apart HP3.out (by decide) g ho)
   have Q3 : Hid (Owns w5 W.heap.size 51 4 (.slice nA nm nc) (movR d.movs ++ [[.int .i64 mk, .string mn, .string mt, .int .i64 mi]])) := hO5
   have QB : Hid (Below w.heap.size w w5) := HPB.out.trans (hb5.mono hm)
   have QK : Hid (Blk w5 w.heap.size #[.int .i64 d.room, .int .i64 d.next, .slice A1 m1 k1, .slice A2 m2 k2, .slice A3 m3 k3] 28) := HPK.out.on hb5 (by omega)
   have QR : Hid (Blk w5 (w.heap.size + 1 + 1) #[.int .i64 0, .int .i64 0, .slice none 0 0, .slice none 0 0, .slice none 0 0] 28) := HPR.out.on hb5 hz
   have y4 := QK.out.cell 4 _ rfl
   have z4 := QK.out.free 4
   have kk : Blk (w5.setCell ⟨w.heap.size, 4, none⟩ (.slice nA nm nc)) w.heap.size #[.int .i64 d.room, .int .i64 d.next, .slice A1 m1 k1, .slice A2 m2 k2, .slice nA nm nc] 28 := QK.out.set 4 _
   have rr : Blk (w5.setCell ⟨w.heap.size, 4, none⟩ (.slice nA nm nc)) (w.heap.size + 1 + 1) #[.int .i64 0, .int .i64 0, .slice none 0 0, .slice none 0 0, .slice none 0 0] 28 := QR.out.other (by omega) _ _
   have KK : Hid (Blk (w5.setCell ⟨w.heap.size, 4, none⟩ (.slice nA nm nc)) w.heap.size #[.int .i64 d.room, .int .i64 d.next, .slice A1 m1 k1, .slice A2 m2 k2, .slice nA nm nc] 28) := kk
   have RRx : Hid (Blk (w5.setCell ⟨w.heap.size, 4, none⟩ (.slice nA nm nc)) (w.heap.size + 1 + 1) #[.int .i64 0, .int .i64 0, .slice none 0 0, .slice none 0 0, .slice none 0 0] 28) := rr
   have F1 : Hid (Owns (w5.setCell ⟨w.heap.size, 4, none⟩ (.slice nA nm nc)) W.heap.size 47 3 (.slice A1 m1 k1) (nodR d.nods)) := Q1.out.other (Q1.out.below (by omega)) _ _
   have F2 : Hid (Owns (w5.setCell ⟨w.heap.size, 4, none⟩ (.slice nA nm nc)) W.heap.size 49 2 (.slice A2 m2 k2) (lnkR d.dir)) := Q2.out.other (Q2.out.below (by omega)) _ _
   have F3 : Hid (Owns (w5.setCell ⟨w.heap.size, 4, none⟩ (.slice nA nm nc)) W.heap.size 51 4 (.slice nA nm nc) (movR d.movs ++ [[.int .i64 mk, .string mn, .string mt, .int .i64 mi]])) := Q3.out.other (Q3.out.below (by omega)) _ _
   have FBx : Hid (Below w.heap.size w (w5.setCell ⟨w.heap.size, 4, none⟩ (.slice nA nm nc))) := QB.out.setCell (p := ⟨w.heap.size, 4, none⟩) (Nat.le_refl _) _
   clear hO5 hb5 hk5 kk rr Q1 Q2 Q3 QB QK QR HP1 HP2 HP3 HPB HPK HPM HPR
   have r0 := KK.out.cell 0 _ rfl
   have r1 := KK.out.cell 1 _ rfl
   have r2 := KK.out.cell 2 _ rfl
   have r3 := KK.out.cell 3 _ rfl
   have r4 := KK.out.cell 4 _ rfl
   have g0 := RRx.out.cell 0 _ rfl
   have f0 := RRx.out.free 0
   have g1 := RRx.out.cell 1 _ rfl
   have f1 := RRx.out.free 1
   have g2 := RRx.out.cell 2 _ rfl
   have f2 := RRx.out.free 2
   have g3 := RRx.out.cell 3 _ rfl
   have f3 := RRx.out.free 3
   have g4 := RRx.out.cell 4 _ rfl
   have f4 := RRx.out.free 4
   go_wp2_with fail
   have hB := FBx.out
   have hg : w.heap.size ≤ w.heap.size + 1 + 1 := by omega
   clear y4 z4 r0 r1 r2 r3 r4
   have e1 : movR (d.movs ++ [⟨mk, mn, mt, mi⟩]) = movR d.movs ++ [[.int .i64 mk, .string mn, .string mt, .int .i64 mi]] := by unfold movR; rw [List.map_append]; rfl
   have F3' : Hid (Owns (w5.setCell ⟨w.heap.size, 4, none⟩ (.slice nA nm nc)) W.heap.size 51 4 (.slice nA nm nc) (movR (d.movs ++ [⟨mk, mn, mt, mi⟩]))) := by unfold Hid; rw [e1]; exact F3.out
   have FB := (((((hB.setCell hg (.int .i64 d.room) (p := ⟨_, 0, none⟩)).setCell hg (.int .i64 d.next) (p := ⟨_, 1, none⟩)).setCell hg (.slice A1 m1 k1) (p := ⟨_, 2, none⟩)).setCell hg (.slice A2 m2 k2) (p := ⟨_, 3, none⟩)).setCell hg (.slice nA nm nc) (p := ⟨_, 4, none⟩))
   have hF := (((((RRx.out.set 0 (.int .i64 d.room)).set 1 (.int .i64 d.next)).set 2 (.slice A1 m1 k1)).set 3 (.slice A2 m2 k2)).set 4 (.slice nA nm nc))
   have mm0 := F1.out.notBlk RRx.out (by decide)
   have F0 := (((((F1.out.other mm0 0 (.int .i64 d.room)).other mm0 1 (.int .i64 d.next)).other mm0 2 (.slice A1 m1 k1)).other mm0 3 (.slice A2 m2 k2)).other mm0 4 (.slice nA nm nc))
   have mm1 := F2.out.notBlk RRx.out (by decide)
   have F1 := (((((F2.out.other mm1 0 (.int .i64 d.room)).other mm1 1 (.int .i64 d.next)).other mm1 2 (.slice A1 m1 k1)).other mm1 3 (.slice A2 m2 k2)).other mm1 4 (.slice nA nm nc))
   have mm2 := F3'.out.notBlk RRx.out (by decide)
   have F2 := (((((F3'.out.other mm2 0 (.int .i64 d.room)).other mm2 1 (.int .i64 d.next)).other mm2 2 (.slice A1 m1 k1)).other mm2 3 (.slice A2 m2 k2)).other mm2 4 (.slice nA nm nc))
   clear g0 f0 g1 f1 g2 f2 g3 f3 g4 f4
   generalize ((((((w5.setCell ⟨w.heap.size, 4, none⟩ (.slice nA nm nc)).setCell ⟨w.heap.size + 1 + 1, 0, none⟩ (.int .i64 d.room)).setCell ⟨w.heap.size + 1 + 1, 1, none⟩ (.int .i64 d.next)).setCell ⟨w.heap.size + 1 + 1, 2, none⟩ (.slice A1 m1 k1)).setCell ⟨w.heap.size + 1 + 1, 3, none⟩ (.slice A2 m2 k2)).setCell ⟨w.heap.size + 1 + 1, 4, none⟩ (.slice nA nm nc)) = WF at *
   have hG : Blk WF (w.heap.size + 1 + 1) #[.int .i64 d.room, .int .i64 d.next, .slice A1 m1 k1, .slice A2 m2 k2, .slice nA nm nc] 28 := hF
   have l0 := hG.cell 0 (.int .i64 d.room) rfl
   have l1 := hG.cell 1 (.int .i64 d.next) rfl
   have l2 := hG.cell 2 (.slice A1 m1 k1) rfl
   have l3 := hG.cell 3 (.slice A2 m2 k2) rfl
   have l4 := hG.cell 4 (.slice nA nm nc) rfl
   exact bodyPost_ret (v := .tuple #[.agg #[.int .i64 d.room, .int .i64 d.next, .slice A1 m1 k1, .slice A2 m2 k2, .slice nA nm nc], .int .i64 0]) (by simp [results, go_sem, l0, l1, l2, l3, l4]) rfl (by rw [hRR.out]; exact ⟨_, rfl, ⟨_, _, _, rfl, F0.mono hm, F1.mono hm, F2.mono hm⟩, FB⟩)
 ·have t1 : (code == 0) = false := by simpa using hc
  have hRR : Hid (movedC d ⟨mk, mn, mt, mi⟩ code = (d, code)) := movedC_no hc
  clear hc
  go_enter Tryz.func98, Tryz.ntmps98
  go_upto_region 3 with fail
  clear y4
  generalize ((w.alloc (.cells #[.int .i64 d.room, .int .i64 d.next, v1, v2, .slice A0 d.movs.length c0] 28)).alloc (.cells #[.int .i64 mk, .string mn, .string mt, .int .i64 mi] 51)).alloc (.cells #[.int .i64 0, .int .i64 0, .slice none 0 0, .slice none 0 0, .slice none 0 0] 28) = W at *
  have B0 : Hid (Below w.heap.size w W) := hb1
  have K0 : Hid (Blk W w.heap.size #[.int .i64 d.room, .int .i64 d.next, v1, v2, .slice A0 d.movs.length c0] 28) := bA
  have M0 : Hid (Blk W (w.heap.size + 1) #[.int .i64 mk, .string mn, .string mt, .int .i64 mi] 51) := bM
  have R0 : Hid (Blk W (w.heap.size + 1 + 1) #[.int .i64 0, .int .i64 0, .slice none 0 0, .slice none 0 0, .slice none 0 0] 28) := bR
  clear hb1 bA bM bR
  have y0 := K0.out.cell 0 _ rfl
  have y1 := K0.out.cell 1 _ rfl
  have y2 := K0.out.cell 2 _ rfl
  have y3 := K0.out.cell 3 _ rfl
  have y4 := K0.out.cell 4 _ rfl
  go_wp2_with fail
  refine (copyV d (.agg #[.int .i64 d.room, .int .i64 d.next, v1, v2, .slice A0 d.movs.length c0]) W B (HV.out.on (B0.out.mono HB.out)) L1.out L2.out L3.out (Nat.le_trans HB.out B0.out.size)).mono ?_
  rintro e w3 ⟨x, rfl, hO3, hb3⟩
  clear y0 y1 y2 y3 y4
  have hsz3 : Hid (W.heap.size ≤ w3.heap.size) := hb3.size
  have B3 : Hid (Below w.heap.size w w3) := B0.out.trans (hb3.mono B0.out.size)
  have K3 : Hid (Blk w3 w.heap.size #[.int .i64 d.room, .int .i64 d.next, v1, v2, .slice A0 d.movs.length c0] 28) := K0.out.on hb3 K0.out.lt
  have M3 : Hid (Blk w3 (w.heap.size + 1) #[.int .i64 mk, .string mn, .string mt, .int .i64 mi] 51) := M0.out.on hb3 M0.out.lt
  have R3 : Hid (Blk w3 (w.heap.size + 1 + 1) #[.int .i64 0, .int .i64 0, .slice none 0 0, .slice none 0 0, .slice none 0 0] 28) := R0.out.on hb3 R0.out.lt
  obtain ⟨x1, x2, x3, rfl, o1, o2, o3⟩ := hO3
  obtain ⟨A1, m1, k1, rfl⟩ := o1.shape
  obtain ⟨A2, m2, k2, rfl⟩ := o2.shape
  obtain ⟨A3, m3, k3, rfl⟩ := o3.shape
  have hz : w.heap.size + 1 + 1 < W.heap.size := R0.out.lt
  have hm : w.heap.size ≤ W.heap.size := B0.out.size
  have HP1 : Hid (Owns (((((w3.setCell ⟨w.heap.size, 0, none⟩ (.int .i64 d.room)).setCell ⟨w.heap.size, 1, none⟩ (.int .i64 d.next)).setCell ⟨w.heap.size, 2, none⟩ (.slice A1 m1 k1)).setCell ⟨w.heap.size, 3, none⟩ (.slice A2 m2 k2)).setCell ⟨w.heap.size, 4, none⟩ (.slice A3 m3 k3)) W.heap.size 47 3 (.slice A1 m1 k1) (nodR d.nods)) := (((((o1.other (o1.below (show w.heap.size < W.heap.size by omega)) 0 (.int .i64 d.room)).other (o1.below (show w.heap.size < W.heap.size by omega)) 1 (.int .i64 d.next)).other (o1.below (show w.heap.size < W.heap.size by omega)) 2 (.slice A1 m1 k1)).other (o1.below (show w.heap.size < W.heap.size by omega)) 3 (.slice A2 m2 k2)).other (o1.below (show w.heap.size < W.heap.size by omega)) 4 (.slice A3 m3 k3))
  have HP2 : Hid (Owns (((((w3.setCell ⟨w.heap.size, 0, none⟩ (.int .i64 d.room)).setCell ⟨w.heap.size, 1, none⟩ (.int .i64 d.next)).setCell ⟨w.heap.size, 2, none⟩ (.slice A1 m1 k1)).setCell ⟨w.heap.size, 3, none⟩ (.slice A2 m2 k2)).setCell ⟨w.heap.size, 4, none⟩ (.slice A3 m3 k3)) W.heap.size 49 2 (.slice A2 m2 k2) (lnkR d.dir)) := (((((o2.other (o2.below (show w.heap.size < W.heap.size by omega)) 0 (.int .i64 d.room)).other (o2.below (show w.heap.size < W.heap.size by omega)) 1 (.int .i64 d.next)).other (o2.below (show w.heap.size < W.heap.size by omega)) 2 (.slice A1 m1 k1)).other (o2.below (show w.heap.size < W.heap.size by omega)) 3 (.slice A2 m2 k2)).other (o2.below (show w.heap.size < W.heap.size by omega)) 4 (.slice A3 m3 k3))
  have HP3 : Hid (Owns (((((w3.setCell ⟨w.heap.size, 0, none⟩ (.int .i64 d.room)).setCell ⟨w.heap.size, 1, none⟩ (.int .i64 d.next)).setCell ⟨w.heap.size, 2, none⟩ (.slice A1 m1 k1)).setCell ⟨w.heap.size, 3, none⟩ (.slice A2 m2 k2)).setCell ⟨w.heap.size, 4, none⟩ (.slice A3 m3 k3)) W.heap.size 51 4 (.slice A3 m3 k3) (movR d.movs)) := (((((o3.other (o3.below (show w.heap.size < W.heap.size by omega)) 0 (.int .i64 d.room)).other (o3.below (show w.heap.size < W.heap.size by omega)) 1 (.int .i64 d.next)).other (o3.below (show w.heap.size < W.heap.size by omega)) 2 (.slice A1 m1 k1)).other (o3.below (show w.heap.size < W.heap.size by omega)) 3 (.slice A2 m2 k2)).other (o3.below (show w.heap.size < W.heap.size by omega)) 4 (.slice A3 m3 k3))
  have HPB : Hid (Below w.heap.size w (((((w3.setCell ⟨w.heap.size, 0, none⟩ (.int .i64 d.room)).setCell ⟨w.heap.size, 1, none⟩ (.int .i64 d.next)).setCell ⟨w.heap.size, 2, none⟩ (.slice A1 m1 k1)).setCell ⟨w.heap.size, 3, none⟩ (.slice A2 m2 k2)).setCell ⟨w.heap.size, 4, none⟩ (.slice A3 m3 k3))) := (((((B3.out.setCell (Nat.le_refl _) (.int .i64 d.room) (p := ⟨_, 0, none⟩)).setCell (Nat.le_refl _) (.int .i64 d.next) (p := ⟨_, 1, none⟩)).setCell (Nat.le_refl _) (.slice A1 m1 k1) (p := ⟨_, 2, none⟩)).setCell (Nat.le_refl _) (.slice A2 m2 k2) (p := ⟨_, 3, none⟩)).setCell (Nat.le_refl _) (.slice A3 m3 k3) (p := ⟨_, 4, none⟩))
  have HPK : Hid (Blk (((((w3.setCell ⟨w.heap.size, 0, none⟩ (.int .i64 d.room)).setCell ⟨w.heap.size, 1, none⟩ (.int .i64 d.next)).setCell ⟨w.heap.size, 2, none⟩ (.slice A1 m1 k1)).setCell ⟨w.heap.size, 3, none⟩ (.slice A2 m2 k2)).setCell ⟨w.heap.size, 4, none⟩ (.slice A3 m3 k3)) w.heap.size #[.int .i64 d.room, .int .i64 d.next, .slice A1 m1 k1, .slice A2 m2 k2, .slice A3 m3 k3] 28) := (((((K3.out.set 0 (.int .i64 d.room)).set 1 (.int .i64 d.next)).set 2 (.slice A1 m1 k1)).set 3 (.slice A2 m2 k2)).set 4 (.slice A3 m3 k3))
  have HPM : Hid (Blk (((((w3.setCell ⟨w.heap.size, 0, none⟩ (.int .i64 d.room)).setCell ⟨w.heap.size, 1, none⟩ (.int .i64 d.next)).setCell ⟨w.heap.size, 2, none⟩ (.slice A1 m1 k1)).setCell ⟨w.heap.size, 3, none⟩ (.slice A2 m2 k2)).setCell ⟨w.heap.size, 4, none⟩ (.slice A3 m3 k3)) (w.heap.size + 1) #[.int .i64 mk, .string mn, .string mt, .int .i64 mi] 51) := (((((M3.out.other (show w.heap.size + 1 ≠ w.heap.size by omega) 0 (.int .i64 d.room)).other (show w.heap.size + 1 ≠ w.heap.size by omega) 1 (.int .i64 d.next)).other (show w.heap.size + 1 ≠ w.heap.size by omega) 2 (.slice A1 m1 k1)).other (show w.heap.size + 1 ≠ w.heap.size by omega) 3 (.slice A2 m2 k2)).other (show w.heap.size + 1 ≠ w.heap.size by omega) 4 (.slice A3 m3 k3))
  have HPR : Hid (Blk (((((w3.setCell ⟨w.heap.size, 0, none⟩ (.int .i64 d.room)).setCell ⟨w.heap.size, 1, none⟩ (.int .i64 d.next)).setCell ⟨w.heap.size, 2, none⟩ (.slice A1 m1 k1)).setCell ⟨w.heap.size, 3, none⟩ (.slice A2 m2 k2)).setCell ⟨w.heap.size, 4, none⟩ (.slice A3 m3 k3)) (w.heap.size + 1 + 1) #[.int .i64 0, .int .i64 0, .slice none 0 0, .slice none 0 0, .slice none 0 0] 28) := (((((R3.out.other (show w.heap.size + 1 + 1 ≠ w.heap.size by omega) 0 (.int .i64 d.room)).other (show w.heap.size + 1 + 1 ≠ w.heap.size by omega) 1 (.int .i64 d.next)).other (show w.heap.size + 1 + 1 ≠ w.heap.size by omega) 2 (.slice A1 m1 k1)).other (show w.heap.size + 1 + 1 ≠ w.heap.size by omega) 3 (.slice A2 m2 k2)).other (show w.heap.size + 1 + 1 ≠ w.heap.size by omega) 4 (.slice A3 m3 k3))
  clear hb3 o1 o2 o3
  have e0 := K3.out.cell 0 _ rfl
  have t0 := K3.out.free 0
  have e1 := K3.out.cell 1 _ rfl
  have t1 := K3.out.free 1
  have e2 := K3.out.cell 2 _ rfl
  have t2 := K3.out.free 2
  have e3 := K3.out.cell 3 _ rfl
  have t3 := K3.out.free 3
  have e4 := K3.out.cell 4 _ rfl
  have t4 := K3.out.free 4
  have r0 := HPK.out.cell 0 _ rfl
  have r1 := HPK.out.cell 1 _ rfl
  have r2 := HPK.out.cell 2 _ rfl
  have r3 := HPK.out.cell 3 _ rfl
  have r4 := HPK.out.cell 4 _ rfl
  have g0 := HPR.out.cell 0 _ rfl
  have f0 := HPR.out.free 0
  have g1 := HPR.out.cell 1 _ rfl
  have f1 := HPR.out.free 1
  have g2 := HPR.out.cell 2 _ rfl
  have f2 := HPR.out.free 2
  have g3 := HPR.out.cell 3 _ rfl
  have f3 := HPR.out.free 3
  have g4 := HPR.out.cell 4 _ rfl
  have f4 := HPR.out.free 4
  go_wp2_with fail
  have hB := HPB.out
  have hg : w.heap.size ≤ w.heap.size + 1 + 1 := by omega
  clear r0 e0 t0 r1 e1 t1 r2 e2 t2 r3 e3 t3 r4 e4 t4
  have FB := (((((hB.setCell hg (.int .i64 d.room) (p := ⟨_, 0, none⟩)).setCell hg (.int .i64 d.next) (p := ⟨_, 1, none⟩)).setCell hg (.slice A1 m1 k1) (p := ⟨_, 2, none⟩)).setCell hg (.slice A2 m2 k2) (p := ⟨_, 3, none⟩)).setCell hg (.slice A3 m3 k3) (p := ⟨_, 4, none⟩))
  have hF := (((((HPR.out.set 0 (.int .i64 d.room)).set 1 (.int .i64 d.next)).set 2 (.slice A1 m1 k1)).set 3 (.slice A2 m2 k2)).set 4 (.slice A3 m3 k3))
  have mm0 := HP1.out.notBlk HPR.out (by decide)
  have F0 := (((((HP1.out.other mm0 0 (.int .i64 d.room)).other mm0 1 (.int .i64 d.next)).other mm0 2 (.slice A1 m1 k1)).other mm0 3 (.slice A2 m2 k2)).other mm0 4 (.slice A3 m3 k3))
  have mm1 := HP2.out.notBlk HPR.out (by decide)
  have F1 := (((((HP2.out.other mm1 0 (.int .i64 d.room)).other mm1 1 (.int .i64 d.next)).other mm1 2 (.slice A1 m1 k1)).other mm1 3 (.slice A2 m2 k2)).other mm1 4 (.slice A3 m3 k3))
  have mm2 := HP3.out.notBlk HPR.out (by decide)
  have F2 := (((((HP3.out.other mm2 0 (.int .i64 d.room)).other mm2 1 (.int .i64 d.next)).other mm2 2 (.slice A1 m1 k1)).other mm2 3 (.slice A2 m2 k2)).other mm2 4 (.slice A3 m3 k3))
  clear g0 f0 g1 f1 g2 f2 g3 f3 g4 f4
  generalize ((((((((((w3.setCell ⟨w.heap.size, 0, none⟩ (.int .i64 d.room)).setCell ⟨w.heap.size, 1, none⟩ (.int .i64 d.next)).setCell ⟨w.heap.size, 2, none⟩ (.slice A1 m1 k1)).setCell ⟨w.heap.size, 3, none⟩ (.slice A2 m2 k2)).setCell ⟨w.heap.size, 4, none⟩ (.slice A3 m3 k3)).setCell ⟨w.heap.size + 1 + 1, 0, none⟩ (.int .i64 d.room)).setCell ⟨w.heap.size + 1 + 1, 1, none⟩ (.int .i64 d.next)).setCell ⟨w.heap.size + 1 + 1, 2, none⟩ (.slice A1 m1 k1)).setCell ⟨w.heap.size + 1 + 1, 3, none⟩ (.slice A2 m2 k2)).setCell ⟨w.heap.size + 1 + 1, 4, none⟩ (.slice A3 m3 k3)) = WF at *
  have hG : Blk WF (w.heap.size + 1 + 1) #[.int .i64 d.room, .int .i64 d.next, .slice A1 m1 k1, .slice A2 m2 k2, .slice A3 m3 k3] 28 := hF
  have l0 := hG.cell 0 (.int .i64 d.room) rfl
  have l1 := hG.cell 1 (.int .i64 d.next) rfl
  have l2 := hG.cell 2 (.slice A1 m1 k1) rfl
  have l3 := hG.cell 3 (.slice A2 m2 k2) rfl
  have l4 := hG.cell 4 (.slice A3 m3 k3) rfl
  exact bodyPost_ret (v := .tuple #[.agg #[.int .i64 d.room, .int .i64 d.next, .slice A1 m1 k1, .slice A2 m2 k2, .slice A3 m3 k3], .int .i64 code]) (by simp [results, go_sem, l0, l1, l2, l3, l4]) rfl (by rw [hRR.out]; exact ⟨_, rfl, ⟨_, _, _, rfl, F0.mono hm, F1.mono hm, F2.mono hm⟩, FB⟩)
end Go.Proofs.YtgjilgecklhglaaGreat
