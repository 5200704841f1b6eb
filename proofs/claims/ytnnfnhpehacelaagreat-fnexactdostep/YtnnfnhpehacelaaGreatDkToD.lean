/-
  The contract of laws.toDisk: a disk of the call's own that holds what came in.
-/
import Derived.Test.YtnnfnhpehacelaaGreatRows
import Derived.Test.YtnnfnhpehacelaaGreatDkTo
import Derived.Test.YtnnfnhpehacelaaGreatDkBlk
namespace Go.Proofs.YtnnfnhpehacelaaGreat
open Go.ChangeShapes Go.WideShapes Go.ChangeAt Go.RowKit Go.PlainAid
set_option linter.unusedVariables false

set_option maxHeartbeats 2000000 in
theorem toDisk (d : Dsk) (v : Value) (w : World) (B : Nat) (hv : DiskV w B v d) (hw : wtD d ≤ 1048576) (hB : B ≤ w.heap.size) :
    Calls Tryz.prog 7 #[v] w fun e w' => ∃ u, e = .returned u ∧ DiskO w' w.heap.size u d ∧ Below w.heap.size w w' := by
  obtain ⟨v1, v2, v3, rfl, hn, hl, hm⟩ := hv
  unfold wtD at hw
  have HB : Hid (B ≤ w.heap.size) := hB
  have HN : Hid (Lies w B 3 v1 (nodR d.nods)) := hn
  have HL : Hid (Lies w B 2 v2 (lnkR d.dir)) := hl
  have HM : Hid (Lies w B 4 v3 (movR d.movs)) := hm
  have L1 : Hid (d.nods.length ≤ 1048576) := by unfold Hid; omega
  have L2 : Hid (d.dir.length ≤ 1048576) := by unfold Hid; omega
  have L3 : Hid (d.movs.length ≤ 1048576) := by unfold Hid; omega
  clear hn hl hm hw hB
  go_enter Tryz.func7, Tryz.ntmps7
  go_wp2_with fail
  have hb0 := below_alloc3 w (.cells #[.int .i64 d.room, .int .i64 d.next, v1, v2, v3] 26) (.cells #[.int .i64 0, .int .i64 0, .slice none 0 0, .slice none 0 0, .slice none 0 0] 35) (.cells #[.int .i64 d.room, .int .i64 d.next, .slice none 0 0, .slice none 0 0, .slice none 0 0] 35)
  have bA := ((Blk.new w #[.int .i64 d.room, .int .i64 d.next, v1, v2, v3] 26).alloc (.cells #[.int .i64 0, .int .i64 0, .slice none 0 0, .slice none 0 0, .slice none 0 0] 35)).alloc (.cells #[.int .i64 d.room, .int .i64 d.next, .slice none 0 0, .slice none 0 0, .slice none 0 0] 35)
  have bR := (Blk.new (w.alloc (.cells #[.int .i64 d.room, .int .i64 d.next, v1, v2, v3] 26)) #[.int .i64 0, .int .i64 0, .slice none 0 0, .slice none 0 0, .slice none 0 0] 35).alloc (.cells #[.int .i64 d.room, .int .i64 d.next, .slice none 0 0, .slice none 0 0, .slice none 0 0] 35)
  have bO := Blk.new ((w.alloc (.cells #[.int .i64 d.room, .int .i64 d.next, v1, v2, v3] 26)).alloc (.cells #[.int .i64 0, .int .i64 0, .slice none 0 0, .slice none 0 0, .slice none 0 0] 35)) #[.int .i64 d.room, .int .i64 d.next, .slice none 0 0, .slice none 0 0, .slice none 0 0] 35
  simp only [World.size_alloc] at bR bO
  generalize ((w.alloc (.cells #[.int .i64 d.room, .int .i64 d.next, v1, v2, v3] 26)).alloc (.cells #[.int .i64 0, .int .i64 0, .slice none 0 0, .slice none 0 0, .slice none 0 0] 35)).alloc (.cells #[.int .i64 d.room, .int .i64 d.next, .slice none 0 0, .slice none 0 0, .slice none 0 0] 35) = W at *
  have B0 : Hid (Below w.heap.size w W) := hb0
  have hlt := bO.lt
  clear hb0
  refine (toInodeS d.nods v1 W B (HN.out.on (B0.out.mono HB.out)) L1.out (Nat.le_trans HB.out B0.out.size)).mono ?_
  rintro e w2 ⟨u1, rfl, hO1, hb2⟩
  obtain ⟨A1, m1, k1, hu1⟩ := hO1.shape
  have B2 : Hid (Below w.heap.size w w2) := B0.out.trans (hb2.mono B0.out.size)
  have hA2 : Hid (Blk w2 w.heap.size #[.int .i64 d.room, .int .i64 d.next, v1, v2, v3] 26) := bA.on hb2 (by omega)
  have hR2 : Hid (Blk w2 (w.heap.size + 1) #[.int .i64 0, .int .i64 0, .slice none 0 0, .slice none 0 0, .slice none 0 0] 35) := bR.on hb2 (by omega)
  have hO2 : Hid (Blk w2 (w.heap.size + 1 + 1) #[.int .i64 d.room, .int .i64 d.next, .slice none 0 0, .slice none 0 0, .slice none 0 0] 35) := bO.on hb2 hlt
  have O1 : Hid (Owns w2 (w.heap.size + 1 + 1 + 1) 76 3 u1 (nodR d.nods)) := hO1.mono hlt
  have z2 : w.heap.size + 1 + 1 < w2.heap.size := hO2.out.lt
  clear bA bR bO hb2 hO1 hlt
  have e1 := hO2.out.cell 2 _ rfl
  have f1 := hO2.out.free 2
  have e2 := hA2.out.cell 3 _ rfl
  subst hu1
  go_wp2_with fail
  generalize hu1 : Value.slice A1 m1 k1 = u1 at *
  have B3 : Hid (Below w.heap.size w (w2.setCell ⟨w.heap.size + 1 + 1, 2, none⟩ u1)) := B2.out.setCell (show w.heap.size ≤ w.heap.size + 1 + 1 by omega) _
  have hA3 : Hid (Blk (w2.setCell ⟨w.heap.size + 1 + 1, 2, none⟩ u1) w.heap.size #[.int .i64 d.room, .int .i64 d.next, v1, v2, v3] 26) := hA2.out.other (by omega) _ _
  have hR3 : Hid (Blk (w2.setCell ⟨w.heap.size + 1 + 1, 2, none⟩ u1) (w.heap.size + 1) #[.int .i64 0, .int .i64 0, .slice none 0 0, .slice none 0 0, .slice none 0 0] 35) := hR2.out.other (by omega) _ _
  have hO3 : Hid (Blk (w2.setCell ⟨w.heap.size + 1 + 1, 2, none⟩ u1) (w.heap.size + 1 + 1) #[.int .i64 d.room, .int .i64 d.next, u1, .slice none 0 0, .slice none 0 0] 35) := hO2.out.set 2 u1
  have O13 : Hid (Owns (w2.setCell ⟨w.heap.size + 1 + 1, 2, none⟩ u1) (w.heap.size + 1 + 1 + 1) 76 3 u1 (nodR d.nods)) := O1.out.other (O1.out.below (by omega)) _ _
  clear e1 f1 e2 z2
  generalize w2.setCell ⟨w.heap.size + 1 + 1, 2, none⟩ u1 = w3 at *
  refine (toLinkS d.dir v2 w3 B (HL.out.on (B3.out.mono HB.out)) L2.out (Nat.le_trans HB.out B3.out.size)).mono ?_
  rintro e w4 ⟨u2, rfl, hP1, hb4⟩
  obtain ⟨A2, m2, k2, hu2⟩ := hP1.shape
  have z3 := hO3.out.lt
  have B4 : Hid (Below w.heap.size w w4) := B3.out.trans (hb4.mono B3.out.size)
  have hA4 : Hid (Blk w4 w.heap.size #[.int .i64 d.room, .int .i64 d.next, v1, v2, v3] 26) := hA3.out.on hb4 (by omega)
  have hR4 : Hid (Blk w4 (w.heap.size + 1) #[.int .i64 0, .int .i64 0, .slice none 0 0, .slice none 0 0, .slice none 0 0] 35) := hR3.out.on hb4 (by omega)
  have hO4 : Hid (Blk w4 (w.heap.size + 1 + 1) #[.int .i64 d.room, .int .i64 d.next, u1, .slice none 0 0, .slice none 0 0] 35) := hO3.out.on hb4 z3
  have O14 : Hid (Owns w4 (w.heap.size + 1 + 1 + 1) 76 3 u1 (nodR d.nods)) := O13.out.on hb4
  have O24 : Hid (Owns w4 (w.heap.size + 1 + 1 + 1) 79 2 u2 (lnkR d.dir)) := hP1.mono z3
  clear hP1 hb4 z3
  have e1 := hO4.out.cell 3 _ rfl
  have f1 := hO4.out.free 3
  have e2 := hA4.out.cell 4 _ rfl
  subst hu2
  subst hu1
  go_wp2_with fail
  generalize hu1 : Value.slice A1 m1 k1 = u1 at *
  generalize hu2 : Value.slice A2 m2 k2 = u2 at *
  have B5 : Hid (Below w.heap.size w (w4.setCell ⟨w.heap.size + 1 + 1, 3, none⟩ u2)) := B4.out.setCell (show w.heap.size ≤ w.heap.size + 1 + 1 by omega) _
  have hR5 : Hid (Blk (w4.setCell ⟨w.heap.size + 1 + 1, 3, none⟩ u2) (w.heap.size + 1) #[.int .i64 0, .int .i64 0, .slice none 0 0, .slice none 0 0, .slice none 0 0] 35) := hR4.out.other (by omega) _ _
  have hO5 : Hid (Blk (w4.setCell ⟨w.heap.size + 1 + 1, 3, none⟩ u2) (w.heap.size + 1 + 1) #[.int .i64 d.room, .int .i64 d.next, u1, u2, .slice none 0 0] 35) := hO4.out.set 3 u2
  have O15 : Hid (Owns (w4.setCell ⟨w.heap.size + 1 + 1, 3, none⟩ u2) (w.heap.size + 1 + 1 + 1) 76 3 u1 (nodR d.nods)) := O14.out.other (O14.out.below (by omega)) _ _
  have O25 : Hid (Owns (w4.setCell ⟨w.heap.size + 1 + 1, 3, none⟩ u2) (w.heap.size + 1 + 1 + 1) 79 2 u2 (lnkR d.dir)) := O24.out.other (O24.out.below (by omega)) _ _
  clear e1 f1 e2
  generalize w4.setCell ⟨w.heap.size + 1 + 1, 3, none⟩ u2 = w5 at *
  refine (toMoveS d.movs v3 w5 B (HM.out.on (B5.out.mono HB.out)) L3.out (Nat.le_trans HB.out B5.out.size)).mono ?_
  rintro e w6 ⟨u3, rfl, hQ1, hb6⟩
  obtain ⟨A3, m3, k3, hu3⟩ := hQ1.shape
  have S3 : Hid (u3 = .slice A3 m3 k3) := hu3
  have z5 := hO5.out.lt
  have B6 : Hid (Below w.heap.size w w6) := B5.out.trans (hb6.mono B5.out.size)
  have hR6 : Hid (Blk w6 (w.heap.size + 1) #[.int .i64 0, .int .i64 0, .slice none 0 0, .slice none 0 0, .slice none 0 0] 35) := hR5.out.on hb6 (by omega)
  have hO6 : Hid (Blk w6 (w.heap.size + 1 + 1) #[.int .i64 d.room, .int .i64 d.next, u1, u2, .slice none 0 0] 35) := hO5.out.on hb6 z5
  have O16 : Hid (Owns w6 (w.heap.size + 1 + 1 + 1) 76 3 u1 (nodR d.nods)) := O15.out.on hb6
  have O26 : Hid (Owns w6 (w.heap.size + 1 + 1 + 1) 79 2 u2 (lnkR d.dir)) := O25.out.on hb6
  have O36 : Hid (Owns w6 (w.heap.size + 1 + 1 + 1) 81 4 u3 (movR d.movs)) := hQ1.mono z5
  clear hQ1 hb6 z5
  have c0 := hO6.out.cell 0 _ rfl
  have c1 := hO6.out.cell 1 _ rfl
  have c2 := hO6.out.cell 2 _ rfl
  have c3 := hO6.out.cell 3 _ rfl
  have c4 := hO6.out.cell 4 _ rfl
  have f4 := hO6.out.free 4
  have r0 := hR6.out.cell 0 _ rfl
  have r1 := hR6.out.cell 1 _ rfl
  have r2 := hR6.out.cell 2 _ rfl
  have r3 := hR6.out.cell 3 _ rfl
  have r4 := hR6.out.cell 4 _ rfl
  have g0 := hR6.out.free 0
  have g1 := hR6.out.free 1
  have g2 := hR6.out.free 2
  have g3 := hR6.out.free 3
  have g4 := hR6.out.free 4
  subst hu3
  subst hu2
  subst hu1
  go_wp2_with fail
  have hF := ((((((hR6.out.other (show w.heap.size + 1 ≠ w.heap.size + 1 + 1 by omega) 4 (.slice A3 m3 k3)).set 0 (.int .i64 d.room)).set 1 (.int .i64 d.next)).set 2 (.slice A1 m1 k1)).set 3 (.slice A2 m2 k2)).set 4 (.slice A3 m3 k3))
  have F1 := (((((O16.out.other (O16.out.below (show w.heap.size + 1 + 1 < _ by omega)) 4 (.slice A3 m3 k3)).other (O16.out.below (show w.heap.size + 1 < _ by omega)) 0 (.int .i64 d.room)).other (O16.out.below (show w.heap.size + 1 < _ by omega)) 1 (.int .i64 d.next)).other (O16.out.below (show w.heap.size + 1 < _ by omega)) 2 (.slice A1 m1 k1)).other (O16.out.below (show w.heap.size + 1 < _ by omega)) 3 (.slice A2 m2 k2)).other (O16.out.below (show w.heap.size + 1 < _ by omega)) 4 (.slice A3 m3 k3)
  have F2 := (((((O26.out.other (O26.out.below (show w.heap.size + 1 + 1 < _ by omega)) 4 (.slice A3 m3 k3)).other (O26.out.below (show w.heap.size + 1 < _ by omega)) 0 (.int .i64 d.room)).other (O26.out.below (show w.heap.size + 1 < _ by omega)) 1 (.int .i64 d.next)).other (O26.out.below (show w.heap.size + 1 < _ by omega)) 2 (.slice A1 m1 k1)).other (O26.out.below (show w.heap.size + 1 < _ by omega)) 3 (.slice A2 m2 k2)).other (O26.out.below (show w.heap.size + 1 < _ by omega)) 4 (.slice A3 m3 k3)
  have F3 := (((((O36.out.other (O36.out.below (show w.heap.size + 1 + 1 < _ by omega)) 4 (.slice A3 m3 k3)).other (O36.out.below (show w.heap.size + 1 < _ by omega)) 0 (.int .i64 d.room)).other (O36.out.below (show w.heap.size + 1 < _ by omega)) 1 (.int .i64 d.next)).other (O36.out.below (show w.heap.size + 1 < _ by omega)) 2 (.slice A1 m1 k1)).other (O36.out.below (show w.heap.size + 1 < _ by omega)) 3 (.slice A2 m2 k2)).other (O36.out.below (show w.heap.size + 1 < _ by omega)) 4 (.slice A3 m3 k3)
  have FB := (((((B6.out.setCell (show w.heap.size ≤ w.heap.size + 1 + 1 by omega) (.slice A3 m3 k3) (p := ⟨_, 4, none⟩)).setCell (show w.heap.size ≤ w.heap.size + 1 by omega) (.int .i64 d.room) (p := ⟨_, 0, none⟩)).setCell (show w.heap.size ≤ w.heap.size + 1 by omega) (.int .i64 d.next) (p := ⟨_, 1, none⟩)).setCell (show w.heap.size ≤ w.heap.size + 1 by omega) (.slice A1 m1 k1) (p := ⟨_, 2, none⟩)).setCell (show w.heap.size ≤ w.heap.size + 1 by omega) (.slice A2 m2 k2) (p := ⟨_, 3, none⟩)).setCell (show w.heap.size ≤ w.heap.size + 1 by omega) (.slice A3 m3 k3) (p := ⟨_, 4, none⟩)
  generalize (((((w6.setCell ⟨w.heap.size + 1 + 1, 4, none⟩ (.slice A3 m3 k3)).setCell ⟨w.heap.size + 1, 0, none⟩ (.int .i64 d.room)).setCell ⟨w.heap.size + 1, 1, none⟩ (.int .i64 d.next)).setCell ⟨w.heap.size + 1, 2, none⟩ (.slice A1 m1 k1)).setCell ⟨w.heap.size + 1, 3, none⟩ (.slice A2 m2 k2)).setCell ⟨w.heap.size + 1, 4, none⟩ (.slice A3 m3 k3) = WF at *
  have hG : Blk WF (w.heap.size + 1) #[.int .i64 d.room, .int .i64 d.next, .slice A1 m1 k1, .slice A2 m2 k2, .slice A3 m3 k3] 35 := hF
  have k0 := hG.cell 0 (.int .i64 d.room) rfl
  have k1' := hG.cell 1 (.int .i64 d.next) rfl
  have k2' := hG.cell 2 (.slice A1 m1 k1) rfl
  have k3' := hG.cell 3 (.slice A2 m2 k2) rfl
  have k4' := hG.cell 4 (.slice A3 m3 k3) rfl
  exact bodyPost_ret (v := .agg #[.int .i64 d.room, .int .i64 d.next, .slice A1 m1 k1, .slice A2 m2 k2, .slice A3 m3 k3]) (by simp [results, go_sem, k0, k1', k2', k3', k4']) rfl ⟨_, rfl, ⟨_, _, _, rfl, F1.mono (by omega), F2.mono (by omega), F3.mono (by omega)⟩, FB⟩
end Go.Proofs.YtnnfnhpehacelaaGreat
