/- DkToD DkEq ImOpen ImFind Clone DkLoad WkAid WkRow -/
import Derived.Test.YtdimaoloapbeoaaGreatDoorRows
import Derived.Test.YtdimaoloapbeoaaGreatDoorQv2
import Derived.Deep.RegionWith
import Derived.Test.YtdimaoloapbeoaaGreatDoorQv9
import Derived.Shelf.Pu.Clone
import Derived.WalkKit
import Derived.Below
import Derived.Test.YtdimaoloapbeoaaGreatDoorQv6
import Derived.Test.YtdimaoloapbeoaaGreatDoorQv0
import Derived.Test.YtdimaoloapbeoaaGreatDoorQv1
import Derived.ProofKit
import Derived.Laws.OwnMore
import Derived.OwnWalk
import Derived.WalkSmall
namespace Go.Proofs.YtdimaoloapbeoaaGreatDoor
open Go.ChangeShapes Go.WideShapes Go.ChangeAt Go.RowKit Go.PlainAid
set_option linter.unusedVariables false
set_option maxHeartbeats 2000000 in
theorem toDisk (d : Dsk) (v : Value) (w : World) (B : Nat) (hv : DiskV w B v d) (hw : wtD d ≤ 1048576) (hB : B ≤ w.heap.size) :
  Calls Tryz.prog 6 #[v] w fun e w' => ∃ u, e = .returned u ∧ DiskO w' w.heap.size u d ∧ Below w.heap.size w w' := by
 obtain ⟨v1, v2, v3, rfl, hn, hl, hm⟩ := hv
 unfold wtD at hw
 have HB : Hid (B ≤ w.heap.size) := hB
 have HN : Hid (Lies w B 3 v1 (nodR d.nods)) := hn
 have HL : Hid (Lies w B 2 v2 (lnkR d.dir)) := hl
 have HM : Hid (Lies w B 4 v3 (movR d.movs)) := hm
 have L1 : Hid (d.nods.length ≤ 1048576) := by unfold Hid; omega
 have L2 : Hid (d.dir.length ≤ 1048576) := by unfold Hid; omega
 have L3 : Hid (d.movs.length ≤ 1048576) := by unfold Hid; omega
 clear hn hl hm hw hB
 go_enter Tryz.func6, Tryz.ntmps6
 go_wp2_with fail
 have hb0 := below_alloc3 w (.cells #[.int .i64 d.room, .int .i64 d.next, v1, v2, v3] 26) (.cells #[.int .i64 0, .int .i64 0, .slice none 0 0, .slice none 0 0, .slice none 0 0] 41) (.cells #[.int .i64 d.room, .int .i64 d.next, .slice none 0 0, .slice none 0 0, .slice none 0 0] 41)
 have bA := ((Blk.new w #[.int .i64 d.room, .int .i64 d.next, v1, v2, v3] 26).alloc (.cells #[.int .i64 0, .int .i64 0, .slice none 0 0, .slice none 0 0, .slice none 0 0] 41)).alloc (.cells #[.int .i64 d.room, .int .i64 d.next, .slice none 0 0, .slice none 0 0, .slice none 0 0] 41)
 have bR := (Blk.new (w.alloc (.cells #[.int .i64 d.room, .int .i64 d.next, v1, v2, v3] 26)) #[.int .i64 0, .int .i64 0, .slice none 0 0, .slice none 0 0, .slice none 0 0] 41).alloc (.cells #[.int .i64 d.room, .int .i64 d.next, .slice none 0 0, .slice none 0 0, .slice none 0 0] 41)
 have bO := Blk.new ((w.alloc (.cells #[.int .i64 d.room, .int .i64 d.next, v1, v2, v3] 26)).alloc (.cells #[.int .i64 0, .int .i64 0, .slice none 0 0, .slice none 0 0, .slice none 0 0] 41)) #[.int .i64 d.room, .int .i64 d.next, .slice none 0 0, .slice none 0 0, .slice none 0 0] 41
 simp only [World.size_alloc] at bR bO
 generalize ((w.alloc (.cells #[.int .i64 d.room, .int .i64 d.next, v1, v2, v3] 26)).alloc (.cells #[.int .i64 0, .int .i64 0, .slice none 0 0, .slice none 0 0, .slice none 0 0] 41)).alloc (.cells #[.int .i64 d.room, .int .i64 d.next, .slice none 0 0, .slice none 0 0, .slice none 0 0] 41) = W at *
 have B0 : Hid (Below w.heap.size w W) := hb0
 have hlt := bO.lt
 clear hb0
 refine (toInodeS d.nods v1 W B (HN.out.on (B0.out.mono HB.out)) L1.out (Nat.le_trans HB.out B0.out.size)).mono ?_
 rintro e w2 ⟨u1, rfl, hO1, hb2⟩
 obtain ⟨A1, m1, k1, hu1⟩ := hO1.shape
 have B2 : Hid (Below w.heap.size w w2) := B0.out.trans (hb2.mono B0.out.size)
 have hA2 : Hid (Blk w2 w.heap.size #[.int .i64 d.room, .int .i64 d.next, v1, v2, v3] 26) := bA.on hb2 (by omega)
 have hR2 : Hid (Blk w2 (w.heap.size + 1) #[.int .i64 0, .int .i64 0, .slice none 0 0, .slice none 0 0, .slice none 0 0] 41) := bR.on hb2 (by omega)
 have hO2 : Hid (Blk w2 (w.heap.size + 1 + 1) #[.int .i64 d.room, .int .i64 d.next, .slice none 0 0, .slice none 0 0, .slice none 0 0] 41) := bO.on hb2 hlt
 have O1 : Hid (Owns w2 (w.heap.size + 1 + 1 + 1) 90 3 u1 (nodR d.nods)) := hO1.mono hlt
 have z2 : w.heap.size + 1 + 1 < w2.heap.size := hO2.out.lt
 clear bA bR bO hb2 hO1 hlt
 have e1 := hO2.out.cell 2 _ rfl
 have f1 := hO2.out.free 2
 have e2 := hA2.out.cell 3 _ rfl
 subst hu1
 go_wp2_with fail
 generalize hu1 : Value.slice A1 m1 k1 = u1 at *
 have B3 : Hid (Below w.heap.size w (w2.setCell ⟨w.heap.size + 1 + 1, 2, none⟩ u1)) := B2.out.setCell (show w.heap.size ≤ w.heap.size + 1 + 1 by omega) _
 have hA3 : Hid (Blk (w2.setCell ⟨w.heap.size + 1 + 1, 2, none⟩ u1) w.heap.size #[.int .i64 d.room, .int .i64 d.next, v1, v2, v3] 26) := hA2.out.other (by omega) _ _
 have hR3 : Hid (Blk (w2.setCell ⟨w.heap.size + 1 + 1, 2, none⟩ u1) (w.heap.size + 1) #[.int .i64 0, .int .i64 0, .slice none 0 0, .slice none 0 0, .slice none 0 0] 41) := hR2.out.other (by omega) _ _
 have hO3 : Hid (Blk (w2.setCell ⟨w.heap.size + 1 + 1, 2, none⟩ u1) (w.heap.size + 1 + 1) #[.int .i64 d.room, .int .i64 d.next, u1, .slice none 0 0, .slice none 0 0] 41) := hO2.out.set 2 u1
 have O13 : Hid (Owns (w2.setCell ⟨w.heap.size + 1 + 1, 2, none⟩ u1) (w.heap.size + 1 + 1 + 1) 90 3 u1 (nodR d.nods)) := O1.out.other (O1.out.below (by omega)) _ _
 clear e1 f1 e2 z2
 generalize w2.setCell ⟨w.heap.size + 1 + 1, 2, none⟩ u1 = w3 at *
 refine (toLinkS d.dir v2 w3 B (HL.out.on (B3.out.mono HB.out)) L2.out (Nat.le_trans HB.out B3.out.size)).mono ?_
 rintro e w4 ⟨u2, rfl, hP1, hb4⟩
 obtain ⟨A2, m2, k2, hu2⟩ := hP1.shape
 have z3 := hO3.out.lt
 have B4 : Hid (Below w.heap.size w w4) := B3.out.trans (hb4.mono B3.out.size)
 have hA4 : Hid (Blk w4 w.heap.size #[.int .i64 d.room, .int .i64 d.next, v1, v2, v3] 26) := hA3.out.on hb4 (by omega)
 have hR4 : Hid (Blk w4 (w.heap.size + 1) #[.int .i64 0, .int .i64 0, .slice none 0 0, .slice none 0 0, .slice none 0 0] 41) := hR3.out.on hb4 (by omega)
 have hO4 : Hid (Blk w4 (w.heap.size + 1 + 1) #[.int .i64 d.room, .int .i64 d.next, u1, .slice none 0 0, .slice none 0 0] 41) := hO3.out.on hb4 z3
 have O14 : Hid (Owns w4 (w.heap.size + 1 + 1 + 1) 90 3 u1 (nodR d.nods)) := O13.out.on hb4
 have O24 : Hid (Owns w4 (w.heap.size + 1 + 1 + 1) 93 2 u2 (lnkR d.dir)) := hP1.mono z3
 clear hP1 hb4 z3
 have e1 := hO4.out.cell 3 _ rfl
 have f1 := hO4.out.free 3
 have e2 := hA4.out.cell 4 _ rfl
 subst hu2
 subst hu1
 go_wp2_with fail
 generalize hu1 : Value.slice A1 m1 k1 = u1 at *
 generalize hu2 : Value.slice A2 m2 k2 = u2 at *
 have B5 : Hid (Below w.heap.size w (w4.setCell ⟨w.heap.size + 1 + 1, 3, none⟩ u2)) := B4.out.setCell (show w.heap.size ≤ w.heap.size + 1 + 1 by omega) _
 have hR5 : Hid (Blk (w4.setCell ⟨w.heap.size + 1 + 1, 3, none⟩ u2) (w.heap.size + 1) #[.int .i64 0, .int .i64 0, .slice none 0 0, .slice none 0 0, .slice none 0 0] 41) := hR4.out.other (by omega) _ _
 have hO5 : Hid (Blk (w4.setCell ⟨w.heap.size + 1 + 1, 3, none⟩ u2) (w.heap.size + 1 + 1) #[.int .i64 d.room, .int .i64 d.next, u1, u2, .slice none 0 0] 41) := hO4.out.set 3 u2
 have O15 : Hid (Owns (w4.setCell ⟨w.heap.size + 1 + 1, 3, none⟩ u2) (w.heap.size + 1 + 1 + 1) 90 3 u1 (nodR d.nods)) := O14.out.other (O14.out.below (by omega)) _ _
 have O25 : Hid (Owns (w4.setCell ⟨w.heap.size + 1 + 1, 3, none⟩ u2) (w.heap.size + 1 + 1 + 1) 93 2 u2 (lnkR d.dir)) := O24.out.other (O24.out.below (by omega)) _ _
 clear e1 f1 e2
 generalize w4.setCell ⟨w.heap.size + 1 + 1, 3, none⟩ u2 = w5 at *
 refine (toMoveS d.movs v3 w5 B (HM.out.on (B5.out.mono HB.out)) L3.out (Nat.le_trans HB.out B5.out.size)).mono ?_
 rintro e w6 ⟨u3, rfl, hQ1, hb6⟩
 obtain ⟨A3, m3, k3, hu3⟩ := hQ1.shape
 have S3 : Hid (u3 = .slice A3 m3 k3) := hu3
 have z5 := hO5.out.lt
 have B6 : Hid (Below w.heap.size w w6) := B5.out.trans (hb6.mono B5.out.size)
 have hR6 : Hid (Blk w6 (w.heap.size + 1) #[.int .i64 0, .int .i64 0, .slice none 0 0, .slice none 0 0, .slice none 0 0] 41) := hR5.out.on hb6 (by omega)
 have hO6 : Hid (Blk w6 (w.heap.size + 1 + 1) #[.int .i64 d.room, .int .i64 d.next, u1, u2, .slice none 0 0] 41) := hO5.out.on hb6 z5
 have O16 : Hid (Owns w6 (w.heap.size + 1 + 1 + 1) 90 3 u1 (nodR d.nods)) := O15.out.on hb6
 have O26 : Hid (Owns w6 (w.heap.size + 1 + 1 + 1) 93 2 u2 (lnkR d.dir)) := O25.out.on hb6
 have O36 : Hid (Owns w6 (w.heap.size + 1 + 1 + 1) 94 4 u3 (movR d.movs)) := hQ1.mono z5
 clear hQ1 hb6 z5
 have c0 := hO6.out.cell 0 _ rfl
 have c1 := hO6.out.cell 1 _ rfl
 have c2 := hO6.out.cell 2 _ rfl
 have c3 := hO6.out.cell 3 _ rfl
 have c4 := hO6.out.cell 4 _ rfl
 have f4 := hO6.out.free 4
 have r0 := hR6.out.cell 0 _ rfl
 have r1 := hR6.out.cell 1 _ rfl
 have r2 := hR6.out.cell 2 _ rfl
 have r3 := hR6.out.cell 3 _ rfl
 have r4 := hR6.out.cell 4 _ rfl
 have g0 := hR6.out.free 0
 have g1 := hR6.out.free 1
 have g2 := hR6.out.free 2
 have g3 := hR6.out.free 3
 have g4 := hR6.out.free 4
 subst hu3
 subst hu2
 subst hu1
 go_wp2_with fail
 have hF := ((((((hR6.out.other (show w.heap.size + 1 ≠ w.heap.size + 1 + 1 by omega) 4 (.slice A3 m3 k3)).set 0 (.int .i64 d.room)).set 1 (.int .i64 d.next)).set 2 (.slice A1 m1 k1)).set 3 (.slice A2 m2 k2)).set 4 (.slice A3 m3 k3))
 have F1 := (((((O16.out.other (O16.out.below (show w.heap.size + 1 + 1 < _ by omega)) 4 (.slice A3 m3 k3)).other (O16.out.below (show w.heap.size + 1 < _ by omega)) 0 (.int .i64 d.room)).other (O16.out.below (show w.heap.size + 1 < _ by omega)) 1 (.int .i64 d.next)).other (O16.out.below (show w.heap.size + 1 < _ by omega)) 2 (.slice A1 m1 k1)).other (O16.out.below (show w.heap.size + 1 < _ by omega)) 3 (.slice A2 m2 k2)).other (O16.out.below (show w.heap.size + 1 < _ by omega)) 4 (.slice A3 m3 k3)
 have F2 := (((((O26.out.other (O26.out.below (show w.heap.size + 1 + 1 < _ by omega)) 4 (.slice A3 m3 k3)).other (O26.out.below (show w.heap.size + 1 < _ by omega)) 0 (.int .i64 d.room)).other (O26.out.below (show w.heap.size + 1 < _ by omega)) 1 (.int .i64 d.next)).other (O26.out.below (show w.heap.size + 1 < _ by omega)) 2 (.slice A1 m1 k1)).other (O26.out.below (show w.heap.size + 1 < _ by omega)) 3 (.slice A2 m2 k2)).other (O26.out.below (show w.heap.size + 1 < _ by omega)) 4 (.slice A3 m3 k3)
 have F3 := (((((O36.out.other (O36.out.below (show w.heap.size + 1 + 1 < _ by omega)) 4 (.slice A3 m3 k3)).other (O36.out.below (show w.heap.size + 1 < _ by omega)) 0 (.int .i64 d.room)).other (O36.out.below (show w.heap.size + 1 < _ by omega)) 1 (.int .i64 d.next)).other (O36.out.below (show w.heap.size + 1 < _ by omega)) 2 (.slice A1 m1 k1)).other (O36.out.below (show w.heap.size + 1 < _ by omega)) 3 (.slice A2 m2 k2)).other (O36.out.below (show w.heap.size + 1 < _ by omega)) 4 (.slice A3 m3 k3)
 have FB := (((((B6.out.setCell (show w.heap.size ≤ w.heap.size + 1 + 1 by omega) (.slice A3 m3 k3) (p := ⟨_, 4, none⟩)).setCell (show w.heap.size ≤ w.heap.size + 1 by omega) (.int .i64 d.room) (p := ⟨_, 0, none⟩)).setCell (show w.heap.size ≤ w.heap.size + 1 by omega) (.int .i64 d.next) (p := ⟨_, 1, none⟩)).setCell (show w.heap.size ≤ w.heap.size + 1 by omega) (.slice A1 m1 k1) (p := ⟨_, 2, none⟩)).setCell (show w.heap.size ≤ w.heap.size + 1 by omega) (.slice A2 m2 k2) (p := ⟨_, 3, none⟩)).setCell (show w.heap.size ≤ w.heap.size + 1 by omega) (.slice A3 m3 k3) (p := ⟨_, 4, none⟩)
 generalize (((((w6.setCell ⟨w.heap.size + 1 + 1, 4, none⟩ (.slice A3 m3 k3)).setCell ⟨w.heap.size + 1, 0, none⟩ (.int .i64 d.room)).setCell ⟨w.heap.size + 1, 1, none⟩ (.int .i64 d.next)).setCell ⟨w.heap.size + 1, 2, none⟩ (.slice A1 m1 k1)).setCell ⟨w.heap.size + 1, 3, none⟩ (.slice A2 m2 k2)).setCell ⟨w.heap.size + 1, 4, none⟩ (.slice A3 m3 k3) = WF at *
 have hG : Blk WF (w.heap.size + 1) #[.int .i64 d.room, .int .i64 d.next, .slice A1 m1 k1, .slice A2 m2 k2, .slice A3 m3 k3] 41 := hF
 have k0 := hG.cell 0 (.int .i64 d.room) rfl
 have k1' := hG.cell 1 (.int .i64 d.next) rfl
 have k2' := hG.cell 2 (.slice A1 m1 k1) rfl
 have k3' := hG.cell 3 (.slice A2 m2 k2) rfl
 have k4' := hG.cell 4 (.slice A3 m3 k3) rfl
 exact bodyPost_ret (v := .agg #[.int .i64 d.room, .int .i64 d.next, .slice A1 m1 k1, .slice A2 m2 k2, .slice A3 m3 k3]) (by simp [results, go_sem, k0, k1', k2', k3', k4']) rfl ⟨_, rfl, ⟨_, _, _, rfl, F1.mono (by omega), F2.mono (by omega), F3.mono (by omega)⟩, FB⟩
end Go.Proofs.YtdimaoloapbeoaaGreatDoor
namespace Go.Proofs.YtdimaoloapbeoaaGreatDoor
open Go.ChangeShapes Go.WideShapes Go.ChangeAt Go.RowKit Go.PlainAid
set_option linter.unusedVariables false
theorem below_alloc2 (w : World) (a b : Obj) : Below w.heap.size w ((w.alloc a).alloc b) := ((Below.refl _ w).alloc (Nat.le_refl _) a).alloc (by simp) b
set_option maxHeartbeats 400000 in
theorem eqInode (x : Nod) (w : World) : Calls Tryz.prog 71 #[vNod x, vNod x] w fun e w' => e = .returned (.bool true) ∧ Below w.heap.size w w' := by
 unfold vNod
 go_enter Tryz.func71, Tryz.ntmps71
 go_wp2
 go_ret
 exact ⟨rfl, below_alloc2 _ _ _⟩
set_option maxHeartbeats 1000000 in
theorem eqInodeS (l : List Nod) (va vb : Value) (w : World) (B : Nat) (ha : Lies w B 3 va (nodR l)) (hb : Lies w B 3 vb (nodR l)) (hn : l.length ≤ 1048576) (hB : B ≤ w.heap.size) :
  Calls Tryz.prog 32 #[va, vb] w fun e w' => e = .returned (.bool true) ∧ Below w.heap.size w w' := by
 obtain ⟨A, cap, rfl, hl⟩ := nod_look ha
 obtain ⟨A', cap', rfl, hl'⟩ := nod_look hb
 have HL : Hid (∀ j, j < l.length → ∃ g off, A = some ⟨g, off, none⟩ ∧ g < B ∧ _) := hl
 have HL' : Hid (∀ j, j < l.length → ∃ g off, A' = some ⟨g, off, none⟩ ∧ g < B ∧ _) := hl'
 have HB : Hid (B ≤ w.heap.size) := hB
 clear hl hl' hB ha hb
 have q1 : (l.length : Int) ≤ 1048576 := by omega
 generalize hN : l.length = n at *
 go_enter Tryz.func32, Tryz.ntmps32
 go_wp2_with fail
 go_loopw [5] (fun v5 wr => ∃ k : Nat, k ≤ n ∧ v5 = .int .i64 (k : Int) ∧ Below w.heap.size w wr) (fun i _ => n - (intOf i).toNat)
 case atStart => exact ⟨0, by omega, rfl, Below.refl _ _⟩
 case round =>
  obtain ⟨k, hk, rfl, hb⟩ := hrel
  have HB1 : Hid (Below w.heap.size w wr) := hb
  clear hb
  by_cases hlt : k < n
  ·have q4 : (k : Int) < (n : Int) := by omega
   obtain ⟨g, off, rfl, hg, ha0, ha1, ha2⟩ := HL.out k hlt
   obtain ⟨g', off', rfl, hg', hb0, hb1, hb2⟩ := HL'.out k hlt
   have hgw : g < w.heap.size := Nat.lt_of_lt_of_le hg HB.out
   have hgw' : g' < w.heap.size := Nat.lt_of_lt_of_le hg' HB.out
   rw [← HB1.out.cell (p := ⟨_, _, none⟩) hgw] at ha0
   rw [← HB1.out.cell (p := ⟨_, _, none⟩) hgw'] at hb0
   rw [← HB1.out.cell (p := ⟨_, _, none⟩) hgw] at ha1
   rw [← HB1.out.cell (p := ⟨_, _, none⟩) hgw'] at hb1
   rw [← HB1.out.cell (p := ⟨_, _, none⟩) hgw] at ha2
   rw [← HB1.out.cell (p := ⟨_, _, none⟩) hgw'] at hb2
   have c1 := fun wx => eqInode (l.getD k default) wx
   unfold vNod at c1
   generalize l.getD k default = x at *
   have hsz := HB1.out.size
   go_wp2_with fail
   go_region_with (go_at_call 71; refine (c1 _).mono ?_; rintro e w1 ⟨rfl, hb1⟩)
   all_goals go_wp2_with fail
   all_goals exact ⟨⟨k + 1, by omega, by go_num, HB1.out.trans (((Below.refl _ wr).drew.trans hb1).mono hsz)⟩, by simp [intOf]; omega⟩
  ·obtain rfl : k = n := by omega
   go_wp2_with fail
   go_ret
   exact ⟨rfl, HB1.out⟩
set_option maxHeartbeats 400000 in
theorem eqLink (x : Lnk) (w : World) : Calls Tryz.prog 72 #[vLnk x, vLnk x] w fun e w' => e = .returned (.bool true) ∧ Below w.heap.size w w' := by
 unfold vLnk
 go_enter Tryz.func72, Tryz.ntmps72
 go_wp2
 go_ret
 exact ⟨rfl, below_alloc2 _ _ _⟩
set_option maxHeartbeats 1000000 in
theorem eqLinkS (l : List Lnk) (va vb : Value) (w : World) (B : Nat) (ha : Lies w B 2 va (lnkR l)) (hb : Lies w B 2 vb (lnkR l)) (hn : l.length ≤ 1048576) (hB : B ≤ w.heap.size) :
  Calls Tryz.prog 33 #[va, vb] w fun e w' => e = .returned (.bool true) ∧ Below w.heap.size w w' := by
 obtain ⟨A, cap, rfl, hl⟩ := lnk_look ha
 obtain ⟨A', cap', rfl, hl'⟩ := lnk_look hb
 have HL : Hid (∀ j, j < l.length → ∃ g off, A = some ⟨g, off, none⟩ ∧ g < B ∧ _) := hl
 have HL' : Hid (∀ j, j < l.length → ∃ g off, A' = some ⟨g, off, none⟩ ∧ g < B ∧ _) := hl'
 have HB : Hid (B ≤ w.heap.size) := hB
 clear hl hl' hB ha hb
 have q1 : (l.length : Int) ≤ 1048576 := by omega
 generalize hN : l.length = n at *
 go_enter Tryz.func33, Tryz.ntmps33
 go_wp2_with fail
 go_loopw [5] (fun v5 wr => ∃ k : Nat, k ≤ n ∧ v5 = .int .i64 (k : Int) ∧ Below w.heap.size w wr) (fun i _ => n - (intOf i).toNat)
 case atStart => exact ⟨0, by omega, rfl, Below.refl _ _⟩
 case round =>
  obtain ⟨k, hk, rfl, hb⟩ := hrel
  have HB1 : Hid (Below w.heap.size w wr) := hb
  clear hb
  by_cases hlt : k < n
  ·have q4 : (k : Int) < (n : Int) := by omega
   obtain ⟨g, off, rfl, hg, ha0, ha1⟩ := HL.out k hlt
   obtain ⟨g', off', rfl, hg', hb0, hb1⟩ := HL'.out k hlt
   have hgw : g < w.heap.size := Nat.lt_of_lt_of_le hg HB.out
   have hgw' : g' < w.heap.size := Nat.lt_of_lt_of_le hg' HB.out
   rw [← HB1.out.cell (p := ⟨_, _, none⟩) hgw] at ha0
   rw [← HB1.out.cell (p := ⟨_, _, none⟩) hgw'] at hb0
   rw [← HB1.out.cell (p := ⟨_, _, none⟩) hgw] at ha1
   rw [← HB1.out.cell (p := ⟨_, _, none⟩) hgw'] at hb1
   have c1 := fun wx => eqLink (l.getD k default) wx
   unfold vLnk at c1
   generalize l.getD k default = x at *
   have hsz := HB1.out.size
   go_wp2_with fail
   go_region_with (go_at_call 72; refine (c1 _).mono ?_; rintro e w1 ⟨rfl, hb1⟩)
   all_goals go_wp2_with fail
   all_goals exact ⟨⟨k + 1, by omega, by go_num, HB1.out.trans (((Below.refl _ wr).drew.trans hb1).mono hsz)⟩, by simp [intOf]; omega⟩
  ·obtain rfl : k = n := by omega
   go_wp2_with fail
   go_ret
   exact ⟨rfl, HB1.out⟩
set_option maxHeartbeats 400000 in
theorem eqMove (x : Mov) (w : World) : Calls Tryz.prog 73 #[vMov x, vMov x] w fun e w' => e = .returned (.bool true) ∧ Below w.heap.size w w' := by
 unfold vMov
 go_enter Tryz.func73, Tryz.ntmps73
 go_wp2
 go_ret
 exact ⟨rfl, below_alloc2 _ _ _⟩
set_option maxHeartbeats 1000000 in
theorem eqMoveS (l : List Mov) (va vb : Value) (w : World) (B : Nat) (ha : Lies w B 4 va (movR l)) (hb : Lies w B 4 vb (movR l)) (hn : l.length ≤ 1048576) (hB : B ≤ w.heap.size) :
  Calls Tryz.prog 34 #[va, vb] w fun e w' => e = .returned (.bool true) ∧ Below w.heap.size w w' := by
 obtain ⟨A, cap, rfl, hl⟩ := mov_look ha
 obtain ⟨A', cap', rfl, hl'⟩ := mov_look hb
 have HL : Hid (∀ j, j < l.length → ∃ g off, A = some ⟨g, off, none⟩ ∧ g < B ∧ _) := hl
 have HL' : Hid (∀ j, j < l.length → ∃ g off, A' = some ⟨g, off, none⟩ ∧ g < B ∧ _) := hl'
 have HB : Hid (B ≤ w.heap.size) := hB
 clear hl hl' hB ha hb
 have q1 : (l.length : Int) ≤ 1048576 := by omega
 generalize hN : l.length = n at *
 go_enter Tryz.func34, Tryz.ntmps34
 go_wp2_with fail
 go_loopw [5] (fun v5 wr => ∃ k : Nat, k ≤ n ∧ v5 = .int .i64 (k : Int) ∧ Below w.heap.size w wr) (fun i _ => n - (intOf i).toNat)
 case atStart => exact ⟨0, by omega, rfl, Below.refl _ _⟩
 case round =>
  obtain ⟨k, hk, rfl, hb⟩ := hrel
  have HB1 : Hid (Below w.heap.size w wr) := hb
  clear hb
  by_cases hlt : k < n
  ·have q4 : (k : Int) < (n : Int) := by omega
   obtain ⟨g, off, rfl, hg, ha0, ha1, ha2, ha3⟩ := HL.out k hlt
   obtain ⟨g', off', rfl, hg', hb0, hb1, hb2, hb3⟩ := HL'.out k hlt
   have hgw : g < w.heap.size := Nat.lt_of_lt_of_le hg HB.out
   have hgw' : g' < w.heap.size := Nat.lt_of_lt_of_le hg' HB.out
   rw [← HB1.out.cell (p := ⟨_, _, none⟩) hgw] at ha0
   rw [← HB1.out.cell (p := ⟨_, _, none⟩) hgw'] at hb0
   rw [← HB1.out.cell (p := ⟨_, _, none⟩) hgw] at ha1
   rw [← HB1.out.cell (p := ⟨_, _, none⟩) hgw'] at hb1
   rw [← HB1.out.cell (p := ⟨_, _, none⟩) hgw] at ha2
   rw [← HB1.out.cell (p := ⟨_, _, none⟩) hgw'] at hb2
   rw [← HB1.out.cell (p := ⟨_, _, none⟩) hgw] at ha3
   rw [← HB1.out.cell (p := ⟨_, _, none⟩) hgw'] at hb3
   have c1 := fun wx => eqMove (l.getD k default) wx
   unfold vMov at c1
   generalize l.getD k default = x at *
   have hsz := HB1.out.size
   go_wp2_with fail
   go_region_with (go_at_call 73; refine (c1 _).mono ?_; rintro e w1 ⟨rfl, hb1⟩)
   all_goals go_wp2_with fail
   all_goals exact ⟨⟨k + 1, by omega, by go_num, HB1.out.trans (((Below.refl _ wr).drew.trans hb1).mono hsz)⟩, by simp [intOf]; omega⟩
  ·obtain rfl : k = n := by omega
   go_wp2_with fail
   go_ret
   exact ⟨rfl, HB1.out⟩
set_option maxHeartbeats 1000000 in
theorem eqDisk (d : Dsk) (va vb : Value) (w : World) (B : Nat) (ha : DiskV w B va d) (hb : DiskV w B vb d) (hw : wtD d ≤ 1048576) (hB : B ≤ w.heap.size) :
  Calls Tryz.prog 9 #[va, vb] w fun e w' => e = .returned (.bool true) ∧ Below w.heap.size w w' := by
 obtain ⟨a1, a2, a3, rfl, an, al, am⟩ := ha
 obtain ⟨b1, b2, b3, rfl, bn, bl, bm⟩ := hb
 unfold wtD at hw
 have HB : Hid (B ≤ w.heap.size) := hB
 have AN : Hid (Lies w B 3 a1 (nodR d.nods)) := an
 have AL : Hid (Lies w B 2 a2 (lnkR d.dir)) := al
 have AM : Hid (Lies w B 4 a3 (movR d.movs)) := am
 have BN : Hid (Lies w B 3 b1 (nodR d.nods)) := bn
 have BL : Hid (Lies w B 2 b2 (lnkR d.dir)) := bl
 have BM : Hid (Lies w B 4 b3 (movR d.movs)) := bm
 have L1 : Hid (d.nods.length ≤ 1048576) := by unfold Hid; omega
 have L2 : Hid (d.dir.length ≤ 1048576) := by unfold Hid; omega
 have L3 : Hid (d.movs.length ≤ 1048576) := by unfold Hid; omega
 clear an al am bn bl bm hw hB
 go_enter Tryz.func9, Tryz.ntmps9
 go_wp2_with fail
 have hb0 := below_alloc2 w (.cells #[.int .i64 d.room, .int .i64 d.next, a1, a2, a3] 41) (.cells #[.int .i64 d.room, .int .i64 d.next, b1, b2, b3] 41)
 have kA := (Blk.new w #[.int .i64 d.room, .int .i64 d.next, a1, a2, a3] 41).alloc (.cells #[.int .i64 d.room, .int .i64 d.next, b1, b2, b3] 41)
 have kB := Blk.new (w.alloc (.cells #[.int .i64 d.room, .int .i64 d.next, a1, a2, a3] 41)) #[.int .i64 d.room, .int .i64 d.next, b1, b2, b3] 41
 simp only [World.size_alloc] at kB
 generalize (w.alloc (.cells #[.int .i64 d.room, .int .i64 d.next, a1, a2, a3] 41)).alloc (.cells #[.int .i64 d.room, .int .i64 d.next, b1, b2, b3] 41) = W at *
 have B0 : Hid (Below w.heap.size w W) := hb0
 have hlt := kB.lt
 clear hb0
 refine (eqInodeS d.nods a1 b1 W B (AN.out.on (B0.out.mono HB.out)) (BN.out.on (B0.out.mono HB.out)) L1.out (Nat.le_trans HB.out B0.out.size)).mono ?_
 rintro e w2 ⟨rfl, hb2⟩
 have B2 : Hid (Below w.heap.size w w2) := B0.out.trans (hb2.mono B0.out.size)
 have kA2 := kA.on hb2 (by omega)
 have kB2 := kB.on hb2 hlt
 clear kA kB hb2 hlt
 have e1 := kA2.cell 3 a2 rfl
 have e2 := kB2.cell 3 b2 rfl
 have hlt := kB2.lt
 have KA2 : Hid (Blk w2 w.heap.size _ _) := kA2
 have KB2 : Hid (Blk w2 (w.heap.size + 1) _ _) := kB2
 clear kA2 kB2
 go_wp2_with fail
 refine (eqLinkS d.dir a2 b2 w2 B (AL.out.on (B2.out.mono HB.out)) (BL.out.on (B2.out.mono HB.out)) L2.out (Nat.le_trans HB.out B2.out.size)).mono ?_
 rintro e w3 ⟨rfl, hb3⟩
 have B3 : Hid (Below w.heap.size w w3) := B2.out.trans (hb3.mono B2.out.size)
 have e3 := (KA2.out.on hb3 (by omega)).cell 4 a3 rfl
 have e4 := (KB2.out.on hb3 hlt).cell 4 b3 rfl
 clear e1 e2 hb3 hlt
 go_wp2_with fail
 refine (eqMoveS d.movs a3 b3 w3 B (AM.out.on (B3.out.mono HB.out)) (BM.out.on (B3.out.mono HB.out)) L3.out (Nat.le_trans HB.out B3.out.size)).mono ?_
 rintro e w4 ⟨rfl, hb4⟩
 have B4 : Hid (Below w.heap.size w w4) := B3.out.trans (hb4.mono B3.out.size)
 clear hb4
 go_wp2_with fail
 go_ret
 exact ⟨rfl, B4.out⟩
end Go.Proofs.YtdimaoloapbeoaaGreatDoor
namespace Go.Proofs.YtdimaoloapbeoaaGreatDoor
open Go.ChangeShapes Go.WideShapes Go.ChangeAt Go.RowKit Go.PlainAid Go.Maps
set_option linter.unusedVariables false
structure IntsOk (d : Dsk) : Prop where
 l : ∀ x ∈ d.dir, IntOk x.id
 m : ∀ x ∈ d.movs, IntOk x.id
theorem bytes_wt (l : List Nod) : bytesOf l ≤ wtN l := by
 induction l with
 | nil => exact Nat.le_refl _
 | cons x r ih =>
  unfold bytesOf wtN wtN1
  omega
theorem delAll_len (l : List (Int × Nat)) (dl : List Lnk) : (delAll l dl).length ≤ l.length := by
 unfold delAll
 induction dl generalizing l with
 | nil => exact Nat.le_refl _
 | cons x r ih => exact Nat.le_trans (ih _) (List.length_filter_le _ _)
theorem delMade_len (l : List (Int × Nat)) (ml : List Mov) : (delMade l ml).length ≤ l.length := by
 unfold delMade
 induction ml generalizing l with
 | nil => exact Nat.le_refl _
 | cons x r ih =>
  refine Nat.le_trans (ih _) ?_
  show (if x.kind = 1 then ptrDel l x.id else l).length ≤ l.length
  split
  ·exact List.length_filter_le _ _
  ·exact Nat.le_refl _
structure OpenD (w : World) (base p : Nat) (d : Dsk) (bi bd bw : Nat) (gs : List Nat) (u : Value) : Prop where
 blk : Blk w p #[.int .i64 d.room, .int .i64 d.next, .map (some bi), .map (some bd), u, .map (some bw)] 119
 it : IT w bi (prs d.nods gs)
 held : Held w d.nods gs
 rise : gs.Pairwise (· < ·)
 nd : NT w bd d.dir
 nw : NT w bw (now d)
 mv : Owns w base 94 4 u (movR d.movs)
 pi : p ≠ bi
 pd : p ≠ bd
 pw : p ≠ bw
 id : bi ≠ bd
 iw : bi ≠ bw
 dw : bd ≠ bw
 lo : base ≤ p ∧ base ≤ bi ∧ base ≤ bd ∧ base ≤ bw
 gl : ∀ g ∈ gs, base ≤ g ∧ g ≠ p ∧ g ≠ bi ∧ g ≠ bd ∧ g ≠ bw
theorem OpenD.on {w w' : World} {base p : Nat} {d : Dsk} {bi bd bw : Nat} {gs : List Nat} {u : Value} (h : OpenD w base p d bi bd bw gs u) (hb : Below w.heap.size w w') : OpenD w' base p d bi bd bw gs u :=
 ⟨h.blk.on hb h.blk.lt, h.it.on hb h.it.lt, h.held.on hb h.held.lt, h.rise, h.nd.on hb h.nd.lt, h.nw.on hb h.nw.lt, h.mv.on hb, h.pi, h.pd, h.pw, h.id, h.iw, h.dw, h.lo, h.gl⟩
set_option maxRecDepth 20000 in
set_option maxHeartbeats 1000000 in
theorem opened_no (d : Dsk) (v : Value) (w : World) (B : Nat) (hv : DiskV w B v d) (h : ¬ (0 ≤ d.room ∧ d.room ≤ 1048576 ∧ 1 ≤ d.next ∧ d.next ≤ 1000000)) :
  Calls Tryz.prog 23 #[v] w fun e w' => e = .returned (.pointer none) ∧ Below w.heap.size w w' := by
 obtain ⟨v1, v2, v3, rfl, h1, h2, h3⟩ := hv
 clear h1 h2 h3
 by_cases c1 : d.room < 0
 ·have k1 : decide (d.room < 0) = true := decide_eq_true c1
  clear h
  go_enter Tryz.func23, Tryz.ntmps23
  go_wp2_with fail
  go_ret
  exact ⟨rfl, (Below.refl _ _).alloc (Nat.le_refl _) _⟩
 ·have k1 : decide (d.room < 0) = false := decide_eq_false c1
  by_cases c2 : 1048576 < d.room
  ·have k2 : decide (1048576 < d.room) = true := decide_eq_true c2
   clear h
   go_enter Tryz.func23, Tryz.ntmps23
   go_wp2_with fail
   go_ret
   exact ⟨rfl, (Below.refl _ _).alloc (Nat.le_refl _) _⟩
  ·have k2 : decide (1048576 < d.room) = false := decide_eq_false c2
   by_cases c3 : d.next < 1
   ·have k3 : decide (d.next < 1) = true := decide_eq_true c3
    clear h
    go_enter Tryz.func23, Tryz.ntmps23
    go_wp2_with fail
    go_ret
    exact ⟨rfl, (Below.refl _ _).alloc (Nat.le_refl _) _⟩
   ·have k3 : decide (d.next < 1) = false := decide_eq_false c3
    have c4 : 1000000 < d.next := by omega
    have k4 : decide (1000000 < d.next) = true := decide_eq_true c4
    clear h
    go_enter Tryz.func23, Tryz.ntmps23
    go_wp2_with fail
    go_ret
    exact ⟨rfl, (Below.refl _ _).alloc (Nat.le_refl _) _⟩
set_option maxRecDepth 20000 in
set_option maxHeartbeats 4000000 in
theorem openedV (d : Dsk) (v : Value) (w : World) (B : Nat) (hv : DiskV w B v d) (hf : Fits d) (hi : IntsOk d) (hw : wtD d ≤ 1048576) (hB : B ≤ w.heap.size) :
  Calls Tryz.prog 23 #[v] w fun e w' => Below w.heap.size w w' ∧ ((diskOk d = false ∧ e = .returned (.pointer none)) ∨ (diskOk d = true ∧ ∃ p bi bd bw gs u, e = .returned (.pointer (some ⟨p, 0, none⟩)) ∧ OpenD w' w.heap.size p d bi bd bw gs u)) := by
 by_cases hr : 0 ≤ d.room ∧ d.room ≤ 1048576 ∧ 1 ≤ d.next ∧ d.next ≤ 1000000
 ·have HF : Hid (Fits d) := hf
  have HI : Hid (IntsOk d) := hi
  have HV : Hid (DiskV w B v d) := hv
  have HB : Hid (B ≤ w.heap.size) := hB
  have HBY : Hid (bytesOf d.nods ≤ 4194304) := by
   have := bytes_wt d.nods
   unfold wtD at hw
   unfold Hid
   omega
  have HLN : Hid (d.nods.length ≤ 1048576 ∧ d.dir.length ≤ 1048576 ∧ d.movs.length ≤ 1048576) := by
   unfold wtD at hw
   unfold Hid
   omega
  obtain ⟨r0, r1, x0, x1⟩ := hr
  have HRR : Hid (0 ≤ d.room ∧ d.room ≤ 1048576 ∧ 1 ≤ d.next ∧ d.next ≤ 1000000) := ⟨r0, r1, x0, x1⟩
  obtain ⟨v1, v2, v3, rfl, h1, h2, h3⟩ := hv
  have H1 : Hid (Lies w B 3 v1 (nodR d.nods)) := h1
  have H2 : Hid (Lies w B 2 v2 (lnkR d.dir)) := h2
  have H3 : Hid (Lies w B 4 v3 (movR d.movs)) := h3
  have k1 : decide (d.room < 0) = false := decide_eq_false (by omega)
  have k2 : decide (1048576 < d.room) = false := decide_eq_false (by omega)
  have k3 : decide (d.next < 1) = false := decide_eq_false (by omega)
  have k4 : decide (1000000 < d.next) = false := decide_eq_false (by omega)
  have hmm := fun t wx => run_makeMap (P := Tryz.prog) t wx
  obtain ⟨A1, c1, e1, _⟩ := nod_look h1
  obtain ⟨A2, c2, e2, _⟩ := lnk_look h2
  obtain ⟨A3, c3, e3, _⟩ := mov_look h3
  clear h1 h2 h3 hf hi hw hB
  subst e1 e2 e3
  go_enter Tryz.func23, Tryz.ntmps23
  go_wp2_with fail
  have kB0 := (((Blk.new w #[.int .i64 d.room, .int .i64 d.next, .slice A1 d.nods.length c1, .slice A2 d.dir.length c2, .slice A3 d.movs.length c3] 41).alloc (.map #[] 0)).alloc (.map #[] 0)).alloc (.cells #[.int .i64 d.room, .int .i64 d.next, .map (some (w.heap.size + 1)), .map (some (w.heap.size + 1 + 1)), .slice none 0 0, .map none] 119)
  have hW0 : Below w.heap.size w ((((w.alloc (.cells #[.int .i64 d.room, .int .i64 d.next, .slice A1 d.nods.length c1, .slice A2 d.dir.length c2, .slice A3 d.movs.length c3] 41)).alloc (.map #[] 0)).alloc (.map #[] 0)).alloc (.cells #[.int .i64 d.room, .int .i64 d.next, .map (some (w.heap.size + 1)), .map (some (w.heap.size + 1 + 1)), .slice none 0 0, .map none] 119)) := ((((Below.refl _ w).alloc (Nat.le_refl _) _).alloc (by simp) _).alloc (by simp; omega) _).alloc (by simp; omega) _
  have kP := Blk.new (((w.alloc (.cells #[.int .i64 d.room, .int .i64 d.next, .slice A1 d.nods.length c1, .slice A2 d.dir.length c2, .slice A3 d.movs.length c3] 41)).alloc (.map #[] 0)).alloc (.map #[] 0)) #[.int .i64 d.room, .int .i64 d.next, .map (some (w.heap.size + 1)), .map (some (w.heap.size + 1 + 1)), .slice none 0 0, .map none] 119
  have hIT : IT ((((w.alloc (.cells #[.int .i64 d.room, .int .i64 d.next, .slice A1 d.nods.length c1, .slice A2 d.dir.length c2, .slice A3 d.movs.length c3] 41)).alloc (.map #[] 0)).alloc (.map #[] 0)).alloc (.cells #[.int .i64 d.room, .int .i64 d.next, .map (some (w.heap.size + 1)), .map (some (w.heap.size + 1 + 1)), .slice none 0 0, .map none] 119)) (w.heap.size + 1) [] := by
   have := IT.made (w.alloc (.cells #[.int .i64 d.room, .int .i64 d.next, .slice A1 d.nods.length c1, .slice A2 d.dir.length c2, .slice A3 d.movs.length c3] 41))
   rw [World.size_alloc] at this
   refine (this.on ((Below.refl _ _).alloc (Nat.le_refl _) (.map #[] 0)) (by simp)).on ((Below.refl _ _).alloc (Nat.le_refl _) _) (by simp)
  have hNT : NT ((((w.alloc (.cells #[.int .i64 d.room, .int .i64 d.next, .slice A1 d.nods.length c1, .slice A2 d.dir.length c2, .slice A3 d.movs.length c3] 41)).alloc (.map #[] 0)).alloc (.map #[] 0)).alloc (.cells #[.int .i64 d.room, .int .i64 d.next, .map (some (w.heap.size + 1)), .map (some (w.heap.size + 1 + 1)), .slice none 0 0, .map none] 119)) (w.heap.size + 1 + 1) [] := by
   have := NT.made ((w.alloc (.cells #[.int .i64 d.room, .int .i64 d.next, .slice A1 d.nods.length c1, .slice A2 d.dir.length c2, .slice A3 d.movs.length c3] 41)).alloc (.map #[] 0))
   simp only [World.size_alloc] at this
   exact this.on ((Below.refl _ _).alloc (Nat.le_refl _) _) (by simp)
  simp only [World.size_alloc] at kP
  have sW0 : ((((w.alloc (.cells #[.int .i64 d.room, .int .i64 d.next, .slice A1 d.nods.length c1, .slice A2 d.dir.length c2, .slice A3 d.movs.length c3] 41)).alloc (.map #[] 0)).alloc (.map #[] 0)).alloc (.cells #[.int .i64 d.room, .int .i64 d.next, .map (some (w.heap.size + 1)), .map (some (w.heap.size + 1 + 1)), .slice none 0 0, .map none] 119)).heap.size = w.heap.size + 1 + 1 + 1 + 1 := by simp
  generalize (((w.alloc (.cells #[.int .i64 d.room, .int .i64 d.next, .slice A1 d.nods.length c1, .slice A2 d.dir.length c2, .slice A3 d.movs.length c3] 41)).alloc (.map #[] 0)).alloc (.map #[] 0)).alloc (.cells #[.int .i64 d.room, .int .i64 d.next, .map (some (w.heap.size + 1)), .map (some (w.heap.size + 1 + 1)), .slice none 0 0, .map none] 119) = W at *
  have B0 : Hid (Below w.heap.size w W) := hW0
  have KP : Hid (Blk W (w.heap.size + 1 + 1 + 1) #[.int .i64 d.room, .int .i64 d.next, .map (some (w.heap.size + 1)), .map (some (w.heap.size + 1 + 1)), .slice none 0 0, .map none] 119) := kP
  have KD : Hid (Blk W w.heap.size #[.int .i64 d.room, .int .i64 d.next, .slice A1 d.nods.length c1, .slice A2 d.dir.length c2, .slice A3 d.movs.length c3] 41) := kB0
  have N0 : Hid (NT W (w.heap.size + 1 + 1) []) := hNT
  have SW : Hid (W.heap.size = w.heap.size + 1 + 1 + 1 + 1) := sW0
  have cI := takeInodesV d.room d.next (.slice A1 d.nods.length c1) (.map (some (w.heap.size + 1 + 1))) (.slice none 0 0) (.map none) (w.heap.size + 1 + 1 + 1) (w.heap.size + 1) B d.nods W kP hIT (H1.out.on (hW0.mono HB.out)) (Nat.le_trans HB.out hW0.size) (by have := HB.out; omega) (by omega) r0 r1 x0 x1 HBY.out HLN.out.1
  have y2 := kB0.cell 2 _ rfl
  clear kB0 hW0 kP hIT hNT sW0 hmm k1 k2 k3 k4
  go_wp2_with fail
  refine cI.mono ?_
  rintro e w1 ⟨rfl, hB1, hT1⟩
  clear cI y2
  have HB1 : Hid (But (fun i => i = w.heap.size + 1) W w1) := hB1
  have BL1 : Hid (Below w.heap.size w w1) := B0.out.trans (hB1.below w.heap.size B0.out.size (fun i hi e => by omega))
  cases ht : takeOk d.room d.next d.nods with
  | false =>
   have HN : Hid (diskOk d = false) := diskOk_not fun h => by rw [take_of_whole h] at ht; cases ht
   clear hT1 hB1
   go_wp2_with fail
   go_ret
   exact ⟨BL1.out, .inl ⟨HN.out, rfl⟩⟩
  | true =>
   obtain ⟨gs, hT⟩ := hT1 ht
   have HT : Hid (takeOk d.room d.next d.nods = true) := ht
   have TK : Hid (Taken W w1 (w.heap.size + 1) d.nods gs) := hT
   have KP1 : Hid (Blk w1 (w.heap.size + 1 + 1 + 1) #[.int .i64 d.room, .int .i64 d.next, .map (some (w.heap.size + 1)), .map (some (w.heap.size + 1 + 1)), .slice none 0 0, .map none] 119) := hB1.blk KP.out (by omega)
   have KD1 : Hid (Blk w1 w.heap.size #[.int .i64 d.room, .int .i64 d.next, .slice A1 d.nods.length c1, .slice A2 d.dir.length c2, .slice A3 d.movs.length c3] 41) := hB1.blk KD.out (by omega)
   have N1 : Hid (NT w1 (w.heap.size + 1 + 1) []) := N0.out.but hB1 (by omega)
   have hl : Hid (gs.length = d.nods.length) := hT.held.len
   have cC := cloneIV w1 (w.heap.size + 1) (prs d.nods gs) hT.it
   have y2 := KP1.out.cell 2 _ rfl
   clear hB1 hT1 hT ht KP KD N0
   go_wp2_with fail
   refine cC.mono ?_
   rintro e w2 ⟨rfl, hI2, hb2⟩
   clear cC y2
   have SZ : Hid (W.heap.size ≤ w1.heap.size) := HB1.out.size
   have KP2 : Hid (Blk w2 (w.heap.size + 1 + 1 + 1) #[.int .i64 d.room, .int .i64 d.next, .map (some (w.heap.size + 1)), .map (some (w.heap.size + 1 + 1)), .slice none 0 0, .map none] 119) := KP1.out.on hb2 KP1.out.lt
   have KD2 : Hid (Blk w2 w.heap.size #[.int .i64 d.room, .int .i64 d.next, .slice A1 d.nods.length c1, .slice A2 d.dir.length c2, .slice A3 d.movs.length c3] 41) := KD1.out.on hb2 KD1.out.lt
   have N2 : Hid (NT w2 (w.heap.size + 1 + 1) []) := N1.out.on hb2 N1.out.lt
   have I2 : Hid (IT w2 (w.heap.size + 1) (prs d.nods gs)) := TK.out.it.on hb2 TK.out.it.lt
   have H2' : Hid (Held w2 d.nods gs) := TK.out.held.on hb2 TK.out.held.lt
   have GL : Hid (∀ g ∈ gs, W.heap.size ≤ g ∧ g < w1.heap.size) := fun g hg => ⟨TK.out.new g hg, TK.out.held.lt g hg⟩
   have GR : Hid (gs.Pairwise (· < ·)) := TK.out.rise
   have M2 : Hid (IT w2 w1.heap.size (prs d.nods gs)) := hI2
   have BL2 : Hid (Below w.heap.size w w2) := BL1.out.trans (hb2.mono BL1.out.size)
   have cD := takeDirV d.room d.next (.slice A2 d.dir.length c2) (.map (some (w.heap.size + 1))) (.slice none 0 0) (.map none) (w.heap.size + 1 + 1 + 1) (w.heap.size + 1 + 1) w1.heap.size B (prs d.nods gs) d.dir w2 KP2.out N2.out hI2 (H2.out.on (BL2.out.mono HB.out)) (Nat.le_trans HB.out BL2.out.size) (by have := HB.out; omega) (by have := HB.out; have := BL1.out.size; omega) (by omega) (by have := SW.out; have := SZ.out; omega) (by have := SW.out; have := SZ.out; omega) HLN.out.2.1 HI.out.l HF.out.lx
   have y3 := KD2.out.cell 3 _ rfl
   clear hI2 hb2 KP1 KD1 N1 TK
   generalize hbn : w1.heap.size = bn at *
   go_wp2_with fail
   refine cD.mono ?_
   rintro e w3 ⟨rfl, hB3, hD3⟩
   clear cD y3
   have HB3 : Hid (But (fun i => i = w.heap.size + 1 + 1 ∨ i = bn ∨ i = w.heap.size + 1 + 1 + 1) w2 w3) := hB3
   have BL3 : Hid (Below w.heap.size w w3) := BL2.out.trans (hB3.below w.heap.size BL2.out.size (fun i hi e => by have := SW.out; have := SZ.out; omega))
   cases hd : dirOk (prs d.nods gs) d.dir with
   | false =>
    have HN : Hid (diskOk d = false) := diskOk_not fun h => by rw [dir_of_whole hl.out h] at hd; cases hd
    clear hD3 hB3
    go_wp2_with fail
    go_ret
    exact ⟨BL3.out, .inl ⟨HN.out, rfl⟩⟩
   | true =>
    obtain ⟨bw, hbw, hP3, hN3, hW3, hM3⟩ := hD3 hd
    have HD : Hid (dirOk (prs d.nods gs) d.dir = true) := hd
    have KD3 : Hid (Blk w3 w.heap.size #[.int .i64 d.room, .int .i64 d.next, .slice A1 d.nods.length c1, .slice A2 d.dir.length c2, .slice A3 d.movs.length c3] 41) := hB3.blk KD2.out (by have := SW.out; have := SZ.out; omega)
    have KP3 : Hid (Blk w3 (w.heap.size + 1 + 1 + 1) #[.int .i64 d.room, .int .i64 d.next, .map (some (w.heap.size + 1)), .map (some (w.heap.size + 1 + 1)), .slice none 0 0, .map (some bw)] 119) := hP3
    have N3 : Hid (NT w3 (w.heap.size + 1 + 1) d.dir) := hN3
    have WN3 : Hid (NT w3 bw d.dir) := hW3
    have M3 : Hid (IT w3 bn (delAll (prs d.nods gs) d.dir)) := hM3
    have I3 : Hid (IT w3 (w.heap.size + 1) (prs d.nods gs)) := I2.out.but hB3 (by have := SW.out; have := SZ.out; omega)
    have H3' : Hid (Held w3 d.nods gs) := H2'.out.but hB3 (fun g hg => by have := GL.out g hg; have := SW.out; omega)
    have HBW : Hid (w2.heap.size ≤ bw) := hbw
    have HBN : Hid (bn < w2.heap.size) := M2.out.lt
    have HDL : Hid (d.dir.length ≤ 100) := by
     have h1 := dir_len hd
     rw [prs_length hl.out] at h1
     have h2 := HT.out
     unfold takeOk at h2
     simp only [Bool.and_eq_true, decide_eq_true_eq] at h2
     unfold Hid
     omega
    have cM := takeMovesV d.room d.next (.slice A3 d.movs.length c3) (.map (some (w.heap.size + 1))) (.map (some (w.heap.size + 1 + 1))) (w.heap.size + 1 + 1 + 1) bw bn B d.dir (delAll (prs d.nods gs) d.dir) d.movs w3 hP3 hW3 hM3 (H3.out.on (BL3.out.mono HB.out)) (Nat.le_trans HB.out BL3.out.size) (by have := HB.out; have := BL2.out.size; omega) (by have := HB.out; have := SW.out; have := SZ.out; omega) (by have := HB.out; omega) (by have := SW.out; have := SZ.out; have := HBN.out; omega) (by have := SW.out; have := SZ.out; omega) (by have := HBN.out; omega) HLN.out.2.2 HDL.out (NamesOk.of_dir hd) HI.out.m HF.out.mx
    have y4 := KD3.out.cell 4 _ rfl
    clear hB3 hD3 hd hP3 hN3 hW3 hM3 hbw KP2 KD2 N2 I2 H2' M2
    go_wp2_with fail
    refine cM.mono ?_
    rintro e w4 ⟨rfl, hB4, hM4⟩
    clear cM y4
    have HB4 : Hid (But (fun i => i = bw ∨ i = bn ∨ i = w.heap.size + 1 + 1 + 1) w3 w4) := hB4
    have BL4 : Hid (Below w.heap.size w w4) := BL3.out.trans (hB4.below w.heap.size BL3.out.size (fun i hi e => by have := SW.out; have := SZ.out; have := HBW.out; have := HBN.out; omega))
    cases hm : mvOk d.dir (delAll (prs d.nods gs) d.dir) d.movs with
    | false =>
     have HN : Hid (diskOk d = false) := diskOk_not fun h => by rw [mov_of_whole hl.out h] at hm; cases hm
     clear hM4 hB4
     go_wp2_with fail
     go_ret
     exact ⟨BL4.out, .inl ⟨HN.out, rfl⟩⟩
    | true =>
     obtain ⟨u, hP4, hO4, hN4, hQ4⟩ := hM4 hm
     have HM : Hid (mvOk d.dir (delAll (prs d.nods gs) d.dir) d.movs = true) := hm
     have r4 := hQ4.len 3
     have OD : Hid (OpenD w4 w.heap.size (w.heap.size + 1 + 1 + 1) d (w.heap.size + 1) (w.heap.size + 1 + 1) bw gs u) := by
      have h1 := SW.out
      have h2 := SZ.out
      have h3 := HBW.out
      have h4 := HBN.out
      refine ⟨hP4, I3.out.but hB4 (by omega), H3'.out.but hB4 (fun g hg => by have := GL.out g hg; omega), GR.out, N3.out.but hB4 (by omega), hN4, hO4.mono BL3.out.size, by omega, by omega, by omega, by omega, by omega, by omega, ⟨by omega, by omega, by omega, by omega⟩, fun g hg => ?_⟩
      have := GL.out g hg
      exact ⟨by omega, by omega, by omega, by omega, by omega⟩
     have LEN : Hid ((delMade (delAll (prs d.nods gs) d.dir) d.movs).length ≤ 1048576) := by
      have h5 := hQ4.tight.size_le
      unfold Hid
      have h6 : (delMade (delAll (prs d.nods gs) d.dir) d.movs).length ≤ (prs d.nods gs).length := by
       refine Nat.le_trans (delMade_len _ _) (delAll_len _ _)
      rw [prs_length hl.out] at h6
      have := HLN.out.1
      omega
     clear hB4 hM4 hP4 hO4 hN4 hQ4 hm
     by_cases h0 : (delMade (delAll (prs d.nods gs) d.dir) d.movs).length = 0
     ·have HY : Hid (diskOk d = true) := (whole_iff d).2 (whole_of hl.out HRR.out.1 HRR.out.2.1 HRR.out.2.2.1 HRR.out.2.2.2 HT.out HD.out HM.out h0)
      rw [h0] at r4
      clear h0 LEN
      go_wp2_with fail
      go_ret
      exact ⟨BL4.out, .inr ⟨HY.out, _, _, _, _, _, _, rfl, OD.out⟩⟩
     ·have HN : Hid (diskOk d = false) := diskOk_not fun h => h0 (left_of_whole hl.out h)
      have q5 : (0 : Int) < ((delMade (delAll (prs d.nods gs) d.dir) d.movs).length : Int) := by omega
      have q6 : decide ((0 : Int) < ((delMade (delAll (prs d.nods gs) d.dir) d.movs).length : Int)) = true := decide_eq_true q5
      have q7 : ((delMade (delAll (prs d.nods gs) d.dir) d.movs).length : Int) ≤ 1048576 := by have := LEN.out; omega
      clear h0 LEN
      generalize (delMade (delAll (prs d.nods gs) d.dir) d.movs).length = LL at *
      go_wp2_with fail
      go_ret
      exact ⟨BL4.out, .inl ⟨HN.out, rfl⟩⟩
 ·have HN : Hid (diskOk d = false) := diskOk_not fun h => hr (by have := (sizeOk_iff d).1 h.size; exact ⟨this.r0, this.r1, this.x0, this.x1⟩)
  refine (opened_no d v w B hv hr).mono ?_
  rintro e w' ⟨rfl, hb⟩
  exact ⟨hb, .inl ⟨HN.out, rfl⟩⟩
end Go.Proofs.YtdimaoloapbeoaaGreatDoor
namespace Go.Proofs.YtdimaoloapbeoaaGreatDoor
open Go.ChangeShapes Go.WideShapes Go.ChangeAt Go.RowKit Go.PlainAid Go.Maps
set_option linter.unusedVariables false
theorem find_bad {d : Dsk} (hd : Whole d) {name : ByteArray} (h : nameOk name = false) : find d name = none := by
 unfold find
 rcases hat : linkAt (now d) name with _ | i
 ·rfl
 ·have := (now_linked hd).ok.at hat
  rw [h] at this
  cases this
theorem find_link {d : Dsk} (hd : Whole d) {name : ByteArray} {i : Nat} (h : linkAt (now d) name = some i) : ∃ j, nodAt d.nods ((now d).getD i default).id = some j ∧ find d name = some j ∧ j < d.nods.length := by
 have h1 : (nodAt d.nods ((names d.dir d.movs).getD i default).id).isSome = true := (now_linked hd).ids _ (linkAt_name h).2
 rcases e : nodAt d.nods ((now d).getD i default).id with _ | j
 ·rw [show nodAt d.nods ((names d.dir d.movs).getD i default).id = none from e] at h1
  cases h1
 ·exact ⟨j, rfl, by rw [find_yes h]; exact e, (nodAt_at e).1⟩
def FoundI (d : Dsk) (gs : List Nat) (name : ByteArray) (e : Ending) : Prop :=
 (nameOk name = false ∧ e = .returned (.tuple #[.pointer none, .int .i64 1])) ∨ (nameOk name = true ∧ find d name = none ∧ e = .returned (.tuple #[.pointer none, .int .i64 2])) ∨ (nameOk name = true ∧ ∃ j, find d name = some j ∧ j < d.nods.length ∧ e = .returned (.tuple #[.pointer (some ⟨gs.getD j 0, 0, none⟩), .int .i64 0]))
theorem FoundI.bad {d : Dsk} {gs : List Nat} {name : ByteArray} (h : nameOk name = false) : FoundI d gs name (.returned (.tuple #[.pointer none, .int .i64 1])) := .inl ⟨h, rfl⟩
theorem FoundI.no {d : Dsk} {gs : List Nat} {name : ByteArray} (h : nameOk name = true) (hf : find d name = none) : FoundI d gs name (.returned (.tuple #[.pointer none, .int .i64 2])) := .inr (.inl ⟨h, hf, rfl⟩)
theorem FoundI.yes {d : Dsk} {gs : List Nat} {name : ByteArray} (h : nameOk name = true) {j : Nat} (hf : find d name = some j) (hj : j < d.nods.length) {gj : Nat} (hg : gs.getD j 0 = gj) : FoundI d gs name (.returned (.tuple #[.pointer (some ⟨gj, 0, none⟩), .int .i64 0])) := .inr (.inr ⟨h, j, hf, hj, by rw [hg]⟩)
set_option maxHeartbeats 1000000 in
theorem findI (w : World) (base p : Nat) (d : Dsk) (bi bd bw : Nat) (gs : List Nat) (u : Value) (name : ByteArray) (h : OpenD w base p d bi bd bw gs u) (hd : Whole d) (hs : name.size ≤ maxLen) :
  Calls Tryz.prog 64 #[.pointer (some ⟨p, 0, none⟩), .string name] w fun e w' => w = w' ∧ FoundI d gs name e := by
 have c1 := isNameV name w (by unfold maxLen at hs; omega)
 cases hno : nameOk name with
 | false =>
  rw [hno] at c1
  have HNO : Hid (nameOk name = false) := hno
  clear h hno
  go_enter Tryz.func64, Tryz.ntmps64
  go_wp2_with fail
  refine c1.mono ?_
  rintro e w1 ⟨rfl, rfl⟩
  go_wp2_with fail
  go_ret2
  exact ⟨rfl, FoundI.bad HNO.out⟩
 | true =>
  rw [hno] at c1
  have HNO : Hid (nameOk name = true) := hno
  have y5 := h.blk.cell 5 _ rfl
  have y2 := h.blk.cell 2 _ rfl
  rcases hat : linkAt (now d) name with _ | i
  ·have HF : Hid (find d name = none) := find_no hat
   have r1 := (h.nw.look name hs).1 hat
   clear h hat hno
   go_enter Tryz.func64, Tryz.ntmps64
   go_wp2_with fail
   refine c1.mono ?_
   rintro e w1 ⟨rfl, rfl⟩
   go_wp2_with fail
   go_ret2
   exact ⟨rfl, FoundI.no HNO.out HF.out⟩
  ·obtain ⟨j, hj, hf, hjl⟩ := find_link hd hat
   have HF : Hid (find d name = some j ∧ j < d.nods.length) := ⟨hf, hjl⟩
   have r1 := (h.nw.look name hs).2 i hat
   have hio : IntOk ((now d).getD i default).id := by
    have h1 := nod_ids hd _ (getD_mem d.nods j hjl)
    rw [(nodAt_at hj).2] at h1
    exact ⟨by omega, by omega⟩
   have r2 := (h.it.val _ hio).2 _ (ptr_nod h.held.len hj)
   clear h hat hno hj hf hjl hio
   generalize ((now d).getD i default).id = li at *
   generalize hgj : gs.getD j 0 = gj at *
   have HGJ : Hid (gs.getD j 0 = gj) := hgj
   clear hgj
   go_enter Tryz.func64, Tryz.ntmps64
   go_wp2_with fail
   refine c1.mono ?_
   rintro e w1 ⟨rfl, rfl⟩
   go_wp2_with fail
   go_ret2
   exact ⟨rfl, FoundI.yes HNO.out HF.out.1 HF.out.2 HGJ.out⟩
end Go.Proofs.YtdimaoloapbeoaaGreatDoor
namespace Go.Proofs.YtdimaoloapbeoaaGreatDoor
open Go.RowKit
def cloneRen : Go.Shelf.Ren := ⟨fun _ => 114, fun | 37 => 172 | 47 => 181 | t => t, fun g => g⟩
theorem clone_lays : Go.Proofs.LaysPu.n25 Tryz.prog cloneRen where
 mixed := by kernel_rfl
 f25 := Tryz.func114.trans (congrArg some (by kernel_rfl))
 t0 := Tryz.underlying0
 a0 := Tryz.isAgg0
 z0 := Tryz.sizeOf0
 v0 := Tryz.zeroValue0
 i0 := by kernel_rfl
 t3 := Tryz.underlying3
 a3 := Tryz.isAgg3
 z3 := Tryz.sizeOf3
 v3 := Tryz.zeroValue3
 i3 := by kernel_rfl
 t4 := Tryz.underlying4
 a4 := Tryz.isAgg4
 z4 := Tryz.sizeOf4
 v4 := Tryz.zeroValue4
 i4 := by kernel_rfl
 t5 := Tryz.underlying5
 a5 := Tryz.isAgg5
 z5 := Tryz.sizeOf5
 v5 := Tryz.zeroValue5
 i5 := by kernel_rfl
 t9 := Tryz.underlying9
 a9 := Tryz.isAgg9
 z9 := Tryz.sizeOf9
 v9 := Tryz.zeroValue9
 i9 := by kernel_rfl
 t37 := Tryz.underlying172
 a37 := Tryz.isAgg172
 z37 := Tryz.sizeOf172
 v37 := Tryz.zeroValue172
 i37 := by kernel_rfl
 t47 := Tryz.underlying181
 a47 := Tryz.isAgg181
 z47 := Tryz.sizeOf181
 v47 := Tryz.zeroValue181
 i47 := by kernel_rfl
theorem clone (s : ByteArray) (w : World) (hs : s.size ≤ 281474976710656) :
  Calls Tryz.prog 102 #[.string s] w fun e w' => e = .returned (.string s) ∧ Below w.heap.size w w' := by
 have c1 : Calls Tryz.prog 114 #[.string s] w fun e w' => e = .returned (.string s) ∧ Below w.heap.size w w' := AnyPu.stringslite_Clone clone_lays s w hs
 clear hs
 go_enter Tryz.func102, Tryz.ntmps102
 go_wp2_with fail
 refine c1.mono ?_
 rintro e w1 ⟨rfl, hb1⟩
 go_wp2_with fail
 go_ret
 exact ⟨rfl, hb1⟩
end Go.Proofs.YtdimaoloapbeoaaGreatDoor
namespace Go.Proofs.YtdimaoloapbeoaaGreatDoor
open Go.ChangeShapes Go.WideShapes Go.ChangeAt Go.RowKit Go.PlainAid
set_option linter.unusedVariables false
def loadR (d : Dsk) (name : ByteArray) : ByteArray × Bool :=
 if diskOk d = false then (⟨#[]⟩, false) else match find d name with | none => (⟨#[]⟩, false) | some k => ((d.nods.getD k default).data, true)
theorem loadR_no {d : Dsk} {name : ByteArray} (h : diskOk d = false) : loadR d name = (⟨#[]⟩, false) := by unfold loadR; rw [if_pos h]
theorem loadR_none {d : Dsk} {name : ByteArray} (h : diskOk d = true) (hf : find d name = none) : loadR d name = (⟨#[]⟩, false) := by unfold loadR; rw [if_neg (by rw [h]; simp), hf]
theorem loadR_some {d : Dsk} {name : ByteArray} {k : Nat} (h : diskOk d = true) (hf : find d name = some k) : loadR d name = ((d.nods.getD k default).data, true) := by unfold loadR; rw [if_neg (by rw [h]; simp), hf]
set_option maxHeartbeats 1000000 in
theorem specLoadV (d : Dsk) (v : Value) (name : ByteArray) (w : World) (B : Nat) (hv : DiskV w B v d) (hf : Fits d) (hw : wtD d ≤ 1048576) (hB : B ≤ w.heap.size) :
  Calls Tryz.prog 17 #[v, .string name] w fun e w' => e = .returned (.tuple #[.string (loadR d name).1, .bool (loadR d name).2]) ∧ Below w.heap.size w w' := by
 have HV : Hid (DiskV w B v d) := hv
 have HF : Hid (Fits d) := hf
 have HB : Hid (B ≤ w.heap.size) := hB
 have HW : Hid (wtD d ≤ 1048576) := hw
 obtain ⟨v1, v2, v3, rfl, h1, h2, h3⟩ := hv
 obtain ⟨A1, c1, rfl, g1⟩ := nod_look h1
 have HN : Hid (∀ j, j < d.nods.length → ∃ g off, A1 = some ⟨g, off, none⟩ ∧ g < B ∧ _) := g1
 clear h1 h2 h3 hf hB hw g1
 go_enter Tryz.func17, Tryz.ntmps17
 go_wp2_with fail
 have hb0 : Below w.heap.size w (w.alloc (.cells #[.int .i64 d.room, .int .i64 d.next, .slice A1 d.nods.length c1, v2, v3] 41)) := (Below.refl _ _).alloc (Nat.le_refl _) _
 have k0 := Blk.new w #[.int .i64 d.room, .int .i64 d.next, .slice A1 d.nods.length c1, v2, v3] 41
 generalize w.alloc (.cells #[.int .i64 d.room, .int .i64 d.next, .slice A1 d.nods.length c1, v2, v3] 41) = W at *
 have B0 : Hid (Below w.heap.size w W) := hb0
 have K0 : Hid (Blk W w.heap.size #[.int .i64 d.room, .int .i64 d.next, .slice A1 d.nods.length c1, v2, v3] 41) := k0
 clear hb0 k0
 refine (specOkV d _ W B (HV.out.on (B0.out.mono HB.out)) HF.out HW.out (Nat.le_trans HB.out B0.out.size)).mono ?_
 rintro e w1 ⟨rfl, hb1⟩
 have B1 : Hid (Below w.heap.size w w1) := B0.out.trans (hb1.mono B0.out.size)
 have K1 : Hid (Blk w1 w.heap.size #[.int .i64 d.room, .int .i64 d.next, .slice A1 d.nods.length c1, v2, v3] 41) := K0.out.on hb1 K0.out.lt
 clear hb1 K0
 cases hok : diskOk d with
 | false =>
  have HR : Hid (loadR d name = (⟨#[]⟩, false)) := loadR_no hok
  go_wp2_with fail
  go_ret2
  exact ⟨by rw [HR.out]; rfl, B1.out⟩
 | true =>
  have hR := (sizeOk_iff d).1 ((whole_iff d).1 hok).size
  have q1 : (d.nods.length : Int) ≤ 10 := by have := hR.n; omega
  have cF := findV d (.agg #[.int .i64 d.room, .int .i64 d.next, .slice A1 d.nods.length c1, v2, v3]) name w1 B (HV.out.on (B1.out.mono HB.out)) HF.out (by have := hR.l; have := hR.m; omega) (by have := hR.n; omega) (Nat.le_trans HB.out B1.out.size)
  have y0 := K1.out.cell 0 _ rfl
  have y1 := K1.out.cell 1 _ rfl
  have y2 := K1.out.cell 2 _ rfl
  have y3 := K1.out.cell 3 _ rfl
  have y4 := K1.out.cell 4 _ rfl
  have HOK : Hid (diskOk d = true) := hok
  clear hR hok
  go_wp2_with fail
  refine cF.mono ?_
  rintro e w2 ⟨rfl, hb2⟩
  have B2 : Hid (Below w.heap.size w w2) := B1.out.trans (hb2.mono B1.out.size)
  have K2 : Hid (Blk w2 w.heap.size #[.int .i64 d.room, .int .i64 d.next, .slice A1 d.nods.length c1, v2, v3] 41) := K1.out.on hb2 K1.out.lt
  clear cF hb2 y0 y1 y2 y3 y4 K1
  rcases hfd : find d name with _ | k
  ·have HR : Hid (loadR d name = (⟨#[]⟩, false)) := loadR_none HOK.out hfd
   have e1 : idxV (none : Option Nat) = -1 := rfl
   rw [e1]
   clear hfd
   go_wp2_with fail
   go_ret2
   exact ⟨by rw [HR.out]; rfl, B2.out⟩
  ·have HR : Hid (loadR d name = ((d.nods.getD k default).data, true)) := loadR_some HOK.out hfd
   have e1 : idxV (some k) = (k : Int) := rfl
   rw [e1]
   have hk : k < d.nods.length := by
    unfold find at hfd
    rcases e : linkAt (now d) name with _ | i
    ·rw [e] at hfd; cases hfd
    ·rw [e] at hfd; exact (nodAt_at hfd).1
   obtain ⟨g, off, rfl, hg, _, hc1, _⟩ := HN.out k hk
   have hgw : g < w.heap.size := Nat.lt_of_lt_of_le hg HB.out
   rw [← B2.out.cell (p := ⟨_, _, none⟩) hgw] at hc1
   have q4 : (k : Int) < (d.nods.length : Int) := by omega
   have j1 : decide ((k : Int) < 0) = false := decide_eq_false (by omega)
   have y2 := K2.out.cell 2 _ rfl
   clear hfd hg hgw hk
   generalize (d.nods.getD k default).data = xd at *
   generalize d.nods.length = N at *
   go_wp2_with fail
   go_ret2
   exact ⟨by rw [HR.out]; rfl, B2.out⟩
end Go.Proofs.YtdimaoloapbeoaaGreatDoor
namespace Go.Proofs.YtdimaoloapbeoaaGreatDoor
open Go.RowKit Go.PlainAid
structure Ent where
 term : Int
 data : ByteArray
structure Rcd where
 kind : Int
 term : Int
 index : Int
 vote : Int
 data : ByteArray
structure Wl where
 term : Int
 vote : Int
 base : Int
 bterm : Int
 ents : List Ent
instance : Inhabited Ent := ⟨⟨0, ByteArray.empty⟩⟩
instance : Inhabited Rcd := ⟨⟨0, 0, 0, 0, ByteArray.empty⟩⟩
def inIt (x lo hi : Int) : Bool := decide (lo ≤ x) && decide (x ≤ hi)
def based (index term : Int) : Bool := if index = 0 then decide (term = 0) else inIt index 1 100000 && inIt term 1 100000
def recOk (r : Rcd) : Bool :=
 if r.kind = 1 then inIt r.term 0 100000 && inIt r.vote (-1) 4 && decide (r.index = 0) && decide (r.data = ByteArray.empty)
 else if r.kind = 2 then inIt r.term 1 100000 && inIt r.index 1 100000 && decide (r.vote = 0) && decide (r.data.size ≤ 900)
 else if r.kind = 3 then decide (r.term = 0) && inIt r.index 1 100000 && decide (r.vote = 0) && decide (r.data = ByteArray.empty)
 else if r.kind = 4 then based r.index r.term && decide (r.vote = 0) && decide (r.data = ByteArray.empty)
 else false
def entsOk (top : Int) : Int → List Ent → Bool
 | _, [] => true
 | last, e :: r => decide (1 ≤ e.term) && decide (last ≤ e.term) && decide (e.term ≤ top) && decide (e.data.size ≤ 900) && entsOk top e.term r
def walOk (w : Wl) : Bool :=
 inIt w.term 0 100000 && inIt w.vote (-1) 4 && based w.base w.bterm && decide (w.bterm ≤ w.term) && decide (w.ents.length ≤ 60) && decide (w.base + w.ents.length ≤ 100000) && entsOk w.term w.bterm w.ents
def lastTerm (w : Wl) : Int := match w.ents.getLast? with | some e => e.term | none => w.bterm
def recFits (w : Wl) (r : Rcd) : Bool :=
 if r.kind = 1 then decide (w.term < r.term) || (decide (r.term = w.term) && (decide (w.vote = -1) || decide (r.vote = w.vote)))
 else if r.kind = 2 then decide (r.index = w.base + w.ents.length + 1) && decide (w.ents.length < 60) && decide (lastTerm w ≤ r.term) && decide (r.term ≤ w.term)
 else if r.kind = 3 then decide (w.base < r.index) && decide (r.index ≤ w.base + w.ents.length)
 else false
def stepTo (w : Wl) (r : Rcd) : Wl :=
 if r.kind = 1 then { w with term := r.term, vote := r.vote }
 else if r.kind = 2 then { w with ents := w.ents ++ [⟨r.term, r.data⟩] }
 else { w with ents := w.ents.take (r.index - w.base - 1).toNat }
def wal0 : Wl := ⟨0, 0, 0, 0, []⟩
def walStep (w : Wl) (r : Rcd) : Wl × Bool :=
 if walOk w = false then (wal0, false) else if recOk r && recFits w r then (stepTo w r, true) else (w, false)
end Go.Proofs.YtdimaoloapbeoaaGreatDoor
namespace Go.Proofs.YtdimaoloapbeoaaGreatDoor
open Go.RowKit Go.PlainAid
def entC (x : Ent) : List Value := [.int .i64 x.term, .string x.data]
def entR (l : List Ent) : List (List Value) := l.map entC
theorem entR_length (l : List Ent) : (entR l).length = l.length := by simp [entR]
theorem entR_append (l m : List Ent) : entR (l ++ m) = entR l ++ entR m := by simp [entR]
theorem ent_look {w : World} {B : Nat} {v : Value} {l : List Ent} (h : Lies w B 2 v (entR l)) : ∃ A cap, v = .slice A l.length cap ∧ ∀ j, j < l.length → ∃ g off, A = some ⟨g, off, none⟩ ∧ g < B ∧
  w.cell? ⟨g, off + j * 2, none⟩ = some (.int .i64 (l.getD j default).term) ∧ w.cell? ⟨g, off + j * 2 + 1, none⟩ = some (.string (l.getD j default).data) := by
 obtain ⟨A, cap, e, h⟩ := h.look
 refine ⟨A, cap, by rw [e]; simp [entR], fun j hj => ?_⟩
 rw [← getD_at l j hj]
 obtain ⟨g, off, e, hg, hc⟩ := h j (by simpa [entR] using hj)
 refine ⟨g, off, e, hg, ?_, ?_⟩
 ·have := hc 0 _ (by omega) (by simp [entR, entC]; rfl); simpa [Nat.add_assoc] using this
 ·have := hc 1 _ (by omega) (by simp [entR, entC]; rfl); simpa [Nat.add_assoc] using this
def WalV (w : World) (B : Nat) (v : Value) (x : Wl) : Prop := ∃ u, v = .agg #[.int .i64 x.term, .int .i64 x.vote, .int .i64 x.base, .int .i64 x.bterm, u] ∧ Lies w B 2 u (entR x.ents)
theorem WalV.on {w w' : World} {B : Nat} {v : Value} {x : Wl} (h : WalV w B v x) (hb : Below B w w') : WalV w' B v x := by
 obtain ⟨u, e, h⟩ := h
 exact ⟨u, e, h.on hb⟩
theorem WalV.mono {w : World} {B C : Nat} {v : Value} {x : Wl} (h : WalV w B v x) (hB : B ≤ C) : WalV w C v x := by
 obtain ⟨u, e, h⟩ := h
 exact ⟨u, e, h.mono hB⟩
def WalO (w : World) (base : Nat) (v : Value) (x : Wl) : Prop := ∃ u, v = .agg #[.int .i64 x.term, .int .i64 x.vote, .int .i64 x.base, .int .i64 x.bterm, u] ∧ Owns w base 59 2 u (entR x.ents)
theorem WalO.lies {w : World} {base : Nat} {v : Value} {x : Wl} (h : WalO w base v x) : WalV w w.heap.size v x := by
 obtain ⟨u, e, h⟩ := h
 exact ⟨u, e, h.lies⟩
theorem WalO.on {w w' : World} {base : Nat} {v : Value} {x : Wl} (h : WalO w base v x) (hb : Below w.heap.size w w') : WalO w' base v x := by
 obtain ⟨u, e, h⟩ := h
 exact ⟨u, e, h.on hb⟩
theorem WalO.mono {w : World} {base base' : Nat} {v : Value} {x : Wl} (h : WalO w base v x) (hb : base' ≤ base) : WalO w base' v x := by
 obtain ⟨u, e, h⟩ := h
 exact ⟨u, e, h.mono hb⟩
structure FitsW (x : Wl) : Prop where
 n : x.ents.length ≤ maxLen
 d : ∀ e ∈ x.ents, e.data.size ≤ maxLen
end Go.Proofs.YtdimaoloapbeoaaGreatDoor
