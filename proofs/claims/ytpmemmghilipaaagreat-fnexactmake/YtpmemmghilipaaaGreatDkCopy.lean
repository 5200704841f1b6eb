/-
  The contract of spec.l4Copy.
-/
import Derived.Test.YtpmemmghilipaaaGreatRows
import Derived.Test.YtpmemmghilipaaaGreatDkToD
import Derived.Test.YtpmemmghilipaaaGreatDkFind
namespace Go.Proofs.YtpmemmghilipaaaGreat
open Go.ChangeShapes Go.WideShapes Go.ChangeAt Go.RowKit Go.PlainAid
set_option linter.unusedVariables false

set_option maxRecDepth 20000 in
set_option maxHeartbeats 2000000 in
theorem copyV (d : Dsk) (v : Value) (w : World) (B : Nat) (hv : DiskV w B v d) (l1 : d.nods.length ≤ 1048576) (l2 : d.dir.length ≤ 1048576) (l3 : d.movs.length ≤ 1048576) (hB : B ≤ w.heap.size) :
    Calls Tryz.prog 16 #[v] w fun e w' => ∃ u, e = .returned u ∧ DiskO w' w.heap.size u d ∧ Below w.heap.size w w' := by
  obtain ⟨v1, v2, v3, rfl, hn, hl, hm⟩ := hv
  have HB : Hid (B ≤ w.heap.size) := hB
  have HN : Hid (Lies w B 3 v1 (nodR d.nods)) := hn
  have HL : Hid (Lies w B 2 v2 (lnkR d.dir)) := hl
  have HM : Hid (Lies w B 4 v3 (movR d.movs)) := hm
  have L1 : Hid (d.nods.length ≤ 1048576) := l1
  have L2 : Hid (d.dir.length ≤ 1048576) := l2
  have L3 : Hid (d.movs.length ≤ 1048576) := l3
  clear hn hl hm hB l1 l2 l3
  go_enter Tryz.func16, Tryz.ntmps16
  go_wp2_with (at_builtin; refine Shut.out ?_)
  have hb0 := below_alloc2' w (.cells #[.int .i64 d.room, .int .i64 d.next, v1, v2, v3] 32) (.cells #[.int .i64 0, .int .i64 0, .slice none 0 0, .slice none 0 0, .slice none 0 0] 32)
  have bA := (Blk.new w #[.int .i64 d.room, .int .i64 d.next, v1, v2, v3] 32).alloc (.cells #[.int .i64 0, .int .i64 0, .slice none 0 0, .slice none 0 0, .slice none 0 0] 32)
  have bR := Blk.new (w.alloc (.cells #[.int .i64 d.room, .int .i64 d.next, v1, v2, v3] 32)) #[.int .i64 0, .int .i64 0, .slice none 0 0, .slice none 0 0, .slice none 0 0] 32
  have hsz : ((w.alloc (.cells #[.int .i64 d.room, .int .i64 d.next, v1, v2, v3] 32)).alloc (.cells #[.int .i64 0, .int .i64 0, .slice none 0 0, .slice none 0 0, .slice none 0 0] 32)).heap.size = w.heap.size + 1 + 1 := by simp
  simp only [World.size_alloc] at bR
  generalize (w.alloc (.cells #[.int .i64 d.room, .int .i64 d.next, v1, v2, v3] 32)).alloc (.cells #[.int .i64 0, .int .i64 0, .slice none 0 0, .slice none 0 0, .slice none 0 0] 32) = W at *
  have B0 : Hid (Below w.heap.size w W) := hb0
  have KA0 : Hid (Blk W w.heap.size #[.int .i64 d.room, .int .i64 d.next, v1, v2, v3] 32) := bA
  have KR0 : Hid (Blk W (w.heap.size + 1) #[.int .i64 0, .int .i64 0, .slice none 0 0, .slice none 0 0, .slice none 0 0] 32) := bR
  have Z0 : Hid (w.heap.size + 1 + 1 ≤ W.heap.size) := by unfold Hid; omega
  clear hb0 bA bR
  unfold Shut
  have hE := Owns.empty W (w.heap.size + 1 + 1) 47 3 Z0.out
  rw [hsz] at hE
  have hb := B0.out.alloc B0.out.size (.cells #[] 47)
  have hLs := HN.out.on (hb.mono HB.out)
  have s1 : ([] : List (List Value)).length + (nodR d.nods).length ≤ 2097152 := by rw [nodR_length]; have := L1.out; simp; omega
  have s2 : w.heap.size + 1 + 1 ≤ (W.alloc (.cells #[] 47)).heap.size := by rw [World.size_alloc]; have := Z0.out; omega
  refine wpList_append_all (w := W.alloc (.cells #[] 47)) rfl (.tmp 3) (.tmp 5) 28 47 (.agg #[.int .i64 0, .string ⟨#[]⟩, .int .i64 0]) 3 32 rfl Tryz.underlying28 Tryz.infoNod rfl (by omega) (w.heap.size + 1 + 1) (.slice (some ⟨w.heap.size + 1 + 1, 0, none⟩) 0 0) v1 [] (nodR d.nods) B rfl hE hLs (nod_one d.nods) rfl s1 (by omega) s2 ?_
  intro u1 w1 hO hb1 hk _
  obtain ⟨A1, m1, k1, rfl⟩ := hO.shape
  have O11 : Hid (Owns w1 (w.heap.size + 1 + 1) 47 3 (.slice A1 m1 k1) (nodR d.nods)) := hO
  have hA : Blk w1 w.heap.size #[.int .i64 d.room, .int .i64 d.next, v1, v2, v3] 32 := (KA0.out.alloc _).on hb1 (by omega)
  have hR : Blk w1 (w.heap.size + 1) #[.int .i64 0, .int .i64 0, .slice none 0 0, .slice none 0 0, .slice none 0 0] 32 := (KR0.out.alloc _).on hb1 (by omega)
  have Bx1 : Hid (Below w.heap.size w w1) := hb.trans (hb1.mono (by omega))
  have Kx1 : Hid (Blk w1 w.heap.size #[.int .i64 d.room, .int .i64 d.next, v1, v2, v3] 32) := hA
  have Ky1 : Hid (Blk w1 (w.heap.size + 1) #[.int .i64 0, .int .i64 0, .slice none 0 0, .slice none 0 0, .slice none 0 0] 32) := hR
  have e1 := hA.cell 2 _ rfl
  have f1 := hA.free 2
  have zl := hA.lt
  have zr := hR.lt
  have e2 := ((hA.set 2 (.slice A1 m1 k1)).alloc (.cells #[] 74)).cell 3 v2 rfl
  clear hA hR hE hb hLs s1 s2 hO hb1 hk
  go_wp2_with (at_builtin; refine Shut.out ?_)
  have B1 : Hid (Below w.heap.size w (w1.setCell ⟨w.heap.size, 2, none⟩ (.slice A1 m1 k1))) := Bx1.out.setCell (Nat.le_refl _) _
  have KA1 : Hid (Blk (w1.setCell ⟨w.heap.size, 2, none⟩ (.slice A1 m1 k1)) w.heap.size #[.int .i64 d.room, .int .i64 d.next, .slice A1 m1 k1, v2, v3] 32) := Kx1.out.set 2 _
  have KR1 : Hid (Blk (w1.setCell ⟨w.heap.size, 2, none⟩ (.slice A1 m1 k1)) (w.heap.size + 1) #[.int .i64 0, .int .i64 0, .slice none 0 0, .slice none 0 0, .slice none 0 0] 32) := Ky1.out.other (by omega) _ _
  have P11 : Hid (Owns (w1.setCell ⟨w.heap.size, 2, none⟩ (.slice A1 m1 k1)) (w.heap.size + 1 + 1) 47 3 (.slice A1 m1 k1) (nodR d.nods)) := O11.out.other (O11.out.below (by omega)) _ _
  have Z1 : Hid (w.heap.size + 1 + 1 ≤ (w1.setCell ⟨w.heap.size, 2, none⟩ (.slice A1 m1 k1)).heap.size) := KR1.out.lt
  have hsz1 : (w1.setCell ⟨w.heap.size, 2, none⟩ (.slice A1 m1 k1)).heap.size = w1.heap.size := by simp
  clear e1 f1 e2 zl zr
  generalize w1.setCell ⟨w.heap.size, 2, none⟩ (.slice A1 m1 k1) = y1 at *
  unfold Shut
  have hE := Owns.empty y1 (w.heap.size + 1 + 1) 74 2 Z1.out
  rw [hsz1] at hE
  have hb := B1.out.alloc B1.out.size (.cells #[] 74)
  have hLs := HL.out.on (hb.mono HB.out)
  have s1 : ([] : List (List Value)).length + (lnkR d.dir).length ≤ 2097152 := by rw [lnkR_length]; have := L2.out; simp; omega
  have s2 : w.heap.size + 1 + 1 ≤ (y1.alloc (.cells #[] 74)).heap.size := by rw [World.size_alloc]; have := Z1.out; omega
  refine wpList_append_all (w := y1.alloc (.cells #[] 74)) rfl (.tmp 8) (.tmp 10) 29 74 (.agg #[.string ⟨#[]⟩, .int .i64 0]) 2 24 rfl Tryz.underlying29 Tryz.infoLnk rfl (by omega) (w.heap.size + 1 + 1) (.slice (some ⟨w1.heap.size, 0, none⟩) 0 0) v2 [] (lnkR d.dir) B rfl hE hLs (lnk_one d.dir) rfl s1 (by omega) s2 ?_
  intro u2 w2 hO hb1 hk _
  obtain ⟨A2, m2, k2, rfl⟩ := hO.shape
  have O22 : Hid (Owns w2 (w.heap.size + 1 + 1) 74 2 (.slice A2 m2 k2) (lnkR d.dir)) := hO
  have hA : Blk w2 w.heap.size #[.int .i64 d.room, .int .i64 d.next, .slice A1 m1 k1, v2, v3] 32 := (KA1.out.alloc _).on hb1 (by omega)
  have hR : Blk w2 (w.heap.size + 1) #[.int .i64 0, .int .i64 0, .slice none 0 0, .slice none 0 0, .slice none 0 0] 32 := (KR1.out.alloc _).on hb1 (by omega)
  have Bx2 : Hid (Below w.heap.size w w2) := hb.trans (hb1.mono (by omega))
  have Kx2 : Hid (Blk w2 w.heap.size #[.int .i64 d.room, .int .i64 d.next, .slice A1 m1 k1, v2, v3] 32) := hA
  have Ky2 : Hid (Blk w2 (w.heap.size + 1) #[.int .i64 0, .int .i64 0, .slice none 0 0, .slice none 0 0, .slice none 0 0] 32) := hR
  have O12 : Hid (Owns w2 (w.heap.size + 1 + 1) 47 3 (.slice A1 m1 k1) (nodR d.nods)) := (P11.out.alloc _).kept fun g hg e => hk g hg fun e2 => by
    have h6 := (P11.out.lt g e).2
    have h7 : w1.heap.size = g := by simpa [Value.ownBlock] using e2
    omega
  have e1 := hA.cell 3 _ rfl
  have f1 := hA.free 3
  have zl := hA.lt
  have zr := hR.lt
  have e2 := ((hA.set 3 (.slice A2 m2 k2)).alloc (.cells #[] 49)).cell 4 v3 rfl
  clear hA hR hE hb hLs s1 s2 hO hb1 hk
  go_wp2_with (at_builtin; refine Shut.out ?_)
  have B2 : Hid (Below w.heap.size w (w2.setCell ⟨w.heap.size, 3, none⟩ (.slice A2 m2 k2))) := Bx2.out.setCell (Nat.le_refl _) _
  have KA2 : Hid (Blk (w2.setCell ⟨w.heap.size, 3, none⟩ (.slice A2 m2 k2)) w.heap.size #[.int .i64 d.room, .int .i64 d.next, .slice A1 m1 k1, .slice A2 m2 k2, v3] 32) := Kx2.out.set 3 _
  have KR2 : Hid (Blk (w2.setCell ⟨w.heap.size, 3, none⟩ (.slice A2 m2 k2)) (w.heap.size + 1) #[.int .i64 0, .int .i64 0, .slice none 0 0, .slice none 0 0, .slice none 0 0] 32) := Ky2.out.other (by omega) _ _
  have P12 : Hid (Owns (w2.setCell ⟨w.heap.size, 3, none⟩ (.slice A2 m2 k2)) (w.heap.size + 1 + 1) 47 3 (.slice A1 m1 k1) (nodR d.nods)) := O12.out.other (O12.out.below (by omega)) _ _
  have P22 : Hid (Owns (w2.setCell ⟨w.heap.size, 3, none⟩ (.slice A2 m2 k2)) (w.heap.size + 1 + 1) 74 2 (.slice A2 m2 k2) (lnkR d.dir)) := O22.out.other (O22.out.below (by omega)) _ _
  have Z2 : Hid (w.heap.size + 1 + 1 ≤ (w2.setCell ⟨w.heap.size, 3, none⟩ (.slice A2 m2 k2)).heap.size) := KR2.out.lt
  have hsz2 : (w2.setCell ⟨w.heap.size, 3, none⟩ (.slice A2 m2 k2)).heap.size = w2.heap.size := by simp
  clear e1 f1 e2 zl zr
  generalize w2.setCell ⟨w.heap.size, 3, none⟩ (.slice A2 m2 k2) = y2 at *
  unfold Shut
  have hE := Owns.empty y2 (w.heap.size + 1 + 1) 49 4 Z2.out
  rw [hsz2] at hE
  have hb := B2.out.alloc B2.out.size (.cells #[] 49)
  have hLs := HM.out.on (hb.mono HB.out)
  have s1 : ([] : List (List Value)).length + (movR d.movs).length ≤ 2097152 := by rw [movR_length]; have := L3.out; simp; omega
  have s2 : w.heap.size + 1 + 1 ≤ (y2.alloc (.cells #[] 49)).heap.size := by rw [World.size_alloc]; have := Z2.out; omega
  refine wpList_append_all (w := y2.alloc (.cells #[] 49)) rfl (.tmp 13) (.tmp 15) 30 49 (.agg #[.int .i64 0, .string ⟨#[]⟩, .string ⟨#[]⟩, .int .i64 0]) 4 48 rfl Tryz.underlying30 Tryz.infoMov rfl (by omega) (w.heap.size + 1 + 1) (.slice (some ⟨w2.heap.size, 0, none⟩) 0 0) v3 [] (movR d.movs) B rfl hE hLs (mov_one d.movs) rfl s1 (by omega) s2 ?_
  intro u3 w3 hO hb1 hk _
  obtain ⟨A3, m3, k3, rfl⟩ := hO.shape
  have O33 : Hid (Owns w3 (w.heap.size + 1 + 1) 49 4 (.slice A3 m3 k3) (movR d.movs)) := hO
  have hA : Blk w3 w.heap.size #[.int .i64 d.room, .int .i64 d.next, .slice A1 m1 k1, .slice A2 m2 k2, v3] 32 := (KA2.out.alloc _).on hb1 (by omega)
  have hR : Blk w3 (w.heap.size + 1) #[.int .i64 0, .int .i64 0, .slice none 0 0, .slice none 0 0, .slice none 0 0] 32 := (KR2.out.alloc _).on hb1 (by omega)
  have Bx3 : Hid (Below w.heap.size w w3) := hb.trans (hb1.mono (by omega))
  have Kx3 : Hid (Blk w3 w.heap.size #[.int .i64 d.room, .int .i64 d.next, .slice A1 m1 k1, .slice A2 m2 k2, v3] 32) := hA
  have Ky3 : Hid (Blk w3 (w.heap.size + 1) #[.int .i64 0, .int .i64 0, .slice none 0 0, .slice none 0 0, .slice none 0 0] 32) := hR
  have O13 : Hid (Owns w3 (w.heap.size + 1 + 1) 47 3 (.slice A1 m1 k1) (nodR d.nods)) := (P12.out.alloc _).kept fun g hg e => hk g hg fun e2 => by
    have h6 := (P12.out.lt g e).2
    have h7 : w2.heap.size = g := by simpa [Value.ownBlock] using e2
    omega
  have O23 : Hid (Owns w3 (w.heap.size + 1 + 1) 74 2 (.slice A2 m2 k2) (lnkR d.dir)) := (P22.out.alloc _).kept fun g hg e => hk g hg fun e2 => by
    have h6 := (P22.out.lt g e).2
    have h7 : w2.heap.size = g := by simpa [Value.ownBlock] using e2
    omega
  have e1 := hA.cell 4 _ rfl
  have f1 := hA.free 4
  have zl := hA.lt
  have zr := hR.lt
  have c0 := hA.cell 0 _ rfl
  have c1 := hA.cell 1 _ rfl
  have c2 := hA.cell 2 _ rfl
  have c3 := hA.cell 3 _ rfl
  have r0 := hR.cell 0 _ rfl
  have r1 := hR.cell 1 _ rfl
  have r2 := hR.cell 2 _ rfl
  have r3 := hR.cell 3 _ rfl
  have r4 := hR.cell 4 _ rfl
  have g0 := hR.free 0
  have g1 := hR.free 1
  have g2 := hR.free 2
  have g3 := hR.free 3
  have g4 := hR.free 4
  clear hA hR hE hb hLs s1 s2 hO hb1 hk
  go_wp2_with fail
  have hF := ((((((Ky3.out.other (show w.heap.size + 1 ≠ w.heap.size by omega) 4 (.slice A3 m3 k3)).set 0 (.int .i64 d.room)).set 1 (.int .i64 d.next)).set 2 (.slice A1 m1 k1)).set 3 (.slice A2 m2 k2)).set 4 (.slice A3 m3 k3))
  have F1 := ((((((O13.out.other (O13.out.below (show w.heap.size < w.heap.size + 1 + 1 by omega)) 4 (.slice A3 m3 k3)).other (O13.out.below (show w.heap.size + 1 < w.heap.size + 1 + 1 by omega)) 0 (.int .i64 d.room)).other (O13.out.below (show w.heap.size + 1 < w.heap.size + 1 + 1 by omega)) 1 (.int .i64 d.next)).other (O13.out.below (show w.heap.size + 1 < w.heap.size + 1 + 1 by omega)) 2 (.slice A1 m1 k1)).other (O13.out.below (show w.heap.size + 1 < w.heap.size + 1 + 1 by omega)) 3 (.slice A2 m2 k2)).other (O13.out.below (show w.heap.size + 1 < w.heap.size + 1 + 1 by omega)) 4 (.slice A3 m3 k3))
  have F2 := ((((((O23.out.other (O23.out.below (show w.heap.size < w.heap.size + 1 + 1 by omega)) 4 (.slice A3 m3 k3)).other (O23.out.below (show w.heap.size + 1 < w.heap.size + 1 + 1 by omega)) 0 (.int .i64 d.room)).other (O23.out.below (show w.heap.size + 1 < w.heap.size + 1 + 1 by omega)) 1 (.int .i64 d.next)).other (O23.out.below (show w.heap.size + 1 < w.heap.size + 1 + 1 by omega)) 2 (.slice A1 m1 k1)).other (O23.out.below (show w.heap.size + 1 < w.heap.size + 1 + 1 by omega)) 3 (.slice A2 m2 k2)).other (O23.out.below (show w.heap.size + 1 < w.heap.size + 1 + 1 by omega)) 4 (.slice A3 m3 k3))
  have F3 := ((((((O33.out.other (O33.out.below (show w.heap.size < w.heap.size + 1 + 1 by omega)) 4 (.slice A3 m3 k3)).other (O33.out.below (show w.heap.size + 1 < w.heap.size + 1 + 1 by omega)) 0 (.int .i64 d.room)).other (O33.out.below (show w.heap.size + 1 < w.heap.size + 1 + 1 by omega)) 1 (.int .i64 d.next)).other (O33.out.below (show w.heap.size + 1 < w.heap.size + 1 + 1 by omega)) 2 (.slice A1 m1 k1)).other (O33.out.below (show w.heap.size + 1 < w.heap.size + 1 + 1 by omega)) 3 (.slice A2 m2 k2)).other (O33.out.below (show w.heap.size + 1 < w.heap.size + 1 + 1 by omega)) 4 (.slice A3 m3 k3))
  have FB := ((((((Bx3.out.setCell (show w.heap.size ≤ w.heap.size by omega) (.slice A3 m3 k3) (p := ⟨_, 4, none⟩)).setCell (show w.heap.size ≤ w.heap.size + 1 by omega) (.int .i64 d.room) (p := ⟨_, 0, none⟩)).setCell (show w.heap.size ≤ w.heap.size + 1 by omega) (.int .i64 d.next) (p := ⟨_, 1, none⟩)).setCell (show w.heap.size ≤ w.heap.size + 1 by omega) (.slice A1 m1 k1) (p := ⟨_, 2, none⟩)).setCell (show w.heap.size ≤ w.heap.size + 1 by omega) (.slice A2 m2 k2) (p := ⟨_, 3, none⟩)).setCell (show w.heap.size ≤ w.heap.size + 1 by omega) (.slice A3 m3 k3) (p := ⟨_, 4, none⟩))
  clear e1 f1 zl zr c0 c1 c2 c3 r0 r1 r2 r3 r4 g0 g1 g2 g3 g4
  generalize ((((((w3.setCell ⟨w.heap.size, 4, none⟩ (.slice A3 m3 k3)).setCell ⟨w.heap.size + 1, 0, none⟩ (.int .i64 d.room)).setCell ⟨w.heap.size + 1, 1, none⟩ (.int .i64 d.next)).setCell ⟨w.heap.size + 1, 2, none⟩ (.slice A1 m1 k1)).setCell ⟨w.heap.size + 1, 3, none⟩ (.slice A2 m2 k2)).setCell ⟨w.heap.size + 1, 4, none⟩ (.slice A3 m3 k3)) = WF at *
  have hG : Blk WF (w.heap.size + 1) #[.int .i64 d.room, .int .i64 d.next, .slice A1 m1 k1, .slice A2 m2 k2, .slice A3 m3 k3] 32 := hF
  have k0 := hG.cell 0 (.int .i64 d.room) rfl
  have k1' := hG.cell 1 (.int .i64 d.next) rfl
  have k2' := hG.cell 2 (.slice A1 m1 k1) rfl
  have k3' := hG.cell 3 (.slice A2 m2 k2) rfl
  have k4' := hG.cell 4 (.slice A3 m3 k3) rfl
  exact bodyPost_ret (v := .agg #[.int .i64 d.room, .int .i64 d.next, .slice A1 m1 k1, .slice A2 m2 k2, .slice A3 m3 k3]) (by simp [results, go_sem, k0, k1', k2', k3', k4']) rfl ⟨_, rfl, ⟨_, _, _, rfl, F1.mono (by omega), F2.mono (by omega), F3.mono (by omega)⟩, FB⟩
end Go.Proofs.YtpmemmghilipaaaGreat
