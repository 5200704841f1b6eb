/-
  The contract of spec.l4Moved.
-/
import Derived.Test.YtljpakpokjpemaaGreatRows
import Derived.Test.YtljpakpokjpemaaGreatImMove
import Derived.Test.YtljpakpokjpemaaGreatDkOkD
import Derived.Test.YtljpakpokjpemaaGreatDkCopy
import Derived.Deep.Cut
namespace Go.Proofs.YtljpakpokjpemaaGreat
open Go.ChangeShapes Go.WideShapes Go.ChangeAt Go.RowKit Go.PlainAid
set_option linter.unusedVariables false

/-- A disk behind one move more, where the code so far is 0. -/
def movedC (d : Dsk) (m : Mov) (code : Int) : Dsk × Int := if code = 0 then movedD d m else (d, code)
theorem movedC_no {d : Dsk} {m : Mov} {code : Int} (h : code ≠ 0) : movedC d m code = (d, code) := by unfold movedC; rw [if_neg h]
theorem movedC_yes {d : Dsk} {m : Mov} : movedC d m 0 = movedD d m := by unfold movedC; rw [if_pos rfl]

set_option maxRecDepth 20000 in
set_option maxHeartbeats 4000000 in
theorem movedV (d : Dsk) (v : Value) (mk : Int) (mn mt : ByteArray) (mi code : Int) (w : World) (B : Nat) (hv : DiskV w B v d) (l1 : d.nods.length ≤ 1048576) (l2 : d.dir.length ≤ 1048576) (l3 : d.movs.length ≤ 1048576) (hB : B ≤ w.heap.size) :
    Calls Tryz.prog 60 #[v, .agg #[.int .i64 mk, .string mn, .string mt, .int .i64 mi], .int .i64 code] w fun e w' => ∃ x, e = .returned (.tuple #[x, .int .i64 (movedC d ⟨mk, mn, mt, mi⟩ code).2]) ∧ DiskO w' w.heap.size x (movedC d ⟨mk, mn, mt, mi⟩ code).1 ∧ Below w.heap.size w w' := by
  have HV : Hid (DiskV w B v d) := hv
  have HB : Hid (B ≤ w.heap.size) := hB
  have L1 : Hid (d.nods.length ≤ 1048576) := l1
  have L2 : Hid (d.dir.length ≤ 1048576) := l2
  have L3 : Hid (d.movs.length ≤ 1048576) := l3
  obtain ⟨v1, v2, v3, rfl, h1, h2, h3⟩ := hv
  obtain ⟨A0, c0, rfl, _⟩ := mov_look h3
  have q1 : (d.movs.length : Int) ≤ 1048576 := by omega
  have hb0 := ((Below.refl _ w).alloc (Nat.le_refl _) (.cells #[.int .i64 d.room, .int .i64 d.next, v1, v2, .slice A0 d.movs.length c0] 32)).alloc (by simp only [World.size_alloc]; omega) (.cells #[.int .i64 mk, .string mn, .string mt, .int .i64 mi] 59)
  have hb1 := hb0.alloc (by simp only [World.size_alloc]; omega) (.cells #[.int .i64 0, .int .i64 0, .slice none 0 0, .slice none 0 0, .slice none 0 0] 32)
  have bA := ((Blk.new w #[.int .i64 d.room, .int .i64 d.next, v1, v2, .slice A0 d.movs.length c0] 32).alloc (.cells #[.int .i64 mk, .string mn, .string mt, .int .i64 mi] 59)).alloc (.cells #[.int .i64 0, .int .i64 0, .slice none 0 0, .slice none 0 0, .slice none 0 0] 32)
  have bM := (Blk.new (w.alloc (.cells #[.int .i64 d.room, .int .i64 d.next, v1, v2, .slice A0 d.movs.length c0] 32)) #[.int .i64 mk, .string mn, .string mt, .int .i64 mi] 59).alloc (.cells #[.int .i64 0, .int .i64 0, .slice none 0 0, .slice none 0 0, .slice none 0 0] 32)
  have bR := Blk.new ((w.alloc (.cells #[.int .i64 d.room, .int .i64 d.next, v1, v2, .slice A0 d.movs.length c0] 32)).alloc (.cells #[.int .i64 mk, .string mn, .string mt, .int .i64 mi] 59)) #[.int .i64 0, .int .i64 0, .slice none 0 0, .slice none 0 0, .slice none 0 0] 32
  simp only [World.size_alloc] at bM bR
  clear h1 h2 h3 hB l1 l2 l3 hb0
  have y4 := bA.cell 4 _ rfl
  by_cases hc : code = 0
  · subst hc
    by_cases hfull : 20 ≤ d.movs.length
    · have t1 : decide ((20 : Int) ≤ (d.movs.length : Int)) = true := decide_eq_true (by omega)
      have hRR : Hid (movedC d ⟨mk, mn, mt, mi⟩ 0 = (d, 4)) := by unfold Hid; rw [movedC_yes, movedD_full hfull]
      clear hfull
      go_enter Tryz.func60, Tryz.ntmps60
      go_upto_region 3 with fail
      clear y4
      generalize ((w.alloc (.cells #[.int .i64 d.room, .int .i64 d.next, v1, v2, .slice A0 d.movs.length c0] 32)).alloc (.cells #[.int .i64 mk, .string mn, .string mt, .int .i64 mi] 59)).alloc (.cells #[.int .i64 0, .int .i64 0, .slice none 0 0, .slice none 0 0, .slice none 0 0] 32) = W at *
      have B0 : Hid (Below w.heap.size w W) := hb1
      have K0 : Hid (Blk W w.heap.size #[.int .i64 d.room, .int .i64 d.next, v1, v2, .slice A0 d.movs.length c0] 32) := bA
      have M0 : Hid (Blk W (w.heap.size + 1) #[.int .i64 mk, .string mn, .string mt, .int .i64 mi] 59) := bM
      have R0 : Hid (Blk W (w.heap.size + 1 + 1) #[.int .i64 0, .int .i64 0, .slice none 0 0, .slice none 0 0, .slice none 0 0] 32) := bR
      clear hb1 bA bM bR
      have y0 := K0.out.cell 0 _ rfl
      have y1 := K0.out.cell 1 _ rfl
      have y2 := K0.out.cell 2 _ rfl
      have y3 := K0.out.cell 3 _ rfl
      have y4 := K0.out.cell 4 _ rfl
      go_wp2_with fail
      refine (copyV d (.agg #[.int .i64 d.room, .int .i64 d.next, v1, v2, .slice A0 d.movs.length c0]) W B (HV.out.on (B0.out.mono HB.out)) L1.out L2.out L3.out (Nat.le_trans HB.out B0.out.size)).mono ?_
      rintro e w3 ⟨x, rfl, hO3, hb3⟩
      clear y0 y1 y2 y3 y4
      have hsz3 : Hid (W.heap.size ≤ w3.heap.size) := hb3.size
      have B3 : Hid (Below w.heap.size w w3) := B0.out.trans (hb3.mono B0.out.size)
      have K3 : Hid (Blk w3 w.heap.size #[.int .i64 d.room, .int .i64 d.next, v1, v2, .slice A0 d.movs.length c0] 32) := K0.out.on hb3 K0.out.lt
      have M3 : Hid (Blk w3 (w.heap.size + 1) #[.int .i64 mk, .string mn, .string mt, .int .i64 mi] 59) := M0.out.on hb3 M0.out.lt
      have R3 : Hid (Blk w3 (w.heap.size + 1 + 1) #[.int .i64 0, .int .i64 0, .slice none 0 0, .slice none 0 0, .slice none 0 0] 32) := R0.out.on hb3 R0.out.lt
      obtain ⟨x1, x2, x3, rfl, o1, o2, o3⟩ := hO3
      obtain ⟨A1, m1, k1, rfl⟩ := o1.shape
      obtain ⟨A2, m2, k2, rfl⟩ := o2.shape
      obtain ⟨A3, m3, k3, rfl⟩ := o3.shape
      have hz : w.heap.size + 1 + 1 < W.heap.size := R0.out.lt
      have hm : w.heap.size ≤ W.heap.size := B0.out.size
      have HP1 : Hid (Owns (((((w3.setCell ⟨w.heap.size, 0, none⟩ (.int .i64 d.room)).setCell ⟨w.heap.size, 1, none⟩ (.int .i64 d.next)).setCell ⟨w.heap.size, 2, none⟩ (.slice A1 m1 k1)).setCell ⟨w.heap.size, 3, none⟩ (.slice A2 m2 k2)).setCell ⟨w.heap.size, 4, none⟩ (.slice A3 m3 k3)) W.heap.size 57 3 (.slice A1 m1 k1) (nodR d.nods)) := (((((o1.other (o1.below (show w.heap.size < W.heap.size by omega)) 0 (.int .i64 d.room)).other (o1.below (show w.heap.size < W.heap.size by omega)) 1 (.int .i64 d.next)).other (o1.below (show w.heap.size < W.heap.size by omega)) 2 (.slice A1 m1 k1)).other (o1.below (show w.heap.size < W.heap.size by omega)) 3 (.slice A2 m2 k2)).other (o1.below (show w.heap.size < W.heap.size by omega)) 4 (.slice A3 m3 k3))
      have HP2 : Hid (Owns (((((w3.setCell ⟨w.heap.size, 0, none⟩ (.int .i64 d.room)).setCell ⟨w.heap.size, 1, none⟩ (.int .i64 d.next)).setCell ⟨w.heap.size, 2, none⟩ (.slice A1 m1 k1)).setCell ⟨w.heap.size, 3, none⟩ (.slice A2 m2 k2)).setCell ⟨w.heap.size, 4, none⟩ (.slice A3 m3 k3)) W.heap.size 99 2 (.slice A2 m2 k2) (lnkR d.dir)) := (((((o2.other (o2.below (show w.heap.size < W.heap.size by omega)) 0 (.int .i64 d.room)).other (o2.below (show w.heap.size < W.heap.size by omega)) 1 (.int .i64 d.next)).other (o2.below (show w.heap.size < W.heap.size by omega)) 2 (.slice A1 m1 k1)).other (o2.below (show w.heap.size < W.heap.size by omega)) 3 (.slice A2 m2 k2)).other (o2.below (show w.heap.size < W.heap.size by omega)) 4 (.slice A3 m3 k3))
      have HP3 : Hid (Owns (((((w3.setCell ⟨w.heap.size, 0, none⟩ (.int .i64 d.room)).setCell ⟨w.heap.size, 1, none⟩ (.int .i64 d.next)).setCell ⟨w.heap.size, 2, none⟩ (.slice A1 m1 k1)).setCell ⟨w.heap.size, 3, none⟩ (.slice A2 m2 k2)).setCell ⟨w.heap.size, 4, none⟩ (.slice A3 m3 k3)) W.heap.size 59 4 (.slice A3 m3 k3) (movR d.movs)) := (((((o3.other (o3.below (show w.heap.size < W.heap.size by omega)) 0 (.int .i64 d.room)).other (o3.below (show w.heap.size < W.heap.size by omega)) 1 (.int .i64 d.next)).other (o3.below (show w.heap.size < W.heap.size by omega)) 2 (.slice A1 m1 k1)).other (o3.below (show w.heap.size < W.heap.size by omega)) 3 (.slice A2 m2 k2)).other (o3.below (show w.heap.size < W.heap.size by omega)) 4 (.slice A3 m3 k3))
      have HPB : Hid (Below w.heap.size w (((((w3.setCell ⟨w.heap.size, 0, none⟩ (.int .i64 d.room)).setCell ⟨w.heap.size, 1, none⟩ (.int .i64 d.next)).setCell ⟨w.heap.size, 2, none⟩ (.slice A1 m1 k1)).setCell ⟨w.heap.size, 3, none⟩ (.slice A2 m2 k2)).setCell ⟨w.heap.size, 4, none⟩ (.slice A3 m3 k3))) := (((((B3.out.setCell (Nat.le_refl _) (.int .i64 d.room) (p := ⟨_, 0, none⟩)).setCell (Nat.le_refl _) (.int .i64 d.next) (p := ⟨_, 1, none⟩)).setCell (Nat.le_refl _) (.slice A1 m1 k1) (p := ⟨_, 2, none⟩)).setCell (Nat.le_refl _) (.slice A2 m2 k2) (p := ⟨_, 3, none⟩)).setCell (Nat.le_refl _) (.slice A3 m3 k3) (p := ⟨_, 4, none⟩))
      have HPK : Hid (Blk (((((w3.setCell ⟨w.heap.size, 0, none⟩ (.int .i64 d.room)).setCell ⟨w.heap.size, 1, none⟩ (.int .i64 d.next)).setCell ⟨w.heap.size, 2, none⟩ (.slice A1 m1 k1)).setCell ⟨w.heap.size, 3, none⟩ (.slice A2 m2 k2)).setCell ⟨w.heap.size, 4, none⟩ (.slice A3 m3 k3)) w.heap.size #[.int .i64 d.room, .int .i64 d.next, .slice A1 m1 k1, .slice A2 m2 k2, .slice A3 m3 k3] 32) := (((((K3.out.set 0 (.int .i64 d.room)).set 1 (.int .i64 d.next)).set 2 (.slice A1 m1 k1)).set 3 (.slice A2 m2 k2)).set 4 (.slice A3 m3 k3))
      have HPM : Hid (Blk (((((w3.setCell ⟨w.heap.size, 0, none⟩ (.int .i64 d.room)).setCell ⟨w.heap.size, 1, none⟩ (.int .i64 d.next)).setCell ⟨w.heap.size, 2, none⟩ (.slice A1 m1 k1)).setCell ⟨w.heap.size, 3, none⟩ (.slice A2 m2 k2)).setCell ⟨w.heap.size, 4, none⟩ (.slice A3 m3 k3)) (w.heap.size + 1) #[.int .i64 mk, .string mn, .string mt, .int .i64 mi] 59) := (((((M3.out.other (show w.heap.size + 1 ≠ w.heap.size by omega) 0 (.int .i64 d.room)).other (show w.heap.size + 1 ≠ w.heap.size by omega) 1 (.int .i64 d.next)).other (show w.heap.size + 1 ≠ w.heap.size by omega) 2 (.slice A1 m1 k1)).other (show w.heap.size + 1 ≠ w.heap.size by omega) 3 (.slice A2 m2 k2)).other (show w.heap.size + 1 ≠ w.heap.size by omega) 4 (.slice A3 m3 k3))
      have HPR : Hid (Blk (((((w3.setCell ⟨w.heap.size, 0, none⟩ (.int .i64 d.room)).setCell ⟨w.heap.size, 1, none⟩ (.int .i64 d.next)).setCell ⟨w.heap.size, 2, none⟩ (.slice A1 m1 k1)).setCell ⟨w.heap.size, 3, none⟩ (.slice A2 m2 k2)).setCell ⟨w.heap.size, 4, none⟩ (.slice A3 m3 k3)) (w.heap.size + 1 + 1) #[.int .i64 0, .int .i64 0, .slice none 0 0, .slice none 0 0, .slice none 0 0] 32) := (((((R3.out.other (show w.heap.size + 1 + 1 ≠ w.heap.size by omega) 0 (.int .i64 d.room)).other (show w.heap.size + 1 + 1 ≠ w.heap.size by omega) 1 (.int .i64 d.next)).other (show w.heap.size + 1 + 1 ≠ w.heap.size by omega) 2 (.slice A1 m1 k1)).other (show w.heap.size + 1 + 1 ≠ w.heap.size by omega) 3 (.slice A2 m2 k2)).other (show w.heap.size + 1 + 1 ≠ w.heap.size by omega) 4 (.slice A3 m3 k3))
      clear hb3 o1 o2 o3
      have e0 := K3.out.cell 0 _ rfl
      have t0 := K3.out.free 0
      have e1 := K3.out.cell 1 _ rfl
      have t1 := K3.out.free 1
      have e2 := K3.out.cell 2 _ rfl
      have t2 := K3.out.free 2
      have e3 := K3.out.cell 3 _ rfl
      have t3 := K3.out.free 3
      have e4 := K3.out.cell 4 _ rfl
      have t4 := K3.out.free 4
      have r0 := HPK.out.cell 0 _ rfl
      have r1 := HPK.out.cell 1 _ rfl
      have r2 := HPK.out.cell 2 _ rfl
      have r3 := HPK.out.cell 3 _ rfl
      have r4 := HPK.out.cell 4 _ rfl
      have g0 := HPR.out.cell 0 _ rfl
      have f0 := HPR.out.free 0
      have g1 := HPR.out.cell 1 _ rfl
      have f1 := HPR.out.free 1
      have g2 := HPR.out.cell 2 _ rfl
      have f2 := HPR.out.free 2
      have g3 := HPR.out.cell 3 _ rfl
      have f3 := HPR.out.free 3
      have g4 := HPR.out.cell 4 _ rfl
      have f4 := HPR.out.free 4
      go_wp2_with fail
      have hB := HPB.out
      have hg : w.heap.size ≤ w.heap.size + 1 + 1 := by omega
      clear r0 e0 t0 r1 e1 t1 r2 e2 t2 r3 e3 t3 r4 e4 t4
      have FB := (((((hB.setCell hg (.int .i64 d.room) (p := ⟨_, 0, none⟩)).setCell hg (.int .i64 d.next) (p := ⟨_, 1, none⟩)).setCell hg (.slice A1 m1 k1) (p := ⟨_, 2, none⟩)).setCell hg (.slice A2 m2 k2) (p := ⟨_, 3, none⟩)).setCell hg (.slice A3 m3 k3) (p := ⟨_, 4, none⟩))
      have hF := (((((HPR.out.set 0 (.int .i64 d.room)).set 1 (.int .i64 d.next)).set 2 (.slice A1 m1 k1)).set 3 (.slice A2 m2 k2)).set 4 (.slice A3 m3 k3))
      have mm0 := HP1.out.notBlk HPR.out (by decide)
      have F0 := (((((HP1.out.other mm0 0 (.int .i64 d.room)).other mm0 1 (.int .i64 d.next)).other mm0 2 (.slice A1 m1 k1)).other mm0 3 (.slice A2 m2 k2)).other mm0 4 (.slice A3 m3 k3))
      have mm1 := HP2.out.notBlk HPR.out (by decide)
      have F1 := (((((HP2.out.other mm1 0 (.int .i64 d.room)).other mm1 1 (.int .i64 d.next)).other mm1 2 (.slice A1 m1 k1)).other mm1 3 (.slice A2 m2 k2)).other mm1 4 (.slice A3 m3 k3))
      have mm2 := HP3.out.notBlk HPR.out (by decide)
      have F2 := (((((HP3.out.other mm2 0 (.int .i64 d.room)).other mm2 1 (.int .i64 d.next)).other mm2 2 (.slice A1 m1 k1)).other mm2 3 (.slice A2 m2 k2)).other mm2 4 (.slice A3 m3 k3))
      clear g0 f0 g1 f1 g2 f2 g3 f3 g4 f4
      generalize ((((((((((w3.setCell ⟨w.heap.size, 0, none⟩ (.int .i64 d.room)).setCell ⟨w.heap.size, 1, none⟩ (.int .i64 d.next)).setCell ⟨w.heap.size, 2, none⟩ (.slice A1 m1 k1)).setCell ⟨w.heap.size, 3, none⟩ (.slice A2 m2 k2)).setCell ⟨w.heap.size, 4, none⟩ (.slice A3 m3 k3)).setCell ⟨w.heap.size + 1 + 1, 0, none⟩ (.int .i64 d.room)).setCell ⟨w.heap.size + 1 + 1, 1, none⟩ (.int .i64 d.next)).setCell ⟨w.heap.size + 1 + 1, 2, none⟩ (.slice A1 m1 k1)).setCell ⟨w.heap.size + 1 + 1, 3, none⟩ (.slice A2 m2 k2)).setCell ⟨w.heap.size + 1 + 1, 4, none⟩ (.slice A3 m3 k3)) = WF at *
      have hG : Blk WF (w.heap.size + 1 + 1) #[.int .i64 d.room, .int .i64 d.next, .slice A1 m1 k1, .slice A2 m2 k2, .slice A3 m3 k3] 32 := hF
      have l0 := hG.cell 0 (.int .i64 d.room) rfl
      have l1 := hG.cell 1 (.int .i64 d.next) rfl
      have l2 := hG.cell 2 (.slice A1 m1 k1) rfl
      have l3 := hG.cell 3 (.slice A2 m2 k2) rfl
      have l4 := hG.cell 4 (.slice A3 m3 k3) rfl
      exact bodyPost_ret (v := .tuple #[.agg #[.int .i64 d.room, .int .i64 d.next, .slice A1 m1 k1, .slice A2 m2 k2, .slice A3 m3 k3], .int .i64 4]) (by simp [results, go_sem, l0, l1, l2, l3, l4]) rfl (by rw [hRR.out]; exact ⟨_, rfl, ⟨_, _, _, rfl, F0.mono hm, F1.mono hm, F2.mono hm⟩, FB⟩)
    · have t1 : decide ((20 : Int) ≤ (d.movs.length : Int)) = false := decide_eq_false (by omega)
      have hRR : Hid (movedC d ⟨mk, mn, mt, mi⟩ 0 = (⟨d.room, d.next, d.nods, d.dir, d.movs ++ [⟨mk, mn, mt, mi⟩]⟩, 0)) := by unfold Hid; rw [movedC_yes, movedD_room hfull]
      clear hfull
      go_enter Tryz.func60, Tryz.ntmps60
      go_upto_region 3 with fail
      clear y4
      generalize ((w.alloc (.cells #[.int .i64 d.room, .int .i64 d.next, v1, v2, .slice A0 d.movs.length c0] 32)).alloc (.cells #[.int .i64 mk, .string mn, .string mt, .int .i64 mi] 59)).alloc (.cells #[.int .i64 0, .int .i64 0, .slice none 0 0, .slice none 0 0, .slice none 0 0] 32) = W at *
      have B0 : Hid (Below w.heap.size w W) := hb1
      have K0 : Hid (Blk W w.heap.size #[.int .i64 d.room, .int .i64 d.next, v1, v2, .slice A0 d.movs.length c0] 32) := bA
      have M0 : Hid (Blk W (w.heap.size + 1) #[.int .i64 mk, .string mn, .string mt, .int .i64 mi] 59) := bM
      have R0 : Hid (Blk W (w.heap.size + 1 + 1) #[.int .i64 0, .int .i64 0, .slice none 0 0, .slice none 0 0, .slice none 0 0] 32) := bR
      clear hb1 bA bM bR
      have y0 := K0.out.cell 0 _ rfl
      have y1 := K0.out.cell 1 _ rfl
      have y2 := K0.out.cell 2 _ rfl
      have y3 := K0.out.cell 3 _ rfl
      have y4 := K0.out.cell 4 _ rfl
      go_wp2_with fail
      refine (copyV d (.agg #[.int .i64 d.room, .int .i64 d.next, v1, v2, .slice A0 d.movs.length c0]) W B (HV.out.on (B0.out.mono HB.out)) L1.out L2.out L3.out (Nat.le_trans HB.out B0.out.size)).mono ?_
      rintro e w3 ⟨x, rfl, hO3, hb3⟩
      clear y0 y1 y2 y3 y4
      have hsz3 : Hid (W.heap.size ≤ w3.heap.size) := hb3.size
      have B3 : Hid (Below w.heap.size w w3) := B0.out.trans (hb3.mono B0.out.size)
      have K3 : Hid (Blk w3 w.heap.size #[.int .i64 d.room, .int .i64 d.next, v1, v2, .slice A0 d.movs.length c0] 32) := K0.out.on hb3 K0.out.lt
      have M3 : Hid (Blk w3 (w.heap.size + 1) #[.int .i64 mk, .string mn, .string mt, .int .i64 mi] 59) := M0.out.on hb3 M0.out.lt
      have R3 : Hid (Blk w3 (w.heap.size + 1 + 1) #[.int .i64 0, .int .i64 0, .slice none 0 0, .slice none 0 0, .slice none 0 0] 32) := R0.out.on hb3 R0.out.lt
      obtain ⟨x1, x2, x3, rfl, o1, o2, o3⟩ := hO3
      obtain ⟨A1, m1, k1, rfl⟩ := o1.shape
      obtain ⟨A2, m2, k2, rfl⟩ := o2.shape
      obtain ⟨A3, m3, k3, rfl⟩ := o3.shape
      have hz : w.heap.size + 1 + 1 < W.heap.size := R0.out.lt
      have hm : w.heap.size ≤ W.heap.size := B0.out.size
      have HP1 : Hid (Owns (((((w3.setCell ⟨w.heap.size, 0, none⟩ (.int .i64 d.room)).setCell ⟨w.heap.size, 1, none⟩ (.int .i64 d.next)).setCell ⟨w.heap.size, 2, none⟩ (.slice A1 m1 k1)).setCell ⟨w.heap.size, 3, none⟩ (.slice A2 m2 k2)).setCell ⟨w.heap.size, 4, none⟩ (.slice A3 m3 k3)) W.heap.size 57 3 (.slice A1 m1 k1) (nodR d.nods)) := (((((o1.other (o1.below (show w.heap.size < W.heap.size by omega)) 0 (.int .i64 d.room)).other (o1.below (show w.heap.size < W.heap.size by omega)) 1 (.int .i64 d.next)).other (o1.below (show w.heap.size < W.heap.size by omega)) 2 (.slice A1 m1 k1)).other (o1.below (show w.heap.size < W.heap.size by omega)) 3 (.slice A2 m2 k2)).other (o1.below (show w.heap.size < W.heap.size by omega)) 4 (.slice A3 m3 k3))
      have HP2 : Hid (Owns (((((w3.setCell ⟨w.heap.size, 0, none⟩ (.int .i64 d.room)).setCell ⟨w.heap.size, 1, none⟩ (.int .i64 d.next)).setCell ⟨w.heap.size, 2, none⟩ (.slice A1 m1 k1)).setCell ⟨w.heap.size, 3, none⟩ (.slice A2 m2 k2)).setCell ⟨w.heap.size, 4, none⟩ (.slice A3 m3 k3)) W.heap.size 99 2 (.slice A2 m2 k2) (lnkR d.dir)) := (((((o2.other (o2.below (show w.heap.size < W.heap.size by omega)) 0 (.int .i64 d.room)).other (o2.below (show w.heap.size < W.heap.size by omega)) 1 (.int .i64 d.next)).other (o2.below (show w.heap.size < W.heap.size by omega)) 2 (.slice A1 m1 k1)).other (o2.below (show w.heap.size < W.heap.size by omega)) 3 (.slice A2 m2 k2)).other (o2.below (show w.heap.size < W.heap.size by omega)) 4 (.slice A3 m3 k3))
      have HP3 : Hid (Owns (((((w3.setCell ⟨w.heap.size, 0, none⟩ (.int .i64 d.room)).setCell ⟨w.heap.size, 1, none⟩ (.int .i64 d.next)).setCell ⟨w.heap.size, 2, none⟩ (.slice A1 m1 k1)).setCell ⟨w.heap.size, 3, none⟩ (.slice A2 m2 k2)).setCell ⟨w.heap.size, 4, none⟩ (.slice A3 m3 k3)) W.heap.size 59 4 (.slice A3 m3 k3) (movR d.movs)) := (((((o3.other (o3.below (show w.heap.size < W.heap.size by omega)) 0 (.int .i64 d.room)).other (o3.below (show w.heap.size < W.heap.size by omega)) 1 (.int .i64 d.next)).other (o3.below (show w.heap.size < W.heap.size by omega)) 2 (.slice A1 m1 k1)).other (o3.below (show w.heap.size < W.heap.size by omega)) 3 (.slice A2 m2 k2)).other (o3.below (show w.heap.size < W.heap.size by omega)) 4 (.slice A3 m3 k3))
      have HPB : Hid (Below w.heap.size w (((((w3.setCell ⟨w.heap.size, 0, none⟩ (.int .i64 d.room)).setCell ⟨w.heap.size, 1, none⟩ (.int .i64 d.next)).setCell ⟨w.heap.size, 2, none⟩ (.slice A1 m1 k1)).setCell ⟨w.heap.size, 3, none⟩ (.slice A2 m2 k2)).setCell ⟨w.heap.size, 4, none⟩ (.slice A3 m3 k3))) := (((((B3.out.setCell (Nat.le_refl _) (.int .i64 d.room) (p := ⟨_, 0, none⟩)).setCell (Nat.le_refl _) (.int .i64 d.next) (p := ⟨_, 1, none⟩)).setCell (Nat.le_refl _) (.slice A1 m1 k1) (p := ⟨_, 2, none⟩)).setCell (Nat.le_refl _) (.slice A2 m2 k2) (p := ⟨_, 3, none⟩)).setCell (Nat.le_refl _) (.slice A3 m3 k3) (p := ⟨_, 4, none⟩))
      have HPK : Hid (Blk (((((w3.setCell ⟨w.heap.size, 0, none⟩ (.int .i64 d.room)).setCell ⟨w.heap.size, 1, none⟩ (.int .i64 d.next)).setCell ⟨w.heap.size, 2, none⟩ (.slice A1 m1 k1)).setCell ⟨w.heap.size, 3, none⟩ (.slice A2 m2 k2)).setCell ⟨w.heap.size, 4, none⟩ (.slice A3 m3 k3)) w.heap.size #[.int .i64 d.room, .int .i64 d.next, .slice A1 m1 k1, .slice A2 m2 k2, .slice A3 m3 k3] 32) := (((((K3.out.set 0 (.int .i64 d.room)).set 1 (.int .i64 d.next)).set 2 (.slice A1 m1 k1)).set 3 (.slice A2 m2 k2)).set 4 (.slice A3 m3 k3))
      have HPM : Hid (Blk (((((w3.setCell ⟨w.heap.size, 0, none⟩ (.int .i64 d.room)).setCell ⟨w.heap.size, 1, none⟩ (.int .i64 d.next)).setCell ⟨w.heap.size, 2, none⟩ (.slice A1 m1 k1)).setCell ⟨w.heap.size, 3, none⟩ (.slice A2 m2 k2)).setCell ⟨w.heap.size, 4, none⟩ (.slice A3 m3 k3)) (w.heap.size + 1) #[.int .i64 mk, .string mn, .string mt, .int .i64 mi] 59) := (((((M3.out.other (show w.heap.size + 1 ≠ w.heap.size by omega) 0 (.int .i64 d.room)).other (show w.heap.size + 1 ≠ w.heap.size by omega) 1 (.int .i64 d.next)).other (show w.heap.size + 1 ≠ w.heap.size by omega) 2 (.slice A1 m1 k1)).other (show w.heap.size + 1 ≠ w.heap.size by omega) 3 (.slice A2 m2 k2)).other (show w.heap.size + 1 ≠ w.heap.size by omega) 4 (.slice A3 m3 k3))
      have HPR : Hid (Blk (((((w3.setCell ⟨w.heap.size, 0, none⟩ (.int .i64 d.room)).setCell ⟨w.heap.size, 1, none⟩ (.int .i64 d.next)).setCell ⟨w.heap.size, 2, none⟩ (.slice A1 m1 k1)).setCell ⟨w.heap.size, 3, none⟩ (.slice A2 m2 k2)).setCell ⟨w.heap.size, 4, none⟩ (.slice A3 m3 k3)) (w.heap.size + 1 + 1) #[.int .i64 0, .int .i64 0, .slice none 0 0, .slice none 0 0, .slice none 0 0] 32) := (((((R3.out.other (show w.heap.size + 1 + 1 ≠ w.heap.size by omega) 0 (.int .i64 d.room)).other (show w.heap.size + 1 + 1 ≠ w.heap.size by omega) 1 (.int .i64 d.next)).other (show w.heap.size + 1 + 1 ≠ w.heap.size by omega) 2 (.slice A1 m1 k1)).other (show w.heap.size + 1 + 1 ≠ w.heap.size by omega) 3 (.slice A2 m2 k2)).other (show w.heap.size + 1 + 1 ≠ w.heap.size by omega) 4 (.slice A3 m3 k3))
      clear hb3 o1 o2 o3
      have e0 := K3.out.cell 0 _ rfl
      have t0 := K3.out.free 0
      have e1 := K3.out.cell 1 _ rfl
      have t1 := K3.out.free 1
      have e2 := K3.out.cell 2 _ rfl
      have t2 := K3.out.free 2
      have e3 := K3.out.cell 3 _ rfl
      have t3 := K3.out.free 3
      have e4 := K3.out.cell 4 _ rfl
      have t4 := K3.out.free 4
      have r4 := HPK.out.cell 4 _ rfl
      have n0 := HPM.out.cell 0 _ rfl
      have n1 := HPM.out.cell 1 _ rfl
      have n2 := HPM.out.cell 2 _ rfl
      have n3 := HPM.out.cell 3 _ rfl
      have hzz : W.heap.size ≤ ((((((w3.setCell ⟨w.heap.size, 0, none⟩ (.int .i64 d.room)).setCell ⟨w.heap.size, 1, none⟩ (.int .i64 d.next)).setCell ⟨w.heap.size, 2, none⟩ (.slice A1 m1 k1)).setCell ⟨w.heap.size, 3, none⟩ (.slice A2 m2 k2)).setCell ⟨w.heap.size, 4, none⟩ (.slice A3 m3 k3))).heap.size := by simp only [World.size_setCell]; exact hsz3.out
      have hYs : ((((((w3.setCell ⟨w.heap.size, 0, none⟩ (.int .i64 d.room)).setCell ⟨w.heap.size, 1, none⟩ (.int .i64 d.next)).setCell ⟨w.heap.size, 2, none⟩ (.slice A1 m1 k1)).setCell ⟨w.heap.size, 3, none⟩ (.slice A2 m2 k2)).setCell ⟨w.heap.size, 4, none⟩ (.slice A3 m3 k3))).heap.size = w3.heap.size := by simp only [World.size_setCell]
      go_wp2_with (at_builtin; refine Shut.out ?_)
      clear r4 n0 n1 n2 n3 e0 t0 e1 t1 e2 t2 e3 t3 e4 t4
      generalize (((((w3.setCell ⟨w.heap.size, 0, none⟩ (.int .i64 d.room)).setCell ⟨w.heap.size, 1, none⟩ (.int .i64 d.next)).setCell ⟨w.heap.size, 2, none⟩ (.slice A1 m1 k1)).setCell ⟨w.heap.size, 3, none⟩ (.slice A2 m2 k2)).setCell ⟨w.heap.size, 4, none⟩ (.slice A3 m3 k3)) = Y at *
      unfold Shut
      refine wpList_append_row (w := Y) rfl (.tmp 21) (.tmp 23) 30 59 (.agg #[.int .i64 0, .string ⟨#[]⟩, .string ⟨#[]⟩, .int .i64 0]) 4 48 rfl Tryz.underlying30 Tryz.infoMov rfl (by omega) W.heap.size (.slice A3 m3 k3) (movR d.movs) rfl HP3.out [.int .i64 mk, .string mn, .string mt, .int .i64 mi] rfl (by intro y hy; simp at hy; rcases hy with rfl | rfl | rfl | rfl <;> rfl) (by rw [hYs]; rfl) (by rw [movR_length]; have := L3.out; omega) (by omega) hzz ?_
      intro v' w5 hO5 hb5 hk5 _
      obtain ⟨nA, nm, nc, rfl⟩ := hO5.shape
      have Q1 : Hid (Owns w5 W.heap.size 57 3 (.slice A1 m1 k1) (nodR d.nods)) := HP1.out.kept fun g hg ho => hk5 g hg (HP1.out.apart HP3.out (by decide) g ho)
      have Q2 : Hid (Owns w5 W.heap.size 99 2 (.slice A2 m2 k2) (lnkR d.dir)) := HP2.out.kept fun g hg ho => hk5 g hg (HP2.out.apart HP3.out (by decide) g ho)
      have Q3 : Hid (Owns w5 W.heap.size 59 4 (.slice nA nm nc) (movR d.movs ++ [[.int .i64 mk, .string mn, .string mt, .int .i64 mi]])) := hO5
      have QB : Hid (Below w.heap.size w w5) := HPB.out.trans (hb5.mono hm)
      have QK : Hid (Blk w5 w.heap.size #[.int .i64 d.room, .int .i64 d.next, .slice A1 m1 k1, .slice A2 m2 k2, .slice A3 m3 k3] 32) := HPK.out.on hb5 (by omega)
      have QR : Hid (Blk w5 (w.heap.size + 1 + 1) #[.int .i64 0, .int .i64 0, .slice none 0 0, .slice none 0 0, .slice none 0 0] 32) := HPR.out.on hb5 hz
      have y4 := QK.out.cell 4 _ rfl
      have z4 := QK.out.free 4
      have kk : Blk (w5.setCell ⟨w.heap.size, 4, none⟩ (.slice nA nm nc)) w.heap.size #[.int .i64 d.room, .int .i64 d.next, .slice A1 m1 k1, .slice A2 m2 k2, .slice nA nm nc] 32 := QK.out.set 4 _
      have rr : Blk (w5.setCell ⟨w.heap.size, 4, none⟩ (.slice nA nm nc)) (w.heap.size + 1 + 1) #[.int .i64 0, .int .i64 0, .slice none 0 0, .slice none 0 0, .slice none 0 0] 32 := QR.out.other (by omega) _ _
      have KK : Hid (Blk (w5.setCell ⟨w.heap.size, 4, none⟩ (.slice nA nm nc)) w.heap.size #[.int .i64 d.room, .int .i64 d.next, .slice A1 m1 k1, .slice A2 m2 k2, .slice nA nm nc] 32) := kk
      have RRx : Hid (Blk (w5.setCell ⟨w.heap.size, 4, none⟩ (.slice nA nm nc)) (w.heap.size + 1 + 1) #[.int .i64 0, .int .i64 0, .slice none 0 0, .slice none 0 0, .slice none 0 0] 32) := rr
      have F1 : Hid (Owns (w5.setCell ⟨w.heap.size, 4, none⟩ (.slice nA nm nc)) W.heap.size 57 3 (.slice A1 m1 k1) (nodR d.nods)) := Q1.out.other (Q1.out.below (by omega)) _ _
      have F2 : Hid (Owns (w5.setCell ⟨w.heap.size, 4, none⟩ (.slice nA nm nc)) W.heap.size 99 2 (.slice A2 m2 k2) (lnkR d.dir)) := Q2.out.other (Q2.out.below (by omega)) _ _
      have F3 : Hid (Owns (w5.setCell ⟨w.heap.size, 4, none⟩ (.slice nA nm nc)) W.heap.size 59 4 (.slice nA nm nc) (movR d.movs ++ [[.int .i64 mk, .string mn, .string mt, .int .i64 mi]])) := Q3.out.other (Q3.out.below (by omega)) _ _
      have FBx : Hid (Below w.heap.size w (w5.setCell ⟨w.heap.size, 4, none⟩ (.slice nA nm nc))) := QB.out.setCell (p := ⟨w.heap.size, 4, none⟩) (Nat.le_refl _) _
      clear hO5 hb5 hk5 kk rr Q1 Q2 Q3 QB QK QR HP1 HP2 HP3 HPB HPK HPM HPR
      have r0 := KK.out.cell 0 _ rfl
      have r1 := KK.out.cell 1 _ rfl
      have r2 := KK.out.cell 2 _ rfl
      have r3 := KK.out.cell 3 _ rfl
      have r4 := KK.out.cell 4 _ rfl
      have g0 := RRx.out.cell 0 _ rfl
      have f0 := RRx.out.free 0
      have g1 := RRx.out.cell 1 _ rfl
      have f1 := RRx.out.free 1
      have g2 := RRx.out.cell 2 _ rfl
      have f2 := RRx.out.free 2
      have g3 := RRx.out.cell 3 _ rfl
      have f3 := RRx.out.free 3
      have g4 := RRx.out.cell 4 _ rfl
      have f4 := RRx.out.free 4
      go_wp2_with fail
      have hB := FBx.out
      have hg : w.heap.size ≤ w.heap.size + 1 + 1 := by omega
      clear y4 z4 r0 r1 r2 r3 r4
      have e1 : movR (d.movs ++ [⟨mk, mn, mt, mi⟩]) = movR d.movs ++ [[.int .i64 mk, .string mn, .string mt, .int .i64 mi]] := by unfold movR; rw [List.map_append]; rfl
      have F3' : Hid (Owns (w5.setCell ⟨w.heap.size, 4, none⟩ (.slice nA nm nc)) W.heap.size 59 4 (.slice nA nm nc) (movR (d.movs ++ [⟨mk, mn, mt, mi⟩]))) := by unfold Hid; rw [e1]; exact F3.out
      have FB := (((((hB.setCell hg (.int .i64 d.room) (p := ⟨_, 0, none⟩)).setCell hg (.int .i64 d.next) (p := ⟨_, 1, none⟩)).setCell hg (.slice A1 m1 k1) (p := ⟨_, 2, none⟩)).setCell hg (.slice A2 m2 k2) (p := ⟨_, 3, none⟩)).setCell hg (.slice nA nm nc) (p := ⟨_, 4, none⟩))
      have hF := (((((RRx.out.set 0 (.int .i64 d.room)).set 1 (.int .i64 d.next)).set 2 (.slice A1 m1 k1)).set 3 (.slice A2 m2 k2)).set 4 (.slice nA nm nc))
      have mm0 := F1.out.notBlk RRx.out (by decide)
      have F0 := (((((F1.out.other mm0 0 (.int .i64 d.room)).other mm0 1 (.int .i64 d.next)).other mm0 2 (.slice A1 m1 k1)).other mm0 3 (.slice A2 m2 k2)).other mm0 4 (.slice nA nm nc))
      have mm1 := F2.out.notBlk RRx.out (by decide)
      have F1 := (((((F2.out.other mm1 0 (.int .i64 d.room)).other mm1 1 (.int .i64 d.next)).other mm1 2 (.slice A1 m1 k1)).other mm1 3 (.slice A2 m2 k2)).other mm1 4 (.slice nA nm nc))
      have mm2 := F3'.out.notBlk RRx.out (by decide)
      have F2 := (((((F3'.out.other mm2 0 (.int .i64 d.room)).other mm2 1 (.int .i64 d.next)).other mm2 2 (.slice A1 m1 k1)).other mm2 3 (.slice A2 m2 k2)).other mm2 4 (.slice nA nm nc))
      clear g0 f0 g1 f1 g2 f2 g3 f3 g4 f4
      generalize ((((((w5.setCell ⟨w.heap.size, 4, none⟩ (.slice nA nm nc)).setCell ⟨w.heap.size + 1 + 1, 0, none⟩ (.int .i64 d.room)).setCell ⟨w.heap.size + 1 + 1, 1, none⟩ (.int .i64 d.next)).setCell ⟨w.heap.size + 1 + 1, 2, none⟩ (.slice A1 m1 k1)).setCell ⟨w.heap.size + 1 + 1, 3, none⟩ (.slice A2 m2 k2)).setCell ⟨w.heap.size + 1 + 1, 4, none⟩ (.slice nA nm nc)) = WF at *
      have hG : Blk WF (w.heap.size + 1 + 1) #[.int .i64 d.room, .int .i64 d.next, .slice A1 m1 k1, .slice A2 m2 k2, .slice nA nm nc] 32 := hF
      have l0 := hG.cell 0 (.int .i64 d.room) rfl
      have l1 := hG.cell 1 (.int .i64 d.next) rfl
      have l2 := hG.cell 2 (.slice A1 m1 k1) rfl
      have l3 := hG.cell 3 (.slice A2 m2 k2) rfl
      have l4 := hG.cell 4 (.slice nA nm nc) rfl
      exact bodyPost_ret (v := .tuple #[.agg #[.int .i64 d.room, .int .i64 d.next, .slice A1 m1 k1, .slice A2 m2 k2, .slice nA nm nc], .int .i64 0]) (by simp [results, go_sem, l0, l1, l2, l3, l4]) rfl (by rw [hRR.out]; exact ⟨_, rfl, ⟨_, _, _, rfl, F0.mono hm, F1.mono hm, F2.mono hm⟩, FB⟩)
  · have t1 : (code == 0) = false := by simpa using hc
    have hRR : Hid (movedC d ⟨mk, mn, mt, mi⟩ code = (d, code)) := movedC_no hc
    clear hc
    go_enter Tryz.func60, Tryz.ntmps60
    go_upto_region 3 with fail
    clear y4
    generalize ((w.alloc (.cells #[.int .i64 d.room, .int .i64 d.next, v1, v2, .slice A0 d.movs.length c0] 32)).alloc (.cells #[.int .i64 mk, .string mn, .string mt, .int .i64 mi] 59)).alloc (.cells #[.int .i64 0, .int .i64 0, .slice none 0 0, .slice none 0 0, .slice none 0 0] 32) = W at *
    have B0 : Hid (Below w.heap.size w W) := hb1
    have K0 : Hid (Blk W w.heap.size #[.int .i64 d.room, .int .i64 d.next, v1, v2, .slice A0 d.movs.length c0] 32) := bA
    have M0 : Hid (Blk W (w.heap.size + 1) #[.int .i64 mk, .string mn, .string mt, .int .i64 mi] 59) := bM
    have R0 : Hid (Blk W (w.heap.size + 1 + 1) #[.int .i64 0, .int .i64 0, .slice none 0 0, .slice none 0 0, .slice none 0 0] 32) := bR
    clear hb1 bA bM bR
    have y0 := K0.out.cell 0 _ rfl
    have y1 := K0.out.cell 1 _ rfl
    have y2 := K0.out.cell 2 _ rfl
    have y3 := K0.out.cell 3 _ rfl
    have y4 := K0.out.cell 4 _ rfl
    go_wp2_with fail
    refine (copyV d (.agg #[.int .i64 d.room, .int .i64 d.next, v1, v2, .slice A0 d.movs.length c0]) W B (HV.out.on (B0.out.mono HB.out)) L1.out L2.out L3.out (Nat.le_trans HB.out B0.out.size)).mono ?_
    rintro e w3 ⟨x, rfl, hO3, hb3⟩
    clear y0 y1 y2 y3 y4
    have hsz3 : Hid (W.heap.size ≤ w3.heap.size) := hb3.size
    have B3 : Hid (Below w.heap.size w w3) := B0.out.trans (hb3.mono B0.out.size)
    have K3 : Hid (Blk w3 w.heap.size #[.int .i64 d.room, .int .i64 d.next, v1, v2, .slice A0 d.movs.length c0] 32) := K0.out.on hb3 K0.out.lt
    have M3 : Hid (Blk w3 (w.heap.size + 1) #[.int .i64 mk, .string mn, .string mt, .int .i64 mi] 59) := M0.out.on hb3 M0.out.lt
    have R3 : Hid (Blk w3 (w.heap.size + 1 + 1) #[.int .i64 0, .int .i64 0, .slice none 0 0, .slice none 0 0, .slice none 0 0] 32) := R0.out.on hb3 R0.out.lt
    obtain ⟨x1, x2, x3, rfl, o1, o2, o3⟩ := hO3
    obtain ⟨A1, m1, k1, rfl⟩ := o1.shape
    obtain ⟨A2, m2, k2, rfl⟩ := o2.shape
    obtain ⟨A3, m3, k3, rfl⟩ := o3.shape
    have hz : w.heap.size + 1 + 1 < W.heap.size := R0.out.lt
    have hm : w.heap.size ≤ W.heap.size := B0.out.size
    have HP1 : Hid (Owns (((((w3.setCell ⟨w.heap.size, 0, none⟩ (.int .i64 d.room)).setCell ⟨w.heap.size, 1, none⟩ (.int .i64 d.next)).setCell ⟨w.heap.size, 2, none⟩ (.slice A1 m1 k1)).setCell ⟨w.heap.size, 3, none⟩ (.slice A2 m2 k2)).setCell ⟨w.heap.size, 4, none⟩ (.slice A3 m3 k3)) W.heap.size 57 3 (.slice A1 m1 k1) (nodR d.nods)) := (((((o1.other (o1.below (show w.heap.size < W.heap.size by omega)) 0 (.int .i64 d.room)).other (o1.below (show w.heap.size < W.heap.size by omega)) 1 (.int .i64 d.next)).other (o1.below (show w.heap.size < W.heap.size by omega)) 2 (.slice A1 m1 k1)).other (o1.below (show w.heap.size < W.heap.size by omega)) 3 (.slice A2 m2 k2)).other (o1.below (show w.heap.size < W.heap.size by omega)) 4 (.slice A3 m3 k3))
    have HP2 : Hid (Owns (((((w3.setCell ⟨w.heap.size, 0, none⟩ (.int .i64 d.room)).setCell ⟨w.heap.size, 1, none⟩ (.int .i64 d.next)).setCell ⟨w.heap.size, 2, none⟩ (.slice A1 m1 k1)).setCell ⟨w.heap.size, 3, none⟩ (.slice A2 m2 k2)).setCell ⟨w.heap.size, 4, none⟩ (.slice A3 m3 k3)) W.heap.size 99 2 (.slice A2 m2 k2) (lnkR d.dir)) := (((((o2.other (o2.below (show w.heap.size < W.heap.size by omega)) 0 (.int .i64 d.room)).other (o2.below (show w.heap.size < W.heap.size by omega)) 1 (.int .i64 d.next)).other (o2.below (show w.heap.size < W.heap.size by omega)) 2 (.slice A1 m1 k1)).other (o2.below (show w.heap.size < W.heap.size by omega)) 3 (.slice A2 m2 k2)).other (o2.below (show w.heap.size < W.heap.size by omega)) 4 (.slice A3 m3 k3))
    have HP3 : Hid (Owns (((((w3.setCell ⟨w.heap.size, 0, none⟩ (.int .i64 d.room)).setCell ⟨w.heap.size, 1, none⟩ (.int .i64 d.next)).setCell ⟨w.heap.size, 2, none⟩ (.slice A1 m1 k1)).setCell ⟨w.heap.size, 3, none⟩ (.slice A2 m2 k2)).setCell ⟨w.heap.size, 4, none⟩ (.slice A3 m3 k3)) W.heap.size 59 4 (.slice A3 m3 k3) (movR d.movs)) := (((((o3.other (o3.below (show w.heap.size < W.heap.size by omega)) 0 (.int .i64 d.room)).other (o3.below (show w.heap.size < W.heap.size by omega)) 1 (.int .i64 d.next)).other (o3.below (show w.heap.size < W.heap.size by omega)) 2 (.slice A1 m1 k1)).other (o3.below (show w.heap.size < W.heap.size by omega)) 3 (.slice A2 m2 k2)).other (o3.below (show w.heap.size < W.heap.size by omega)) 4 (.slice A3 m3 k3))
    have HPB : Hid (Below w.heap.size w (((((w3.setCell ⟨w.heap.size, 0, none⟩ (.int .i64 d.room)).setCell ⟨w.heap.size, 1, none⟩ (.int .i64 d.next)).setCell ⟨w.heap.size, 2, none⟩ (.slice A1 m1 k1)).setCell ⟨w.heap.size, 3, none⟩ (.slice A2 m2 k2)).setCell ⟨w.heap.size, 4, none⟩ (.slice A3 m3 k3))) := (((((B3.out.setCell (Nat.le_refl _) (.int .i64 d.room) (p := ⟨_, 0, none⟩)).setCell (Nat.le_refl _) (.int .i64 d.next) (p := ⟨_, 1, none⟩)).setCell (Nat.le_refl _) (.slice A1 m1 k1) (p := ⟨_, 2, none⟩)).setCell (Nat.le_refl _) (.slice A2 m2 k2) (p := ⟨_, 3, none⟩)).setCell (Nat.le_refl _) (.slice A3 m3 k3) (p := ⟨_, 4, none⟩))
    have HPK : Hid (Blk (((((w3.setCell ⟨w.heap.size, 0, none⟩ (.int .i64 d.room)).setCell ⟨w.heap.size, 1, none⟩ (.int .i64 d.next)).setCell ⟨w.heap.size, 2, none⟩ (.slice A1 m1 k1)).setCell ⟨w.heap.size, 3, none⟩ (.slice A2 m2 k2)).setCell ⟨w.heap.size, 4, none⟩ (.slice A3 m3 k3)) w.heap.size #[.int .i64 d.room, .int .i64 d.next, .slice A1 m1 k1, .slice A2 m2 k2, .slice A3 m3 k3] 32) := (((((K3.out.set 0 (.int .i64 d.room)).set 1 (.int .i64 d.next)).set 2 (.slice A1 m1 k1)).set 3 (.slice A2 m2 k2)).set 4 (.slice A3 m3 k3))
    have HPM : Hid (Blk (((((w3.setCell ⟨w.heap.size, 0, none⟩ (.int .i64 d.room)).setCell ⟨w.heap.size, 1, none⟩ (.int .i64 d.next)).setCell ⟨w.heap.size, 2, none⟩ (.slice A1 m1 k1)).setCell ⟨w.heap.size, 3, none⟩ (.slice A2 m2 k2)).setCell ⟨w.heap.size, 4, none⟩ (.slice A3 m3 k3)) (w.heap.size + 1) #[.int .i64 mk, .string mn, .string mt, .int .i64 mi] 59) := (((((M3.out.other (show w.heap.size + 1 ≠ w.heap.size by omega) 0 (.int .i64 d.room)).other (show w.heap.size + 1 ≠ w.heap.size by omega) 1 (.int .i64 d.next)).other (show w.heap.size + 1 ≠ w.heap.size by omega) 2 (.slice A1 m1 k1)).other (show w.heap.size + 1 ≠ w.heap.size by omega) 3 (.slice A2 m2 k2)).other (show w.heap.size + 1 ≠ w.heap.size by omega) 4 (.slice A3 m3 k3))
    have HPR : Hid (Blk (((((w3.setCell ⟨w.heap.size, 0, none⟩ (.int .i64 d.room)).setCell ⟨w.heap.size, 1, none⟩ (.int .i64 d.next)).setCell ⟨w.heap.size, 2, none⟩ (.slice A1 m1 k1)).setCell ⟨w.heap.size, 3, none⟩ (.slice A2 m2 k2)).setCell ⟨w.heap.size, 4, none⟩ (.slice A3 m3 k3)) (w.heap.size + 1 + 1) #[.int .i64 0, .int .i64 0, .slice none 0 0, .slice none 0 0, .slice none 0 0] 32) := (((((R3.out.other (show w.heap.size + 1 + 1 ≠ w.heap.size by omega) 0 (.int .i64 d.room)).other (show w.heap.size + 1 + 1 ≠ w.heap.size by omega) 1 (.int .i64 d.next)).other (show w.heap.size + 1 + 1 ≠ w.heap.size by omega) 2 (.slice A1 m1 k1)).other (show w.heap.size + 1 + 1 ≠ w.heap.size by omega) 3 (.slice A2 m2 k2)).other (show w.heap.size + 1 + 1 ≠ w.heap.size by omega) 4 (.slice A3 m3 k3))
    clear hb3 o1 o2 o3
    have e0 := K3.out.cell 0 _ rfl
    have t0 := K3.out.free 0
    have e1 := K3.out.cell 1 _ rfl
    have t1 := K3.out.free 1
    have e2 := K3.out.cell 2 _ rfl
    have t2 := K3.out.free 2
    have e3 := K3.out.cell 3 _ rfl
    have t3 := K3.out.free 3
    have e4 := K3.out.cell 4 _ rfl
    have t4 := K3.out.free 4
    have r0 := HPK.out.cell 0 _ rfl
    have r1 := HPK.out.cell 1 _ rfl
    have r2 := HPK.out.cell 2 _ rfl
    have r3 := HPK.out.cell 3 _ rfl
    have r4 := HPK.out.cell 4 _ rfl
    have g0 := HPR.out.cell 0 _ rfl
    have f0 := HPR.out.free 0
    have g1 := HPR.out.cell 1 _ rfl
    have f1 := HPR.out.free 1
    have g2 := HPR.out.cell 2 _ rfl
    have f2 := HPR.out.free 2
    have g3 := HPR.out.cell 3 _ rfl
    have f3 := HPR.out.free 3
    have g4 := HPR.out.cell 4 _ rfl
    have f4 := HPR.out.free 4
    go_wp2_with fail
    have hB := HPB.out
    have hg : w.heap.size ≤ w.heap.size + 1 + 1 := by omega
    clear r0 e0 t0 r1 e1 t1 r2 e2 t2 r3 e3 t3 r4 e4 t4
    have FB := (((((hB.setCell hg (.int .i64 d.room) (p := ⟨_, 0, none⟩)).setCell hg (.int .i64 d.next) (p := ⟨_, 1, none⟩)).setCell hg (.slice A1 m1 k1) (p := ⟨_, 2, none⟩)).setCell hg (.slice A2 m2 k2) (p := ⟨_, 3, none⟩)).setCell hg (.slice A3 m3 k3) (p := ⟨_, 4, none⟩))
    have hF := (((((HPR.out.set 0 (.int .i64 d.room)).set 1 (.int .i64 d.next)).set 2 (.slice A1 m1 k1)).set 3 (.slice A2 m2 k2)).set 4 (.slice A3 m3 k3))
    have mm0 := HP1.out.notBlk HPR.out (by decide)
    have F0 := (((((HP1.out.other mm0 0 (.int .i64 d.room)).other mm0 1 (.int .i64 d.next)).other mm0 2 (.slice A1 m1 k1)).other mm0 3 (.slice A2 m2 k2)).other mm0 4 (.slice A3 m3 k3))
    have mm1 := HP2.out.notBlk HPR.out (by decide)
    have F1 := (((((HP2.out.other mm1 0 (.int .i64 d.room)).other mm1 1 (.int .i64 d.next)).other mm1 2 (.slice A1 m1 k1)).other mm1 3 (.slice A2 m2 k2)).other mm1 4 (.slice A3 m3 k3))
    have mm2 := HP3.out.notBlk HPR.out (by decide)
    have F2 := (((((HP3.out.other mm2 0 (.int .i64 d.room)).other mm2 1 (.int .i64 d.next)).other mm2 2 (.slice A1 m1 k1)).other mm2 3 (.slice A2 m2 k2)).other mm2 4 (.slice A3 m3 k3))
    clear g0 f0 g1 f1 g2 f2 g3 f3 g4 f4
    generalize ((((((((((w3.setCell ⟨w.heap.size, 0, none⟩ (.int .i64 d.room)).setCell ⟨w.heap.size, 1, none⟩ (.int .i64 d.next)).setCell ⟨w.heap.size, 2, none⟩ (.slice A1 m1 k1)).setCell ⟨w.heap.size, 3, none⟩ (.slice A2 m2 k2)).setCell ⟨w.heap.size, 4, none⟩ (.slice A3 m3 k3)).setCell ⟨w.heap.size + 1 + 1, 0, none⟩ (.int .i64 d.room)).setCell ⟨w.heap.size + 1 + 1, 1, none⟩ (.int .i64 d.next)).setCell ⟨w.heap.size + 1 + 1, 2, none⟩ (.slice A1 m1 k1)).setCell ⟨w.heap.size + 1 + 1, 3, none⟩ (.slice A2 m2 k2)).setCell ⟨w.heap.size + 1 + 1, 4, none⟩ (.slice A3 m3 k3)) = WF at *
    have hG : Blk WF (w.heap.size + 1 + 1) #[.int .i64 d.room, .int .i64 d.next, .slice A1 m1 k1, .slice A2 m2 k2, .slice A3 m3 k3] 32 := hF
    have l0 := hG.cell 0 (.int .i64 d.room) rfl
    have l1 := hG.cell 1 (.int .i64 d.next) rfl
    have l2 := hG.cell 2 (.slice A1 m1 k1) rfl
    have l3 := hG.cell 3 (.slice A2 m2 k2) rfl
    have l4 := hG.cell 4 (.slice A3 m3 k3) rfl
    exact bodyPost_ret (v := .tuple #[.agg #[.int .i64 d.room, .int .i64 d.next, .slice A1 m1 k1, .slice A2 m2 k2, .slice A3 m3 k3], .int .i64 code]) (by simp [results, go_sem, l0, l1, l2, l3, l4]) rfl (by rw [hRR.out]; exact ⟨_, rfl, ⟨_, _, _, rfl, F0.mono hm, F1.mono hm, F2.mono hm⟩, FB⟩)
end Go.Proofs.YtljpakpokjpemaaGreat
