/- ReadSpecN WkApp WokSpec UntilS -/
import Derived.Test.YtdimaoloapbeoaaGreatDoorQv13
import Derived.Test.YtdimaoloapbeoaaGreatDoorRows
import Derived.Test.YtdimaoloapbeoaaGreatDoorQv14
import Derived.Handy
import Derived.Test.YtdimaoloapbeoaaGreatDoorQv3
import Derived.Test.YtdimaoloapbeoaaGreatDoorQv2
import Derived.Test.YtdimaoloapbeoaaGreatDoorQv10
import Derived.OwnWalk
import Derived.Test.YtdimaoloapbeoaaGreatDoorQv11
import Derived.Test.YtdimaoloapbeoaaGreatDoorQv12
namespace Go.Proofs.YtdimaoloapbeoaaGreatDoor
open Go.ChangeShapes Go.WideShapes Go.ChangeAt Go.RowKit Go.PlainAid
set_option linter.unusedVariables false
set_option maxHeartbeats 2000000 in
theorem specReadRec_no1 (s : ByteArray) (w : World) (hs : s.size ≤ 2000) (h0 : 1 ≤ s.size) (hn : ∀ k, ¬ FindV (s.extract 1 s.size) k) : Calls Tryz.prog 52 #[.string s] w fun e w' => e = .returned (.tuple #[.agg #[.int .i64 0, .int .i64 0, .int .i64 0, .int .i64 0, .string ⟨#[]⟩], .bool false]) ∧ Below w.heap.size w w' := by
 obtain ⟨s1, e1⟩ : ∃ y, y = s.extract 1 s.size := ⟨_, rfl⟩
 rw [← e1] at hn
 have hbt := get_bn s
 have hwb : wrap64 (bn s 0 : Int) = (bn s 0 : Int) := by have := bn_lt s 0; unfold wrap64; omega
 have q0 : (s.size : Int) ≤ 2000 := by omega
 have q1 : ((s.size : Int) == 0) = false := by simp only [beq_eq_false_iff_ne, ne_eq]; omega
 have i0 : (1 : Int) ≤ (s.size : Int) := by omega
 have i00 : (0 : Int) < (s.size : Int) := by omega
 have HL : Hid (s.size ≤ 2000) := hs
 have hne : ¬ s = ByteArray.empty := fun e => (by rw [e] at h0; exact absurd h0 (by decide))
 have H0 : Hid (1 ≤ s.size) := h0
 have z1 : s1.size = s.size - 1 := by rw [e1, ext_size]
 have c1 := srv_no s1 (by omega) hn
 have E1 : Hid (s1 = s.extract 1 s.size) := e1
 clear hn e1 z1  hs h0
 go_enter Tryz.func52, Tryz.ntmps52
 go_wp2_with fail
 have hb0 : Below w.heap.size w ((w.alloc (.cells #[.int .i64 0, .int .i64 0, .int .i64 0, .int .i64 0, .string ⟨#[]⟩] 102)).alloc (.cells #[.int .i64 (bn s 0 : Int), .int .i64 0, .int .i64 0, .int .i64 0, .string ⟨#[]⟩] 102)) := ((Below.refl _ w).alloc (Nat.le_refl _) _).alloc (by simp) _
 have k0 := (Blk.new w #[.int .i64 0, .int .i64 0, .int .i64 0, .int .i64 0, .string ⟨#[]⟩] 102).alloc (.cells #[.int .i64 (bn s 0 : Int), .int .i64 0, .int .i64 0, .int .i64 0, .string ⟨#[]⟩] 102)
 have l0 := Blk.new (w.alloc (.cells #[.int .i64 0, .int .i64 0, .int .i64 0, .int .i64 0, .string ⟨#[]⟩] 102)) #[.int .i64 (bn s 0 : Int), .int .i64 0, .int .i64 0, .int .i64 0, .string ⟨#[]⟩] 102
 simp only [World.size_alloc] at l0
 generalize (w.alloc (.cells #[.int .i64 0, .int .i64 0, .int .i64 0, .int .i64 0, .string ⟨#[]⟩] 102)).alloc (.cells #[.int .i64 (bn s 0 : Int), .int .i64 0, .int .i64 0, .int .i64 0, .string ⟨#[]⟩] 102) = w0 at *
 have B0 : Hid (Below w.heap.size w w0) := hb0
 have K0 : Hid (Blk w0 w.heap.size #[.int .i64 0, .int .i64 0, .int .i64 0, .int .i64 0, .string ⟨#[]⟩] 102) := k0
 have L0 : Hid (Blk w0 (w.heap.size + 1) #[.int .i64 (bn s 0 : Int), .int .i64 0, .int .i64 0, .int .i64 0, .string ⟨#[]⟩] 102) := l0
 clear hb0 k0 l0
 rw [← E1.out]
 refine (c1 _).mono ?_
 rintro e w1 ⟨rfl, hb1⟩
 have B1 : Hid (Below w.heap.size w w1) := B0.out.trans (hb1.mono B0.out.size)
 have K1 : Hid (Blk w1 w.heap.size #[.int .i64 0, .int .i64 0, .int .i64 0, .int .i64 0, .string ⟨#[]⟩] 102) := K0.out.on hb1 K0.out.lt
 have L1 : Hid (Blk w1 (w.heap.size + 1) #[.int .i64 (bn s 0 : Int), .int .i64 0, .int .i64 0, .int .i64 0, .string ⟨#[]⟩] 102) := L0.out.on hb1 L0.out.lt
 clear hb1 B0 K0 L0
 go_wp2_with fail
 rw [← E1.out]
 refine (c1 _).mono ?_
 rintro e w2 ⟨rfl, hb2⟩
 have B2 : Hid (Below w.heap.size w w2) := B1.out.trans (hb2.mono B1.out.size)
 have K2 : Hid (Blk w2 w.heap.size #[.int .i64 0, .int .i64 0, .int .i64 0, .int .i64 0, .string ⟨#[]⟩] 102) := K1.out.on hb2 K1.out.lt
 have L2 : Hid (Blk w2 (w.heap.size + 1) #[.int .i64 (bn s 0 : Int), .int .i64 0, .int .i64 0, .int .i64 0, .string ⟨#[]⟩] 102) := L1.out.on hb2 L1.out.lt
 clear hb2 B1 K1 L1
 go_wp2_with fail
 rw [← E1.out]
 refine (c1 _).mono ?_
 rintro e w3 ⟨rfl, hb3⟩
 have B3 : Hid (Below w.heap.size w w3) := B2.out.trans (hb3.mono B2.out.size)
 have K3 : Hid (Blk w3 w.heap.size #[.int .i64 0, .int .i64 0, .int .i64 0, .int .i64 0, .string ⟨#[]⟩] 102) := K2.out.on hb3 K2.out.lt
 have L3 : Hid (Blk w3 (w.heap.size + 1) #[.int .i64 (bn s 0 : Int), .int .i64 0, .int .i64 0, .int .i64 0, .string ⟨#[]⟩] 102) := L2.out.on hb3 L2.out.lt
 clear hb3 B2 K2 L2
 have e0 := L3.out.cell 0 (.int .i64 (bn s 0 : Int)) rfl
 have f0 := L3.out.free 0
 have e1 := L3.out.cell 1 (.int .i64 0) rfl
 have f1 := L3.out.free 1
 have e2 := L3.out.cell 2 (.int .i64 0) rfl
 have f2 := L3.out.free 2
 have e3 := L3.out.cell 3 (.int .i64 0) rfl
 have f3 := L3.out.free 3
 have e4 := L3.out.cell 4 (.string ⟨#[]⟩) rfl
 have f4 := L3.out.free 4
 have r0 := K3.out.cell 0 (.int .i64 0) rfl
 have g0 := K3.out.free 0
 have r1 := K3.out.cell 1 (.int .i64 0) rfl
 have g1 := K3.out.free 1
 have r2 := K3.out.cell 2 (.int .i64 0) rfl
 have g2 := K3.out.free 2
 have r3 := K3.out.cell 3 (.int .i64 0) rfl
 have g3 := K3.out.free 3
 have r4 := K3.out.cell 4 (.string ⟨#[]⟩) rfl
 have g4 := K3.out.free 4
 go_wp2_with fail
 try rw [← E1.out]
 have hF := (((((((((K3.out.other (show w.heap.size ≠ w.heap.size + 1 by omega) 1 (.int .i64 0)).other (show w.heap.size ≠ w.heap.size + 1 by omega) 2 (.int .i64 0)).other (show w.heap.size ≠ w.heap.size + 1 by omega) 3 (.int .i64 (-1))).other (show w.heap.size ≠ w.heap.size + 1 by omega) 4 (.string s1)).set 0 (.int .i64 0)).set 1 (.int .i64 0)).set 2 (.int .i64 0)).set 3 (.int .i64 0)).set 4 (.string ⟨#[]⟩))
 have FB := (((((((((B3.out.setCell (show w.heap.size ≤ w.heap.size + 1 by omega) (.int .i64 0) (p := ⟨_, 1, none⟩)).setCell (show w.heap.size ≤ w.heap.size + 1 by omega) (.int .i64 0) (p := ⟨_, 2, none⟩)).setCell (show w.heap.size ≤ w.heap.size + 1 by omega) (.int .i64 (-1)) (p := ⟨_, 3, none⟩)).setCell (show w.heap.size ≤ w.heap.size + 1 by omega) (.string s1) (p := ⟨_, 4, none⟩)).setCell (Nat.le_refl _) (.int .i64 0) (p := ⟨_, 0, none⟩)).setCell (Nat.le_refl _) (.int .i64 0) (p := ⟨_, 1, none⟩)).setCell (Nat.le_refl _) (.int .i64 0) (p := ⟨_, 2, none⟩)).setCell (Nat.le_refl _) (.int .i64 0) (p := ⟨_, 3, none⟩)).setCell (Nat.le_refl _) (.string ⟨#[]⟩) (p := ⟨_, 4, none⟩))
 clear e0 e1 e2 e3 e4 f0 f1 f2 f3 f4 r0 r1 r2 r3 r4 g0 g1 g2 g3 g4
 generalize (((((((((w3.setCell ⟨w.heap.size + 1, 1, none⟩ (.int .i64 0)).setCell ⟨w.heap.size + 1, 2, none⟩ (.int .i64 0)).setCell ⟨w.heap.size + 1, 3, none⟩ (.int .i64 (-1))).setCell ⟨w.heap.size + 1, 4, none⟩ (.string s1)).setCell ⟨w.heap.size, 0, none⟩ (.int .i64 0)).setCell ⟨w.heap.size, 1, none⟩ (.int .i64 0)).setCell ⟨w.heap.size, 2, none⟩ (.int .i64 0)).setCell ⟨w.heap.size, 3, none⟩ (.int .i64 0)).setCell ⟨w.heap.size, 4, none⟩ (.string ⟨#[]⟩)) = WF at *
 have hG : Blk WF w.heap.size #[.int .i64 0, .int .i64 0, .int .i64 0, .int .i64 0, .string ⟨#[]⟩] 102 := hF
 have m0 := hG.cell 0 (.int .i64 0) rfl
 have m1 := hG.cell 1 (.int .i64 0) rfl
 have m2 := hG.cell 2 (.int .i64 0) rfl
 have m3 := hG.cell 3 (.int .i64 0) rfl
 have m4 := hG.cell 4 (.string ⟨#[]⟩) rfl
 exact bodyPost_ret (v := .tuple #[.agg #[.int .i64 0, .int .i64 0, .int .i64 0, .int .i64 0, .string ⟨#[]⟩], .bool false]) (by simp [results, go_sem, m0, m1, m2, m3, m4]) rfl ⟨rfl, FB⟩
set_option maxHeartbeats 2000000 in
theorem specReadRec_no2 (s s1 : ByteArray) (k1 : Nat) (w : World) (hs : s.size ≤ 2000) (h0 : 1 ≤ s.size) (e1 : s1 = s.extract 1 s.size) (f1 : FindV s1 k1) (hn : ∀ k, ¬ FindV (s1.extract k1 s1.size) k) : Calls Tryz.prog 52 #[.string s] w fun e w' => e = .returned (.tuple #[.agg #[.int .i64 0, .int .i64 0, .int .i64 0, .int .i64 0, .string ⟨#[]⟩], .bool false]) ∧ Below w.heap.size w w' := by
 obtain ⟨s2, e2⟩ : ∃ y, y = s1.extract k1 s1.size := ⟨_, rfl⟩
 rw [← e2] at hn
 have hbt := get_bn s
 have hwb : wrap64 (bn s 0 : Int) = (bn s 0 : Int) := by have := bn_lt s 0; unfold wrap64; omega
 have q0 : (s.size : Int) ≤ 2000 := by omega
 have q1 : ((s.size : Int) == 0) = false := by simp only [beq_eq_false_iff_ne, ne_eq]; omega
 have i0 : (1 : Int) ≤ (s.size : Int) := by omega
 have i00 : (0 : Int) < (s.size : Int) := by omega
 have HL : Hid (s.size ≤ 2000) := hs
 have hne : ¬ s = ByteArray.empty := fun e => (by rw [e] at h0; exact absurd h0 (by decide))
 have H0 : Hid (1 ≤ s.size) := h0
 have z1 : s1.size = s.size - 1 := by rw [e1, ext_size]
 have z2 : s2.size = s1.size - k1 := by rw [e2, ext_size]
 obtain ⟨p1, hp1⟩ : ∃ n : Nat, n = 1 + k1 := ⟨_, rfl⟩
 have d1 := f1.2.1
 have d1' := f1.2.2.1
 have x2 : s2 = s.extract p1 s.size := by rw [e2, e1, ext_ext, hp1]
 have hw1 : IntKind.i64.wrap (1 + (k1 : Int)) = (p1 : Int) := by rw [IntKind.wrap_i64]; omega
 have i1 : (p1 : Int) ≤ (s.size : Int) := by omega
 have c1 := srv_yes s1 k1 (by omega) f1
 have n1 : ((k1 : Int) == 0) = false := by have := f1.1; simp; omega
 have c2 := srv_no s2 (by omega) hn
 have hwp : IntKind.i64.wrap (p1 : Int) = (p1 : Int) := by rw [IntKind.wrap_i64]; omega
 have E1 : Hid (s1 = s.extract 1 s.size) := e1
 have E2 : Hid (s2 = s.extract p1 s.size) := x2
 generalize vvS s1 0 k1 = a1 at *
 clear hn e1 z1 e2 z2 x2 hp1 d1 d1' f1 hs h0
 go_enter Tryz.func52, Tryz.ntmps52
 go_wp2_with fail
 have hb0 : Below w.heap.size w ((w.alloc (.cells #[.int .i64 0, .int .i64 0, .int .i64 0, .int .i64 0, .string ⟨#[]⟩] 102)).alloc (.cells #[.int .i64 (bn s 0 : Int), .int .i64 0, .int .i64 0, .int .i64 0, .string ⟨#[]⟩] 102)) := ((Below.refl _ w).alloc (Nat.le_refl _) _).alloc (by simp) _
 have k0 := (Blk.new w #[.int .i64 0, .int .i64 0, .int .i64 0, .int .i64 0, .string ⟨#[]⟩] 102).alloc (.cells #[.int .i64 (bn s 0 : Int), .int .i64 0, .int .i64 0, .int .i64 0, .string ⟨#[]⟩] 102)
 have l0 := Blk.new (w.alloc (.cells #[.int .i64 0, .int .i64 0, .int .i64 0, .int .i64 0, .string ⟨#[]⟩] 102)) #[.int .i64 (bn s 0 : Int), .int .i64 0, .int .i64 0, .int .i64 0, .string ⟨#[]⟩] 102
 simp only [World.size_alloc] at l0
 generalize (w.alloc (.cells #[.int .i64 0, .int .i64 0, .int .i64 0, .int .i64 0, .string ⟨#[]⟩] 102)).alloc (.cells #[.int .i64 (bn s 0 : Int), .int .i64 0, .int .i64 0, .int .i64 0, .string ⟨#[]⟩] 102) = w0 at *
 have B0 : Hid (Below w.heap.size w w0) := hb0
 have K0 : Hid (Blk w0 w.heap.size #[.int .i64 0, .int .i64 0, .int .i64 0, .int .i64 0, .string ⟨#[]⟩] 102) := k0
 have L0 : Hid (Blk w0 (w.heap.size + 1) #[.int .i64 (bn s 0 : Int), .int .i64 0, .int .i64 0, .int .i64 0, .string ⟨#[]⟩] 102) := l0
 clear hb0 k0 l0
 rw [← E1.out]
 refine (c1 _).mono ?_
 rintro e w1 ⟨rfl, hb1⟩
 have B1 : Hid (Below w.heap.size w w1) := B0.out.trans (hb1.mono B0.out.size)
 have K1 : Hid (Blk w1 w.heap.size #[.int .i64 0, .int .i64 0, .int .i64 0, .int .i64 0, .string ⟨#[]⟩] 102) := K0.out.on hb1 K0.out.lt
 have L1 : Hid (Blk w1 (w.heap.size + 1) #[.int .i64 (bn s 0 : Int), .int .i64 0, .int .i64 0, .int .i64 0, .string ⟨#[]⟩] 102) := L0.out.on hb1 L0.out.lt
 clear hb1 B0 K0 L0
 go_wp2_with fail
 rw [← E2.out]
 refine (c2 _).mono ?_
 rintro e w2 ⟨rfl, hb2⟩
 have B2 : Hid (Below w.heap.size w w2) := B1.out.trans (hb2.mono B1.out.size)
 have K2 : Hid (Blk w2 w.heap.size #[.int .i64 0, .int .i64 0, .int .i64 0, .int .i64 0, .string ⟨#[]⟩] 102) := K1.out.on hb2 K1.out.lt
 have L2 : Hid (Blk w2 (w.heap.size + 1) #[.int .i64 (bn s 0 : Int), .int .i64 0, .int .i64 0, .int .i64 0, .string ⟨#[]⟩] 102) := L1.out.on hb2 L1.out.lt
 clear hb2 B1 K1 L1
 go_wp2_with fail
 rw [← E2.out]
 refine (c2 _).mono ?_
 rintro e w3 ⟨rfl, hb3⟩
 have B3 : Hid (Below w.heap.size w w3) := B2.out.trans (hb3.mono B2.out.size)
 have K3 : Hid (Blk w3 w.heap.size #[.int .i64 0, .int .i64 0, .int .i64 0, .int .i64 0, .string ⟨#[]⟩] 102) := K2.out.on hb3 K2.out.lt
 have L3 : Hid (Blk w3 (w.heap.size + 1) #[.int .i64 (bn s 0 : Int), .int .i64 0, .int .i64 0, .int .i64 0, .string ⟨#[]⟩] 102) := L2.out.on hb3 L2.out.lt
 clear hb3 B2 K2 L2
 have e0 := L3.out.cell 0 (.int .i64 (bn s 0 : Int)) rfl
 have f0 := L3.out.free 0
 have e1 := L3.out.cell 1 (.int .i64 0) rfl
 have f1 := L3.out.free 1
 have e2 := L3.out.cell 2 (.int .i64 0) rfl
 have f2 := L3.out.free 2
 have e3 := L3.out.cell 3 (.int .i64 0) rfl
 have f3 := L3.out.free 3
 have e4 := L3.out.cell 4 (.string ⟨#[]⟩) rfl
 have f4 := L3.out.free 4
 have r0 := K3.out.cell 0 (.int .i64 0) rfl
 have g0 := K3.out.free 0
 have r1 := K3.out.cell 1 (.int .i64 0) rfl
 have g1 := K3.out.free 1
 have r2 := K3.out.cell 2 (.int .i64 0) rfl
 have g2 := K3.out.free 2
 have r3 := K3.out.cell 3 (.int .i64 0) rfl
 have g3 := K3.out.free 3
 have r4 := K3.out.cell 4 (.string ⟨#[]⟩) rfl
 have g4 := K3.out.free 4
 go_wp2_with fail
 try rw [← E2.out]
 have hF := (((((((((K3.out.other (show w.heap.size ≠ w.heap.size + 1 by omega) 1 (.int .i64 (a1 : Int))).other (show w.heap.size ≠ w.heap.size + 1 by omega) 2 (.int .i64 0)).other (show w.heap.size ≠ w.heap.size + 1 by omega) 3 (.int .i64 (-1))).other (show w.heap.size ≠ w.heap.size + 1 by omega) 4 (.string s2)).set 0 (.int .i64 0)).set 1 (.int .i64 0)).set 2 (.int .i64 0)).set 3 (.int .i64 0)).set 4 (.string ⟨#[]⟩))
 have FB := (((((((((B3.out.setCell (show w.heap.size ≤ w.heap.size + 1 by omega) (.int .i64 (a1 : Int)) (p := ⟨_, 1, none⟩)).setCell (show w.heap.size ≤ w.heap.size + 1 by omega) (.int .i64 0) (p := ⟨_, 2, none⟩)).setCell (show w.heap.size ≤ w.heap.size + 1 by omega) (.int .i64 (-1)) (p := ⟨_, 3, none⟩)).setCell (show w.heap.size ≤ w.heap.size + 1 by omega) (.string s2) (p := ⟨_, 4, none⟩)).setCell (Nat.le_refl _) (.int .i64 0) (p := ⟨_, 0, none⟩)).setCell (Nat.le_refl _) (.int .i64 0) (p := ⟨_, 1, none⟩)).setCell (Nat.le_refl _) (.int .i64 0) (p := ⟨_, 2, none⟩)).setCell (Nat.le_refl _) (.int .i64 0) (p := ⟨_, 3, none⟩)).setCell (Nat.le_refl _) (.string ⟨#[]⟩) (p := ⟨_, 4, none⟩))
 clear e0 e1 e2 e3 e4 f0 f1 f2 f3 f4 r0 r1 r2 r3 r4 g0 g1 g2 g3 g4
 generalize (((((((((w3.setCell ⟨w.heap.size + 1, 1, none⟩ (.int .i64 (a1 : Int))).setCell ⟨w.heap.size + 1, 2, none⟩ (.int .i64 0)).setCell ⟨w.heap.size + 1, 3, none⟩ (.int .i64 (-1))).setCell ⟨w.heap.size + 1, 4, none⟩ (.string s2)).setCell ⟨w.heap.size, 0, none⟩ (.int .i64 0)).setCell ⟨w.heap.size, 1, none⟩ (.int .i64 0)).setCell ⟨w.heap.size, 2, none⟩ (.int .i64 0)).setCell ⟨w.heap.size, 3, none⟩ (.int .i64 0)).setCell ⟨w.heap.size, 4, none⟩ (.string ⟨#[]⟩)) = WF at *
 have hG : Blk WF w.heap.size #[.int .i64 0, .int .i64 0, .int .i64 0, .int .i64 0, .string ⟨#[]⟩] 102 := hF
 have m0 := hG.cell 0 (.int .i64 0) rfl
 have m1 := hG.cell 1 (.int .i64 0) rfl
 have m2 := hG.cell 2 (.int .i64 0) rfl
 have m3 := hG.cell 3 (.int .i64 0) rfl
 have m4 := hG.cell 4 (.string ⟨#[]⟩) rfl
 exact bodyPost_ret (v := .tuple #[.agg #[.int .i64 0, .int .i64 0, .int .i64 0, .int .i64 0, .string ⟨#[]⟩], .bool false]) (by simp [results, go_sem, m0, m1, m2, m3, m4]) rfl ⟨rfl, FB⟩
set_option maxHeartbeats 2000000 in
theorem specReadRec_no3 (s s1 s2 : ByteArray) (k1 k2 : Nat) (w : World) (hs : s.size ≤ 2000) (h0 : 1 ≤ s.size) (e1 : s1 = s.extract 1 s.size) (f1 : FindV s1 k1) (e2 : s2 = s1.extract k1 s1.size) (f2 : FindV s2 k2) (hn : ∀ k, ¬ FindV (s2.extract k2 s2.size) k) : Calls Tryz.prog 52 #[.string s] w fun e w' => e = .returned (.tuple #[.agg #[.int .i64 0, .int .i64 0, .int .i64 0, .int .i64 0, .string ⟨#[]⟩], .bool false]) ∧ Below w.heap.size w w' := by
 obtain ⟨s3, e3⟩ : ∃ y, y = s2.extract k2 s2.size := ⟨_, rfl⟩
 rw [← e3] at hn
 have hbt := get_bn s
 have hwb : wrap64 (bn s 0 : Int) = (bn s 0 : Int) := by have := bn_lt s 0; unfold wrap64; omega
 have q0 : (s.size : Int) ≤ 2000 := by omega
 have q1 : ((s.size : Int) == 0) = false := by simp only [beq_eq_false_iff_ne, ne_eq]; omega
 have i0 : (1 : Int) ≤ (s.size : Int) := by omega
 have i00 : (0 : Int) < (s.size : Int) := by omega
 have HL : Hid (s.size ≤ 2000) := hs
 have hne : ¬ s = ByteArray.empty := fun e => (by rw [e] at h0; exact absurd h0 (by decide))
 have H0 : Hid (1 ≤ s.size) := h0
 have z1 : s1.size = s.size - 1 := by rw [e1, ext_size]
 have z2 : s2.size = s1.size - k1 := by rw [e2, ext_size]
 have z3 : s3.size = s2.size - k2 := by rw [e3, ext_size]
 obtain ⟨p1, hp1⟩ : ∃ n : Nat, n = 1 + k1 := ⟨_, rfl⟩
 have d1 := f1.2.1
 have d1' := f1.2.2.1
 have x2 : s2 = s.extract p1 s.size := by rw [e2, e1, ext_ext, hp1]
 have hw1 : IntKind.i64.wrap (1 + (k1 : Int)) = (p1 : Int) := by rw [IntKind.wrap_i64]; omega
 have i1 : (p1 : Int) ≤ (s.size : Int) := by omega
 have c1 := srv_yes s1 k1 (by omega) f1
 have n1 : ((k1 : Int) == 0) = false := by have := f1.1; simp; omega
 obtain ⟨p2, hp2⟩ : ∃ n : Nat, n = 1 + k1 + k2 := ⟨_, rfl⟩
 have d2 := f2.2.1
 have d2' := f2.2.2.1
 have x3 : s3 = s.extract p2 s.size := by rw [e3, x2, ext_ext, hp2, hp1]
 have hw2 : IntKind.i64.wrap ((p1 : Int) + (k2 : Int)) = (p2 : Int) := by rw [IntKind.wrap_i64]; omega
 have i2 : (p2 : Int) ≤ (s.size : Int) := by omega
 have c2 := srv_yes s2 k2 (by omega) f2
 have n2 : ((k2 : Int) == 0) = false := by have := f2.1; simp; omega
 have c3 := srv_no s3 (by omega) hn
 have hwp : IntKind.i64.wrap (p2 : Int) = (p2 : Int) := by rw [IntKind.wrap_i64]; omega
 have E1 : Hid (s1 = s.extract 1 s.size) := e1
 have E2 : Hid (s2 = s.extract p1 s.size) := x2
 have E3 : Hid (s3 = s.extract p2 s.size) := x3
 generalize vvS s1 0 k1 = a1 at *
 generalize vvS s2 0 k2 = a2 at *
 clear hn e1 z1 e2 z2 x2 hp1 d1 d1' f1 e3 z3 x3 hp2 d2 d2' f2 hs h0
 go_enter Tryz.func52, Tryz.ntmps52
 go_wp2_with fail
 have hb0 : Below w.heap.size w ((w.alloc (.cells #[.int .i64 0, .int .i64 0, .int .i64 0, .int .i64 0, .string ⟨#[]⟩] 102)).alloc (.cells #[.int .i64 (bn s 0 : Int), .int .i64 0, .int .i64 0, .int .i64 0, .string ⟨#[]⟩] 102)) := ((Below.refl _ w).alloc (Nat.le_refl _) _).alloc (by simp) _
 have k0 := (Blk.new w #[.int .i64 0, .int .i64 0, .int .i64 0, .int .i64 0, .string ⟨#[]⟩] 102).alloc (.cells #[.int .i64 (bn s 0 : Int), .int .i64 0, .int .i64 0, .int .i64 0, .string ⟨#[]⟩] 102)
 have l0 := Blk.new (w.alloc (.cells #[.int .i64 0, .int .i64 0, .int .i64 0, .int .i64 0, .string ⟨#[]⟩] 102)) #[.int .i64 (bn s 0 : Int), .int .i64 0, .int .i64 0, .int .i64 0, .string ⟨#[]⟩] 102
 simp only [World.size_alloc] at l0
 generalize (w.alloc (.cells #[.int .i64 0, .int .i64 0, .int .i64 0, .int .i64 0, .string ⟨#[]⟩] 102)).alloc (.cells #[.int .i64 (bn s 0 : Int), .int .i64 0, .int .i64 0, .int .i64 0, .string ⟨#[]⟩] 102) = w0 at *
 have B0 : Hid (Below w.heap.size w w0) := hb0
 have K0 : Hid (Blk w0 w.heap.size #[.int .i64 0, .int .i64 0, .int .i64 0, .int .i64 0, .string ⟨#[]⟩] 102) := k0
 have L0 : Hid (Blk w0 (w.heap.size + 1) #[.int .i64 (bn s 0 : Int), .int .i64 0, .int .i64 0, .int .i64 0, .string ⟨#[]⟩] 102) := l0
 clear hb0 k0 l0
 rw [← E1.out]
 refine (c1 _).mono ?_
 rintro e w1 ⟨rfl, hb1⟩
 have B1 : Hid (Below w.heap.size w w1) := B0.out.trans (hb1.mono B0.out.size)
 have K1 : Hid (Blk w1 w.heap.size #[.int .i64 0, .int .i64 0, .int .i64 0, .int .i64 0, .string ⟨#[]⟩] 102) := K0.out.on hb1 K0.out.lt
 have L1 : Hid (Blk w1 (w.heap.size + 1) #[.int .i64 (bn s 0 : Int), .int .i64 0, .int .i64 0, .int .i64 0, .string ⟨#[]⟩] 102) := L0.out.on hb1 L0.out.lt
 clear hb1 B0 K0 L0
 go_wp2_with fail
 rw [← E2.out]
 refine (c2 _).mono ?_
 rintro e w2 ⟨rfl, hb2⟩
 have B2 : Hid (Below w.heap.size w w2) := B1.out.trans (hb2.mono B1.out.size)
 have K2 : Hid (Blk w2 w.heap.size #[.int .i64 0, .int .i64 0, .int .i64 0, .int .i64 0, .string ⟨#[]⟩] 102) := K1.out.on hb2 K1.out.lt
 have L2 : Hid (Blk w2 (w.heap.size + 1) #[.int .i64 (bn s 0 : Int), .int .i64 0, .int .i64 0, .int .i64 0, .string ⟨#[]⟩] 102) := L1.out.on hb2 L1.out.lt
 clear hb2 B1 K1 L1
 go_wp2_with fail
 rw [← E3.out]
 refine (c3 _).mono ?_
 rintro e w3 ⟨rfl, hb3⟩
 have B3 : Hid (Below w.heap.size w w3) := B2.out.trans (hb3.mono B2.out.size)
 have K3 : Hid (Blk w3 w.heap.size #[.int .i64 0, .int .i64 0, .int .i64 0, .int .i64 0, .string ⟨#[]⟩] 102) := K2.out.on hb3 K2.out.lt
 have L3 : Hid (Blk w3 (w.heap.size + 1) #[.int .i64 (bn s 0 : Int), .int .i64 0, .int .i64 0, .int .i64 0, .string ⟨#[]⟩] 102) := L2.out.on hb3 L2.out.lt
 clear hb3 B2 K2 L2
 have e0 := L3.out.cell 0 (.int .i64 (bn s 0 : Int)) rfl
 have f0 := L3.out.free 0
 have e1 := L3.out.cell 1 (.int .i64 0) rfl
 have f1 := L3.out.free 1
 have e2 := L3.out.cell 2 (.int .i64 0) rfl
 have f2 := L3.out.free 2
 have e3 := L3.out.cell 3 (.int .i64 0) rfl
 have f3 := L3.out.free 3
 have e4 := L3.out.cell 4 (.string ⟨#[]⟩) rfl
 have f4 := L3.out.free 4
 have r0 := K3.out.cell 0 (.int .i64 0) rfl
 have g0 := K3.out.free 0
 have r1 := K3.out.cell 1 (.int .i64 0) rfl
 have g1 := K3.out.free 1
 have r2 := K3.out.cell 2 (.int .i64 0) rfl
 have g2 := K3.out.free 2
 have r3 := K3.out.cell 3 (.int .i64 0) rfl
 have g3 := K3.out.free 3
 have r4 := K3.out.cell 4 (.string ⟨#[]⟩) rfl
 have g4 := K3.out.free 4
 go_wp2_with fail
 try rw [← E3.out]
 have hF := (((((((((K3.out.other (show w.heap.size ≠ w.heap.size + 1 by omega) 1 (.int .i64 (a1 : Int))).other (show w.heap.size ≠ w.heap.size + 1 by omega) 2 (.int .i64 (a2 : Int))).other (show w.heap.size ≠ w.heap.size + 1 by omega) 3 (.int .i64 (-1))).other (show w.heap.size ≠ w.heap.size + 1 by omega) 4 (.string s3)).set 0 (.int .i64 0)).set 1 (.int .i64 0)).set 2 (.int .i64 0)).set 3 (.int .i64 0)).set 4 (.string ⟨#[]⟩))
 have FB := (((((((((B3.out.setCell (show w.heap.size ≤ w.heap.size + 1 by omega) (.int .i64 (a1 : Int)) (p := ⟨_, 1, none⟩)).setCell (show w.heap.size ≤ w.heap.size + 1 by omega) (.int .i64 (a2 : Int)) (p := ⟨_, 2, none⟩)).setCell (show w.heap.size ≤ w.heap.size + 1 by omega) (.int .i64 (-1)) (p := ⟨_, 3, none⟩)).setCell (show w.heap.size ≤ w.heap.size + 1 by omega) (.string s3) (p := ⟨_, 4, none⟩)).setCell (Nat.le_refl _) (.int .i64 0) (p := ⟨_, 0, none⟩)).setCell (Nat.le_refl _) (.int .i64 0) (p := ⟨_, 1, none⟩)).setCell (Nat.le_refl _) (.int .i64 0) (p := ⟨_, 2, none⟩)).setCell (Nat.le_refl _) (.int .i64 0) (p := ⟨_, 3, none⟩)).setCell (Nat.le_refl _) (.string ⟨#[]⟩) (p := ⟨_, 4, none⟩))
 clear e0 e1 e2 e3 e4 f0 f1 f2 f3 f4 r0 r1 r2 r3 r4 g0 g1 g2 g3 g4
 generalize (((((((((w3.setCell ⟨w.heap.size + 1, 1, none⟩ (.int .i64 (a1 : Int))).setCell ⟨w.heap.size + 1, 2, none⟩ (.int .i64 (a2 : Int))).setCell ⟨w.heap.size + 1, 3, none⟩ (.int .i64 (-1))).setCell ⟨w.heap.size + 1, 4, none⟩ (.string s3)).setCell ⟨w.heap.size, 0, none⟩ (.int .i64 0)).setCell ⟨w.heap.size, 1, none⟩ (.int .i64 0)).setCell ⟨w.heap.size, 2, none⟩ (.int .i64 0)).setCell ⟨w.heap.size, 3, none⟩ (.int .i64 0)).setCell ⟨w.heap.size, 4, none⟩ (.string ⟨#[]⟩)) = WF at *
 have hG : Blk WF w.heap.size #[.int .i64 0, .int .i64 0, .int .i64 0, .int .i64 0, .string ⟨#[]⟩] 102 := hF
 have m0 := hG.cell 0 (.int .i64 0) rfl
 have m1 := hG.cell 1 (.int .i64 0) rfl
 have m2 := hG.cell 2 (.int .i64 0) rfl
 have m3 := hG.cell 3 (.int .i64 0) rfl
 have m4 := hG.cell 4 (.string ⟨#[]⟩) rfl
 exact bodyPost_ret (v := .tuple #[.agg #[.int .i64 0, .int .i64 0, .int .i64 0, .int .i64 0, .string ⟨#[]⟩], .bool false]) (by simp [results, go_sem, m0, m1, m2, m3, m4]) rfl ⟨rfl, FB⟩
theorem specReadRec_none (s : ByteArray) (w : World) (hs : s.size ≤ 1048576) (h : NoParts s) : Calls Tryz.prog 52 #[.string s] w fun e w' => e = .returned (.tuple #[.agg #[.int .i64 0, .int .i64 0, .int .i64 0, .int .i64 0, .string ⟨#[]⟩], .bool false]) ∧ Below w.heap.size w w' := by
 by_cases hl : 2000 < s.size
 ·exact specReadRec_out s w hs (.inr hl)
 rcases h with h | ⟨h0, h | ⟨s1, k1, e1, f1, h | ⟨s2, k2, e2, f2, h⟩⟩⟩
 ·exact specReadRec_out s w hs (.inl h)
 ·exact specReadRec_no1 s w (by omega) h0 h
 ·exact specReadRec_no2 s s1 k1 w (by omega) h0 e1 f1 h
 ·exact specReadRec_no3 s s1 s2 k1 k2 w (by omega) h0 e1 f1 e2 f2 h
theorem specReadRec_some (s s1 s2 s3 s4 : ByteArray) (k1 k2 k3 : Nat) (w : World) (hs : s.size ≤ 1048576) (h : Parts s s1 s2 s3 s4 k1 k2 k3) :
  Calls Tryz.prog 52 #[.string s] w fun e w' => e = .returned (toldO (partsR s s1 s2 s3 s4 k1 k2 k3)) ∧ Below w.heap.size w w' := by
 by_cases hl : 2000 < s.size
 ·have ho := parts_long s s1 s2 s3 s4 k1 k2 k3 h hl
  have : toldO (partsR s s1 s2 s3 s4 k1 k2 k3) = .tuple #[.agg #[.int .i64 0, .int .i64 0, .int .i64 0, .int .i64 0, .string ⟨#[]⟩], .bool false] := by unfold toldO; rw [ho]; rfl
  rw [this]
  exact specReadRec_out s w hs (.inr hl)
 ·exact specReadRec_at s s1 s2 s3 s4 k1 k2 k3 w (by omega) h
def ReadA (s : ByteArray) (r : Option Rcd) : Prop := (NoParts s ∧ r = none) ∨ ∃ s1 s2 s3 s4 k1 k2 k3, Parts s s1 s2 s3 s4 k1 k2 k3 ∧ r = if recOk (partsR s s1 s2 s3 s4 k1 k2 k3) = true then some (partsR s s1 s2 s3 s4 k1 k2 k3) else none
def ansV : Option Rcd → Value
 | some r => .tuple #[vRcd r, .bool true]
 | none => .tuple #[.agg #[.int .i64 0, .int .i64 0, .int .i64 0, .int .i64 0, .string ⟨#[]⟩], .bool false]
theorem readA_has (s : ByteArray) : ∃ r, ReadA s r := by
 rcases parts_or s with h | ⟨s1, s2, s3, s4, k1, k2, k3, h⟩
 ·exact ⟨none, .inl ⟨h, rfl⟩⟩
 ·exact ⟨_, .inr ⟨s1, s2, s3, s4, k1, k2, k3, h, rfl⟩⟩
theorem toldO_ans (r : Rcd) : toldO r = ansV (if recOk r = true then some r else none) := by
 unfold toldO
 split <;> rfl
theorem ansS (s : ByteArray) (r : Option Rcd) (w : World) (hs : s.size ≤ 1048576) (h : ReadA s r) : Calls Tryz.prog 52 #[.string s] w fun e w' => e = .returned (ansV r) ∧ Below w.heap.size w w' := by
 rcases h with ⟨h, rfl⟩ | ⟨s1, s2, s3, s4, k1, k2, k3, h, rfl⟩
 ·exact specReadRec_none s w hs h
 ·rw [← toldO_ans]
  exact specReadRec_some s s1 s2 s3 s4 k1 k2 k3 w hs h
end Go.Proofs.YtdimaoloapbeoaaGreatDoor
namespace Go.Proofs.YtdimaoloapbeoaaGreatDoor
open Go.RowKit Go.PlainAid
theorem ent_one (l : List Ent) : ∀ r ∈ entR l, ∀ y ∈ r, y.oneCell' = true := by
 intro r hr y hy
 obtain ⟨x, _, rfl⟩ := List.mem_map.1 hr
 simp [entC] at hy
 rcases hy with rfl | rfl <;> rfl
theorem Owns.first {w : World} {base : Nat} {e : TypeId} {sz : Nat} {A : Option Addr} {n c : Nat} {rows : List (List Value)} (h : Owns w base e sz (.slice A n c) rows) (k : Nat) (hk : k ≤ rows.length) : Owns w base e sz (.slice A k c) (rows.take k) := by
 obtain ⟨hs, hl, h⟩ := h
 have hkl : (rows.take k).length = k := by rw [List.length_take]; omega
 have hs' : ∀ r ∈ rows.take k, r.length = sz := fun r hr => hs r (List.mem_of_mem_take hr)
 have hft : (rows.take k).flatten = rows.flatten.take (k * sz) := by
  have h1 : rows.flatten = (rows.take k).flatten ++ (rows.drop k).flatten := by rw [← List.flatten_append, List.take_append_drop]
  have hl2 : (rows.take k).flatten.length = k * sz := by rw [flat_length sz _ hs', hkl]
  rw [h1]
  exact (List.take_left' hl2).symm
 refine ⟨hs', ?_, ?_⟩
 ·rw [flat_length sz _ hs']
 rcases h with ⟨e1, h0⟩ | ⟨g, cap, cur, e1, hb, hh, hn, hm, hz, ht⟩
 ·cases e1
  have : k = 0 := by omega
  subst this
  exact .inl ⟨rfl, by simp⟩
 ·cases e1
  refine .inr ⟨g, c, cur, by rw [hkl], hb, hh, by rw [hkl]; omega, hm, hz, ?_⟩
  rw [hkl, hft, ← ht, List.take_take]
  congr 1
  have : k * sz ≤ rows.length * sz := Nat.mul_le_mul_right sz hk
  omega
end Go.Proofs.YtdimaoloapbeoaaGreatDoor
namespace Go.Proofs.YtdimaoloapbeoaaGreatDoor
open Go.ChangeShapes Go.WideShapes Go.ChangeAt Go.RowKit Go.PlainAid
set_option linter.unusedVariables false
theorem based_in (i t : Int) (h : based i t = true) : (0 ≤ i ∧ i ≤ 100000) ∧ 0 ≤ t ∧ t ≤ 100000 := by
 unfold based inIt at h
 split at h
 ·have := of_decide_eq_true h
  omega
 ·simp at h
  omega
theorem inIt_in (x lo hi : Int) (h : inIt x lo hi = true) : lo ≤ x ∧ x ≤ hi := by
 unfold inIt at h
 simpa using h
def lastAt (bt : Int) (l : List Ent) (k : Nat) : Int := if k = 0 then bt else (l.getD (k - 1) default).term
theorem ents_step (top last : Int) (l : List Ent) (k : Nat) (h : k < l.length) :
  entsOk top last (l.drop k) = (decide (1 ≤ (l.getD k default).term) && decide (last ≤ (l.getD k default).term) && decide ((l.getD k default).term ≤ top) && decide ((l.getD k default).data.size ≤ 900) && entsOk top (l.getD k default).term (l.drop (k + 1))) := by
 rw [List.drop_eq_getElem_cons h, ← getD_at l k h]
 rfl
theorem lastAt_succ (bt : Int) (l : List Ent) (k : Nat) : lastAt bt l (k + 1) = (l.getD k default).term := rfl
set_option maxHeartbeats 2000000 in
theorem specWalOk (x : Wl) (v : Value) (w : World) (B : Nat) (hv : WalV w B v x) (hf : FitsW x) (hB : B ≤ w.heap.size) : Calls Tryz.prog 83 #[v] w fun e w' => e = .returned (.bool (walOk x)) ∧ Below w.heap.size w w' := by
 obtain ⟨u, rfl, hl⟩ := hv
 obtain ⟨A, cap, rfl, hlk⟩ := ent_look hl
 have HL : Hid (∀ j, j < x.ents.length → ∃ g off, A = some ⟨g, off, none⟩ ∧ g < B ∧ _) := hlk
 have HB : Hid (B ≤ w.heap.size) := hB
 have hn0 := hf.n
 have HF : Hid (∀ e ∈ x.ents, e.data.size ≤ maxLen) := hf.d
 unfold maxLen at hn0
 have q1 : (x.ents.length : Int) ≤ 9223372036854775807 := by omega
 have HE : Hid (walOk x = (inIt x.term 0 100000 && inIt x.vote (-1) 4 && based x.base x.bterm && decide (x.bterm ≤ x.term) && decide (x.ents.length ≤ 60) && decide (x.base + x.ents.length ≤ 100000) && entsOk x.term x.bterm x.ents)) := rfl
 clear hl hlk hB hf hn0
 generalize hN : x.ents.length = n at *
 have B0 : Hid (Below w.heap.size w (w.alloc (.cells #[.int .i64 x.term, .int .i64 x.vote, .int .i64 x.base, .int .i64 x.bterm, .slice A n cap] 30))) := (Below.refl _ _).alloc (Nat.le_refl _) _
 have K0 : Hid (Blk (w.alloc (.cells #[.int .i64 x.term, .int .i64 x.vote, .int .i64 x.base, .int .i64 x.bterm, .slice A n cap] 30)) w.heap.size #[.int .i64 x.term, .int .i64 x.vote, .int .i64 x.base, .int .i64 x.bterm, .slice A n cap] 30) := Blk.new _ _ _
 have a1 := inBW x.term 0 100000
 have a2 := inBW x.vote (-1) 4
 have a3 := basedV x.base x.bterm
 cases h1 : inIt x.term 0 100000 <;> rw [h1] at a1 HE
 ·clear h1
  go_enter Tryz.func83, Tryz.ntmps83
  go_wp2_with fail
  refine (a1 _).mono ?_
  rintro e w' ⟨rfl, rfl⟩
  go_wp2_with fail
  go_ret
  exact ⟨by rw [HE.out]; rfl, B0.out⟩
 cases h2 : inIt x.vote (-1) 4 <;> rw [h2] at a2 HE
 ·clear h1 h2
  go_enter Tryz.func83, Tryz.ntmps83
  go_wp2_with fail
  refine (a1 _).mono ?_
  rintro e w' ⟨rfl, rfl⟩
  go_wp2_with fail
  refine (a2 _).mono ?_
  rintro e w' ⟨rfl, rfl⟩
  go_wp2_with fail
  go_ret
  exact ⟨by rw [HE.out]; rfl, B0.out⟩
 cases h3 : based x.base x.bterm <;> rw [h3] at a3 HE
 ·clear h1 h2 h3
  go_enter Tryz.func83, Tryz.ntmps83
  go_wp2_with fail
  refine (a1 _).mono ?_
  rintro e w' ⟨rfl, rfl⟩
  go_wp2_with fail
  refine (a2 _).mono ?_
  rintro e w' ⟨rfl, rfl⟩
  go_wp2_with fail
  refine (a3 _).mono ?_
  rintro e w' ⟨rfl, rfl⟩
  go_wp2_with fail
  go_ret
  exact ⟨by rw [HE.out]; rfl, B0.out⟩
 obtain ⟨b1, b2⟩ := based_in _ _ h3
 obtain ⟨p1, p2⟩ := inIt_in _ _ _ h1
 clear h1 h2 h3
 by_cases h4 : x.bterm ≤ x.term
 rotate_left
 ·rw [decide_eq_false h4] at HE
  have h4' : x.term < x.bterm := by omega
  clear h4
  go_enter Tryz.func83, Tryz.ntmps83
  go_wp2_with fail
  refine (a1 _).mono ?_
  rintro e w' ⟨rfl, rfl⟩
  go_wp2_with fail
  refine (a2 _).mono ?_
  rintro e w' ⟨rfl, rfl⟩
  go_wp2_with fail
  refine (a3 _).mono ?_
  rintro e w' ⟨rfl, rfl⟩
  go_wp2_with fail
  go_ret
  exact ⟨by rw [HE.out]; rfl, B0.out⟩
 rw [decide_eq_true h4] at HE
 by_cases h5 : n ≤ 60
 rotate_left
 ·rw [decide_eq_false h5] at HE
  have h5' : (60 : Int) < (n : Int) := by omega
  go_enter Tryz.func83, Tryz.ntmps83
  go_wp2_with fail
  refine (a1 _).mono ?_
  rintro e w' ⟨rfl, rfl⟩
  go_wp2_with fail
  refine (a2 _).mono ?_
  rintro e w' ⟨rfl, rfl⟩
  go_wp2_with fail
  refine (a3 _).mono ?_
  rintro e w' ⟨rfl, rfl⟩
  go_wp2_with fail
  go_ret
  exact ⟨by rw [HE.out]; rfl, B0.out⟩
 rw [decide_eq_true h5] at HE
 have h5' : (n : Int) ≤ 60 := by omega
 have hw1 : IntKind.i64.wrap (x.base + (n : Int)) = x.base + (n : Int) := by rw [IntKind.wrap_i64]; omega
 by_cases h6 : x.base + (n : Int) ≤ 100000
 rotate_left
 ·rw [decide_eq_false h6] at HE
  have h6' : (100000 : Int) < x.base + (n : Int) := by omega
  go_enter Tryz.func83, Tryz.ntmps83
  go_wp2_with fail
  refine (a1 _).mono ?_
  rintro e w' ⟨rfl, rfl⟩
  go_wp2_with fail
  refine (a2 _).mono ?_
  rintro e w' ⟨rfl, rfl⟩
  go_wp2_with fail
  refine (a3 _).mono ?_
  rintro e w' ⟨rfl, rfl⟩
  go_wp2_with fail
  go_ret
  exact ⟨by rw [HE.out]; rfl, B0.out⟩
 rw [decide_eq_true h6] at HE
 have HE : Hid (walOk x = entsOk x.term x.bterm x.ents) := by unfold Hid; rw [HE.out]; simp
 go_enter Tryz.func83, Tryz.ntmps83
 go_wp2_with fail
 refine (a1 _).mono ?_
 rintro e w' ⟨rfl, rfl⟩
 go_wp2_with fail
 refine (a2 _).mono ?_
 rintro e w' ⟨rfl, rfl⟩
 go_wp2_with fail
 refine (a3 _).mono ?_
 rintro e w' ⟨rfl, rfl⟩
 go_wp2_with fail
 generalize w.alloc (.cells #[.int .i64 x.term, .int .i64 x.vote, .int .i64 x.base, .int .i64 x.bterm, .slice A n cap] 30) = W at *
 clear a1 a2 a3 b1 b2 hw1 h6
 go_loopw [3, 4] (fun v3 v4 wr => ∃ k : Nat, k ≤ n ∧ v4 = .int .i64 (k : Int) ∧ v3 = .int .i64 (lastAt x.bterm x.ents k) ∧ Hid (walOk x = entsOk x.term (lastAt x.bterm x.ents k) (x.ents.drop k)) ∧ Below W.heap.size W wr) (fun _ i _ => n - (intOf i).toNat)
 case atStart => exact ⟨0, by omega, rfl, rfl, HE, Below.refl _ _⟩
 case round =>
  obtain ⟨k, hk, rfl, rfl, HR, hb⟩ := hrel
  have HB1 : Hid (Below W.heap.size W wr) := hb
  have hlt0 := K0.out.lt
  have c4 := (hb.cell (p := ⟨w.heap.size, 4, none⟩) hlt0).trans (K0.out.cell 4 (.slice A n cap) rfl)
  have c0 := (hb.cell (p := ⟨w.heap.size, 0, none⟩) hlt0).trans (K0.out.cell 0 (.int .i64 x.term) rfl)
  have hsz := hb.size
  clear hb hlt0
  by_cases hlt : k < n
  ·have q4 : (k : Int) < (n : Int) := by omega
   obtain ⟨g, off, rfl, hg, hc0, hc1⟩ := HL.out k (by omega)
   have hgw : g < W.heap.size := Nat.lt_of_lt_of_le hg (Nat.le_trans HB.out B0.out.size)
   have hgB : g < B := hg
   rw [← B0.out.cell (p := ⟨_, _, none⟩) (Nat.lt_of_lt_of_le hg HB.out), ← HB1.out.cell (p := ⟨_, _, none⟩) hgw] at hc0 hc1
   have HX := ents_step x.term (lastAt x.bterm x.ents k) x.ents k (by omega)
   have HX1 := lastAt_succ x.bterm x.ents k
   have hds := HF.out _ (getD_mem x.ents k (by omega))
   unfold maxLen at hds
   have hdi : ((x.ents.getD k default).data.size : Int) ≤ 9223372036854775807 := by omega
   have HXX : Hid (walOk x = (decide (1 ≤ (x.ents.getD k default).term) && decide (lastAt x.bterm x.ents k ≤ (x.ents.getD k default).term) && decide ((x.ents.getD k default).term ≤ x.term) && decide ((x.ents.getD k default).data.size ≤ 900) && entsOk x.term (x.ents.getD k default).term (x.ents.drop (k + 1)))) := HR.out.trans HX
   have HXS : Hid (lastAt x.bterm x.ents (k + 1) = (x.ents.getD k default).term) := HX1
   have HBF : Hid (Below w.heap.size w (wr.alloc (.cells #[.int .i64 (x.ents.getD k default).term, .string (x.ents.getD k default).data] 59))) := (B0.out.trans (HB1.out.mono B0.out.size)).alloc (Nat.le_trans B0.out.size HB1.out.size) _
   have HBG : Hid (Below W.heap.size W (wr.alloc (.cells #[.int .i64 (x.ents.getD k default).term, .string (x.ents.getD k default).data] 59))) := HB1.out.alloc HB1.out.size _
   clear HX HX1 HR hds
   generalize lastAt x.bterm x.ents k = la at *
   generalize x.ents.getD k default = y at *
   obtain ⟨yt, yd⟩ := y
   simp only at hc0 hc1 HXX HXS HBF HBG hdi
   have hw0 : w.heap.size < wr.heap.size := Nat.lt_of_lt_of_le K0.out.lt hsz
   have hgr : g < wr.heap.size := Nat.lt_of_lt_of_le hgw hsz
   by_cases h7 : 1 ≤ yt
   rotate_left
   ·rw [decide_eq_false h7] at HXX
    have h7' : yt < 1 := by omega
    clear h7
    have HXX : Hid (walOk x = false) := by unfold Hid; rw [HXX.out]; simp
    go_wp2_with fail
    go_ret
    exact ⟨by rw [HXX.out]; rfl, HBF.out⟩
   rw [decide_eq_true h7] at HXX
   by_cases h8 : la ≤ yt
   rotate_left
   ·rw [decide_eq_false h8] at HXX
    have h8' : yt < la := by omega
    clear h8
    have HXX : Hid (walOk x = false) := by unfold Hid; rw [HXX.out]; simp
    go_wp2_with fail
    go_ret
    exact ⟨by rw [HXX.out]; rfl, HBF.out⟩
   rw [decide_eq_true h8] at HXX
   by_cases h9 : yt ≤ x.term
   rotate_left
   ·rw [decide_eq_false h9] at HXX
    have h9' : x.term < yt := by omega
    clear h9
    have HXX : Hid (walOk x = false) := by unfold Hid; rw [HXX.out]; simp
    go_wp2_with fail
    go_ret
    exact ⟨by rw [HXX.out]; rfl, HBF.out⟩
   rw [decide_eq_true h9] at HXX
   by_cases hz : (yd.size : Int) ≤ 900
   rotate_left
   ·rw [decide_eq_false (show ¬ yd.size ≤ 900 by omega)] at HXX
    have hz' : 900 < (yd.size : Int) := by omega
    clear hz
    have HXX : Hid (walOk x = false) := by unfold Hid; rw [HXX.out]; simp
    go_wp2_with fail
    go_ret
    exact ⟨by rw [HXX.out]; rfl, HBF.out⟩
   rw [decide_eq_true (show yd.size ≤ 900 by omega)] at HXX
   have HXX : Hid (walOk x = entsOk x.term yt (x.ents.drop (k + 1))) := by unfold Hid; rw [HXX.out]; simp
   go_wp2_with fail
   go_roundw
   case rel => exact ⟨k + 1, by omega, by go_num, by rw [HXS.out], by rw [HXS.out]; exact HXX, HBG.out⟩
   case measure => simp [intOf]; omega
  ·obtain rfl : k = n := by omega
   have HXX : Hid (walOk x = true) := by
    unfold Hid
    rw [HR.out, ← hN, List.drop_length]
    rfl
   clear HR
   generalize lastAt x.bterm x.ents k = la at *
   go_wp2_with fail
   go_ret
   exact ⟨by rw [HXX.out]; rfl, B0.out.trans (HB1.out.mono B0.out.size)⟩
end Go.Proofs.YtdimaoloapbeoaaGreatDoor
namespace Go.Proofs.YtdimaoloapbeoaaGreatDoor
open Go
theorem until_skip {P : Program} {Q : Exit → Act → World → Prop} {md : Region.Mode} {S : World → Prop} {T : Nat → Bool} {l : List Oper} (i : Nat) {oi : Oper} {rest : List Oper} {fuel : Nat} {listed : Array Bool} {a : Act} {w : World} (hd : l.drop i = oi :: rest) (hB : pureB md l.toArray listed i = true)
  (hQ : ∀ c a w, Q (.panic c) (a.put oi.dst undef) w → Q (.panic c) a w) (hw : Region.wanted oi (yielded l.toArray a.tmps) = false)
  (h : wpUntil P md l.toArray Q S T fuel (listed.setIfInBounds i true) (a.put oi.dst undef) w) : wpUntil P md l.toArray Q S T (fuel + 1) listed a w := by
 unfold pureB at hB
 simp only [Bool.and_eq_true] at hB
 obtain ⟨⟨hs, hf⟩, hr⟩ := hB
 exact wpUntil_pure (drop_at hd) (Region.noSelect_spec hs) hQ fuel listed a w (Region.free_spec (drop_at hd) hf) (by simpa using hr) (.inr ⟨hw, rfl⟩) h
end Go.Proofs.YtdimaoloapbeoaaGreatDoor
