/-
  The contract of spec.ReadRec: it answers as the program's, at every text.
-/
import Derived.Test.YtnpgkmmflibmkaaDoorRows
import Derived.Test.YtnpgkmmflibmkaaDoorReadSpecY
import Derived.Test.YtnpgkmmflibmkaaDoorShowRecD
import Derived.Handy
namespace Go.Proofs.YtnpgkmmflibmkaaDoor
open Go.ChangeShapes Go.WideShapes Go.ChangeAt Go.RowKit Go.PlainAid
set_option linter.unusedVariables false


set_option maxHeartbeats 2000000 in
theorem specReadRec_no1 (s : ByteArray) (w : World) (hs : s.size ≤ 2000) (h0 : 1 ≤ s.size) (hn : ∀ k, ¬ FindV (s.extract 1 s.size) k) : Calls Tryd.prog 10 #[.string s] w fun e w' => e = .returned (.tuple #[.agg #[.int .i64 0, .int .i64 0, .int .i64 0, .int .i64 0, .string ⟨#[]⟩], .bool false]) ∧ Below w.heap.size w w' := by
  obtain ⟨s1, e1⟩ : ∃ y, y = s.extract 1 s.size := ⟨_, rfl⟩
  rw [← e1] at hn
  have hbt := get_bn s
  have hwb : wrap64 (bn s 0 : Int) = (bn s 0 : Int) := by have := bn_lt s 0; unfold wrap64; omega
  have q0 : (s.size : Int) ≤ 2000 := by omega
  have q1 : ((s.size : Int) == 0) = false := by simp only [beq_eq_false_iff_ne, ne_eq]; omega
  have i0 : (1 : Int) ≤ (s.size : Int) := by omega
  have i00 : (0 : Int) < (s.size : Int) := by omega
  have HL : Hid (s.size ≤ 2000) := hs
  have hne : ¬ s = ByteArray.empty := fun e => (by rw [e] at h0; exact absurd h0 (by decide))
  have H0 : Hid (1 ≤ s.size) := h0
  have z1 : s1.size = s.size - 1 := by rw [e1, ext_size]
  have c1 := srv_no s1 (by omega) hn
  have E1 : Hid (s1 = s.extract 1 s.size) := e1
  clear hn e1 z1  hs h0
  go_enter Tryd.func10, Tryd.ntmps10
  go_wp2_with fail
  have hb0 : Below w.heap.size w ((w.alloc (.cells #[.int .i64 0, .int .i64 0, .int .i64 0, .int .i64 0, .string ⟨#[]⟩] 34)).alloc (.cells #[.int .i64 (bn s 0 : Int), .int .i64 0, .int .i64 0, .int .i64 0, .string ⟨#[]⟩] 34)) := ((Below.refl _ w).alloc (Nat.le_refl _) _).alloc (by simp) _
  have k0 := (Blk.new w #[.int .i64 0, .int .i64 0, .int .i64 0, .int .i64 0, .string ⟨#[]⟩] 34).alloc (.cells #[.int .i64 (bn s 0 : Int), .int .i64 0, .int .i64 0, .int .i64 0, .string ⟨#[]⟩] 34)
  have l0 := Blk.new (w.alloc (.cells #[.int .i64 0, .int .i64 0, .int .i64 0, .int .i64 0, .string ⟨#[]⟩] 34)) #[.int .i64 (bn s 0 : Int), .int .i64 0, .int .i64 0, .int .i64 0, .string ⟨#[]⟩] 34
  simp only [World.size_alloc] at l0
  generalize (w.alloc (.cells #[.int .i64 0, .int .i64 0, .int .i64 0, .int .i64 0, .string ⟨#[]⟩] 34)).alloc (.cells #[.int .i64 (bn s 0 : Int), .int .i64 0, .int .i64 0, .int .i64 0, .string ⟨#[]⟩] 34) = w0 at *
  have B0 : Hid (Below w.heap.size w w0) := hb0
  have K0 : Hid (Blk w0 w.heap.size #[.int .i64 0, .int .i64 0, .int .i64 0, .int .i64 0, .string ⟨#[]⟩] 34) := k0
  have L0 : Hid (Blk w0 (w.heap.size + 1) #[.int .i64 (bn s 0 : Int), .int .i64 0, .int .i64 0, .int .i64 0, .string ⟨#[]⟩] 34) := l0
  clear hb0 k0 l0
  rw [← E1.out]
  refine (c1 _).mono ?_
  rintro e w1 ⟨rfl, hb1⟩
  have B1 : Hid (Below w.heap.size w w1) := B0.out.trans (hb1.mono B0.out.size)
  have K1 : Hid (Blk w1 w.heap.size #[.int .i64 0, .int .i64 0, .int .i64 0, .int .i64 0, .string ⟨#[]⟩] 34) := K0.out.on hb1 K0.out.lt
  have L1 : Hid (Blk w1 (w.heap.size + 1) #[.int .i64 (bn s 0 : Int), .int .i64 0, .int .i64 0, .int .i64 0, .string ⟨#[]⟩] 34) := L0.out.on hb1 L0.out.lt
  clear hb1 B0 K0 L0
  go_wp2_with fail
  rw [← E1.out]
  refine (c1 _).mono ?_
  rintro e w2 ⟨rfl, hb2⟩
  have B2 : Hid (Below w.heap.size w w2) := B1.out.trans (hb2.mono B1.out.size)
  have K2 : Hid (Blk w2 w.heap.size #[.int .i64 0, .int .i64 0, .int .i64 0, .int .i64 0, .string ⟨#[]⟩] 34) := K1.out.on hb2 K1.out.lt
  have L2 : Hid (Blk w2 (w.heap.size + 1) #[.int .i64 (bn s 0 : Int), .int .i64 0, .int .i64 0, .int .i64 0, .string ⟨#[]⟩] 34) := L1.out.on hb2 L1.out.lt
  clear hb2 B1 K1 L1
  go_wp2_with fail
  rw [← E1.out]
  refine (c1 _).mono ?_
  rintro e w3 ⟨rfl, hb3⟩
  have B3 : Hid (Below w.heap.size w w3) := B2.out.trans (hb3.mono B2.out.size)
  have K3 : Hid (Blk w3 w.heap.size #[.int .i64 0, .int .i64 0, .int .i64 0, .int .i64 0, .string ⟨#[]⟩] 34) := K2.out.on hb3 K2.out.lt
  have L3 : Hid (Blk w3 (w.heap.size + 1) #[.int .i64 (bn s 0 : Int), .int .i64 0, .int .i64 0, .int .i64 0, .string ⟨#[]⟩] 34) := L2.out.on hb3 L2.out.lt
  clear hb3 B2 K2 L2
  have e0 := L3.out.cell 0 (.int .i64 (bn s 0 : Int)) rfl
  have f0 := L3.out.free 0
  have e1 := L3.out.cell 1 (.int .i64 0) rfl
  have f1 := L3.out.free 1
  have e2 := L3.out.cell 2 (.int .i64 0) rfl
  have f2 := L3.out.free 2
  have e3 := L3.out.cell 3 (.int .i64 0) rfl
  have f3 := L3.out.free 3
  have e4 := L3.out.cell 4 (.string ⟨#[]⟩) rfl
  have f4 := L3.out.free 4
  have r0 := K3.out.cell 0 (.int .i64 0) rfl
  have g0 := K3.out.free 0
  have r1 := K3.out.cell 1 (.int .i64 0) rfl
  have g1 := K3.out.free 1
  have r2 := K3.out.cell 2 (.int .i64 0) rfl
  have g2 := K3.out.free 2
  have r3 := K3.out.cell 3 (.int .i64 0) rfl
  have g3 := K3.out.free 3
  have r4 := K3.out.cell 4 (.string ⟨#[]⟩) rfl
  have g4 := K3.out.free 4
  go_wp2_with fail
  try rw [← E1.out]
  have hF := (((((((((K3.out.other (show w.heap.size ≠ w.heap.size + 1 by omega) 1 (.int .i64 0)).other (show w.heap.size ≠ w.heap.size + 1 by omega) 2 (.int .i64 0)).other (show w.heap.size ≠ w.heap.size + 1 by omega) 3 (.int .i64 (-1))).other (show w.heap.size ≠ w.heap.size + 1 by omega) 4 (.string s1)).set 0 (.int .i64 0)).set 1 (.int .i64 0)).set 2 (.int .i64 0)).set 3 (.int .i64 0)).set 4 (.string ⟨#[]⟩))
  have FB := (((((((((B3.out.setCell (show w.heap.size ≤ w.heap.size + 1 by omega) (.int .i64 0) (p := ⟨_, 1, none⟩)).setCell (show w.heap.size ≤ w.heap.size + 1 by omega) (.int .i64 0) (p := ⟨_, 2, none⟩)).setCell (show w.heap.size ≤ w.heap.size + 1 by omega) (.int .i64 (-1)) (p := ⟨_, 3, none⟩)).setCell (show w.heap.size ≤ w.heap.size + 1 by omega) (.string s1) (p := ⟨_, 4, none⟩)).setCell (Nat.le_refl _) (.int .i64 0) (p := ⟨_, 0, none⟩)).setCell (Nat.le_refl _) (.int .i64 0) (p := ⟨_, 1, none⟩)).setCell (Nat.le_refl _) (.int .i64 0) (p := ⟨_, 2, none⟩)).setCell (Nat.le_refl _) (.int .i64 0) (p := ⟨_, 3, none⟩)).setCell (Nat.le_refl _) (.string ⟨#[]⟩) (p := ⟨_, 4, none⟩))
  clear e0 e1 e2 e3 e4 f0 f1 f2 f3 f4 r0 r1 r2 r3 r4 g0 g1 g2 g3 g4
  generalize (((((((((w3.setCell ⟨w.heap.size + 1, 1, none⟩ (.int .i64 0)).setCell ⟨w.heap.size + 1, 2, none⟩ (.int .i64 0)).setCell ⟨w.heap.size + 1, 3, none⟩ (.int .i64 (-1))).setCell ⟨w.heap.size + 1, 4, none⟩ (.string s1)).setCell ⟨w.heap.size, 0, none⟩ (.int .i64 0)).setCell ⟨w.heap.size, 1, none⟩ (.int .i64 0)).setCell ⟨w.heap.size, 2, none⟩ (.int .i64 0)).setCell ⟨w.heap.size, 3, none⟩ (.int .i64 0)).setCell ⟨w.heap.size, 4, none⟩ (.string ⟨#[]⟩)) = WF at *
  have hG : Blk WF w.heap.size #[.int .i64 0, .int .i64 0, .int .i64 0, .int .i64 0, .string ⟨#[]⟩] 34 := hF
  have m0 := hG.cell 0 (.int .i64 0) rfl
  have m1 := hG.cell 1 (.int .i64 0) rfl
  have m2 := hG.cell 2 (.int .i64 0) rfl
  have m3 := hG.cell 3 (.int .i64 0) rfl
  have m4 := hG.cell 4 (.string ⟨#[]⟩) rfl
  exact bodyPost_ret (v := .tuple #[.agg #[.int .i64 0, .int .i64 0, .int .i64 0, .int .i64 0, .string ⟨#[]⟩], .bool false]) (by simp [results, go_sem, m0, m1, m2, m3, m4]) rfl ⟨rfl, FB⟩

set_option maxHeartbeats 2000000 in
theorem specReadRec_no2 (s s1 : ByteArray) (k1 : Nat) (w : World) (hs : s.size ≤ 2000) (h0 : 1 ≤ s.size) (e1 : s1 = s.extract 1 s.size) (f1 : FindV s1 k1) (hn : ∀ k, ¬ FindV (s1.extract k1 s1.size) k) : Calls Tryd.prog 10 #[.string s] w fun e w' => e = .returned (.tuple #[.agg #[.int .i64 0, .int .i64 0, .int .i64 0, .int .i64 0, .string ⟨#[]⟩], .bool false]) ∧ Below w.heap.size w w' := by
  obtain ⟨s2, e2⟩ : ∃ y, y = s1.extract k1 s1.size := ⟨_, rfl⟩
  rw [← e2] at hn
  have hbt := get_bn s
  have hwb : wrap64 (bn s 0 : Int) = (bn s 0 : Int) := by have := bn_lt s 0; unfold wrap64; omega
  have q0 : (s.size : Int) ≤ 2000 := by omega
  have q1 : ((s.size : Int) == 0) = false := by simp only [beq_eq_false_iff_ne, ne_eq]; omega
  have i0 : (1 : Int) ≤ (s.size : Int) := by omega
  have i00 : (0 : Int) < (s.size : Int) := by omega
  have HL : Hid (s.size ≤ 2000) := hs
  have hne : ¬ s = ByteArray.empty := fun e => (by rw [e] at h0; exact absurd h0 (by decide))
  have H0 : Hid (1 ≤ s.size) := h0
  have z1 : s1.size = s.size - 1 := by rw [e1, ext_size]
  have z2 : s2.size = s1.size - k1 := by rw [e2, ext_size]
  obtain ⟨p1, hp1⟩ : ∃ n : Nat, n = 1 + k1 := ⟨_, rfl⟩
  have d1 := f1.2.1
  have d1' := f1.2.2.1
  have x2 : s2 = s.extract p1 s.size := by rw [e2, e1, ext_ext, hp1]
  have hw1 : IntKind.i64.wrap (1 + (k1 : Int)) = (p1 : Int) := by rw [IntKind.wrap_i64]; omega
  have i1 : (p1 : Int) ≤ (s.size : Int) := by omega
  have c1 := srv_yes s1 k1 (by omega) f1
  have n1 : ((k1 : Int) == 0) = false := by have := f1.1; simp; omega
  have c2 := srv_no s2 (by omega) hn
  have hwp : IntKind.i64.wrap (p1 : Int) = (p1 : Int) := by rw [IntKind.wrap_i64]; omega
  have E1 : Hid (s1 = s.extract 1 s.size) := e1
  have E2 : Hid (s2 = s.extract p1 s.size) := x2
  generalize vvS s1 0 k1 = a1 at *
  clear hn e1 z1 e2 z2 x2 hp1 d1 d1' f1 hs h0
  go_enter Tryd.func10, Tryd.ntmps10
  go_wp2_with fail
  have hb0 : Below w.heap.size w ((w.alloc (.cells #[.int .i64 0, .int .i64 0, .int .i64 0, .int .i64 0, .string ⟨#[]⟩] 34)).alloc (.cells #[.int .i64 (bn s 0 : Int), .int .i64 0, .int .i64 0, .int .i64 0, .string ⟨#[]⟩] 34)) := ((Below.refl _ w).alloc (Nat.le_refl _) _).alloc (by simp) _
  have k0 := (Blk.new w #[.int .i64 0, .int .i64 0, .int .i64 0, .int .i64 0, .string ⟨#[]⟩] 34).alloc (.cells #[.int .i64 (bn s 0 : Int), .int .i64 0, .int .i64 0, .int .i64 0, .string ⟨#[]⟩] 34)
  have l0 := Blk.new (w.alloc (.cells #[.int .i64 0, .int .i64 0, .int .i64 0, .int .i64 0, .string ⟨#[]⟩] 34)) #[.int .i64 (bn s 0 : Int), .int .i64 0, .int .i64 0, .int .i64 0, .string ⟨#[]⟩] 34
  simp only [World.size_alloc] at l0
  generalize (w.alloc (.cells #[.int .i64 0, .int .i64 0, .int .i64 0, .int .i64 0, .string ⟨#[]⟩] 34)).alloc (.cells #[.int .i64 (bn s 0 : Int), .int .i64 0, .int .i64 0, .int .i64 0, .string ⟨#[]⟩] 34) = w0 at *
  have B0 : Hid (Below w.heap.size w w0) := hb0
  have K0 : Hid (Blk w0 w.heap.size #[.int .i64 0, .int .i64 0, .int .i64 0, .int .i64 0, .string ⟨#[]⟩] 34) := k0
  have L0 : Hid (Blk w0 (w.heap.size + 1) #[.int .i64 (bn s 0 : Int), .int .i64 0, .int .i64 0, .int .i64 0, .string ⟨#[]⟩] 34) := l0
  clear hb0 k0 l0
  rw [← E1.out]
  refine (c1 _).mono ?_
  rintro e w1 ⟨rfl, hb1⟩
  have B1 : Hid (Below w.heap.size w w1) := B0.out.trans (hb1.mono B0.out.size)
  have K1 : Hid (Blk w1 w.heap.size #[.int .i64 0, .int .i64 0, .int .i64 0, .int .i64 0, .string ⟨#[]⟩] 34) := K0.out.on hb1 K0.out.lt
  have L1 : Hid (Blk w1 (w.heap.size + 1) #[.int .i64 (bn s 0 : Int), .int .i64 0, .int .i64 0, .int .i64 0, .string ⟨#[]⟩] 34) := L0.out.on hb1 L0.out.lt
  clear hb1 B0 K0 L0
  go_wp2_with fail
  rw [← E2.out]
  refine (c2 _).mono ?_
  rintro e w2 ⟨rfl, hb2⟩
  have B2 : Hid (Below w.heap.size w w2) := B1.out.trans (hb2.mono B1.out.size)
  have K2 : Hid (Blk w2 w.heap.size #[.int .i64 0, .int .i64 0, .int .i64 0, .int .i64 0, .string ⟨#[]⟩] 34) := K1.out.on hb2 K1.out.lt
  have L2 : Hid (Blk w2 (w.heap.size + 1) #[.int .i64 (bn s 0 : Int), .int .i64 0, .int .i64 0, .int .i64 0, .string ⟨#[]⟩] 34) := L1.out.on hb2 L1.out.lt
  clear hb2 B1 K1 L1
  go_wp2_with fail
  rw [← E2.out]
  refine (c2 _).mono ?_
  rintro e w3 ⟨rfl, hb3⟩
  have B3 : Hid (Below w.heap.size w w3) := B2.out.trans (hb3.mono B2.out.size)
  have K3 : Hid (Blk w3 w.heap.size #[.int .i64 0, .int .i64 0, .int .i64 0, .int .i64 0, .string ⟨#[]⟩] 34) := K2.out.on hb3 K2.out.lt
  have L3 : Hid (Blk w3 (w.heap.size + 1) #[.int .i64 (bn s 0 : Int), .int .i64 0, .int .i64 0, .int .i64 0, .string ⟨#[]⟩] 34) := L2.out.on hb3 L2.out.lt
  clear hb3 B2 K2 L2
  have e0 := L3.out.cell 0 (.int .i64 (bn s 0 : Int)) rfl
  have f0 := L3.out.free 0
  have e1 := L3.out.cell 1 (.int .i64 0) rfl
  have f1 := L3.out.free 1
  have e2 := L3.out.cell 2 (.int .i64 0) rfl
  have f2 := L3.out.free 2
  have e3 := L3.out.cell 3 (.int .i64 0) rfl
  have f3 := L3.out.free 3
  have e4 := L3.out.cell 4 (.string ⟨#[]⟩) rfl
  have f4 := L3.out.free 4
  have r0 := K3.out.cell 0 (.int .i64 0) rfl
  have g0 := K3.out.free 0
  have r1 := K3.out.cell 1 (.int .i64 0) rfl
  have g1 := K3.out.free 1
  have r2 := K3.out.cell 2 (.int .i64 0) rfl
  have g2 := K3.out.free 2
  have r3 := K3.out.cell 3 (.int .i64 0) rfl
  have g3 := K3.out.free 3
  have r4 := K3.out.cell 4 (.string ⟨#[]⟩) rfl
  have g4 := K3.out.free 4
  go_wp2_with fail
  try rw [← E2.out]
  have hF := (((((((((K3.out.other (show w.heap.size ≠ w.heap.size + 1 by omega) 1 (.int .i64 (a1 : Int))).other (show w.heap.size ≠ w.heap.size + 1 by omega) 2 (.int .i64 0)).other (show w.heap.size ≠ w.heap.size + 1 by omega) 3 (.int .i64 (-1))).other (show w.heap.size ≠ w.heap.size + 1 by omega) 4 (.string s2)).set 0 (.int .i64 0)).set 1 (.int .i64 0)).set 2 (.int .i64 0)).set 3 (.int .i64 0)).set 4 (.string ⟨#[]⟩))
  have FB := (((((((((B3.out.setCell (show w.heap.size ≤ w.heap.size + 1 by omega) (.int .i64 (a1 : Int)) (p := ⟨_, 1, none⟩)).setCell (show w.heap.size ≤ w.heap.size + 1 by omega) (.int .i64 0) (p := ⟨_, 2, none⟩)).setCell (show w.heap.size ≤ w.heap.size + 1 by omega) (.int .i64 (-1)) (p := ⟨_, 3, none⟩)).setCell (show w.heap.size ≤ w.heap.size + 1 by omega) (.string s2) (p := ⟨_, 4, none⟩)).setCell (Nat.le_refl _) (.int .i64 0) (p := ⟨_, 0, none⟩)).setCell (Nat.le_refl _) (.int .i64 0) (p := ⟨_, 1, none⟩)).setCell (Nat.le_refl _) (.int .i64 0) (p := ⟨_, 2, none⟩)).setCell (Nat.le_refl _) (.int .i64 0) (p := ⟨_, 3, none⟩)).setCell (Nat.le_refl _) (.string ⟨#[]⟩) (p := ⟨_, 4, none⟩))
  clear e0 e1 e2 e3 e4 f0 f1 f2 f3 f4 r0 r1 r2 r3 r4 g0 g1 g2 g3 g4
  generalize (((((((((w3.setCell ⟨w.heap.size + 1, 1, none⟩ (.int .i64 (a1 : Int))).setCell ⟨w.heap.size + 1, 2, none⟩ (.int .i64 0)).setCell ⟨w.heap.size + 1, 3, none⟩ (.int .i64 (-1))).setCell ⟨w.heap.size + 1, 4, none⟩ (.string s2)).setCell ⟨w.heap.size, 0, none⟩ (.int .i64 0)).setCell ⟨w.heap.size, 1, none⟩ (.int .i64 0)).setCell ⟨w.heap.size, 2, none⟩ (.int .i64 0)).setCell ⟨w.heap.size, 3, none⟩ (.int .i64 0)).setCell ⟨w.heap.size, 4, none⟩ (.string ⟨#[]⟩)) = WF at *
  have hG : Blk WF w.heap.size #[.int .i64 0, .int .i64 0, .int .i64 0, .int .i64 0, .string ⟨#[]⟩] 34 := hF
  have m0 := hG.cell 0 (.int .i64 0) rfl
  have m1 := hG.cell 1 (.int .i64 0) rfl
  have m2 := hG.cell 2 (.int .i64 0) rfl
  have m3 := hG.cell 3 (.int .i64 0) rfl
  have m4 := hG.cell 4 (.string ⟨#[]⟩) rfl
  exact bodyPost_ret (v := .tuple #[.agg #[.int .i64 0, .int .i64 0, .int .i64 0, .int .i64 0, .string ⟨#[]⟩], .bool false]) (by simp [results, go_sem, m0, m1, m2, m3, m4]) rfl ⟨rfl, FB⟩

set_option maxHeartbeats 2000000 in
theorem specReadRec_no3 (s s1 s2 : ByteArray) (k1 k2 : Nat) (w : World) (hs : s.size ≤ 2000) (h0 : 1 ≤ s.size) (e1 : s1 = s.extract 1 s.size) (f1 : FindV s1 k1) (e2 : s2 = s1.extract k1 s1.size) (f2 : FindV s2 k2) (hn : ∀ k, ¬ FindV (s2.extract k2 s2.size) k) : Calls Tryd.prog 10 #[.string s] w fun e w' => e = .returned (.tuple #[.agg #[.int .i64 0, .int .i64 0, .int .i64 0, .int .i64 0, .string ⟨#[]⟩], .bool false]) ∧ Below w.heap.size w w' := by
  obtain ⟨s3, e3⟩ : ∃ y, y = s2.extract k2 s2.size := ⟨_, rfl⟩
  rw [← e3] at hn
  have hbt := get_bn s
  have hwb : wrap64 (bn s 0 : Int) = (bn s 0 : Int) := by have := bn_lt s 0; unfold wrap64; omega
  have q0 : (s.size : Int) ≤ 2000 := by omega
  have q1 : ((s.size : Int) == 0) = false := by simp only [beq_eq_false_iff_ne, ne_eq]; omega
  have i0 : (1 : Int) ≤ (s.size : Int) := by omega
  have i00 : (0 : Int) < (s.size : Int) := by omega
  have HL : Hid (s.size ≤ 2000) := hs
  have hne : ¬ s = ByteArray.empty := fun e => (by rw [e] at h0; exact absurd h0 (by decide))
  have H0 : Hid (1 ≤ s.size) := h0
  have z1 : s1.size = s.size - 1 := by rw [e1, ext_size]
  have z2 : s2.size = s1.size - k1 := by rw [e2, ext_size]
  have z3 : s3.size = s2.size - k2 := by rw [e3, ext_size]
  obtain ⟨p1, hp1⟩ : ∃ n : Nat, n = 1 + k1 := ⟨_, rfl⟩
  have d1 := f1.2.1
  have d1' := f1.2.2.1
  have x2 : s2 = s.extract p1 s.size := by rw [e2, e1, ext_ext, hp1]
  have hw1 : IntKind.i64.wrap (1 + (k1 : Int)) = (p1 : Int) := by rw [IntKind.wrap_i64]; omega
  have i1 : (p1 : Int) ≤ (s.size : Int) := by omega
  have c1 := srv_yes s1 k1 (by omega) f1
  have n1 : ((k1 : Int) == 0) = false := by have := f1.1; simp; omega
  obtain ⟨p2, hp2⟩ : ∃ n : Nat, n = 1 + k1 + k2 := ⟨_, rfl⟩
  have d2 := f2.2.1
  have d2' := f2.2.2.1
  have x3 : s3 = s.extract p2 s.size := by rw [e3, x2, ext_ext, hp2, hp1]
  have hw2 : IntKind.i64.wrap ((p1 : Int) + (k2 : Int)) = (p2 : Int) := by rw [IntKind.wrap_i64]; omega
  have i2 : (p2 : Int) ≤ (s.size : Int) := by omega
  have c2 := srv_yes s2 k2 (by omega) f2
  have n2 : ((k2 : Int) == 0) = false := by have := f2.1; simp; omega
  have c3 := srv_no s3 (by omega) hn
  have hwp : IntKind.i64.wrap (p2 : Int) = (p2 : Int) := by rw [IntKind.wrap_i64]; omega
  have E1 : Hid (s1 = s.extract 1 s.size) := e1
  have E2 : Hid (s2 = s.extract p1 s.size) := x2
  have E3 : Hid (s3 = s.extract p2 s.size) := x3
  generalize vvS s1 0 k1 = a1 at *
  generalize vvS s2 0 k2 = a2 at *
  clear hn e1 z1 e2 z2 x2 hp1 d1 d1' f1 e3 z3 x3 hp2 d2 d2' f2 hs h0
  go_enter Tryd.func10, Tryd.ntmps10
  go_wp2_with fail
  have hb0 : Below w.heap.size w ((w.alloc (.cells #[.int .i64 0, .int .i64 0, .int .i64 0, .int .i64 0, .string ⟨#[]⟩] 34)).alloc (.cells #[.int .i64 (bn s 0 : Int), .int .i64 0, .int .i64 0, .int .i64 0, .string ⟨#[]⟩] 34)) := ((Below.refl _ w).alloc (Nat.le_refl _) _).alloc (by simp) _
  have k0 := (Blk.new w #[.int .i64 0, .int .i64 0, .int .i64 0, .int .i64 0, .string ⟨#[]⟩] 34).alloc (.cells #[.int .i64 (bn s 0 : Int), .int .i64 0, .int .i64 0, .int .i64 0, .string ⟨#[]⟩] 34)
  have l0 := Blk.new (w.alloc (.cells #[.int .i64 0, .int .i64 0, .int .i64 0, .int .i64 0, .string ⟨#[]⟩] 34)) #[.int .i64 (bn s 0 : Int), .int .i64 0, .int .i64 0, .int .i64 0, .string ⟨#[]⟩] 34
  simp only [World.size_alloc] at l0
  generalize (w.alloc (.cells #[.int .i64 0, .int .i64 0, .int .i64 0, .int .i64 0, .string ⟨#[]⟩] 34)).alloc (.cells #[.int .i64 (bn s 0 : Int), .int .i64 0, .int .i64 0, .int .i64 0, .string ⟨#[]⟩] 34) = w0 at *
  have B0 : Hid (Below w.heap.size w w0) := hb0
  have K0 : Hid (Blk w0 w.heap.size #[.int .i64 0, .int .i64 0, .int .i64 0, .int .i64 0, .string ⟨#[]⟩] 34) := k0
  have L0 : Hid (Blk w0 (w.heap.size + 1) #[.int .i64 (bn s 0 : Int), .int .i64 0, .int .i64 0, .int .i64 0, .string ⟨#[]⟩] 34) := l0
  clear hb0 k0 l0
  rw [← E1.out]
  refine (c1 _).mono ?_
  rintro e w1 ⟨rfl, hb1⟩
  have B1 : Hid (Below w.heap.size w w1) := B0.out.trans (hb1.mono B0.out.size)
  have K1 : Hid (Blk w1 w.heap.size #[.int .i64 0, .int .i64 0, .int .i64 0, .int .i64 0, .string ⟨#[]⟩] 34) := K0.out.on hb1 K0.out.lt
  have L1 : Hid (Blk w1 (w.heap.size + 1) #[.int .i64 (bn s 0 : Int), .int .i64 0, .int .i64 0, .int .i64 0, .string ⟨#[]⟩] 34) := L0.out.on hb1 L0.out.lt
  clear hb1 B0 K0 L0
  go_wp2_with fail
  rw [← E2.out]
  refine (c2 _).mono ?_
  rintro e w2 ⟨rfl, hb2⟩
  have B2 : Hid (Below w.heap.size w w2) := B1.out.trans (hb2.mono B1.out.size)
  have K2 : Hid (Blk w2 w.heap.size #[.int .i64 0, .int .i64 0, .int .i64 0, .int .i64 0, .string ⟨#[]⟩] 34) := K1.out.on hb2 K1.out.lt
  have L2 : Hid (Blk w2 (w.heap.size + 1) #[.int .i64 (bn s 0 : Int), .int .i64 0, .int .i64 0, .int .i64 0, .string ⟨#[]⟩] 34) := L1.out.on hb2 L1.out.lt
  clear hb2 B1 K1 L1
  go_wp2_with fail
  rw [← E3.out]
  refine (c3 _).mono ?_
  rintro e w3 ⟨rfl, hb3⟩
  have B3 : Hid (Below w.heap.size w w3) := B2.out.trans (hb3.mono B2.out.size)
  have K3 : Hid (Blk w3 w.heap.size #[.int .i64 0, .int .i64 0, .int .i64 0, .int .i64 0, .string ⟨#[]⟩] 34) := K2.out.on hb3 K2.out.lt
  have L3 : Hid (Blk w3 (w.heap.size + 1) #[.int .i64 (bn s 0 : Int), .int .i64 0, .int .i64 0, .int .i64 0, .string ⟨#[]⟩] 34) := L2.out.on hb3 L2.out.lt
  clear hb3 B2 K2 L2
  have e0 := L3.out.cell 0 (.int .i64 (bn s 0 : Int)) rfl
  have f0 := L3.out.free 0
  have e1 := L3.out.cell 1 (.int .i64 0) rfl
  have f1 := L3.out.free 1
  have e2 := L3.out.cell 2 (.int .i64 0) rfl
  have f2 := L3.out.free 2
  have e3 := L3.out.cell 3 (.int .i64 0) rfl
  have f3 := L3.out.free 3
  have e4 := L3.out.cell 4 (.string ⟨#[]⟩) rfl
  have f4 := L3.out.free 4
  have r0 := K3.out.cell 0 (.int .i64 0) rfl
  have g0 := K3.out.free 0
  have r1 := K3.out.cell 1 (.int .i64 0) rfl
  have g1 := K3.out.free 1
  have r2 := K3.out.cell 2 (.int .i64 0) rfl
  have g2 := K3.out.free 2
  have r3 := K3.out.cell 3 (.int .i64 0) rfl
  have g3 := K3.out.free 3
  have r4 := K3.out.cell 4 (.string ⟨#[]⟩) rfl
  have g4 := K3.out.free 4
  go_wp2_with fail
  try rw [← E3.out]
  have hF := (((((((((K3.out.other (show w.heap.size ≠ w.heap.size + 1 by omega) 1 (.int .i64 (a1 : Int))).other (show w.heap.size ≠ w.heap.size + 1 by omega) 2 (.int .i64 (a2 : Int))).other (show w.heap.size ≠ w.heap.size + 1 by omega) 3 (.int .i64 (-1))).other (show w.heap.size ≠ w.heap.size + 1 by omega) 4 (.string s3)).set 0 (.int .i64 0)).set 1 (.int .i64 0)).set 2 (.int .i64 0)).set 3 (.int .i64 0)).set 4 (.string ⟨#[]⟩))
  have FB := (((((((((B3.out.setCell (show w.heap.size ≤ w.heap.size + 1 by omega) (.int .i64 (a1 : Int)) (p := ⟨_, 1, none⟩)).setCell (show w.heap.size ≤ w.heap.size + 1 by omega) (.int .i64 (a2 : Int)) (p := ⟨_, 2, none⟩)).setCell (show w.heap.size ≤ w.heap.size + 1 by omega) (.int .i64 (-1)) (p := ⟨_, 3, none⟩)).setCell (show w.heap.size ≤ w.heap.size + 1 by omega) (.string s3) (p := ⟨_, 4, none⟩)).setCell (Nat.le_refl _) (.int .i64 0) (p := ⟨_, 0, none⟩)).setCell (Nat.le_refl _) (.int .i64 0) (p := ⟨_, 1, none⟩)).setCell (Nat.le_refl _) (.int .i64 0) (p := ⟨_, 2, none⟩)).setCell (Nat.le_refl _) (.int .i64 0) (p := ⟨_, 3, none⟩)).setCell (Nat.le_refl _) (.string ⟨#[]⟩) (p := ⟨_, 4, none⟩))
  clear e0 e1 e2 e3 e4 f0 f1 f2 f3 f4 r0 r1 r2 r3 r4 g0 g1 g2 g3 g4
  generalize (((((((((w3.setCell ⟨w.heap.size + 1, 1, none⟩ (.int .i64 (a1 : Int))).setCell ⟨w.heap.size + 1, 2, none⟩ (.int .i64 (a2 : Int))).setCell ⟨w.heap.size + 1, 3, none⟩ (.int .i64 (-1))).setCell ⟨w.heap.size + 1, 4, none⟩ (.string s3)).setCell ⟨w.heap.size, 0, none⟩ (.int .i64 0)).setCell ⟨w.heap.size, 1, none⟩ (.int .i64 0)).setCell ⟨w.heap.size, 2, none⟩ (.int .i64 0)).setCell ⟨w.heap.size, 3, none⟩ (.int .i64 0)).setCell ⟨w.heap.size, 4, none⟩ (.string ⟨#[]⟩)) = WF at *
  have hG : Blk WF w.heap.size #[.int .i64 0, .int .i64 0, .int .i64 0, .int .i64 0, .string ⟨#[]⟩] 34 := hF
  have m0 := hG.cell 0 (.int .i64 0) rfl
  have m1 := hG.cell 1 (.int .i64 0) rfl
  have m2 := hG.cell 2 (.int .i64 0) rfl
  have m3 := hG.cell 3 (.int .i64 0) rfl
  have m4 := hG.cell 4 (.string ⟨#[]⟩) rfl
  exact bodyPost_ret (v := .tuple #[.agg #[.int .i64 0, .int .i64 0, .int .i64 0, .int .i64 0, .string ⟨#[]⟩], .bool false]) (by simp [results, go_sem, m0, m1, m2, m3, m4]) rfl ⟨rfl, FB⟩

theorem specReadRec_none (s : ByteArray) (w : World) (hs : s.size ≤ 1048576) (h : NoParts s) : Calls Tryd.prog 10 #[.string s] w fun e w' => e = .returned (.tuple #[.agg #[.int .i64 0, .int .i64 0, .int .i64 0, .int .i64 0, .string ⟨#[]⟩], .bool false]) ∧ Below w.heap.size w w' := by
  by_cases hl : 2000 < s.size
  · exact specReadRec_out s w hs (.inr hl)
  rcases h with h | ⟨h0, h | ⟨s1, k1, e1, f1, h | ⟨s2, k2, e2, f2, h⟩⟩⟩
  · exact specReadRec_out s w hs (.inl h)
  · exact specReadRec_no1 s w (by omega) h0 h
  · exact specReadRec_no2 s s1 k1 w (by omega) h0 e1 f1 h
  · exact specReadRec_no3 s s1 s2 k1 k2 w (by omega) h0 e1 f1 e2 f2 h
theorem specReadRec_some (s s1 s2 s3 s4 : ByteArray) (k1 k2 k3 : Nat) (w : World) (hs : s.size ≤ 1048576) (h : Parts s s1 s2 s3 s4 k1 k2 k3) :
    Calls Tryd.prog 10 #[.string s] w fun e w' => e = .returned (toldO (partsR s s1 s2 s3 s4 k1 k2 k3)) ∧ Below w.heap.size w w' := by
  by_cases hl : 2000 < s.size
  · have ho := parts_long s s1 s2 s3 s4 k1 k2 k3 h hl
    have : toldO (partsR s s1 s2 s3 s4 k1 k2 k3) = .tuple #[.agg #[.int .i64 0, .int .i64 0, .int .i64 0, .int .i64 0, .string ⟨#[]⟩], .bool false] := by unfold toldO; rw [ho]; rfl
    rw [this]
    exact specReadRec_out s w hs (.inr hl)
  · exact specReadRec_at s s1 s2 s3 s4 k1 k2 k3 w (by omega) h
/-- What both packages' ReadRec answer. -/
def ReadA (s : ByteArray) (r : Option Rcd) : Prop := (NoParts s ∧ r = none) ∨ ∃ s1 s2 s3 s4 k1 k2 k3, Parts s s1 s2 s3 s4 k1 k2 k3 ∧ r = if recOk (partsR s s1 s2 s3 s4 k1 k2 k3) = true then some (partsR s s1 s2 s3 s4 k1 k2 k3) else none
def ansV : Option Rcd → Value
  | some r => .tuple #[vRcd r, .bool true]
  | none => .tuple #[.agg #[.int .i64 0, .int .i64 0, .int .i64 0, .int .i64 0, .string ⟨#[]⟩], .bool false]
theorem readA_has (s : ByteArray) : ∃ r, ReadA s r := by
  rcases parts_or s with h | ⟨s1, s2, s3, s4, k1, k2, k3, h⟩
  · exact ⟨none, .inl ⟨h, rfl⟩⟩
  · exact ⟨_, .inr ⟨s1, s2, s3, s4, k1, k2, k3, h, rfl⟩⟩
theorem toldO_ans (r : Rcd) : toldO r = ansV (if recOk r = true then some r else none) := by
  unfold toldO
  split <;> rfl
theorem ansS (s : ByteArray) (r : Option Rcd) (w : World) (hs : s.size ≤ 1048576) (h : ReadA s r) : Calls Tryd.prog 10 #[.string s] w fun e w' => e = .returned (ansV r) ∧ Below w.heap.size w w' := by
  rcases h with ⟨h, rfl⟩ | ⟨s1, s2, s3, s4, k1, k2, k3, h, rfl⟩
  · exact specReadRec_none s w hs h
  · rw [← toldO_ans]
    exact specReadRec_some s s1 s2 s3 s4 k1 k2 k3 w hs h
end Go.Proofs.YtnpgkmmflibmkaaDoor
