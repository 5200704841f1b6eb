/-
  The contract of spec.ReadRec: it answers as the program's, at every text.
-/
import Derived.Test.YtnpgkmmflibmkaaDoorRows
import Derived.Test.YtnpgkmmflibmkaaDoorReadSpec
import Derived.Test.YtnpgkmmflibmkaaDoorShowRecD
import Derived.Handy
namespace Go.Proofs.YtnpgkmmflibmkaaDoor
open Go.ChangeShapes Go.WideShapes Go.ChangeAt Go.RowKit Go.PlainAid
set_option linter.unusedVariables false


set_option maxHeartbeats 2000000 in
theorem specReadRec_at (s s1 s2 s3 s4 : ByteArray) (k1 k2 k3 : Nat) (w : World) (hs : s.size ≤ 2000) (h : Parts s s1 s2 s3 s4 k1 k2 k3) :
    Calls Tryd.prog 10 #[.string s] w fun e w' => e = .returned (toldO (partsR s s1 s2 s3 s4 k1 k2 k3)) ∧ Below w.heap.size w w' := by
  have hsh := show_parts s s1 s2 s3 s4 k1 k2 k3 h
  obtain ⟨h0, e1, f1, e2, f2, e3, f3, e4⟩ := h
  have hbt := get_bn s
  have hwb : wrap64 (bn s 0 : Int) = (bn s 0 : Int) := by have := bn_lt s 0; unfold wrap64; omega
  have q0 : (s.size : Int) ≤ 2000 := by omega
  have q1 : ((s.size : Int) == 0) = false := by simp only [beq_eq_false_iff_ne, ne_eq]; omega
  have i0 : (1 : Int) ≤ (s.size : Int) := by omega
  have i00 : (0 : Int) < (s.size : Int) := by omega
  have HL : Hid (s.size ≤ 2000) := hs
  have hne : ¬ s = ByteArray.empty := fun e => (by rw [e] at h0; exact absurd h0 (by decide))
  have H0 : Hid (1 ≤ s.size) := h0
  have z1 : s1.size = s.size - 1 := by rw [e1, ext_size]
  have z2 : s2.size = s1.size - k1 := by rw [e2, ext_size]
  have z3 : s3.size = s2.size - k2 := by rw [e3, ext_size]
  have z4 : s4.size = s3.size - k3 := by rw [e4, ext_size]
  obtain ⟨p1, hp1⟩ : ∃ n : Nat, n = 1 + k1 := ⟨_, rfl⟩
  obtain ⟨p2, hp2⟩ : ∃ n : Nat, n = 1 + k1 + k2 := ⟨_, rfl⟩
  obtain ⟨p3, hp3⟩ : ∃ n : Nat, n = 1 + k1 + k2 + k3 := ⟨_, rfl⟩
  have d1 := f1.2.1
  have d2 := f2.2.1
  have d3 := f3.2.1
  have d1' := f1.2.2.1
  have d2' := f2.2.2.1
  have d3' := f3.2.2.1
  have x2 : s2 = s.extract p1 s.size := by rw [e2, e1, ext_ext, hp1]
  have x3 : s3 = s.extract p2 s.size := by rw [e3, x2, ext_ext, hp2, hp1]
  have x4 : s4 = s.extract p3 s.size := by rw [e4, x3, ext_ext, hp3, hp2]
  have hw1 : IntKind.i64.wrap (1 + (k1 : Int)) = (p1 : Int) := by rw [IntKind.wrap_i64]; omega
  have hw2 : IntKind.i64.wrap ((p1 : Int) + (k2 : Int)) = (p2 : Int) := by rw [IntKind.wrap_i64]; omega
  have hw3 : IntKind.i64.wrap ((p2 : Int) + (k3 : Int)) = (p3 : Int) := by rw [IntKind.wrap_i64]; omega
  have i1 : (p1 : Int) ≤ (s.size : Int) := by omega
  have i2 : (p2 : Int) ≤ (s.size : Int) := by omega
  have i3 : (p3 : Int) ≤ (s.size : Int) := by omega
  have c1 := srv_yes s1 k1 (by omega) f1
  have c2 := srv_yes s2 k2 (by omega) f2
  have c3 := srv_yes s3 k3 (by omega) f3
  have n1 : ((k1 : Int) == 0) = false := by have := f1.1; simp; omega
  have n2 : ((k2 : Int) == 0) = false := by have := f2.1; simp; omega
  have n3 : ((k3 : Int) == 0) = false := by have := f3.1; simp; omega
  have v3 := vvS_le s3 k3 (by omega) 0
  have HR : Hid (partsR s s1 s2 s3 s4 k1 k2 k3 = ⟨bn s 0, vvS s1 0 k1, vvS s2 0 k2, (vvS s3 0 k3 : Int) - 1, s4⟩) := rfl
  have c4 := fun wx => specShowRec ⟨bn s 0, vvS s1 0 k1, vvS s2 0 k2, (vvS s3 0 k3 : Int) - 1, s4⟩ wx (by simp only; omega)
  rw [HR.out] at hsh
  have HTO : Hid (toldO (partsR s s1 s2 s3 s4 k1 k2 k3) = toldO ⟨bn s 0, vvS s1 0 k1, vvS s2 0 k2, (vvS s3 0 k3 : Int) - 1, s4⟩) := rfl
  have E1 : Hid (s1 = s.extract 1 s.size) := e1
  have E2 : Hid (s2 = s.extract p1 s.size) := x2
  have E3 : Hid (s3 = s.extract p2 s.size) := x3
  have E4 : Hid (s4 = s.extract p3 s.size) := x4
  generalize vvS s1 0 k1 = a1 at *
  generalize vvS s2 0 k2 = a2 at *
  generalize vvS s3 0 k3 = a3 at *
  have hw : IntKind.i64.wrap ((a3 : Int) - 1) = (a3 : Int) - 1 := by rw [IntKind.wrap_i64]; omega
  unfold vRcd at c4
  simp only at c4
  have HTV : Hid (toldO ⟨bn s 0, a1, a2, (a3 : Int) - 1, s4⟩ = if recOk ⟨bn s 0, a1, a2, (a3 : Int) - 1, s4⟩ = true then .tuple #[.agg #[.int .i64 (bn s 0 : Int), .int .i64 (a1 : Int), .int .i64 (a2 : Int), .int .i64 ((a3 : Int) - 1), .string s4], .bool true] else .tuple #[.agg #[.int .i64 0, .int .i64 0, .int .i64 0, .int .i64 0, .string ⟨#[]⟩], .bool false]) := rfl
  have HS : Hid (showR ⟨bn s 0, a1, a2, (a3 : Int) - 1, s4⟩ = if recOk ⟨bn s 0, a1, a2, (a3 : Int) - 1, s4⟩ = true then s else ⟨#[]⟩) := by unfold Hid showR; rw [hsh]
  have HSZ : Hid (1 ≤ s.size) := h0
  clear f1 f2 f3 e1 e2 e3 e4 z1 z2 z3 z4 x2 x3 x4 hp1 hp2 hp3 d1 d2 d3 d1' d2' d3' hsh hs h0
  generalize recOk ⟨bn s 0, a1, a2, (a3 : Int) - 1, s4⟩ = ok at *
  generalize hsr : showR ⟨bn s 0, a1, a2, (a3 : Int) - 1, s4⟩ = sr at *
  go_enter Tryd.func10, Tryd.ntmps10
  go_wp2_with fail
  have hb0 : Below w.heap.size w ((w.alloc (.cells #[.int .i64 0, .int .i64 0, .int .i64 0, .int .i64 0, .string ⟨#[]⟩] 34)).alloc (.cells #[.int .i64 (bn s 0 : Int), .int .i64 0, .int .i64 0, .int .i64 0, .string ⟨#[]⟩] 34)) := ((Below.refl _ w).alloc (Nat.le_refl _) _).alloc (by simp) _
  have k0 := (Blk.new w #[.int .i64 0, .int .i64 0, .int .i64 0, .int .i64 0, .string ⟨#[]⟩] 34).alloc (.cells #[.int .i64 (bn s 0 : Int), .int .i64 0, .int .i64 0, .int .i64 0, .string ⟨#[]⟩] 34)
  have l0 := Blk.new (w.alloc (.cells #[.int .i64 0, .int .i64 0, .int .i64 0, .int .i64 0, .string ⟨#[]⟩] 34)) #[.int .i64 (bn s 0 : Int), .int .i64 0, .int .i64 0, .int .i64 0, .string ⟨#[]⟩] 34
  simp only [World.size_alloc] at l0
  generalize (w.alloc (.cells #[.int .i64 0, .int .i64 0, .int .i64 0, .int .i64 0, .string ⟨#[]⟩] 34)).alloc (.cells #[.int .i64 (bn s 0 : Int), .int .i64 0, .int .i64 0, .int .i64 0, .string ⟨#[]⟩] 34) = w0 at *
  have B0 : Hid (Below w.heap.size w w0) := hb0
  have K0 : Hid (Blk w0 w.heap.size #[.int .i64 0, .int .i64 0, .int .i64 0, .int .i64 0, .string ⟨#[]⟩] 34) := k0
  have L0 : Hid (Blk w0 (w.heap.size + 1) #[.int .i64 (bn s 0 : Int), .int .i64 0, .int .i64 0, .int .i64 0, .string ⟨#[]⟩] 34) := l0
  clear hb0 k0 l0
  rw [← E1.out]
  refine (c1 _).mono ?_
  rintro e w1 ⟨rfl, hb1⟩
  have B1 : Hid (Below w.heap.size w w1) := B0.out.trans (hb1.mono B0.out.size)
  have K1 : Hid (Blk w1 w.heap.size #[.int .i64 0, .int .i64 0, .int .i64 0, .int .i64 0, .string ⟨#[]⟩] 34) := K0.out.on hb1 K0.out.lt
  have L1 : Hid (Blk w1 (w.heap.size + 1) #[.int .i64 (bn s 0 : Int), .int .i64 0, .int .i64 0, .int .i64 0, .string ⟨#[]⟩] 34) := L0.out.on hb1 L0.out.lt
  clear hb1 B0 K0 L0
  go_wp2_with fail
  rw [← E2.out]
  refine (c2 _).mono ?_
  rintro e w2 ⟨rfl, hb2⟩
  have B2 : Hid (Below w.heap.size w w2) := B1.out.trans (hb2.mono B1.out.size)
  have K2 : Hid (Blk w2 w.heap.size #[.int .i64 0, .int .i64 0, .int .i64 0, .int .i64 0, .string ⟨#[]⟩] 34) := K1.out.on hb2 K1.out.lt
  have L2 : Hid (Blk w2 (w.heap.size + 1) #[.int .i64 (bn s 0 : Int), .int .i64 0, .int .i64 0, .int .i64 0, .string ⟨#[]⟩] 34) := L1.out.on hb2 L1.out.lt
  clear hb2 B1 K1 L1
  go_wp2_with fail
  rw [← E3.out]
  refine (c3 _).mono ?_
  rintro e w3 ⟨rfl, hb3⟩
  have B3 : Hid (Below w.heap.size w w3) := B2.out.trans (hb3.mono B2.out.size)
  have K3 : Hid (Blk w3 w.heap.size #[.int .i64 0, .int .i64 0, .int .i64 0, .int .i64 0, .string ⟨#[]⟩] 34) := K2.out.on hb3 K2.out.lt
  have L3 : Hid (Blk w3 (w.heap.size + 1) #[.int .i64 (bn s 0 : Int), .int .i64 0, .int .i64 0, .int .i64 0, .string ⟨#[]⟩] 34) := L2.out.on hb3 L2.out.lt
  clear hb3 B2 K2 L2
  have e0 := L3.out.cell 0 (.int .i64 (bn s 0 : Int)) rfl
  have f0 := L3.out.free 0
  have e1 := L3.out.cell 1 (.int .i64 0) rfl
  have f1 := L3.out.free 1
  have e2 := L3.out.cell 2 (.int .i64 0) rfl
  have f2 := L3.out.free 2
  have e3 := L3.out.cell 3 (.int .i64 0) rfl
  have f3 := L3.out.free 3
  have e4 := L3.out.cell 4 (.string ⟨#[]⟩) rfl
  have f4 := L3.out.free 4
  have r0 := K3.out.cell 0 (.int .i64 0) rfl
  have g0 := K3.out.free 0
  have r1 := K3.out.cell 1 (.int .i64 0) rfl
  have g1 := K3.out.free 1
  have r2 := K3.out.cell 2 (.int .i64 0) rfl
  have g2 := K3.out.free 2
  have r3 := K3.out.cell 3 (.int .i64 0) rfl
  have g3 := K3.out.free 3
  have r4 := K3.out.cell 4 (.string ⟨#[]⟩) rfl
  have g4 := K3.out.free 4
  go_wp2_with fail
  rw [← E4.out]
  have k4 := (((K3.out.other (show w.heap.size ≠ w.heap.size + 1 by omega) 1 (.int .i64 (a1 : Int))).other (show w.heap.size ≠ w.heap.size + 1 by omega) 2 (.int .i64 (a2 : Int))).other (show w.heap.size ≠ w.heap.size + 1 by omega) 3 (.int .i64 ((a3 : Int) - 1))).other (show w.heap.size ≠ w.heap.size + 1 by omega) 4 (.string s4)
  have l4 := (((L3.out.set 1 (.int .i64 (a1 : Int))).set 2 (.int .i64 (a2 : Int))).set 3 (.int .i64 ((a3 : Int) - 1))).set 4 (.string s4)
  have b4 := (((B3.out.setCell (show w.heap.size ≤ w.heap.size + 1 by omega) (.int .i64 (a1 : Int)) (p := ⟨_, 1, none⟩)).setCell (show w.heap.size ≤ w.heap.size + 1 by omega) (.int .i64 (a2 : Int)) (p := ⟨_, 2, none⟩)).setCell (show w.heap.size ≤ w.heap.size + 1 by omega) (.int .i64 ((a3 : Int) - 1)) (p := ⟨_, 3, none⟩)).setCell (show w.heap.size ≤ w.heap.size + 1 by omega) (.string s4) (p := ⟨_, 4, none⟩)
  clear e0 e1 e2 e3 e4 f0 f1 f2 f3 f4 r0 r1 r2 r3 r4 g0 g1 g2 g3 g4 K3 L3 B3
  generalize (((w3.setCell ⟨w.heap.size + 1, 1, none⟩ (.int .i64 (a1 : Int))).setCell ⟨w.heap.size + 1, 2, none⟩ (.int .i64 (a2 : Int))).setCell ⟨w.heap.size + 1, 3, none⟩ (.int .i64 ((a3 : Int) - 1))).setCell ⟨w.heap.size + 1, 4, none⟩ (.string s4) = w4 at *
  have L4 : Hid (Blk w4 (w.heap.size + 1) #[.int .i64 (bn s 0 : Int), .int .i64 (a1 : Int), .int .i64 (a2 : Int), .int .i64 ((a3 : Int) - 1), .string s4] 34) := l4
  have K4 : Hid (Blk w4 w.heap.size #[.int .i64 0, .int .i64 0, .int .i64 0, .int .i64 0, .string ⟨#[]⟩] 34) := k4
  have B4 : Hid (Below w.heap.size w w4) := b4
  clear l4 k4 b4
  refine (c4 _).mono ?_
  rintro e w5 ⟨rfl, hb5⟩
  have B5 : Hid (Below w.heap.size w w5) := B4.out.trans (hb5.mono B4.out.size)
  have K5 : Hid (Blk w5 w.heap.size #[.int .i64 0, .int .i64 0, .int .i64 0, .int .i64 0, .string ⟨#[]⟩] 34) := K4.out.on hb5 K4.out.lt
  have L5 : Hid (Blk w5 (w.heap.size + 1) #[.int .i64 (bn s 0 : Int), .int .i64 (a1 : Int), .int .i64 (a2 : Int), .int .i64 ((a3 : Int) - 1), .string s4] 34) := L4.out.on hb5 L4.out.lt
  clear hb5 B4 K4 L4
  have e0 := L5.out.cell 0 (.int .i64 (bn s 0 : Int)) rfl
  have f0 := L5.out.free 0
  have e1 := L5.out.cell 1 (.int .i64 (a1 : Int)) rfl
  have f1 := L5.out.free 1
  have e2 := L5.out.cell 2 (.int .i64 (a2 : Int)) rfl
  have f2 := L5.out.free 2
  have e3 := L5.out.cell 3 (.int .i64 ((a3 : Int) - 1)) rfl
  have f3 := L5.out.free 3
  have e4 := L5.out.cell 4 (.string s4) rfl
  have f4 := L5.out.free 4
  have r0 := K5.out.cell 0 (.int .i64 0) rfl
  have g0 := K5.out.free 0
  have r1 := K5.out.cell 1 (.int .i64 0) rfl
  have g1 := K5.out.free 1
  have r2 := K5.out.cell 2 (.int .i64 0) rfl
  have g2 := K5.out.free 2
  have r3 := K5.out.cell 3 (.int .i64 0) rfl
  have g3 := K5.out.free 3
  have r4 := K5.out.cell 4 (.string ⟨#[]⟩) rfl
  have g4 := K5.out.free 4
  have hee := empty_eqs s
  rw [decide_eq_false hne] at hee
  cases ok
  · obtain rfl : sr = ⟨#[]⟩ := HS.out
    have HV : Hid (toldO (partsR s s1 s2 s3 s4 k1 k2 k3) = .tuple #[.agg #[.int .i64 0, .int .i64 0, .int .i64 0, .int .i64 0, .string ⟨#[]⟩], .bool false]) := by unfold Hid; rw [HTO.out, HTV.out]; rfl
    go_wp2_with fail
    have hF := (((((K5.out.set 0 (.int .i64 0)).set 1 (.int .i64 0)).set 2 (.int .i64 0)).set 3 (.int .i64 0)).set 4 (.string ⟨#[]⟩))
    have FB := (((((B5.out.setCell (Nat.le_refl _) (.int .i64 0) (p := ⟨_, 0, none⟩)).setCell (Nat.le_refl _) (.int .i64 0) (p := ⟨_, 1, none⟩)).setCell (Nat.le_refl _) (.int .i64 0) (p := ⟨_, 2, none⟩)).setCell (Nat.le_refl _) (.int .i64 0) (p := ⟨_, 3, none⟩)).setCell (Nat.le_refl _) (.string ⟨#[]⟩) (p := ⟨_, 4, none⟩))
    clear e0 e1 e2 e3 e4 f0 f1 f2 f3 f4 r0 r1 r2 r3 r4 g0 g1 g2 g3 g4
    generalize (((((w5.setCell ⟨w.heap.size, 0, none⟩ (.int .i64 0)).setCell ⟨w.heap.size, 1, none⟩ (.int .i64 0)).setCell ⟨w.heap.size, 2, none⟩ (.int .i64 0)).setCell ⟨w.heap.size, 3, none⟩ (.int .i64 0)).setCell ⟨w.heap.size, 4, none⟩ (.string ⟨#[]⟩)) = WF at *
    have hG : Blk WF w.heap.size #[.int .i64 0, .int .i64 0, .int .i64 0, .int .i64 0, .string ⟨#[]⟩] 34 := hF
    have m0 := hG.cell 0 (.int .i64 0) rfl
    have m1 := hG.cell 1 (.int .i64 0) rfl
    have m2 := hG.cell 2 (.int .i64 0) rfl
    have m3 := hG.cell 3 (.int .i64 0) rfl
    have m4 := hG.cell 4 (.string ⟨#[]⟩) rfl
    rw [HV.out]
    exact bodyPost_ret (v := .tuple #[.agg #[.int .i64 0, .int .i64 0, .int .i64 0, .int .i64 0, .string ⟨#[]⟩], .bool false]) (by simp [results, go_sem, m0, m1, m2, m3, m4]) rfl ⟨rfl, FB⟩
  · obtain rfl : sr = s := HS.out
    have HV : Hid (toldO (partsR sr s1 s2 s3 s4 k1 k2 k3) = .tuple #[.agg #[.int .i64 (bn sr 0 : Int), .int .i64 (a1 : Int), .int .i64 (a2 : Int), .int .i64 ((a3 : Int) - 1), .string s4], .bool true]) := by unfold Hid; rw [HTO.out, HTV.out]; rfl
    go_wp2_with fail
    have hF := (((((K5.out.set 0 (.int .i64 (bn sr 0 : Int))).set 1 (.int .i64 (a1 : Int))).set 2 (.int .i64 (a2 : Int))).set 3 (.int .i64 ((a3 : Int) - 1))).set 4 (.string s4))
    have FB := (((((B5.out.setCell (Nat.le_refl _) (.int .i64 (bn sr 0 : Int)) (p := ⟨_, 0, none⟩)).setCell (Nat.le_refl _) (.int .i64 (a1 : Int)) (p := ⟨_, 1, none⟩)).setCell (Nat.le_refl _) (.int .i64 (a2 : Int)) (p := ⟨_, 2, none⟩)).setCell (Nat.le_refl _) (.int .i64 ((a3 : Int) - 1)) (p := ⟨_, 3, none⟩)).setCell (Nat.le_refl _) (.string s4) (p := ⟨_, 4, none⟩))
    clear e0 e1 e2 e3 e4 f0 f1 f2 f3 f4 r0 r1 r2 r3 r4 g0 g1 g2 g3 g4
    generalize (((((w5.setCell ⟨w.heap.size, 0, none⟩ (.int .i64 (bn sr 0 : Int))).setCell ⟨w.heap.size, 1, none⟩ (.int .i64 (a1 : Int))).setCell ⟨w.heap.size, 2, none⟩ (.int .i64 (a2 : Int))).setCell ⟨w.heap.size, 3, none⟩ (.int .i64 ((a3 : Int) - 1))).setCell ⟨w.heap.size, 4, none⟩ (.string s4)) = WF at *
    have hG : Blk WF w.heap.size #[.int .i64 (bn sr 0 : Int), .int .i64 (a1 : Int), .int .i64 (a2 : Int), .int .i64 ((a3 : Int) - 1), .string s4] 34 := hF
    have m0 := hG.cell 0 (.int .i64 (bn sr 0 : Int)) rfl
    have m1 := hG.cell 1 (.int .i64 (a1 : Int)) rfl
    have m2 := hG.cell 2 (.int .i64 (a2 : Int)) rfl
    have m3 := hG.cell 3 (.int .i64 ((a3 : Int) - 1)) rfl
    have m4 := hG.cell 4 (.string s4) rfl
    rw [HV.out]
    exact bodyPost_ret (v := .tuple #[.agg #[.int .i64 (bn sr 0 : Int), .int .i64 (a1 : Int), .int .i64 (a2 : Int), .int .i64 ((a3 : Int) - 1), .string s4], .bool true]) (by simp [results, go_sem, m0, m1, m2, m3, m4]) rfl ⟨rfl, FB⟩
end Go.Proofs.YtnpgkmmflibmkaaDoor
