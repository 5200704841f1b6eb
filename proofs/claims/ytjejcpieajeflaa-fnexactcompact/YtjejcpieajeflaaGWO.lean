/-
  Contracts of CoreWal of both packages.
-/
import Derived.Test.YtjejcpieajeflaaRows
import Derived.Test.YtjejcpieajeflaaCoI5
import Derived.Test.YtjejcpieajeflaaCoS5
import Derived.Test.YtjejcpieajeflaaGCP
import Derived.Deep.Cut
import Derived.Handy
import Derived.Deep.CutRange
namespace Go.Proofs.Ytjejcpieajeflaa
open Go.ChangeShapes Go.WideShapes Go.ChangeAt Go.RowKit Go.PlainAid
set_option linter.unusedVariables false

/-- The log of a core. -/
noncomputable def walX (x : Cor) : Wl := if corOk x = true then corW x else wal0
set_option maxRecDepth 20000 in
set_option maxHeartbeats 8000000 in
theorem specCoreWal (x : Cor) (v : Value) (w : World) (B : Nat) (hv : CorV w B v x) (hs : ShortC x) (hB : B ≤ w.heap.size) : Calls Try.prog 15 #[v] w fun e w' => (∃ u, e = .returned u ∧ WalO w' w.heap.size u (walX x)) ∧ Below w.heap.size w w' := by
  obtain ⟨ci, cp, ct, cv, cr, cd, cb, cbt, lg, cc, ys, ns, ms⟩ := x
  have HV : Hid (CorV w B v ⟨ci, cp, ct, cv, cr, cd, cb, cbt, lg, cc, ys, ns, ms⟩) := hv
  have HS : Hid (ShortC ⟨ci, cp, ct, cv, cr, cd, cb, cbt, lg, cc, ys, ns, ms⟩) := hs
  have HBB : Hid (B ≤ w.heap.size) := hB
  obtain ⟨u0, u1, u2, u3, rfl, hl, hy, hn, hm⟩ := hv
  have HL : Hid (Lies w B 2 u0 (entR lg)) := hl
  obtain ⟨A0, c0, rfl, _⟩ := ent_look hl
  obtain ⟨A1, c1, rfl, _⟩ := hy
  obtain ⟨A2, c2, rfl, _⟩ := hn
  obtain ⟨A3, c3, rfl, _⟩ := hm
  unfold vCo at HV ⊢
  simp only at HV ⊢
  have HX1 : Hid (corOk ⟨ci, cp, ct, cv, cr, cd, cb, cbt, lg, cc, ys, ns, ms⟩ = true → walX ⟨ci, cp, ct, cv, cr, cd, cb, cbt, lg, cc, ys, ns, ms⟩ = ⟨ct, cv, cb, cbt, lg⟩) := fun h => by unfold walX; rw [if_pos h]; rfl
  have HX0 : Hid (corOk ⟨ci, cp, ct, cv, cr, cd, cb, cbt, lg, cc, ys, ns, ms⟩ = false → walX ⟨ci, cp, ct, cv, cr, cd, cb, cbt, lg, cc, ys, ns, ms⟩ = wal0) := fun h => by unfold walX; rw [if_neg (by rw [h]; exact Bool.false_ne_true)]
  clear hl hs hB
  generalize hg0 : lg.length = n0 at *
  generalize hg1 : ys.length = n1 at *
  generalize hg2 : ns.length = n2 at *
  generalize hg3 : ms.length = n3 at *
  clear hg0 hg1 hg2 hg3
  obtain ⟨W0, hW0⟩ : ∃ W0, W0 = (w.alloc (.cells #[.int .i64 ci, .int .i64 cp, .int .i64 ct, .int .i64 cv, .int .i64 cr, .int .i64 cd, .int .i64 cb, .int .i64 cbt, .slice A0 n0 c0, .int .i64 cc, .slice A1 n1 c1, .slice A2 n2 c2, .slice A3 n3 c3] 30)).alloc (.cells #[.int .i64 0, .int .i64 0, .int .i64 0, .int .i64 0, .slice none 0 0] 35) := ⟨_, rfl⟩
  have B0 : Hid (Below w.heap.size w W0) := by unfold Hid; rw [hW0]; exact ((Below.refl _ w).alloc (Nat.le_refl _) _).alloc (by simp) _
  have K0 : Hid (Blk W0 w.heap.size #[.int .i64 ci, .int .i64 cp, .int .i64 ct, .int .i64 cv, .int .i64 cr, .int .i64 cd, .int .i64 cb, .int .i64 cbt, .slice A0 n0 c0, .int .i64 cc, .slice A1 n1 c1, .slice A2 n2 c2, .slice A3 n3 c3] 30) := by unfold Hid; rw [hW0]; exact (Blk.new w _ _).alloc _
  have R0 : Hid (Blk W0 (w.heap.size + 1) #[.int .i64 0, .int .i64 0, .int .i64 0, .int .i64 0, .slice none 0 0] 35) := by unfold Hid; rw [hW0]; have := Blk.new (w.alloc (.cells #[.int .i64 ci, .int .i64 cp, .int .i64 ct, .int .i64 cv, .int .i64 cr, .int .i64 cd, .int .i64 cb, .int .i64 cbt, .slice A0 n0 c0, .int .i64 cc, .slice A1 n1 c1, .slice A2 n2 c2, .slice A3 n3 c3] 30)) #[.int .i64 0, .int .i64 0, .int .i64 0, .int .i64 0, .slice none 0 0] 35; simp only [World.size_alloc] at this; exact this
  have HZ0 : Hid (w.heap.size + 2 ≤ W0.heap.size) := by unfold Hid; rw [hW0]; simp
  have hok := specCoreOk ⟨ci, cp, ct, cv, cr, cd, cb, cbt, lg, cc, ys, ns, ms⟩ (.agg #[.int .i64 ci, .int .i64 cp, .int .i64 ct, .int .i64 cv, .int .i64 cr, .int .i64 cd, .int .i64 cb, .int .i64 cbt, .slice A0 n0 c0, .int .i64 cc, .slice A1 n1 c1, .slice A2 n2 c2, .slice A3 n3 c3]) W0 B (HV.out.on (B0.out.mono HBB.out)) HS.out (Nat.le_trans HBB.out B0.out.size)
  go_enter Try.func15, Try.ntmps15
  go_wp2_with fail
  rw [← hW0]
  clear hW0
  refine hok.mono ?_
  rintro e W1 ⟨rfl, hb⟩
  have B1 : Hid (Below w.heap.size w W1) := B0.out.trans (hb.mono B0.out.size)
  have K1 : Hid (Blk W1 w.heap.size #[.int .i64 ci, .int .i64 cp, .int .i64 ct, .int .i64 cv, .int .i64 cr, .int .i64 cd, .int .i64 cb, .int .i64 cbt, .slice A0 n0 c0, .int .i64 cc, .slice A1 n1 c1, .slice A2 n2 c2, .slice A3 n3 c3] 30) := K0.out.on hb K0.out.lt
  have R1 : Hid (Blk W1 (w.heap.size + 1) #[.int .i64 0, .int .i64 0, .int .i64 0, .int .i64 0, .slice none 0 0] 35) := R0.out.on hb R0.out.lt
  have HZ1 : Hid (w.heap.size + 2 ≤ W1.heap.size) := Nat.le_trans HZ0.out hb.size
  clear hok hb K0 R0 B0 HZ0
  cases hc : corOk ⟨ci, cp, ct, cv, cr, cd, cb, cbt, lg, cc, ys, ns, ms⟩
  · have HE := Hid.mk (HX0.out hc)
    obtain ⟨⟨r0, g0⟩, ⟨r1, g1⟩, ⟨r2, g2⟩, ⟨r3, g3⟩, ⟨r4, g4⟩, z0, z1, z2, z3, z4⟩ := resW5 (x0 := .int .i64 0) (x1 := .int .i64 0) (x2 := .int .i64 0) (x3 := .int .i64 0) (x4 := .slice none 0 0) R1.out
    have FB := Hid.mk (belowW5 B1.out (show w.heap.size ≤ w.heap.size + 1 by omega) (.int .i64 0) (.int .i64 0) (.int .i64 0) (.int .i64 0) (.slice none 0 0))
    clear K1 R1 B1 HX1 HX0 hc
    go_wp2_with fail
    exact bodyPost_ret (v := .agg #[.int .i64 0, .int .i64 0, .int .i64 0, .int .i64 0, .slice none 0 0]) (by simp [results, go_sem, z0, z1, z2, z3, z4]) rfl ⟨⟨_, rfl, by rw [HE.out]; exact ⟨_, rfl, Owns.nil _ _ _ _⟩⟩, FB.out⟩
  have HE := Hid.mk (HX1.out hc)
  clear HX1 HX0 hc
  have y0 := K1.out.cell 0 _ rfl
  have y1 := K1.out.cell 1 _ rfl
  have y2 := K1.out.cell 2 _ rfl
  have y3 := K1.out.cell 3 _ rfl
  have y4 := K1.out.cell 4 _ rfl
  have y5 := K1.out.cell 5 _ rfl
  have y6 := K1.out.cell 6 _ rfl
  have y7 := K1.out.cell 7 _ rfl
  have y8 := K1.out.cell 8 _ rfl
  have y9 := K1.out.cell 9 _ rfl
  have y10 := K1.out.cell 10 _ rfl
  have y11 := K1.out.cell 11 _ rfl
  have y12 := K1.out.cell 12 _ rfl
  go_wp2_with fail
  refine (walS ci cp ct cv cr cd cb cbt lg cc A0 n0 c0 (.slice A1 n1 c1) (.slice A2 n2 c2) (.slice A3 n3 c3) W1 B (HL.out.on (B1.out.mono HBB.out)) HS.out.n (Nat.le_trans HBB.out B1.out.size)).mono ?_
  rintro e W3 ⟨⟨uu, rfl, hO⟩, hb⟩
  obtain ⟨Ap, mp, kp, rfl⟩ := hO.shape
  have FO0 : Hid (Owns W3 (w.heap.size + 2) 88 2 (.slice Ap mp kp) (entR lg)) := hO.mono HZ1.out
  have B3 : Hid (Below w.heap.size w W3) := B1.out.trans (hb.mono B1.out.size)
  have R3 := Hid.mk (R1.out.on hb R1.out.lt)
  clear hO hb R1 B1 K1 y0 y1 y2 y3 y4 y5 y6 y7 y8 y9 y10 y11 y12
  obtain ⟨⟨r0, g0⟩, ⟨r1, g1⟩, ⟨r2, g2⟩, ⟨r3, g3⟩, ⟨r4, g4⟩, z0, z1, z2, z3, z4⟩ := resW5 (x0 := .int .i64 ct) (x1 := .int .i64 cv) (x2 := .int .i64 cb) (x3 := .int .i64 cbt) (x4 := .slice Ap mp kp) R3.out
  have FO := Hid.mk (ownsW5 FO0.out (show w.heap.size + 1 < w.heap.size + 2 by omega) (.int .i64 ct) (.int .i64 cv) (.int .i64 cb) (.int .i64 cbt) (.slice Ap mp kp))
  have FB := Hid.mk (belowW5 B3.out (show w.heap.size ≤ w.heap.size + 1 by omega) (.int .i64 ct) (.int .i64 cv) (.int .i64 cb) (.int .i64 cbt) (.slice Ap mp kp))
  have HWW : Hid (w.heap.size ≤ w.heap.size + 2) := by unfold Hid; omega
  clear R3 FO0 B3
  go_wp2_with fail
  exact bodyPost_ret (v := .agg #[.int .i64 ct, .int .i64 cv, .int .i64 cb, .int .i64 cbt, .slice Ap mp kp]) (by simp [results, go_sem, z0, z1, z2, z3, z4]) rfl ⟨⟨_, rfl, by rw [HE.out]; exact ⟨_, rfl, FO.out.mono HWW.out⟩⟩, FB.out⟩
set_option maxRecDepth 20000 in
set_option maxHeartbeats 8000000 in
theorem implCoreWal (x : Cor) (v : Value) (w : World) (B : Nat) (hv : CorV w B v x) (hs : ShortC x) (hB : B ≤ w.heap.size) : Calls Try.prog 16 #[v] w fun e w' => (∃ u, e = .returned u ∧ WalO w' w.heap.size u (walX x)) ∧ Below w.heap.size w w' := by
  obtain ⟨ci, cp, ct, cv, cr, cd, cb, cbt, lg, cc, ys, ns, ms⟩ := x
  have HV : Hid (CorV w B v ⟨ci, cp, ct, cv, cr, cd, cb, cbt, lg, cc, ys, ns, ms⟩) := hv
  have HS : Hid (ShortC ⟨ci, cp, ct, cv, cr, cd, cb, cbt, lg, cc, ys, ns, ms⟩) := hs
  have HBB : Hid (B ≤ w.heap.size) := hB
  obtain ⟨u0, u1, u2, u3, rfl, hl, hy, hn, hm⟩ := hv
  have HL : Hid (Lies w B 2 u0 (entR lg)) := hl
  obtain ⟨A0, c0, rfl, _⟩ := ent_look hl
  obtain ⟨A1, c1, rfl, _⟩ := hy
  obtain ⟨A2, c2, rfl, _⟩ := hn
  obtain ⟨A3, c3, rfl, _⟩ := hm
  unfold vCo at HV ⊢
  simp only at HV ⊢
  have HX1 : Hid (corOk ⟨ci, cp, ct, cv, cr, cd, cb, cbt, lg, cc, ys, ns, ms⟩ = true → walX ⟨ci, cp, ct, cv, cr, cd, cb, cbt, lg, cc, ys, ns, ms⟩ = ⟨ct, cv, cb, cbt, lg⟩) := fun h => by unfold walX; rw [if_pos h]; rfl
  have HX0 : Hid (corOk ⟨ci, cp, ct, cv, cr, cd, cb, cbt, lg, cc, ys, ns, ms⟩ = false → walX ⟨ci, cp, ct, cv, cr, cd, cb, cbt, lg, cc, ys, ns, ms⟩ = wal0) := fun h => by unfold walX; rw [if_neg (by rw [h]; exact Bool.false_ne_true)]
  clear hl hs hB
  generalize hg0 : lg.length = n0 at *
  generalize hg1 : ys.length = n1 at *
  generalize hg2 : ns.length = n2 at *
  generalize hg3 : ms.length = n3 at *
  clear hg0 hg1 hg2 hg3
  obtain ⟨W0, hW0⟩ : ∃ W0, W0 = (w.alloc (.cells #[.int .i64 ci, .int .i64 cp, .int .i64 ct, .int .i64 cv, .int .i64 cr, .int .i64 cd, .int .i64 cb, .int .i64 cbt, .slice A0 n0 c0, .int .i64 cc, .slice A1 n1 c1, .slice A2 n2 c2, .slice A3 n3 c3] 30)).alloc (.cells #[.int .i64 0, .int .i64 0, .int .i64 0, .int .i64 0, .slice none 0 0] 35) := ⟨_, rfl⟩
  have B0 : Hid (Below w.heap.size w W0) := by unfold Hid; rw [hW0]; exact ((Below.refl _ w).alloc (Nat.le_refl _) _).alloc (by simp) _
  have K0 : Hid (Blk W0 w.heap.size #[.int .i64 ci, .int .i64 cp, .int .i64 ct, .int .i64 cv, .int .i64 cr, .int .i64 cd, .int .i64 cb, .int .i64 cbt, .slice A0 n0 c0, .int .i64 cc, .slice A1 n1 c1, .slice A2 n2 c2, .slice A3 n3 c3] 30) := by unfold Hid; rw [hW0]; exact (Blk.new w _ _).alloc _
  have R0 : Hid (Blk W0 (w.heap.size + 1) #[.int .i64 0, .int .i64 0, .int .i64 0, .int .i64 0, .slice none 0 0] 35) := by unfold Hid; rw [hW0]; have := Blk.new (w.alloc (.cells #[.int .i64 ci, .int .i64 cp, .int .i64 ct, .int .i64 cv, .int .i64 cr, .int .i64 cd, .int .i64 cb, .int .i64 cbt, .slice A0 n0 c0, .int .i64 cc, .slice A1 n1 c1, .slice A2 n2 c2, .slice A3 n3 c3] 30)) #[.int .i64 0, .int .i64 0, .int .i64 0, .int .i64 0, .slice none 0 0] 35; simp only [World.size_alloc] at this; exact this
  have HZ0 : Hid (w.heap.size + 2 ≤ W0.heap.size) := by unfold Hid; rw [hW0]; simp
  have hok := implCoreOk ⟨ci, cp, ct, cv, cr, cd, cb, cbt, lg, cc, ys, ns, ms⟩ (.agg #[.int .i64 ci, .int .i64 cp, .int .i64 ct, .int .i64 cv, .int .i64 cr, .int .i64 cd, .int .i64 cb, .int .i64 cbt, .slice A0 n0 c0, .int .i64 cc, .slice A1 n1 c1, .slice A2 n2 c2, .slice A3 n3 c3]) W0 B (HV.out.on (B0.out.mono HBB.out)) HS.out (Nat.le_trans HBB.out B0.out.size)
  go_enter Try.func16, Try.ntmps16
  go_wp2_with fail
  rw [← hW0]
  clear hW0
  refine hok.mono ?_
  rintro e W1 ⟨rfl, hb⟩
  have B1 : Hid (Below w.heap.size w W1) := B0.out.trans (hb.mono B0.out.size)
  have K1 : Hid (Blk W1 w.heap.size #[.int .i64 ci, .int .i64 cp, .int .i64 ct, .int .i64 cv, .int .i64 cr, .int .i64 cd, .int .i64 cb, .int .i64 cbt, .slice A0 n0 c0, .int .i64 cc, .slice A1 n1 c1, .slice A2 n2 c2, .slice A3 n3 c3] 30) := K0.out.on hb K0.out.lt
  have R1 : Hid (Blk W1 (w.heap.size + 1) #[.int .i64 0, .int .i64 0, .int .i64 0, .int .i64 0, .slice none 0 0] 35) := R0.out.on hb R0.out.lt
  have HZ1 : Hid (w.heap.size + 2 ≤ W1.heap.size) := Nat.le_trans HZ0.out hb.size
  clear hok hb K0 R0 B0 HZ0
  cases hc : corOk ⟨ci, cp, ct, cv, cr, cd, cb, cbt, lg, cc, ys, ns, ms⟩
  · have HE := Hid.mk (HX0.out hc)
    obtain ⟨⟨r0, g0⟩, ⟨r1, g1⟩, ⟨r2, g2⟩, ⟨r3, g3⟩, ⟨r4, g4⟩, z0, z1, z2, z3, z4⟩ := resW5 (x0 := .int .i64 0) (x1 := .int .i64 0) (x2 := .int .i64 0) (x3 := .int .i64 0) (x4 := .slice none 0 0) R1.out
    have FB := Hid.mk (belowW5 B1.out (show w.heap.size ≤ w.heap.size + 1 by omega) (.int .i64 0) (.int .i64 0) (.int .i64 0) (.int .i64 0) (.slice none 0 0))
    clear K1 R1 B1 HX1 HX0 hc
    go_wp2_with fail
    exact bodyPost_ret (v := .agg #[.int .i64 0, .int .i64 0, .int .i64 0, .int .i64 0, .slice none 0 0]) (by simp [results, go_sem, z0, z1, z2, z3, z4]) rfl ⟨⟨_, rfl, by rw [HE.out]; exact ⟨_, rfl, Owns.nil _ _ _ _⟩⟩, FB.out⟩
  have HE := Hid.mk (HX1.out hc)
  clear HX1 HX0 hc
  have y0 := K1.out.cell 0 _ rfl
  have y1 := K1.out.cell 1 _ rfl
  have y2 := K1.out.cell 2 _ rfl
  have y3 := K1.out.cell 3 _ rfl
  have y4 := K1.out.cell 4 _ rfl
  have y5 := K1.out.cell 5 _ rfl
  have y6 := K1.out.cell 6 _ rfl
  have y7 := K1.out.cell 7 _ rfl
  have y8 := K1.out.cell 8 _ rfl
  have y9 := K1.out.cell 9 _ rfl
  have y10 := K1.out.cell 10 _ rfl
  have y11 := K1.out.cell 11 _ rfl
  have y12 := K1.out.cell 12 _ rfl
  go_wp2_with fail
  refine (walI ci cp ct cv cr cd cb cbt cc A0 n0 c0 (.slice A1 n1 c1) (.slice A2 n2 c2) (.slice A3 n3 c3) W1).mono ?_
  rintro e W2 ⟨rfl, hb2⟩
  have hcp := copyI ⟨ct, cv, cb, cbt, lg⟩ (.agg #[.int .i64 ct, .int .i64 cv, .int .i64 cb, .int .i64 cbt, .slice A0 n0 c0]) W2 B ⟨_, rfl, HL.out.on ((B1.out.trans (hb2.mono B1.out.size)).mono HBB.out)⟩ HS.out.n HS.out.d (Nat.le_trans HBB.out (B1.out.trans (hb2.mono B1.out.size)).size)
  go_wp2_with fail
  refine hcp.mono ?_
  rintro e W3 ⟨uw, rfl, ⟨uu, rfl, hO'⟩, hb3⟩
  have hO := hO'.mono hb2.size
  have hb := hb2.trans (hb3.mono hb2.size)
  clear hcp hb2 hb3 hO'
  obtain ⟨Ap, mp, kp, rfl⟩ := hO.shape
  have FO0 : Hid (Owns W3 (w.heap.size + 2) 88 2 (.slice Ap mp kp) (entR lg)) := hO.mono HZ1.out
  have B3 : Hid (Below w.heap.size w W3) := B1.out.trans (hb.mono B1.out.size)
  have R3 := Hid.mk (R1.out.on hb R1.out.lt)
  clear hO hb R1 B1 K1 y0 y1 y2 y3 y4 y5 y6 y7 y8 y9 y10 y11 y12
  obtain ⟨⟨r0, g0⟩, ⟨r1, g1⟩, ⟨r2, g2⟩, ⟨r3, g3⟩, ⟨r4, g4⟩, z0, z1, z2, z3, z4⟩ := resW5 (x0 := .int .i64 ct) (x1 := .int .i64 cv) (x2 := .int .i64 cb) (x3 := .int .i64 cbt) (x4 := .slice Ap mp kp) R3.out
  have FO := Hid.mk (ownsW5 FO0.out (show w.heap.size + 1 < w.heap.size + 2 by omega) (.int .i64 ct) (.int .i64 cv) (.int .i64 cb) (.int .i64 cbt) (.slice Ap mp kp))
  have FB := Hid.mk (belowW5 B3.out (show w.heap.size ≤ w.heap.size + 1 by omega) (.int .i64 ct) (.int .i64 cv) (.int .i64 cb) (.int .i64 cbt) (.slice Ap mp kp))
  have HWW : Hid (w.heap.size ≤ w.heap.size + 2) := by unfold Hid; omega
  clear R3 FO0 B3
  go_wp2_with fail
  exact bodyPost_ret (v := .agg #[.int .i64 ct, .int .i64 cv, .int .i64 cb, .int .i64 cbt, .slice Ap mp kp]) (by simp [results, go_sem, z0, z1, z2, z3, z4]) rfl ⟨⟨_, rfl, by rw [HE.out]; exact ⟨_, rfl, FO.out.mono HWW.out⟩⟩, FB.out⟩
end Go.Proofs.Ytjejcpieajeflaa

/-
  Contracts of CoreOf of both packages.
-/
namespace Go.Proofs.Ytjejcpieajeflaa
open Go.ChangeShapes Go.WideShapes Go.ChangeAt Go.RowKit Go.PlainAid
set_option linter.unusedVariables false

/-- The core of a log, or none. -/
noncomputable def ofX (x : Cor) : Cor := if corOk x = true then x else ⟨0, 0, 0, 0, 0, 0, 0, 0, [], 0, [], [], []⟩
theorem NumsV.emp {w w' : World} {B B' : Nat} {v : Value} (h : NumsV w B v []) : NumsV w' B' v [] := by
  obtain ⟨A, cap, e, h1, h2, _⟩ := h
  exact ⟨A, cap, e, h1, h2, fun j hj => by simp at hj⟩
theorem Owns.notBlk {w : World} {base sz : Nat} {e : TypeId} {v : Value} {R : List (List Value)} (h : Owns w base e sz v R) {g : Nat} {cs : Array Value} {t : TypeId} {fz : Nat × Nat} (hB : w.heap[g]? = some (.cells cs t fz)) (ht : t ≠ e) : v.ownBlock ≠ some g := fun hk => by
  rcases h.2.2 with ⟨rfl, _⟩ | ⟨g1, c1, cur1, rfl, _, k1, _⟩
  · cases hk
  · cases hk
    rw [k1] at hB
    cases hB
    exact ht rfl
theorem Owns.butC13 {w : World} {bs g sz : Nat} {e : TypeId} {u : Value} {r : List (List Value)} {cs : Array Value} {t : TypeId} (h : Owns w bs e sz u r) (hB : Blk w g cs t) (ht : t ≠ e) (x0 x1 x2 x3 x4 x5 x6 x7 x8 x9 x10 x11 x12 : Value) : Owns (((((((((((((w.setCell ⟨g, 0, none⟩ x0).setCell ⟨g, 1, none⟩ x1).setCell ⟨g, 2, none⟩ x2).setCell ⟨g, 3, none⟩ x3).setCell ⟨g, 4, none⟩ x4).setCell ⟨g, 5, none⟩ x5).setCell ⟨g, 6, none⟩ x6).setCell ⟨g, 7, none⟩ x7).setCell ⟨g, 8, none⟩ x8).setCell ⟨g, 9, none⟩ x9).setCell ⟨g, 10, none⟩ x10).setCell ⟨g, 11, none⟩ x11).setCell ⟨g, 12, none⟩ x12) bs e sz u r := by
  have hne := h.notBlk hB ht
  exact (((((((((((((h.other hne 0 x0).other hne 1 x1).other hne 2 x2).other hne 3 x3).other hne 4 x4).other hne 5 x5).other hne 6 x6).other hne 7 x7).other hne 8 x8).other hne 9 x9).other hne 10 x10).other hne 11 x11).other hne 12 x12)
set_option maxRecDepth 20000 in
set_option maxHeartbeats 8000000 in
theorem implCoreOf (ii pp wt wv wb wbt : Int) (es : List Ent) (u0 : Value) (w : World) (B : Nat) (hl : Lies w B 2 u0 (entR es)) (hn : es.length ≤ 1048576) (hd : ∀ y ∈ es, y.data.size ≤ 1048576) (hB : B ≤ w.heap.size) : Calls Try.prog 24 #[.int .i64 ii, .int .i64 pp, .agg #[.int .i64 wt, .int .i64 wv, .int .i64 wb, .int .i64 wbt, u0]] w fun e w' => (∃ u, e = .returned (.tuple #[u, .bool (corOk ⟨ii, pp, wt, wv, 1, -1, wb, wbt, es, wb, [], [], []⟩)]) ∧ CorO w' w.heap.size u (ofX ⟨ii, pp, wt, wv, 1, -1, wb, wbt, es, wb, [], [], []⟩)) ∧ Below w.heap.size w w' := by
  have HBB : Hid (B ≤ w.heap.size) := hB
  have HL : Hid (Lies w B 2 u0 (entR es)) := hl
  have HLn : Hid (es.length ≤ 1048576) := hn
  have HLe : Hid ((entR ([] : List Ent)).length + (entR es).length ≤ 2097152) := by unfold Hid; rw [entR_length, entR_length]; simp only [List.length_nil]; omega
  have HS : Hid (ShortC ⟨ii, pp, wt, wv, 1, -1, wb, wbt, es, wb, [], [], []⟩) := ⟨hn, hd, by simp, by simp, by simp⟩
  have HX1 : Hid (corOk ⟨ii, pp, wt, wv, 1, -1, wb, wbt, es, wb, [], [], []⟩ = true → ofX ⟨ii, pp, wt, wv, 1, -1, wb, wbt, es, wb, [], [], []⟩ = ⟨ii, pp, wt, wv, 1, -1, wb, wbt, es, wb, [], [], []⟩) := fun h => by unfold ofX; rw [if_pos h]
  have HX0 : Hid (corOk ⟨ii, pp, wt, wv, 1, -1, wb, wbt, es, wb, [], [], []⟩ = false → ofX ⟨ii, pp, wt, wv, 1, -1, wb, wbt, es, wb, [], [], []⟩ = ⟨0, 0, 0, 0, 0, 0, 0, 0, [], 0, [], [], []⟩) := fun h => by unfold ofX; rw [if_neg (by rw [h]; exact Bool.false_ne_true)]
  obtain ⟨A0, c0, rfl, _⟩ := ent_look hl
  clear hl hn hd hB
  generalize hg0 : es.length = n0 at *
  clear hg0
  obtain ⟨W1, hW1⟩ : ∃ W1, W1 = ((w.alloc (.cells #[.int .i64 wt, .int .i64 wv, .int .i64 wb, .int .i64 wbt, .slice A0 n0 c0] 35)).alloc (.cells #[.int .i64 0, .int .i64 0, .int .i64 0, .int .i64 0, .int .i64 0, .int .i64 0, .int .i64 0, .int .i64 0, .slice none 0 0, .int .i64 0, .slice none 0 0, .slice none 0 0, .slice none 0 0] 30)).alloc (.cells #[.int .i64 ii, .int .i64 pp, .int .i64 wt, .int .i64 wv, .int .i64 1, .int .i64 (-1), .int .i64 wb, .int .i64 wbt, .slice A0 n0 c0, .int .i64 wb, .slice none 0 0, .slice none 0 0, .slice none 0 0] 30) := ⟨_, rfl⟩
  have B1 : Hid (Below w.heap.size w W1) := by unfold Hid; rw [hW1]; exact (((Below.refl _ w).alloc (Nat.le_refl _) _).alloc (by simp) _).alloc (by simp; omega) _
  have R1 : Hid (Blk W1 (w.heap.size + 1) #[.int .i64 0, .int .i64 0, .int .i64 0, .int .i64 0, .int .i64 0, .int .i64 0, .int .i64 0, .int .i64 0, .slice none 0 0, .int .i64 0, .slice none 0 0, .slice none 0 0, .slice none 0 0] 30) := by unfold Hid; rw [hW1]; have := (Blk.new (w.alloc (.cells #[.int .i64 wt, .int .i64 wv, .int .i64 wb, .int .i64 wbt, .slice A0 n0 c0] 35)) #[.int .i64 0, .int .i64 0, .int .i64 0, .int .i64 0, .int .i64 0, .int .i64 0, .int .i64 0, .int .i64 0, .slice none 0 0, .int .i64 0, .slice none 0 0, .slice none 0 0, .slice none 0 0] 30).alloc (.cells #[.int .i64 ii, .int .i64 pp, .int .i64 wt, .int .i64 wv, .int .i64 1, .int .i64 (-1), .int .i64 wb, .int .i64 wbt, .slice A0 n0 c0, .int .i64 wb, .slice none 0 0, .slice none 0 0, .slice none 0 0] 30); simp only [World.size_alloc] at this; exact this
  have KC : Hid (Blk W1 (w.heap.size + 1 + 1) #[.int .i64 ii, .int .i64 pp, .int .i64 wt, .int .i64 wv, .int .i64 1, .int .i64 (-1), .int .i64 wb, .int .i64 wbt, .slice A0 n0 c0, .int .i64 wb, .slice none 0 0, .slice none 0 0, .slice none 0 0] 30) := by unfold Hid; rw [hW1]; have := Blk.new ((w.alloc (.cells #[.int .i64 wt, .int .i64 wv, .int .i64 wb, .int .i64 wbt, .slice A0 n0 c0] 35)).alloc (.cells #[.int .i64 0, .int .i64 0, .int .i64 0, .int .i64 0, .int .i64 0, .int .i64 0, .int .i64 0, .int .i64 0, .slice none 0 0, .int .i64 0, .slice none 0 0, .slice none 0 0, .slice none 0 0] 30)) #[.int .i64 ii, .int .i64 pp, .int .i64 wt, .int .i64 wv, .int .i64 1, .int .i64 (-1), .int .i64 wb, .int .i64 wbt, .slice A0 n0 c0, .int .i64 wb, .slice none 0 0, .slice none 0 0, .slice none 0 0] 30; simp only [World.size_alloc] at this; exact this
  have HZ1 : Hid (w.heap.size + 2 ≤ W1.heap.size) := by unfold Hid; rw [hW1]; simp
  have HLc : Hid (Lies W1 B 2 (.slice A0 n0 c0) (entR es)) := HL.out.on (B1.out.mono HBB.out)
  have HBc : Hid (B ≤ W1.heap.size) := Nat.le_trans HBB.out B1.out.size
  have hok := implCoreOk ⟨ii, pp, wt, wv, 1, -1, wb, wbt, es, wb, [], [], []⟩ (.agg #[.int .i64 ii, .int .i64 pp, .int .i64 wt, .int .i64 wv, .int .i64 1, .int .i64 (-1), .int .i64 wb, .int .i64 wbt, .slice A0 n0 c0, .int .i64 wb, .slice none 0 0, .slice none 0 0, .slice none 0 0]) W1 B ⟨_, _, _, _, rfl, HLc.out, (Nums.nil w 0).lies.emp, (Nums.nil w 0).lies.emp, (Nums.nil w 0).lies.emp⟩ HS.out HBc.out
  have y0 := KC.out.cell 0 _ rfl
  have y1 := KC.out.cell 1 _ rfl
  have y2 := KC.out.cell 2 _ rfl
  have y3 := KC.out.cell 3 _ rfl
  have y4 := KC.out.cell 4 _ rfl
  have y5 := KC.out.cell 5 _ rfl
  have y6 := KC.out.cell 6 _ rfl
  have y7 := KC.out.cell 7 _ rfl
  have y8 := KC.out.cell 8 _ rfl
  have y9 := KC.out.cell 9 _ rfl
  have y10 := KC.out.cell 10 _ rfl
  have y11 := KC.out.cell 11 _ rfl
  have y12 := KC.out.cell 12 _ rfl
  clear y0 y1 y2 y3 y4 y5 y6 y7 y8 y9 y10 y11 y12
  go_enter Try.func24, Try.ntmps24
  go_wp2_with fail
  rw [← hW1]
  clear hW1
  refine hok.mono ?_
  rintro e W2 ⟨rfl, hb⟩
  have B2 : Hid (Below w.heap.size w W2) := B1.out.trans (hb.mono B1.out.size)
  have K2 : Hid (Blk W2 (w.heap.size + 1 + 1) #[.int .i64 ii, .int .i64 pp, .int .i64 wt, .int .i64 wv, .int .i64 1, .int .i64 (-1), .int .i64 wb, .int .i64 wbt, .slice A0 n0 c0, .int .i64 wb, .slice none 0 0, .slice none 0 0, .slice none 0 0] 30) := KC.out.on hb KC.out.lt
  have R2 : Hid (Blk W2 (w.heap.size + 1) #[.int .i64 0, .int .i64 0, .int .i64 0, .int .i64 0, .int .i64 0, .int .i64 0, .int .i64 0, .int .i64 0, .slice none 0 0, .int .i64 0, .slice none 0 0, .slice none 0 0, .slice none 0 0] 30) := R1.out.on hb R1.out.lt
  have HZ2 : Hid (w.heap.size + 2 ≤ W2.heap.size) := Nat.le_trans HZ1.out hb.size
  have HL2 : Hid (Lies W2 B 2 (.slice A0 n0 c0) (entR es)) := HLc.out.on (hb.mono HBc.out)
  have HB2 : Hid (B ≤ W2.heap.size) := Nat.le_trans HBc.out hb.size
  skip
  clear hok hb KC R1 HZ1 HLc HBc
  cases hc : corOk ⟨ii, pp, wt, wv, 1, -1, wb, wbt, es, wb, [], [], []⟩
  · have HE := Hid.mk (HX0.out hc)
    have HC := Hid.mk hc
    obtain ⟨⟨r0, g0⟩, ⟨r1, g1⟩, ⟨r2, g2⟩, ⟨r3, g3⟩, ⟨r4, g4⟩, ⟨r5, g5⟩, ⟨r6, g6⟩, ⟨r7, g7⟩, ⟨r8, g8⟩, ⟨r9, g9⟩, ⟨r10, g10⟩, ⟨r11, g11⟩, ⟨r12, g12⟩, z0, z1, z2, z3, z4, z5, z6, z7, z8, z9, z10, z11, z12⟩ := resC13 (x0 := .int .i64 0) (x1 := .int .i64 0) (x2 := .int .i64 0) (x3 := .int .i64 0) (x4 := .int .i64 0) (x5 := .int .i64 0) (x6 := .int .i64 0) (x7 := .int .i64 0) (x8 := .slice none 0 0) (x9 := .int .i64 0) (x10 := .slice none 0 0) (x11 := .slice none 0 0) (x12 := .slice none 0 0) R2.out
    have FB := Hid.mk (belowC13 B2.out (show w.heap.size ≤ w.heap.size + 1 by omega) (.int .i64 0) (.int .i64 0) (.int .i64 0) (.int .i64 0) (.int .i64 0) (.int .i64 0) (.int .i64 0) (.int .i64 0) (.slice none 0 0) (.int .i64 0) (.slice none 0 0) (.slice none 0 0) (.slice none 0 0))
    clear K2 R2 B2 HX1 HX0 hc
    go_wp2_with fail
    exact bodyPost_ret (v := .tuple #[.agg #[.int .i64 0, .int .i64 0, .int .i64 0, .int .i64 0, .int .i64 0, .int .i64 0, .int .i64 0, .int .i64 0, .slice none 0 0, .int .i64 0, .slice none 0 0, .slice none 0 0, .slice none 0 0], .bool false]) (by simp [results, go_sem, z0, z1, z2, z3, z4, z5, z6, z7, z8, z9, z10, z11, z12]) rfl ⟨⟨_, by rw [HC.out], by rw [HE.out]; exact ⟨_, _, _, _, rfl, ⟨(Owns.nil _ _ _ _).toF, Nums.nil _ _, Nums.nil _ _, Nums.nil _ _, fun g h => (by cases h), fun g h => (by cases h), fun g h => (by cases h)⟩⟩⟩, FB.out⟩
  have HE := Hid.mk (HX1.out hc)
  have HC := Hid.mk hc
  clear HX1 HX0 hc
  have y0 := K2.out.cell 0 _ rfl
  have y1 := K2.out.cell 1 _ rfl
  have y2 := K2.out.cell 2 _ rfl
  have y3 := K2.out.cell 3 _ rfl
  have y4 := K2.out.cell 4 _ rfl
  have y5 := K2.out.cell 5 _ rfl
  have y6 := K2.out.cell 6 _ rfl
  have y7 := K2.out.cell 7 _ rfl
  have y8 := K2.out.cell 8 _ rfl
  have y9 := K2.out.cell 9 _ rfl
  have y10 := K2.out.cell 10 _ rfl
  have y11 := K2.out.cell 11 _ rfl
  have y12 := K2.out.cell 12 _ rfl
  have hcp := copyCoI ii pp wt wv 1 (-1) wb wbt es wb [] [] [] (.slice A0 n0 c0) (.slice none 0 0) (.slice none 0 0) (.slice none 0 0) W2 B 0 HL2.out (Nums.nil _ _) (Nums.nil _ _) (Nums.nil _ _) HS.out HB2.out
  go_wp2_with fail
  refine hcp.mono ?_
  rintro e W3 ⟨uu, rfl, hO, hb⟩
  obtain ⟨Bz, m0, k0, By, m1, k1, Bn, m2, k2, Bm, m3, k3, rfl, hO'⟩ := hO.sh
  unfold vCo
  simp only
  have B3 : Hid (Below w.heap.size w W3) := B2.out.trans (hb.mono B2.out.size)
  have R3 : Hid (Blk W3 (w.heap.size + 1) #[.int .i64 0, .int .i64 0, .int .i64 0, .int .i64 0, .int .i64 0, .int .i64 0, .int .i64 0, .int .i64 0, .slice none 0 0, .int .i64 0, .slice none 0 0, .slice none 0 0, .slice none 0 0] 30) := R2.out.on hb R2.out.lt
  have O3 : Hid (CoRows W3 (w.heap.size + 2) ⟨ii, pp, wt, wv, 1, -1, wb, wbt, es, wb, [], [], []⟩ (.slice Bz m0 k0) (.slice By m1 k1) (.slice Bn m2 k2) (.slice Bm m3 k3)) := hO'.mono HZ2.out
  clear hcp hb hO hO' R2 B2 K2 HZ2 y0 y1 y2 y3 y4 y5 y6 y7 y8 y9 y10 y11 y12
  obtain ⟨⟨r0, g0⟩, ⟨r1, g1⟩, ⟨r2, g2⟩, ⟨r3, g3⟩, ⟨r4, g4⟩, ⟨r5, g5⟩, ⟨r6, g6⟩, ⟨r7, g7⟩, ⟨r8, g8⟩, ⟨r9, g9⟩, ⟨r10, g10⟩, ⟨r11, g11⟩, ⟨r12, g12⟩, z0, z1, z2, z3, z4, z5, z6, z7, z8, z9, z10, z11, z12⟩ := resC13 (x0 := .int .i64 ii) (x1 := .int .i64 pp) (x2 := .int .i64 wt) (x3 := .int .i64 wv) (x4 := .int .i64 1) (x5 := .int .i64 (-1)) (x6 := .int .i64 wb) (x7 := .int .i64 wbt) (x8 := .slice Bz m0 k0) (x9 := .int .i64 wb) (x10 := .slice By m1 k1) (x11 := .slice Bn m2 k2) (x12 := .slice Bm m3 k3) R3.out
  have FO := Hid.mk (rowsC13 O3.out (show w.heap.size + 1 < w.heap.size + 2 by omega) (.int .i64 ii) (.int .i64 pp) (.int .i64 wt) (.int .i64 wv) (.int .i64 1) (.int .i64 (-1)) (.int .i64 wb) (.int .i64 wbt) (.slice Bz m0 k0) (.int .i64 wb) (.slice By m1 k1) (.slice Bn m2 k2) (.slice Bm m3 k3))
  have FB := Hid.mk (belowC13 B3.out (show w.heap.size ≤ w.heap.size + 1 by omega) (.int .i64 ii) (.int .i64 pp) (.int .i64 wt) (.int .i64 wv) (.int .i64 1) (.int .i64 (-1)) (.int .i64 wb) (.int .i64 wbt) (.slice Bz m0 k0) (.int .i64 wb) (.slice By m1 k1) (.slice Bn m2 k2) (.slice Bm m3 k3))
  have HWW : Hid (w.heap.size ≤ w.heap.size + 2) := by unfold Hid; omega
  clear R3 B3 O3
  go_wp2_with fail
  exact bodyPost_ret (v := .tuple #[.agg #[.int .i64 ii, .int .i64 pp, .int .i64 wt, .int .i64 wv, .int .i64 1, .int .i64 (-1), .int .i64 wb, .int .i64 wbt, .slice Bz m0 k0, .int .i64 wb, .slice By m1 k1, .slice Bn m2 k2, .slice Bm m3 k3], .bool true]) (by simp [results, go_sem, z0, z1, z2, z3, z4, z5, z6, z7, z8, z9, z10, z11, z12]) rfl ⟨⟨_, by rw [HC.out], by rw [HE.out]; exact ⟨_, _, _, _, rfl, FO.out.mono HWW.out⟩⟩, FB.out⟩
set_option maxRecDepth 20000 in
set_option maxHeartbeats 8000000 in
theorem specCoreOf (ii pp wt wv wb wbt : Int) (es : List Ent) (u0 : Value) (w : World) (B : Nat) (hl : Lies w B 2 u0 (entR es)) (hn : es.length ≤ 1048576) (hd : ∀ y ∈ es, y.data.size ≤ 1048576) (hB : B ≤ w.heap.size) : Calls Try.prog 22 #[.int .i64 ii, .int .i64 pp, .agg #[.int .i64 wt, .int .i64 wv, .int .i64 wb, .int .i64 wbt, u0]] w fun e w' => (∃ u, e = .returned (.tuple #[u, .bool (corOk ⟨ii, pp, wt, wv, 1, -1, wb, wbt, es, wb, [], [], []⟩)]) ∧ CorO w' w.heap.size u (ofX ⟨ii, pp, wt, wv, 1, -1, wb, wbt, es, wb, [], [], []⟩)) ∧ Below w.heap.size w w' := by
  have HBB : Hid (B ≤ w.heap.size) := hB
  have HL : Hid (Lies w B 2 u0 (entR es)) := hl
  have HLn : Hid (es.length ≤ 1048576) := hn
  have HLe : Hid ((entR ([] : List Ent)).length + (entR es).length ≤ 2097152) := by unfold Hid; rw [entR_length, entR_length]; simp only [List.length_nil]; omega
  have HS : Hid (ShortC ⟨ii, pp, wt, wv, 1, -1, wb, wbt, es, wb, [], [], []⟩) := ⟨hn, hd, by simp, by simp, by simp⟩
  have HX1 : Hid (corOk ⟨ii, pp, wt, wv, 1, -1, wb, wbt, es, wb, [], [], []⟩ = true → ofX ⟨ii, pp, wt, wv, 1, -1, wb, wbt, es, wb, [], [], []⟩ = ⟨ii, pp, wt, wv, 1, -1, wb, wbt, es, wb, [], [], []⟩) := fun h => by unfold ofX; rw [if_pos h]
  have HX0 : Hid (corOk ⟨ii, pp, wt, wv, 1, -1, wb, wbt, es, wb, [], [], []⟩ = false → ofX ⟨ii, pp, wt, wv, 1, -1, wb, wbt, es, wb, [], [], []⟩ = ⟨0, 0, 0, 0, 0, 0, 0, 0, [], 0, [], [], []⟩) := fun h => by unfold ofX; rw [if_neg (by rw [h]; exact Bool.false_ne_true)]
  obtain ⟨A0, c0, rfl, _⟩ := ent_look hl
  clear hl hn hd hB
  generalize hg0 : es.length = n0 at *
  clear hg0
  obtain ⟨X0, hX0⟩ : ∃ X0, X0 = (w.alloc (.cells #[.int .i64 wt, .int .i64 wv, .int .i64 wb, .int .i64 wbt, .slice A0 n0 c0] 35)).alloc (.cells #[.int .i64 0, .int .i64 0, .int .i64 0, .int .i64 0, .int .i64 0, .int .i64 0, .int .i64 0, .int .i64 0, .slice none 0 0, .int .i64 0, .slice none 0 0, .slice none 0 0, .slice none 0 0] 30) := ⟨_, rfl⟩
  have B0 : Hid (Below w.heap.size w X0) := by unfold Hid; rw [hX0]; exact ((Below.refl _ w).alloc (Nat.le_refl _) _).alloc (by simp) _
  have K0 : Hid (Blk X0 w.heap.size #[.int .i64 wt, .int .i64 wv, .int .i64 wb, .int .i64 wbt, .slice A0 n0 c0] 35) := by unfold Hid; rw [hX0]; exact (Blk.new w _ _).alloc _
  have R0 : Hid (Blk X0 (w.heap.size + 1) #[.int .i64 0, .int .i64 0, .int .i64 0, .int .i64 0, .int .i64 0, .int .i64 0, .int .i64 0, .int .i64 0, .slice none 0 0, .int .i64 0, .slice none 0 0, .slice none 0 0, .slice none 0 0] 30) := by unfold Hid; rw [hX0]; have := Blk.new (w.alloc (.cells #[.int .i64 wt, .int .i64 wv, .int .i64 wb, .int .i64 wbt, .slice A0 n0 c0] 35)) #[.int .i64 0, .int .i64 0, .int .i64 0, .int .i64 0, .int .i64 0, .int .i64 0, .int .i64 0, .int .i64 0, .slice none 0 0, .int .i64 0, .slice none 0 0, .slice none 0 0, .slice none 0 0] 30; simp only [World.size_alloc] at this; exact this
  have HZ0 : Hid (w.heap.size + 2 ≤ X0.heap.size) := by unfold Hid; rw [hX0]; simp
  go_enter Try.func22, Try.ntmps22
  go_wp2_with fail
  rw [← hX0]
  clear hX0
  go_cut [8] from 9 to 25 (fun s8 wx => ∃ p A m k, s8 = .pointer (some ⟨p, 0, none⟩) ∧ Below X0.heap.size X0 wx ∧ Blk wx p #[.int .i64 ii, .int .i64 pp, .int .i64 wt, .int .i64 wv, .int .i64 1, .int .i64 (-1), .int .i64 wb, .int .i64 wbt, .slice A m k, .int .i64 wb, .slice none 0 0, .slice none 0 0, .slice none 0 0] 30 ∧ Owns wx X0.heap.size 88 2 (.slice A m k) (entR es) ∧ X0.heap.size ≤ p)
  case first =>
    refine wp_region_until (fun w' => w'.cell? ⟨w.heap.size, 0, none⟩ = some (.int .i64 wt) ∧ w'.cell? ⟨w.heap.size, 1, none⟩ = some (.int .i64 wv) ∧ w'.cell? ⟨w.heap.size, 2, none⟩ = some (.int .i64 wb) ∧ w'.cell? ⟨w.heap.size, 3, none⟩ = some (.int .i64 wbt) ∧ w'.cell? ⟨w.heap.size, 4, none⟩ = some (.slice A0 n0 c0)) (fun i => i == 18) 19 (by rfl) (by kernel_rfl) ?_
    have V0 : Hid (Below X0.heap.size X0 X0.drew) := (Below.refl _ _).drew
    generalize X0.drew = Y0 at *
    have SS0 := Hid.mk (show (fun w' => w'.cell? ⟨w.heap.size, 0, none⟩ = some (.int .i64 wt) ∧ w'.cell? ⟨w.heap.size, 1, none⟩ = some (.int .i64 wv) ∧ w'.cell? ⟨w.heap.size, 2, none⟩ = some (.int .i64 wb) ∧ w'.cell? ⟨w.heap.size, 3, none⟩ = some (.int .i64 wbt) ∧ w'.cell? ⟨w.heap.size, 4, none⟩ = some (.slice A0 n0 c0)) Y0 from ⟨(K0.out.on V0.out K0.out.lt).cell 0 _ rfl, (K0.out.on V0.out K0.out.lt).cell 1 _ rfl, (K0.out.on V0.out K0.out.lt).cell 2 _ rfl, (K0.out.on V0.out K0.out.lt).cell 3 _ rfl, (K0.out.on V0.out K0.out.lt).cell 4 _ rfl⟩)
    refine tF 0 SS0.out ?_
    refine tF 1 SS0.out ?_
    refine tF 2 SS0.out ?_
    refine tF 3 SS0.out ?_
    refine tF 4 SS0.out ?_
    refine tF 5 SS0.out ?_
    refine tF 6 SS0.out ?_
    refine tF 7 SS0.out ?_
    refine tF 8 SS0.out ?_
    refine tF 9 SS0.out ?_
    refine tF 11 SS0.out ?_
    refine tF 12 SS0.out ?_
    refine tF 14 SS0.out ?_
    refine tF 15 SS0.out ?_
    refine until_two 10 17 (by rfl) (by rfl) (by kernel_rfl) (fun K hK => ?_) (fun K hK => ?_)
    · skip
      go_simp
      have ob := Owns.empty Y0 X0.heap.size 88 2 V0.out.size
      have bz : Below Y0.heap.size Y0 (Y0.alloc (.cells #[] 88)) := (Below.refl _ _).alloc (Nat.le_refl _) _
      obtain ⟨ge, hge⟩ : ∃ ge, ge = Y0.heap.size := ⟨_, rfl⟩
      rw [← hge] at ob ⊢
      generalize Y0.alloc (.cells #[] 88) = Y1 at *
      have V1 : Hid (Below X0.heap.size X0 Y1) := V0.out.trans (bz.mono V0.out.size)
      have OB1 : Hid (Owns Y1 X0.heap.size 88 2 (.slice (some ⟨ge, 0, none⟩) 0 0) (entR [])) := ob
      clear ob bz hge
      refine hK.out _ _ (fun _ _ => ⟨(K0.out.on V1.out K0.out.lt).cell 0 _ rfl, (K0.out.on V1.out K0.out.lt).cell 1 _ rfl, (K0.out.on V1.out K0.out.lt).cell 2 _ rfl, (K0.out.on V1.out K0.out.lt).cell 3 _ rfl, (K0.out.on V1.out K0.out.lt).cell 4 _ rfl⟩) ?_
      clear hK K
      try simp only [Act.put, List.setIfInBounds_toArray, List.set_cons_zero, List.set_cons_succ]
      refine until_two 13 17 (by rfl) (by rfl) (by kernel_rfl) (fun K hK => ?_) (fun K hK => ?_)
      · skip
        obtain ⟨Ap, mp, kp, Y2, hr, hOp, hbp, hkp⟩ := run_append_allC (P := Try.prog) Y1 28 28 88 (.agg #[.int .i64 0, .string ⟨#[]⟩]) 2 24 Try.underlying28 Try.infoEnt rfl (by omega) X0.heap.size _ _ (entR []) (entR es) Y1.heap.size OB1.out ((HL.out.on ((B0.out.trans (V1.out.mono B0.out.size)).mono HBB.out)).mono (Nat.le_trans HBB.out (B0.out.trans (V1.out.mono B0.out.size)).size)) (ent_one _) HLe.out (by omega) V1.out.size
        refine step_append_run (by rfl) (.tmp 19) (.tmp 21) 28 (by rfl) _ _ _ _ (by rfl) (by rfl) hr ?_
        have V2 : Hid (Below X0.heap.size X0 Y2) := V1.out.trans hbp
        have OA2 : Hid (Owns Y2 X0.heap.size 88 2 (.slice Ap mp kp) (entR es)) := hOp
        clear hr hOp hbp hkp
        refine hK.out _ _ (fun _ _ => ⟨(K0.out.on V2.out K0.out.lt).cell 0 _ rfl, (K0.out.on V2.out K0.out.lt).cell 1 _ rfl, (K0.out.on V2.out K0.out.lt).cell 2 _ rfl, (K0.out.on V2.out K0.out.lt).cell 3 _ rfl, (K0.out.on V2.out K0.out.lt).cell 4 _ rfl⟩) ?_
        clear hK K
        try simp only [Act.put, List.setIfInBounds_toArray, List.set_cons_zero, List.set_cons_succ]
        refine pF 16 ?_
        refine until_one 17 (by rfl) (by kernel_rfl) (fun K hK => ?_)
        go_simp
        have zk := Blk.new Y2 #[.int .i64 0, .int .i64 0, .int .i64 0, .int .i64 0, .int .i64 0, .int .i64 0, .int .i64 0, .int .i64 0, .slice none 0 0, .int .i64 0, .slice none 0 0, .slice none 0 0, .slice none 0 0] 30
        have bz : Below Y2.heap.size Y2 (Y2.alloc (.cells #[.int .i64 0, .int .i64 0, .int .i64 0, .int .i64 0, .int .i64 0, .int .i64 0, .int .i64 0, .int .i64 0, .slice none 0 0, .int .i64 0, .slice none 0 0, .slice none 0 0, .slice none 0 0] 30)) := (Below.refl _ _).alloc (Nat.le_refl _) _
        obtain ⟨gp, hgp⟩ : ∃ gp, gp = Y2.heap.size := ⟨_, rfl⟩
        have PL : Hid (X0.heap.size ≤ gp) := by unfold Hid; rw [hgp]; exact V2.out.size
        rw [← hgp] at zk ⊢
        generalize Y2.alloc (.cells #[.int .i64 0, .int .i64 0, .int .i64 0, .int .i64 0, .int .i64 0, .int .i64 0, .int .i64 0, .int .i64 0, .slice none 0 0, .int .i64 0, .slice none 0 0, .slice none 0 0, .slice none 0 0] 30) = Y3 at *
        have V3 : Hid (Below X0.heap.size X0 Y3) := V2.out.trans (bz.mono V2.out.size)
        have P3 : Hid (Blk Y3 gp #[.int .i64 0, .int .i64 0, .int .i64 0, .int .i64 0, .int .i64 0, .int .i64 0, .int .i64 0, .int .i64 0, .slice none 0 0, .int .i64 0, .slice none 0 0, .slice none 0 0, .slice none 0 0] 30) := zk
        have OA3 := Hid.mk (OA2.out.on bz)
        clear zk bz hgp
        refine hK.out _ _ (fun _ _ => ⟨(K0.out.on V3.out K0.out.lt).cell 0 _ rfl, (K0.out.on V3.out K0.out.lt).cell 1 _ rfl, (K0.out.on V3.out K0.out.lt).cell 2 _ rfl, (K0.out.on V3.out K0.out.lt).cell 3 _ rfl, (K0.out.on V3.out K0.out.lt).cell 4 _ rfl⟩) ?_
        clear hK K
        try simp only [Act.put, List.setIfInBounds_toArray, List.set_cons_zero, List.set_cons_succ]
        refine until_one 18 (by rfl) (by kernel_rfl) (fun K hK => ?_)
        obtain ⟨⟨r0, g0⟩, ⟨r1, g1⟩, ⟨r2, g2⟩, ⟨r3, g3⟩, ⟨r4, g4⟩, ⟨r5, g5⟩, ⟨r6, g6⟩, ⟨r7, g7⟩, ⟨r8, g8⟩, ⟨r9, g9⟩, ⟨r10, g10⟩, ⟨r11, g11⟩, ⟨r12, g12⟩, z0, z1, z2, z3, z4, z5, z6, z7, z8, z9, z10, z11, z12⟩ := resC13 (x0 := .int .i64 ii) (x1 := .int .i64 pp) (x2 := .int .i64 wt) (x3 := .int .i64 wv) (x4 := .int .i64 1) (x5 := .int .i64 (-1)) (x6 := .int .i64 wb) (x7 := .int .i64 wbt) (x8 := .slice Ap mp kp) (x9 := .int .i64 wb) (x10 := .slice none 0 0) (x11 := .slice none 0 0) (x12 := .slice none 0 0) P3.out
        go_simp
        refine hK.out _ _ (fun h => by cases h) ?_
        clear hK K r0 g0 z0 r1 g1 z1 r2 g2 z2 r3 g3 z3 r4 g4 z4 r5 g5 z5 r6 g6 z6 r7 g7 z7 r8 g8 z8 r9 g9 z9 r10 g10 z10 r11 g11 z11 r12 g12 z12
        try simp only [Act.put, List.setIfInBounds_toArray, List.set_cons_zero, List.set_cons_succ]
        refine until_done (by kernel_rfl) ?_ _
        try go_wp2_with fail
        go_meet
        case rel =>
          exact ⟨gp, Ap, mp, kp, rfl, belowC13 V3.out PL.out (.int .i64 ii) (.int .i64 pp) (.int .i64 wt) (.int .i64 wv) (.int .i64 1) (.int .i64 (-1)) (.int .i64 wb) (.int .i64 wbt) (.slice Ap mp kp) (.int .i64 wb) (.slice none 0 0) (.slice none 0 0) (.slice none 0 0), blkC13 P3.out, OA3.out.butC13 P3.out (by decide) (.int .i64 ii) (.int .i64 pp) (.int .i64 wt) (.int .i64 wv) (.int .i64 1) (.int .i64 (-1)) (.int .i64 wb) (.int .i64 wbt) (.slice Ap mp kp) (.int .i64 wb) (.slice none 0 0) (.slice none 0 0) (.slice none 0 0), PL.out⟩
      · skip
        go_simp
        have zk := Blk.new Y1 #[.int .i64 0, .int .i64 0, .int .i64 0, .int .i64 0, .int .i64 0, .int .i64 0, .int .i64 0, .int .i64 0, .slice none 0 0, .int .i64 0, .slice none 0 0, .slice none 0 0, .slice none 0 0] 30
        have bz : Below Y1.heap.size Y1 (Y1.alloc (.cells #[.int .i64 0, .int .i64 0, .int .i64 0, .int .i64 0, .int .i64 0, .int .i64 0, .int .i64 0, .int .i64 0, .slice none 0 0, .int .i64 0, .slice none 0 0, .slice none 0 0, .slice none 0 0] 30)) := (Below.refl _ _).alloc (Nat.le_refl _) _
        obtain ⟨gp, hgp⟩ : ∃ gp, gp = Y1.heap.size := ⟨_, rfl⟩
        have PL : Hid (X0.heap.size ≤ gp) := by unfold Hid; rw [hgp]; exact V1.out.size
        rw [← hgp] at zk ⊢
        generalize Y1.alloc (.cells #[.int .i64 0, .int .i64 0, .int .i64 0, .int .i64 0, .int .i64 0, .int .i64 0, .int .i64 0, .int .i64 0, .slice none 0 0, .int .i64 0, .slice none 0 0, .slice none 0 0, .slice none 0 0] 30) = Y2 at *
        have V2 : Hid (Below X0.heap.size X0 Y2) := V1.out.trans (bz.mono V1.out.size)
        have P2 : Hid (Blk Y2 gp #[.int .i64 0, .int .i64 0, .int .i64 0, .int .i64 0, .int .i64 0, .int .i64 0, .int .i64 0, .int .i64 0, .slice none 0 0, .int .i64 0, .slice none 0 0, .slice none 0 0, .slice none 0 0] 30) := zk
        have OB2 := Hid.mk (OB1.out.on bz)
        clear zk bz hgp
        refine hK.out _ _ (fun _ _ => ⟨(K0.out.on V2.out K0.out.lt).cell 0 _ rfl, (K0.out.on V2.out K0.out.lt).cell 1 _ rfl, (K0.out.on V2.out K0.out.lt).cell 2 _ rfl, (K0.out.on V2.out K0.out.lt).cell 3 _ rfl, (K0.out.on V2.out K0.out.lt).cell 4 _ rfl⟩) ?_
        clear hK K
        try simp only [Act.put, List.setIfInBounds_toArray, List.set_cons_zero, List.set_cons_succ]
        refine until_one 13 (by rfl) (by kernel_rfl) (fun K hK => ?_)
        obtain ⟨Ap, mp, kp, Y3, hr, hOp, hbp, hkp⟩ := run_append_allC (P := Try.prog) Y2 28 28 88 (.agg #[.int .i64 0, .string ⟨#[]⟩]) 2 24 Try.underlying28 Try.infoEnt rfl (by omega) X0.heap.size _ _ (entR []) (entR es) Y2.heap.size OB2.out ((HL.out.on ((B0.out.trans (V2.out.mono B0.out.size)).mono HBB.out)).mono (Nat.le_trans HBB.out (B0.out.trans (V2.out.mono B0.out.size)).size)) (ent_one _) HLe.out (by omega) V2.out.size
        refine step_append_run (by rfl) (.tmp 19) (.tmp 21) 28 (by rfl) _ _ _ _ (by rfl) (by rfl) hr ?_
        have V3 : Hid (Below X0.heap.size X0 Y3) := V2.out.trans hbp
        have OA3 : Hid (Owns Y3 X0.heap.size 88 2 (.slice Ap mp kp) (entR es)) := hOp
        have P3 : Hid (Blk Y3 gp #[.int .i64 0, .int .i64 0, .int .i64 0, .int .i64 0, .int .i64 0, .int .i64 0, .int .i64 0, .int .i64 0, .slice none 0 0, .int .i64 0, .slice none 0 0, .slice none 0 0, .slice none 0 0] 30) := (hkp _ P2.out.lt (OB2.out.notBlk P2.out (by decide))).trans P2.out
        clear hr hOp hbp hkp
        refine hK.out _ _ (fun _ _ => ⟨(K0.out.on V3.out K0.out.lt).cell 0 _ rfl, (K0.out.on V3.out K0.out.lt).cell 1 _ rfl, (K0.out.on V3.out K0.out.lt).cell 2 _ rfl, (K0.out.on V3.out K0.out.lt).cell 3 _ rfl, (K0.out.on V3.out K0.out.lt).cell 4 _ rfl⟩) ?_
        clear hK K
        try simp only [Act.put, List.setIfInBounds_toArray, List.set_cons_zero, List.set_cons_succ]
        refine pF 16 ?_
        refine until_one 18 (by rfl) (by kernel_rfl) (fun K hK => ?_)
        obtain ⟨⟨r0, g0⟩, ⟨r1, g1⟩, ⟨r2, g2⟩, ⟨r3, g3⟩, ⟨r4, g4⟩, ⟨r5, g5⟩, ⟨r6, g6⟩, ⟨r7, g7⟩, ⟨r8, g8⟩, ⟨r9, g9⟩, ⟨r10, g10⟩, ⟨r11, g11⟩, ⟨r12, g12⟩, z0, z1, z2, z3, z4, z5, z6, z7, z8, z9, z10, z11, z12⟩ := resC13 (x0 := .int .i64 ii) (x1 := .int .i64 pp) (x2 := .int .i64 wt) (x3 := .int .i64 wv) (x4 := .int .i64 1) (x5 := .int .i64 (-1)) (x6 := .int .i64 wb) (x7 := .int .i64 wbt) (x8 := .slice Ap mp kp) (x9 := .int .i64 wb) (x10 := .slice none 0 0) (x11 := .slice none 0 0) (x12 := .slice none 0 0) P3.out
        go_simp
        refine hK.out _ _ (fun h => by cases h) ?_
        clear hK K r0 g0 z0 r1 g1 z1 r2 g2 z2 r3 g3 z3 r4 g4 z4 r5 g5 z5 r6 g6 z6 r7 g7 z7 r8 g8 z8 r9 g9 z9 r10 g10 z10 r11 g11 z11 r12 g12 z12
        try simp only [Act.put, List.setIfInBounds_toArray, List.set_cons_zero, List.set_cons_succ]
        refine until_done (by kernel_rfl) ?_ _
        try go_wp2_with fail
        go_meet
        case rel =>
          exact ⟨gp, Ap, mp, kp, rfl, belowC13 V3.out PL.out (.int .i64 ii) (.int .i64 pp) (.int .i64 wt) (.int .i64 wv) (.int .i64 1) (.int .i64 (-1)) (.int .i64 wb) (.int .i64 wbt) (.slice Ap mp kp) (.int .i64 wb) (.slice none 0 0) (.slice none 0 0) (.slice none 0 0), blkC13 P3.out, OA3.out.butC13 P3.out (by decide) (.int .i64 ii) (.int .i64 pp) (.int .i64 wt) (.int .i64 wv) (.int .i64 1) (.int .i64 (-1)) (.int .i64 wb) (.int .i64 wbt) (.slice Ap mp kp) (.int .i64 wb) (.slice none 0 0) (.slice none 0 0) (.slice none 0 0), PL.out⟩
    · skip
      go_simp
      have zk := Blk.new Y0 #[.int .i64 0, .int .i64 0, .int .i64 0, .int .i64 0, .int .i64 0, .int .i64 0, .int .i64 0, .int .i64 0, .slice none 0 0, .int .i64 0, .slice none 0 0, .slice none 0 0, .slice none 0 0] 30
      have bz : Below Y0.heap.size Y0 (Y0.alloc (.cells #[.int .i64 0, .int .i64 0, .int .i64 0, .int .i64 0, .int .i64 0, .int .i64 0, .int .i64 0, .int .i64 0, .slice none 0 0, .int .i64 0, .slice none 0 0, .slice none 0 0, .slice none 0 0] 30)) := (Below.refl _ _).alloc (Nat.le_refl _) _
      obtain ⟨gp, hgp⟩ : ∃ gp, gp = Y0.heap.size := ⟨_, rfl⟩
      have PL : Hid (X0.heap.size ≤ gp) := by unfold Hid; rw [hgp]; exact V0.out.size
      rw [← hgp] at zk ⊢
      generalize Y0.alloc (.cells #[.int .i64 0, .int .i64 0, .int .i64 0, .int .i64 0, .int .i64 0, .int .i64 0, .int .i64 0, .int .i64 0, .slice none 0 0, .int .i64 0, .slice none 0 0, .slice none 0 0, .slice none 0 0] 30) = Y1 at *
      have V1 : Hid (Below X0.heap.size X0 Y1) := V0.out.trans (bz.mono V0.out.size)
      have P1 : Hid (Blk Y1 gp #[.int .i64 0, .int .i64 0, .int .i64 0, .int .i64 0, .int .i64 0, .int .i64 0, .int .i64 0, .int .i64 0, .slice none 0 0, .int .i64 0, .slice none 0 0, .slice none 0 0, .slice none 0 0] 30) := zk
      clear zk bz hgp
      refine hK.out _ _ (fun _ _ => ⟨(K0.out.on V1.out K0.out.lt).cell 0 _ rfl, (K0.out.on V1.out K0.out.lt).cell 1 _ rfl, (K0.out.on V1.out K0.out.lt).cell 2 _ rfl, (K0.out.on V1.out K0.out.lt).cell 3 _ rfl, (K0.out.on V1.out K0.out.lt).cell 4 _ rfl⟩) ?_
      clear hK K
      try simp only [Act.put, List.setIfInBounds_toArray, List.set_cons_zero, List.set_cons_succ]
      refine until_one 10 (by rfl) (by kernel_rfl) (fun K hK => ?_)
      go_simp
      have ob := Owns.empty Y1 X0.heap.size 88 2 V1.out.size
      have bz : Below Y1.heap.size Y1 (Y1.alloc (.cells #[] 88)) := (Below.refl _ _).alloc (Nat.le_refl _) _
      obtain ⟨ge, hge⟩ : ∃ ge, ge = Y1.heap.size := ⟨_, rfl⟩
      rw [← hge] at ob ⊢
      generalize Y1.alloc (.cells #[] 88) = Y2 at *
      have V2 : Hid (Below X0.heap.size X0 Y2) := V1.out.trans (bz.mono V1.out.size)
      have OB2 : Hid (Owns Y2 X0.heap.size 88 2 (.slice (some ⟨ge, 0, none⟩) 0 0) (entR [])) := ob
      have P2 := Hid.mk (P1.out.on bz P1.out.lt)
      clear ob bz hge
      refine hK.out _ _ (fun _ _ => ⟨(K0.out.on V2.out K0.out.lt).cell 0 _ rfl, (K0.out.on V2.out K0.out.lt).cell 1 _ rfl, (K0.out.on V2.out K0.out.lt).cell 2 _ rfl, (K0.out.on V2.out K0.out.lt).cell 3 _ rfl, (K0.out.on V2.out K0.out.lt).cell 4 _ rfl⟩) ?_
      clear hK K
      try simp only [Act.put, List.setIfInBounds_toArray, List.set_cons_zero, List.set_cons_succ]
      refine until_one 13 (by rfl) (by kernel_rfl) (fun K hK => ?_)
      obtain ⟨Ap, mp, kp, Y3, hr, hOp, hbp, hkp⟩ := run_append_allC (P := Try.prog) Y2 28 28 88 (.agg #[.int .i64 0, .string ⟨#[]⟩]) 2 24 Try.underlying28 Try.infoEnt rfl (by omega) X0.heap.size _ _ (entR []) (entR es) Y2.heap.size OB2.out ((HL.out.on ((B0.out.trans (V2.out.mono B0.out.size)).mono HBB.out)).mono (Nat.le_trans HBB.out (B0.out.trans (V2.out.mono B0.out.size)).size)) (ent_one _) HLe.out (by omega) V2.out.size
      refine step_append_run (by rfl) (.tmp 19) (.tmp 21) 28 (by rfl) _ _ _ _ (by rfl) (by rfl) hr ?_
      have V3 : Hid (Below X0.heap.size X0 Y3) := V2.out.trans hbp
      have OA3 : Hid (Owns Y3 X0.heap.size 88 2 (.slice Ap mp kp) (entR es)) := hOp
      have P3 : Hid (Blk Y3 gp #[.int .i64 0, .int .i64 0, .int .i64 0, .int .i64 0, .int .i64 0, .int .i64 0, .int .i64 0, .int .i64 0, .slice none 0 0, .int .i64 0, .slice none 0 0, .slice none 0 0, .slice none 0 0] 30) := (hkp _ P2.out.lt (OB2.out.notBlk P2.out (by decide))).trans P2.out
      clear hr hOp hbp hkp
      refine hK.out _ _ (fun _ _ => ⟨(K0.out.on V3.out K0.out.lt).cell 0 _ rfl, (K0.out.on V3.out K0.out.lt).cell 1 _ rfl, (K0.out.on V3.out K0.out.lt).cell 2 _ rfl, (K0.out.on V3.out K0.out.lt).cell 3 _ rfl, (K0.out.on V3.out K0.out.lt).cell 4 _ rfl⟩) ?_
      clear hK K
      try simp only [Act.put, List.setIfInBounds_toArray, List.set_cons_zero, List.set_cons_succ]
      refine pF 16 ?_
      refine until_one 18 (by rfl) (by kernel_rfl) (fun K hK => ?_)
      obtain ⟨⟨r0, g0⟩, ⟨r1, g1⟩, ⟨r2, g2⟩, ⟨r3, g3⟩, ⟨r4, g4⟩, ⟨r5, g5⟩, ⟨r6, g6⟩, ⟨r7, g7⟩, ⟨r8, g8⟩, ⟨r9, g9⟩, ⟨r10, g10⟩, ⟨r11, g11⟩, ⟨r12, g12⟩, z0, z1, z2, z3, z4, z5, z6, z7, z8, z9, z10, z11, z12⟩ := resC13 (x0 := .int .i64 ii) (x1 := .int .i64 pp) (x2 := .int .i64 wt) (x3 := .int .i64 wv) (x4 := .int .i64 1) (x5 := .int .i64 (-1)) (x6 := .int .i64 wb) (x7 := .int .i64 wbt) (x8 := .slice Ap mp kp) (x9 := .int .i64 wb) (x10 := .slice none 0 0) (x11 := .slice none 0 0) (x12 := .slice none 0 0) P3.out
      go_simp
      refine hK.out _ _ (fun h => by cases h) ?_
      clear hK K r0 g0 z0 r1 g1 z1 r2 g2 z2 r3 g3 z3 r4 g4 z4 r5 g5 z5 r6 g6 z6 r7 g7 z7 r8 g8 z8 r9 g9 z9 r10 g10 z10 r11 g11 z11 r12 g12 z12
      try simp only [Act.put, List.setIfInBounds_toArray, List.set_cons_zero, List.set_cons_succ]
      refine until_done (by kernel_rfl) ?_ _
      try go_wp2_with fail
      go_meet
      case rel =>
        exact ⟨gp, Ap, mp, kp, rfl, belowC13 V3.out PL.out (.int .i64 ii) (.int .i64 pp) (.int .i64 wt) (.int .i64 wv) (.int .i64 1) (.int .i64 (-1)) (.int .i64 wb) (.int .i64 wbt) (.slice Ap mp kp) (.int .i64 wb) (.slice none 0 0) (.slice none 0 0) (.slice none 0 0), blkC13 P3.out, OA3.out.butC13 P3.out (by decide) (.int .i64 ii) (.int .i64 pp) (.int .i64 wt) (.int .i64 wv) (.int .i64 1) (.int .i64 (-1)) (.int .i64 wb) (.int .i64 wbt) (.slice Ap mp kp) (.int .i64 wb) (.slice none 0 0) (.slice none 0 0) (.slice none 0 0), PL.out⟩
  case rest =>
  obtain ⟨gp, Ac, nc, kc, rfl, hbx, hkx, hox, hpx⟩ := hcut
  generalize wc = W1 at *
  have B1 : Hid (Below w.heap.size w W1) := B0.out.trans (hbx.mono B0.out.size)
  have R1 : Hid (Blk W1 (w.heap.size + 1) #[.int .i64 0, .int .i64 0, .int .i64 0, .int .i64 0, .int .i64 0, .int .i64 0, .int .i64 0, .int .i64 0, .slice none 0 0, .int .i64 0, .slice none 0 0, .slice none 0 0, .slice none 0 0] 30) := R0.out.on hbx R0.out.lt
  have KC : Hid (Blk W1 gp #[.int .i64 ii, .int .i64 pp, .int .i64 wt, .int .i64 wv, .int .i64 1, .int .i64 (-1), .int .i64 wb, .int .i64 wbt, .slice Ac nc kc, .int .i64 wb, .slice none 0 0, .slice none 0 0, .slice none 0 0] 30) := hkx
  have HZ1 : Hid (w.heap.size + 2 ≤ W1.heap.size) := Nat.le_trans HZ0.out hbx.size
  have OW1 : Hid (Owns W1 (w.heap.size + 2) 88 2 (.slice Ac nc kc) (entR es)) := hox.mono HZ0.out
  have HLc : Hid (Lies W1 W1.heap.size 2 (.slice Ac nc kc) (entR es)) := hox.lies
  have HBc : Hid (W1.heap.size ≤ W1.heap.size) := Nat.le_refl _
  clear hbx hkx hox hpx K0 R0 HZ0
  have hok := specCoreOk ⟨ii, pp, wt, wv, 1, -1, wb, wbt, es, wb, [], [], []⟩ (.agg #[.int .i64 ii, .int .i64 pp, .int .i64 wt, .int .i64 wv, .int .i64 1, .int .i64 (-1), .int .i64 wb, .int .i64 wbt, .slice Ac nc kc, .int .i64 wb, .slice none 0 0, .slice none 0 0, .slice none 0 0]) W1 W1.heap.size ⟨_, _, _, _, rfl, HLc.out, (Nums.nil w 0).lies.emp, (Nums.nil w 0).lies.emp, (Nums.nil w 0).lies.emp⟩ HS.out HBc.out
  have y0 := KC.out.cell 0 _ rfl
  have y1 := KC.out.cell 1 _ rfl
  have y2 := KC.out.cell 2 _ rfl
  have y3 := KC.out.cell 3 _ rfl
  have y4 := KC.out.cell 4 _ rfl
  have y5 := KC.out.cell 5 _ rfl
  have y6 := KC.out.cell 6 _ rfl
  have y7 := KC.out.cell 7 _ rfl
  have y8 := KC.out.cell 8 _ rfl
  have y9 := KC.out.cell 9 _ rfl
  have y10 := KC.out.cell 10 _ rfl
  have y11 := KC.out.cell 11 _ rfl
  have y12 := KC.out.cell 12 _ rfl
  go_wp2_with fail
  refine hok.mono ?_
  rintro e W2 ⟨rfl, hb⟩
  have B2 : Hid (Below w.heap.size w W2) := B1.out.trans (hb.mono B1.out.size)
  have K2 : Hid (Blk W2 gp #[.int .i64 ii, .int .i64 pp, .int .i64 wt, .int .i64 wv, .int .i64 1, .int .i64 (-1), .int .i64 wb, .int .i64 wbt, .slice Ac nc kc, .int .i64 wb, .slice none 0 0, .slice none 0 0, .slice none 0 0] 30) := KC.out.on hb KC.out.lt
  have R2 : Hid (Blk W2 (w.heap.size + 1) #[.int .i64 0, .int .i64 0, .int .i64 0, .int .i64 0, .int .i64 0, .int .i64 0, .int .i64 0, .int .i64 0, .slice none 0 0, .int .i64 0, .slice none 0 0, .slice none 0 0, .slice none 0 0] 30) := R1.out.on hb R1.out.lt
  have HZ2 : Hid (w.heap.size + 2 ≤ W2.heap.size) := Nat.le_trans HZ1.out hb.size
  have HL2 : Hid (Lies W2 W1.heap.size 2 (.slice Ac nc kc) (entR es)) := HLc.out.on (hb.mono HBc.out)
  have HB2 : Hid (W1.heap.size ≤ W2.heap.size) := Nat.le_trans HBc.out hb.size
  have OW2 : Hid (Owns W2 (w.heap.size + 2) 88 2 (.slice Ac nc kc) (entR es)) := OW1.out.on hb
  clear OW1
  clear hok hb KC R1 HZ1 HLc HBc y0 y1 y2 y3 y4 y5 y6 y7 y8 y9 y10 y11 y12
  cases hc : corOk ⟨ii, pp, wt, wv, 1, -1, wb, wbt, es, wb, [], [], []⟩
  · have HE := Hid.mk (HX0.out hc)
    have HC := Hid.mk hc
    obtain ⟨⟨r0, g0⟩, ⟨r1, g1⟩, ⟨r2, g2⟩, ⟨r3, g3⟩, ⟨r4, g4⟩, ⟨r5, g5⟩, ⟨r6, g6⟩, ⟨r7, g7⟩, ⟨r8, g8⟩, ⟨r9, g9⟩, ⟨r10, g10⟩, ⟨r11, g11⟩, ⟨r12, g12⟩, z0, z1, z2, z3, z4, z5, z6, z7, z8, z9, z10, z11, z12⟩ := resC13 (x0 := .int .i64 0) (x1 := .int .i64 0) (x2 := .int .i64 0) (x3 := .int .i64 0) (x4 := .int .i64 0) (x5 := .int .i64 0) (x6 := .int .i64 0) (x7 := .int .i64 0) (x8 := .slice none 0 0) (x9 := .int .i64 0) (x10 := .slice none 0 0) (x11 := .slice none 0 0) (x12 := .slice none 0 0) R2.out
    have FB := Hid.mk (belowC13 B2.out (show w.heap.size ≤ w.heap.size + 1 by omega) (.int .i64 0) (.int .i64 0) (.int .i64 0) (.int .i64 0) (.int .i64 0) (.int .i64 0) (.int .i64 0) (.int .i64 0) (.slice none 0 0) (.int .i64 0) (.slice none 0 0) (.slice none 0 0) (.slice none 0 0))
    clear K2 R2 B2 HX1 HX0 hc
    go_wp2_with fail
    exact bodyPost_ret (v := .tuple #[.agg #[.int .i64 0, .int .i64 0, .int .i64 0, .int .i64 0, .int .i64 0, .int .i64 0, .int .i64 0, .int .i64 0, .slice none 0 0, .int .i64 0, .slice none 0 0, .slice none 0 0, .slice none 0 0], .bool false]) (by simp [results, go_sem, z0, z1, z2, z3, z4, z5, z6, z7, z8, z9, z10, z11, z12]) rfl ⟨⟨_, by rw [HC.out], by rw [HE.out]; exact ⟨_, _, _, _, rfl, ⟨(Owns.nil _ _ _ _).toF, Nums.nil _ _, Nums.nil _ _, Nums.nil _ _, fun g h => (by cases h), fun g h => (by cases h), fun g h => (by cases h)⟩⟩⟩, FB.out⟩
  have HE := Hid.mk (HX1.out hc)
  have HC := Hid.mk hc
  clear HX1 HX0 hc
  have y0 := K2.out.cell 0 _ rfl
  have y1 := K2.out.cell 1 _ rfl
  have y2 := K2.out.cell 2 _ rfl
  have y3 := K2.out.cell 3 _ rfl
  have y4 := K2.out.cell 4 _ rfl
  have y5 := K2.out.cell 5 _ rfl
  have y6 := K2.out.cell 6 _ rfl
  have y7 := K2.out.cell 7 _ rfl
  have y8 := K2.out.cell 8 _ rfl
  have y9 := K2.out.cell 9 _ rfl
  have y10 := K2.out.cell 10 _ rfl
  have y11 := K2.out.cell 11 _ rfl
  have y12 := K2.out.cell 12 _ rfl
  obtain ⟨⟨r0, g0⟩, ⟨r1, g1⟩, ⟨r2, g2⟩, ⟨r3, g3⟩, ⟨r4, g4⟩, ⟨r5, g5⟩, ⟨r6, g6⟩, ⟨r7, g7⟩, ⟨r8, g8⟩, ⟨r9, g9⟩, ⟨r10, g10⟩, ⟨r11, g11⟩, ⟨r12, g12⟩, z0, z1, z2, z3, z4, z5, z6, z7, z8, z9, z10, z11, z12⟩ := resC13 (x0 := .int .i64 ii) (x1 := .int .i64 pp) (x2 := .int .i64 wt) (x3 := .int .i64 wv) (x4 := .int .i64 1) (x5 := .int .i64 (-1)) (x6 := .int .i64 wb) (x7 := .int .i64 wbt) (x8 := .slice Ac nc kc) (x9 := .int .i64 wb) (x10 := .slice none 0 0) (x11 := .slice none 0 0) (x12 := .slice none 0 0) R2.out
  have O3 : Hid (CoRows W2 (w.heap.size + 2) ⟨ii, pp, wt, wv, 1, -1, wb, wbt, es, wb, [], [], []⟩ (.slice Ac nc kc) (.slice none 0 0) (.slice none 0 0) (.slice none 0 0)) := ⟨OW2.out.toF, Nums.nil _ _, Nums.nil _ _, Nums.nil _ _, fun g h => (by cases h), fun g h => (by cases h), fun g h => (by cases h)⟩
  have FO := Hid.mk (rowsC13 O3.out (show w.heap.size + 1 < w.heap.size + 2 by omega) (.int .i64 ii) (.int .i64 pp) (.int .i64 wt) (.int .i64 wv) (.int .i64 1) (.int .i64 (-1)) (.int .i64 wb) (.int .i64 wbt) (.slice Ac nc kc) (.int .i64 wb) (.slice none 0 0) (.slice none 0 0) (.slice none 0 0))
  have FB := Hid.mk (belowC13 B2.out (show w.heap.size ≤ w.heap.size + 1 by omega) (.int .i64 ii) (.int .i64 pp) (.int .i64 wt) (.int .i64 wv) (.int .i64 1) (.int .i64 (-1)) (.int .i64 wb) (.int .i64 wbt) (.slice Ac nc kc) (.int .i64 wb) (.slice none 0 0) (.slice none 0 0) (.slice none 0 0))
  have HWW : Hid (w.heap.size ≤ w.heap.size + 2) := by unfold Hid; omega
  clear K2 R2 B2 O3 OW2
  go_wp2_with fail
  exact bodyPost_ret (v := .tuple #[.agg #[.int .i64 ii, .int .i64 pp, .int .i64 wt, .int .i64 wv, .int .i64 1, .int .i64 (-1), .int .i64 wb, .int .i64 wbt, .slice Ac nc kc, .int .i64 wb, .slice none 0 0, .slice none 0 0, .slice none 0 0], .bool true]) (by simp [results, go_sem, z0, z1, z2, z3, z4, z5, z6, z7, z8, z9, z10, z11, z12]) rfl ⟨⟨_, by rw [HC.out], by rw [HE.out]; exact ⟨_, _, _, _, rfl, FO.out.mono HWW.out⟩⟩, FB.out⟩
end Go.Proofs.Ytjejcpieajeflaa
