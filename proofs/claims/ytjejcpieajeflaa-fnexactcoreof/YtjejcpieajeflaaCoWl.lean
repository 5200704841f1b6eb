/-
  Contracts of CoreWal of both packages.
-/
import Derived.Test.YtjejcpieajeflaaRows
import Derived.Test.YtjejcpieajeflaaCoI5
import Derived.Test.YtjejcpieajeflaaCoS5
import Derived.Test.YtjejcpieajeflaaCoCp
import Derived.Deep.Cut
import Derived.Handy
namespace Go.Proofs.Ytjejcpieajeflaa
open Go.ChangeShapes Go.WideShapes Go.ChangeAt Go.RowKit Go.PlainAid
set_option linter.unusedVariables false

/-- The log of a core. -/
noncomputable def walX (x : Cor) : Wl := if corOk x = true then corW x else wal0
set_option maxRecDepth 20000 in
set_option maxHeartbeats 8000000 in
theorem specCoreWal (x : Cor) (v : Value) (w : World) (B : Nat) (hv : CorV w B v x) (hs : ShortC x) (hB : B ≤ w.heap.size) : Calls Try.prog 15 #[v] w fun e w' => (∃ u, e = .returned u ∧ WalO w' w.heap.size u (walX x)) ∧ Below w.heap.size w w' := by
  obtain ⟨ci, cp, ct, cv, cr, cd, cb, cbt, lg, cc, ys, ns, ms⟩ := x
  have HV : Hid (CorV w B v ⟨ci, cp, ct, cv, cr, cd, cb, cbt, lg, cc, ys, ns, ms⟩) := hv
  have HS : Hid (ShortC ⟨ci, cp, ct, cv, cr, cd, cb, cbt, lg, cc, ys, ns, ms⟩) := hs
  have HBB : Hid (B ≤ w.heap.size) := hB
  obtain ⟨u0, u1, u2, u3, rfl, hl, hy, hn, hm⟩ := hv
  have HL : Hid (Lies w B 2 u0 (entR lg)) := hl
  obtain ⟨A0, c0, rfl, _⟩ := ent_look hl
  obtain ⟨A1, c1, rfl, _⟩ := hy
  obtain ⟨A2, c2, rfl, _⟩ := hn
  obtain ⟨A3, c3, rfl, _⟩ := hm
  unfold vCo at HV ⊢
  simp only at HV ⊢
  have HX1 : Hid (corOk ⟨ci, cp, ct, cv, cr, cd, cb, cbt, lg, cc, ys, ns, ms⟩ = true → walX ⟨ci, cp, ct, cv, cr, cd, cb, cbt, lg, cc, ys, ns, ms⟩ = ⟨ct, cv, cb, cbt, lg⟩) := fun h => by unfold walX; rw [if_pos h]; rfl
  have HX0 : Hid (corOk ⟨ci, cp, ct, cv, cr, cd, cb, cbt, lg, cc, ys, ns, ms⟩ = false → walX ⟨ci, cp, ct, cv, cr, cd, cb, cbt, lg, cc, ys, ns, ms⟩ = wal0) := fun h => by unfold walX; rw [if_neg (by rw [h]; exact Bool.false_ne_true)]
  clear hl hs hB
  generalize hg0 : lg.length = n0 at *
  generalize hg1 : ys.length = n1 at *
  generalize hg2 : ns.length = n2 at *
  generalize hg3 : ms.length = n3 at *
  clear hg0 hg1 hg2 hg3
  obtain ⟨W0, hW0⟩ : ∃ W0, W0 = (w.alloc (.cells #[.int .i64 ci, .int .i64 cp, .int .i64 ct, .int .i64 cv, .int .i64 cr, .int .i64 cd, .int .i64 cb, .int .i64 cbt, .slice A0 n0 c0, .int .i64 cc, .slice A1 n1 c1, .slice A2 n2 c2, .slice A3 n3 c3] 30)).alloc (.cells #[.int .i64 0, .int .i64 0, .int .i64 0, .int .i64 0, .slice none 0 0] 35) := ⟨_, rfl⟩
  have B0 : Hid (Below w.heap.size w W0) := by unfold Hid; rw [hW0]; exact ((Below.refl _ w).alloc (Nat.le_refl _) _).alloc (by simp) _
  have K0 : Hid (Blk W0 w.heap.size #[.int .i64 ci, .int .i64 cp, .int .i64 ct, .int .i64 cv, .int .i64 cr, .int .i64 cd, .int .i64 cb, .int .i64 cbt, .slice A0 n0 c0, .int .i64 cc, .slice A1 n1 c1, .slice A2 n2 c2, .slice A3 n3 c3] 30) := by unfold Hid; rw [hW0]; exact (Blk.new w _ _).alloc _
  have R0 : Hid (Blk W0 (w.heap.size + 1) #[.int .i64 0, .int .i64 0, .int .i64 0, .int .i64 0, .slice none 0 0] 35) := by unfold Hid; rw [hW0]; have := Blk.new (w.alloc (.cells #[.int .i64 ci, .int .i64 cp, .int .i64 ct, .int .i64 cv, .int .i64 cr, .int .i64 cd, .int .i64 cb, .int .i64 cbt, .slice A0 n0 c0, .int .i64 cc, .slice A1 n1 c1, .slice A2 n2 c2, .slice A3 n3 c3] 30)) #[.int .i64 0, .int .i64 0, .int .i64 0, .int .i64 0, .slice none 0 0] 35; simp only [World.size_alloc] at this; exact this
  have HZ0 : Hid (w.heap.size + 2 ≤ W0.heap.size) := by unfold Hid; rw [hW0]; simp
  have hok := specCoreOk ⟨ci, cp, ct, cv, cr, cd, cb, cbt, lg, cc, ys, ns, ms⟩ (.agg #[.int .i64 ci, .int .i64 cp, .int .i64 ct, .int .i64 cv, .int .i64 cr, .int .i64 cd, .int .i64 cb, .int .i64 cbt, .slice A0 n0 c0, .int .i64 cc, .slice A1 n1 c1, .slice A2 n2 c2, .slice A3 n3 c3]) W0 B (HV.out.on (B0.out.mono HBB.out)) HS.out (Nat.le_trans HBB.out B0.out.size)
  go_enter Try.func15, Try.ntmps15
  go_wp2_with fail
  rw [← hW0]
  clear hW0
  refine hok.mono ?_
  rintro e W1 ⟨rfl, hb⟩
  have B1 : Hid (Below w.heap.size w W1) := B0.out.trans (hb.mono B0.out.size)
  have K1 : Hid (Blk W1 w.heap.size #[.int .i64 ci, .int .i64 cp, .int .i64 ct, .int .i64 cv, .int .i64 cr, .int .i64 cd, .int .i64 cb, .int .i64 cbt, .slice A0 n0 c0, .int .i64 cc, .slice A1 n1 c1, .slice A2 n2 c2, .slice A3 n3 c3] 30) := K0.out.on hb K0.out.lt
  have R1 : Hid (Blk W1 (w.heap.size + 1) #[.int .i64 0, .int .i64 0, .int .i64 0, .int .i64 0, .slice none 0 0] 35) := R0.out.on hb R0.out.lt
  have HZ1 : Hid (w.heap.size + 2 ≤ W1.heap.size) := Nat.le_trans HZ0.out hb.size
  clear hok hb K0 R0 B0 HZ0
  cases hc : corOk ⟨ci, cp, ct, cv, cr, cd, cb, cbt, lg, cc, ys, ns, ms⟩
  · have HE := Hid.mk (HX0.out hc)
    obtain ⟨⟨r0, g0⟩, ⟨r1, g1⟩, ⟨r2, g2⟩, ⟨r3, g3⟩, ⟨r4, g4⟩, z0, z1, z2, z3, z4⟩ := resW5 (x0 := .int .i64 0) (x1 := .int .i64 0) (x2 := .int .i64 0) (x3 := .int .i64 0) (x4 := .slice none 0 0) R1.out
    have FB := Hid.mk (belowW5 B1.out (show w.heap.size ≤ w.heap.size + 1 by omega) (.int .i64 0) (.int .i64 0) (.int .i64 0) (.int .i64 0) (.slice none 0 0))
    clear K1 R1 B1 HX1 HX0 hc
    go_wp2_with fail
    exact bodyPost_ret (v := .agg #[.int .i64 0, .int .i64 0, .int .i64 0, .int .i64 0, .slice none 0 0]) (by simp [results, go_sem, z0, z1, z2, z3, z4]) rfl ⟨⟨_, rfl, by rw [HE.out]; exact ⟨_, rfl, Owns.nil _ _ _ _⟩⟩, FB.out⟩
  have HE := Hid.mk (HX1.out hc)
  clear HX1 HX0 hc
  have y0 := K1.out.cell 0 _ rfl
  have y1 := K1.out.cell 1 _ rfl
  have y2 := K1.out.cell 2 _ rfl
  have y3 := K1.out.cell 3 _ rfl
  have y4 := K1.out.cell 4 _ rfl
  have y5 := K1.out.cell 5 _ rfl
  have y6 := K1.out.cell 6 _ rfl
  have y7 := K1.out.cell 7 _ rfl
  have y8 := K1.out.cell 8 _ rfl
  have y9 := K1.out.cell 9 _ rfl
  have y10 := K1.out.cell 10 _ rfl
  have y11 := K1.out.cell 11 _ rfl
  have y12 := K1.out.cell 12 _ rfl
  go_wp2_with fail
  refine (walS ci cp ct cv cr cd cb cbt lg cc A0 n0 c0 (.slice A1 n1 c1) (.slice A2 n2 c2) (.slice A3 n3 c3) W1 B (HL.out.on (B1.out.mono HBB.out)) HS.out.n (Nat.le_trans HBB.out B1.out.size)).mono ?_
  rintro e W3 ⟨⟨uu, rfl, hO⟩, hb⟩
  obtain ⟨Ap, mp, kp, rfl⟩ := hO.shape
  have FO0 : Hid (Owns W3 (w.heap.size + 2) 88 2 (.slice Ap mp kp) (entR lg)) := hO.mono HZ1.out
  have B3 : Hid (Below w.heap.size w W3) := B1.out.trans (hb.mono B1.out.size)
  have R3 := Hid.mk (R1.out.on hb R1.out.lt)
  clear hO hb R1 B1 K1 y0 y1 y2 y3 y4 y5 y6 y7 y8 y9 y10 y11 y12
  obtain ⟨⟨r0, g0⟩, ⟨r1, g1⟩, ⟨r2, g2⟩, ⟨r3, g3⟩, ⟨r4, g4⟩, z0, z1, z2, z3, z4⟩ := resW5 (x0 := .int .i64 ct) (x1 := .int .i64 cv) (x2 := .int .i64 cb) (x3 := .int .i64 cbt) (x4 := .slice Ap mp kp) R3.out
  have FO := Hid.mk (ownsW5 FO0.out (show w.heap.size + 1 < w.heap.size + 2 by omega) (.int .i64 ct) (.int .i64 cv) (.int .i64 cb) (.int .i64 cbt) (.slice Ap mp kp))
  have FB := Hid.mk (belowW5 B3.out (show w.heap.size ≤ w.heap.size + 1 by omega) (.int .i64 ct) (.int .i64 cv) (.int .i64 cb) (.int .i64 cbt) (.slice Ap mp kp))
  have HWW : Hid (w.heap.size ≤ w.heap.size + 2) := by unfold Hid; omega
  clear R3 FO0 B3
  go_wp2_with fail
  exact bodyPost_ret (v := .agg #[.int .i64 ct, .int .i64 cv, .int .i64 cb, .int .i64 cbt, .slice Ap mp kp]) (by simp [results, go_sem, z0, z1, z2, z3, z4]) rfl ⟨⟨_, rfl, by rw [HE.out]; exact ⟨_, rfl, FO.out.mono HWW.out⟩⟩, FB.out⟩
set_option maxRecDepth 20000 in
set_option maxHeartbeats 8000000 in
theorem implCoreWal (x : Cor) (v : Value) (w : World) (B : Nat) (hv : CorV w B v x) (hs : ShortC x) (hB : B ≤ w.heap.size) : Calls Try.prog 16 #[v] w fun e w' => (∃ u, e = .returned u ∧ WalO w' w.heap.size u (walX x)) ∧ Below w.heap.size w w' := by
  obtain ⟨ci, cp, ct, cv, cr, cd, cb, cbt, lg, cc, ys, ns, ms⟩ := x
  have HV : Hid (CorV w B v ⟨ci, cp, ct, cv, cr, cd, cb, cbt, lg, cc, ys, ns, ms⟩) := hv
  have HS : Hid (ShortC ⟨ci, cp, ct, cv, cr, cd, cb, cbt, lg, cc, ys, ns, ms⟩) := hs
  have HBB : Hid (B ≤ w.heap.size) := hB
  obtain ⟨u0, u1, u2, u3, rfl, hl, hy, hn, hm⟩ := hv
  have HL : Hid (Lies w B 2 u0 (entR lg)) := hl
  obtain ⟨A0, c0, rfl, _⟩ := ent_look hl
  obtain ⟨A1, c1, rfl, _⟩ := hy
  obtain ⟨A2, c2, rfl, _⟩ := hn
  obtain ⟨A3, c3, rfl, _⟩ := hm
  unfold vCo at HV ⊢
  simp only at HV ⊢
  have HX1 : Hid (corOk ⟨ci, cp, ct, cv, cr, cd, cb, cbt, lg, cc, ys, ns, ms⟩ = true → walX ⟨ci, cp, ct, cv, cr, cd, cb, cbt, lg, cc, ys, ns, ms⟩ = ⟨ct, cv, cb, cbt, lg⟩) := fun h => by unfold walX; rw [if_pos h]; rfl
  have HX0 : Hid (corOk ⟨ci, cp, ct, cv, cr, cd, cb, cbt, lg, cc, ys, ns, ms⟩ = false → walX ⟨ci, cp, ct, cv, cr, cd, cb, cbt, lg, cc, ys, ns, ms⟩ = wal0) := fun h => by unfold walX; rw [if_neg (by rw [h]; exact Bool.false_ne_true)]
  clear hl hs hB
  generalize hg0 : lg.length = n0 at *
  generalize hg1 : ys.length = n1 at *
  generalize hg2 : ns.length = n2 at *
  generalize hg3 : ms.length = n3 at *
  clear hg0 hg1 hg2 hg3
  obtain ⟨W0, hW0⟩ : ∃ W0, W0 = (w.alloc (.cells #[.int .i64 ci, .int .i64 cp, .int .i64 ct, .int .i64 cv, .int .i64 cr, .int .i64 cd, .int .i64 cb, .int .i64 cbt, .slice A0 n0 c0, .int .i64 cc, .slice A1 n1 c1, .slice A2 n2 c2, .slice A3 n3 c3] 30)).alloc (.cells #[.int .i64 0, .int .i64 0, .int .i64 0, .int .i64 0, .slice none 0 0] 35) := ⟨_, rfl⟩
  have B0 : Hid (Below w.heap.size w W0) := by unfold Hid; rw [hW0]; exact ((Below.refl _ w).alloc (Nat.le_refl _) _).alloc (by simp) _
  have K0 : Hid (Blk W0 w.heap.size #[.int .i64 ci, .int .i64 cp, .int .i64 ct, .int .i64 cv, .int .i64 cr, .int .i64 cd, .int .i64 cb, .int .i64 cbt, .slice A0 n0 c0, .int .i64 cc, .slice A1 n1 c1, .slice A2 n2 c2, .slice A3 n3 c3] 30) := by unfold Hid; rw [hW0]; exact (Blk.new w _ _).alloc _
  have R0 : Hid (Blk W0 (w.heap.size + 1) #[.int .i64 0, .int .i64 0, .int .i64 0, .int .i64 0, .slice none 0 0] 35) := by unfold Hid; rw [hW0]; have := Blk.new (w.alloc (.cells #[.int .i64 ci, .int .i64 cp, .int .i64 ct, .int .i64 cv, .int .i64 cr, .int .i64 cd, .int .i64 cb, .int .i64 cbt, .slice A0 n0 c0, .int .i64 cc, .slice A1 n1 c1, .slice A2 n2 c2, .slice A3 n3 c3] 30)) #[.int .i64 0, .int .i64 0, .int .i64 0, .int .i64 0, .slice none 0 0] 35; simp only [World.size_alloc] at this; exact this
  have HZ0 : Hid (w.heap.size + 2 ≤ W0.heap.size) := by unfold Hid; rw [hW0]; simp
  have hok := implCoreOk ⟨ci, cp, ct, cv, cr, cd, cb, cbt, lg, cc, ys, ns, ms⟩ (.agg #[.int .i64 ci, .int .i64 cp, .int .i64 ct, .int .i64 cv, .int .i64 cr, .int .i64 cd, .int .i64 cb, .int .i64 cbt, .slice A0 n0 c0, .int .i64 cc, .slice A1 n1 c1, .slice A2 n2 c2, .slice A3 n3 c3]) W0 B (HV.out.on (B0.out.mono HBB.out)) HS.out (Nat.le_trans HBB.out B0.out.size)
  go_enter Try.func16, Try.ntmps16
  go_wp2_with fail
  rw [← hW0]
  clear hW0
  refine hok.mono ?_
  rintro e W1 ⟨rfl, hb⟩
  have B1 : Hid (Below w.heap.size w W1) := B0.out.trans (hb.mono B0.out.size)
  have K1 : Hid (Blk W1 w.heap.size #[.int .i64 ci, .int .i64 cp, .int .i64 ct, .int .i64 cv, .int .i64 cr, .int .i64 cd, .int .i64 cb, .int .i64 cbt, .slice A0 n0 c0, .int .i64 cc, .slice A1 n1 c1, .slice A2 n2 c2, .slice A3 n3 c3] 30) := K0.out.on hb K0.out.lt
  have R1 : Hid (Blk W1 (w.heap.size + 1) #[.int .i64 0, .int .i64 0, .int .i64 0, .int .i64 0, .slice none 0 0] 35) := R0.out.on hb R0.out.lt
  have HZ1 : Hid (w.heap.size + 2 ≤ W1.heap.size) := Nat.le_trans HZ0.out hb.size
  clear hok hb K0 R0 B0 HZ0
  cases hc : corOk ⟨ci, cp, ct, cv, cr, cd, cb, cbt, lg, cc, ys, ns, ms⟩
  · have HE := Hid.mk (HX0.out hc)
    obtain ⟨⟨r0, g0⟩, ⟨r1, g1⟩, ⟨r2, g2⟩, ⟨r3, g3⟩, ⟨r4, g4⟩, z0, z1, z2, z3, z4⟩ := resW5 (x0 := .int .i64 0) (x1 := .int .i64 0) (x2 := .int .i64 0) (x3 := .int .i64 0) (x4 := .slice none 0 0) R1.out
    have FB := Hid.mk (belowW5 B1.out (show w.heap.size ≤ w.heap.size + 1 by omega) (.int .i64 0) (.int .i64 0) (.int .i64 0) (.int .i64 0) (.slice none 0 0))
    clear K1 R1 B1 HX1 HX0 hc
    go_wp2_with fail
    exact bodyPost_ret (v := .agg #[.int .i64 0, .int .i64 0, .int .i64 0, .int .i64 0, .slice none 0 0]) (by simp [results, go_sem, z0, z1, z2, z3, z4]) rfl ⟨⟨_, rfl, by rw [HE.out]; exact ⟨_, rfl, Owns.nil _ _ _ _⟩⟩, FB.out⟩
  have HE := Hid.mk (HX1.out hc)
  clear HX1 HX0 hc
  have y0 := K1.out.cell 0 _ rfl
  have y1 := K1.out.cell 1 _ rfl
  have y2 := K1.out.cell 2 _ rfl
  have y3 := K1.out.cell 3 _ rfl
  have y4 := K1.out.cell 4 _ rfl
  have y5 := K1.out.cell 5 _ rfl
  have y6 := K1.out.cell 6 _ rfl
  have y7 := K1.out.cell 7 _ rfl
  have y8 := K1.out.cell 8 _ rfl
  have y9 := K1.out.cell 9 _ rfl
  have y10 := K1.out.cell 10 _ rfl
  have y11 := K1.out.cell 11 _ rfl
  have y12 := K1.out.cell 12 _ rfl
  go_wp2_with fail
  refine (walI ci cp ct cv cr cd cb cbt cc A0 n0 c0 (.slice A1 n1 c1) (.slice A2 n2 c2) (.slice A3 n3 c3) W1).mono ?_
  rintro e W2 ⟨rfl, hb2⟩
  have hcp := copyI ⟨ct, cv, cb, cbt, lg⟩ (.agg #[.int .i64 ct, .int .i64 cv, .int .i64 cb, .int .i64 cbt, .slice A0 n0 c0]) W2 B ⟨_, rfl, HL.out.on ((B1.out.trans (hb2.mono B1.out.size)).mono HBB.out)⟩ HS.out.n HS.out.d (Nat.le_trans HBB.out (B1.out.trans (hb2.mono B1.out.size)).size)
  go_wp2_with fail
  refine hcp.mono ?_
  rintro e W3 ⟨uw, rfl, ⟨uu, rfl, hO'⟩, hb3⟩
  have hO := hO'.mono hb2.size
  have hb := hb2.trans (hb3.mono hb2.size)
  clear hcp hb2 hb3 hO'
  obtain ⟨Ap, mp, kp, rfl⟩ := hO.shape
  have FO0 : Hid (Owns W3 (w.heap.size + 2) 88 2 (.slice Ap mp kp) (entR lg)) := hO.mono HZ1.out
  have B3 : Hid (Below w.heap.size w W3) := B1.out.trans (hb.mono B1.out.size)
  have R3 := Hid.mk (R1.out.on hb R1.out.lt)
  clear hO hb R1 B1 K1 y0 y1 y2 y3 y4 y5 y6 y7 y8 y9 y10 y11 y12
  obtain ⟨⟨r0, g0⟩, ⟨r1, g1⟩, ⟨r2, g2⟩, ⟨r3, g3⟩, ⟨r4, g4⟩, z0, z1, z2, z3, z4⟩ := resW5 (x0 := .int .i64 ct) (x1 := .int .i64 cv) (x2 := .int .i64 cb) (x3 := .int .i64 cbt) (x4 := .slice Ap mp kp) R3.out
  have FO := Hid.mk (ownsW5 FO0.out (show w.heap.size + 1 < w.heap.size + 2 by omega) (.int .i64 ct) (.int .i64 cv) (.int .i64 cb) (.int .i64 cbt) (.slice Ap mp kp))
  have FB := Hid.mk (belowW5 B3.out (show w.heap.size ≤ w.heap.size + 1 by omega) (.int .i64 ct) (.int .i64 cv) (.int .i64 cb) (.int .i64 cbt) (.slice Ap mp kp))
  have HWW : Hid (w.heap.size ≤ w.heap.size + 2) := by unfold Hid; omega
  clear R3 FO0 B3
  go_wp2_with fail
  exact bodyPost_ret (v := .agg #[.int .i64 ct, .int .i64 cv, .int .i64 cb, .int .i64 cbt, .slice Ap mp kp]) (by simp [results, go_sem, z0, z1, z2, z3, z4]) rfl ⟨⟨_, rfl, by rw [HE.out]; exact ⟨_, rfl, FO.out.mono HWW.out⟩⟩, FB.out⟩
end Go.Proofs.Ytjejcpieajeflaa
