/- CoS4 CoS5 -/
import Derived.Test.YtlhoonohpfpkbaaRows
import Derived.Test.YtlhoonohpfpkbaaQp10
import Derived.Deep.Cut
import Derived.Handy
import Derived.Test.YtlhoonohpfpkbaaQp11
open List (setIfInBounds_toArray set_cons_zero set_cons_succ)
namespace Go.Proofs.Ytlhoonohpfpkbaa
open Go.ChangeShapes Go.WideShapes Go.ChangeAt Go.RowKit Go.PlainAid
set_option linter.unusedVariables false
set_option maxRecDepth 20000 in
set_option maxHeartbeats 16000000 in
theorem coreS3 (ci cp ct cv cd cb cbt : Int) (lg : List Ent) (cc : Int) (ys ns ms : List Int) (u0 u1 u2 u3 : Value) (w : World) (B : Nat) (hl : Lies w B 2 u0 (entR lg)) (hy : NumsV w B u1 ys) (hn : NumsV w B u2 ns) (hm : NumsV w B u3 ms) (hs : ShortC ⟨ci, cp, ct, cv, 3, cd, cb, cbt, lg, cc, ys, ns, ms⟩) (hB : B ≤ w.heap.size) (hok : COk0 ⟨ci, cp, ct, cv, 3, cd, cb, cbt, lg, cc, ys, ns, ms⟩) : Calls Try.prog 22 #[.agg #[.int .i64 ci, .int .i64 cp, .int .i64 ct, .int .i64 cv, .int .i64 3, .int .i64 cd, .int .i64 cb, .int .i64 cbt, u0, .int .i64 cc, u1, u2, u3]] w fun e w' => e = .returned (.bool (corOk ⟨ci, cp, ct, cv, 3, cd, cb, cbt, lg, cc, ys, ns, ms⟩)) ∧ Below w.heap.size w w' := by
 have HYv : Hid (NumsV w B u1 ys ∧ NumsV w B u2 ns ∧ NumsV w B u3 ms) := ⟨hy, hn, hm⟩
 have HLg : Hid (Lies w B 2 u0 (entR lg)) := hl
 have HBB : Hid (B ≤ w.heap.size) := hB
 have HS : Hid (ShortC ⟨ci, cp, ct, cv, 3, cd, cb, cbt, lg, cc, ys, ns, ms⟩) := hs
 obtain ⟨A0, c0, rfl, _⟩ := ent_look hl
 obtain ⟨A1, c1, rfl, _, _, hc1⟩ := hy
 obtain ⟨A2, c2, rfl, _, _, hc2⟩ := hn
 obtain ⟨A3, c3, rfl, _, _, hc3⟩ := hm
 have H1 : Hid (∀ j, j < ys.length → ∃ g off, A1 = some ⟨g, off, none⟩ ∧ g < B ∧ w.cell? ⟨g, off + j, none⟩ = some (.int .i64 (ys.getD j 0))) := hc1
 have H2 : Hid (∀ j, j < ns.length → ∃ g off, A2 = some ⟨g, off, none⟩ ∧ g < B ∧ w.cell? ⟨g, off + j, none⟩ = some (.int .i64 (ns.getD j 0))) := hc2
 have H3 : Hid (∀ j, j < ms.length → ∃ g off, A3 = some ⟨g, off, none⟩ ∧ g < B ∧ w.cell? ⟨g, off + j, none⟩ = some (.int .i64 (ms.getD j 0))) := hc3
 clear hc1 hc2 hc3
 have a1 := inB cp 1 5
 have a2 := inB ci 0 (cp - 1)
 have cW := fun wx h1 h2 => walS ci cp ct cv 3 cd cb cbt lg cc A0 lg.length c0 (.slice A1 ys.length c1) (.slice A2 ns.length c2) (.slice A3 ms.length c3) wx B h1 hs.n h2
 have cO := fun ux wx h1 h2 => specWalOk (corW ⟨ci, cp, ct, cv, 3, cd, cb, cbt, lg, cc, ys, ns, ms⟩) (.agg #[.int .i64 ct, .int .i64 cv, .int .i64 cb, .int .i64 cbt, ux]) wx wx.heap.size ⟨_, rfl, h1⟩ ⟨Nat.le_trans hs.n (by decide), fun e he => Nat.le_trans (hs.d e he) (by decide)⟩ h2
 have cL := fun h0 h1 wx => lastS ci cp ct cv 3 cd cb cbt cc A0 lg.length c0 (.slice A1 ys.length c1) (.slice A2 ns.length c2) (.slice A3 ms.length c3) wx h0 h1 hs.n
 have a4 := inB cc cb (cb + (lg.length : Int))
 have HCl : Hid (cLast ⟨ci, cp, ct, cv, 3, cd, cb, cbt, lg, cc, ys, ns, ms⟩ = cb + (lg.length : Int)) := rfl
 have HWl : Hid (walOk (corW ⟨ci, cp, ct, cv, 3, cd, cb, cbt, lg, cc, ys, ns, ms⟩) = true → 0 ≤ cb ∧ cb ≤ 100000) := fun h => (walOk_in h).2.2.1
 have q0 : (lg.length : Int) ≤ 1048576 := by have := hs.n; simp only at this; omega
 have qy : (ys.length : Int) ≤ 1048576 := by have := hs.y; simp only at this; omega
 have qn : (ns.length : Int) ≤ 1048576 := by have := hs.q; simp only at this; omega
 have qm : (ms.length : Int) ≤ 1048576 := by have := hs.m; simp only at this; omega
 clear hl hB
 have HR : Hid (corOk ⟨ci, cp, ct, cv, 3, cd, cb, cbt, lg, cc, ys, ns, ms⟩ = roleB ⟨ci, cp, ct, cv, 3, cd, cb, cbt, lg, cc, ys, ns, ms⟩) := corOk_and hok
 obtain ⟨⟨p0, p1⟩, ⟨i0, i1⟩, h3, h4, m⟩ := hok
 simp only at p0 p1 i0 i1 h4
 rw [HCl.out] at m
 obtain ⟨m0, m1⟩ := m
 simp only at m0
 rw [show inIt cp 1 5 = true by unfold inIt; simp [p0, p1]] at a1
 rw [show inIt ci 0 (cp - 1) = true by unfold inIt; simp [i0, i1]] at a2
 rw [h3] at cO
 obtain ⟨b0, b1⟩ := HWl.out h3
 have cLS := cL b0 (by omega)
 rw [show inIt cc cb (cb + (lg.length : Int)) = true by unfold inIt; simp [m0, m1]] at a4
 have z4 : decide (cp ≤ cv) = false := decide_eq_false (by omega)
 have w1 : IntKind.i64.wrap (cp - 1) = cp - 1 := by rw [IntKind.wrap_i64]; omega
 clear h3 h4 m0 m1 HWl cL hs
 have HNo : Hid (¬ RLead ⟨ci, cp, ct, cv, 3, cd, cb, cbt, lg, cc, ys, ns, ms⟩ → corOk ⟨ci, cp, ct, cv, 3, cd, cb, cbt, lg, cc, ys, ns, ms⟩ = false) := fun h => by
  rw [HR.out]
  refine roleB_no fun q => ?_
  rcases q with ⟨e, q⟩ | ⟨e, q⟩ | ⟨e, q⟩
  ·cases e
  ·cases e
  ·exact h q
 have HYe : Hid (RLead ⟨ci, cp, ct, cv, 3, cd, cb, cbt, lg, cc, ys, ns, ms⟩ → corOk ⟨ci, cp, ct, cv, 3, cd, cb, cbt, lg, cc, ys, ns, ms⟩ = true) := fun h => by
  rw [HR.out]
  exact roleB_yes (.inr (.inr ⟨rfl, h⟩))
 have HC1 : Hid (¬ 1 ≤ ct → corOk ⟨ci, cp, ct, cv, 3, cd, cb, cbt, lg, cc, ys, ns, ms⟩ = false) := fun h => HNo.out fun q => h q.t
 have HC2 : Hid (¬ cv = ci → corOk ⟨ci, cp, ct, cv, 3, cd, cb, cbt, lg, cc, ys, ns, ms⟩ = false) := fun h => HNo.out fun q => h q.v
 have HC3 : Hid (¬ cd = ci → corOk ⟨ci, cp, ct, cv, 3, cd, cb, cbt, lg, cc, ys, ns, ms⟩ = false) := fun h => HNo.out fun q => h q.l
 have HC4 : Hid (¬ ys.length = 0 → corOk ⟨ci, cp, ct, cv, 3, cd, cb, cbt, lg, cc, ys, ns, ms⟩ = false) := fun h => HNo.out fun q => h q.y
 have HC5 : Hid (¬ (ns.length : Int) = cp → corOk ⟨ci, cp, ct, cv, 3, cd, cb, cbt, lg, cc, ys, ns, ms⟩ = false) := fun h => HNo.out fun q => h q.n
 have HC6 : Hid (¬ (ms.length : Int) = cp → corOk ⟨ci, cp, ct, cv, 3, cd, cb, cbt, lg, cc, ys, ns, ms⟩ = false) := fun h => HNo.out fun q => h q.m
 have HC7 : Hid (¬ ms.getD ci.toNat 0 = cb + (lg.length : Int) → corOk ⟨ci, cp, ct, cv, 3, cd, cb, cbt, lg, cc, ys, ns, ms⟩ = false) := fun h => HNo.out fun q => h (by have := q.o; rw [HCl.out] at this; exact this)
 have HI : Hid (∀ j, j < ms.length → ¬ (0 ≤ ms.getD j 0 ∧ ms.getD j 0 < ns.getD j 0 ∧ ns.getD j 0 ≤ cb + (lg.length : Int) + 1) → corOk ⟨ci, cp, ct, cv, 3, cd, cb, cbt, lg, cc, ys, ns, ms⟩ = false) := fun j hj h => HNo.out fun q => h (by have := q.a j hj; rw [HCl.out] at this; exact this)
 have HA : Hid (1 ≤ ct → cv = ci → cd = ci → ys.length = 0 → (ns.length : Int) = cp → (ms.length : Int) = cp → ms.getD ci.toNat 0 = cb + (lg.length : Int) → (∀ j, j < ms.length → 0 ≤ ms.getD j 0 ∧ ms.getD j 0 < ns.getD j 0 ∧ ns.getD j 0 ≤ cb + (lg.length : Int) + 1) → corOk ⟨ci, cp, ct, cv, 3, cd, cb, cbt, lg, cc, ys, ns, ms⟩ = true) := fun h1 h2 h3 h4 h5 h6 h7 h8 => HYe.out ⟨h1, h2, h3, h4, h5, h6, fun j hj => by rw [HCl.out]; exact h8 j hj, by rw [HCl.out]; exact h7⟩
 clear HNo HYe HR
 generalize lg.length = n0 at *
 generalize ys.length = n1 at *
 generalize ns.length = n2 at *
 generalize ms.length = n3 at *
 obtain ⟨X0, hX0⟩ : ∃ X0, X0 = w.alloc (.cells #[.int .i64 ci, .int .i64 cp, .int .i64 ct, .int .i64 cv, .int .i64 3, .int .i64 cd, .int .i64 cb, .int .i64 cbt, .slice A0 n0 c0, .int .i64 cc, .slice A1 n1 c1, .slice A2 n2 c2, .slice A3 n3 c3] 29) := ⟨_, rfl⟩
 have B0 : Hid (Below w.heap.size w X0) := by unfold Hid; rw [hX0]; exact (Below.refl _ _).alloc (Nat.le_refl _) _
 have K0 : Hid (Blk X0 w.heap.size #[.int .i64 ci, .int .i64 cp, .int .i64 ct, .int .i64 cv, .int .i64 3, .int .i64 cd, .int .i64 cb, .int .i64 cbt, .slice A0 n0 c0, .int .i64 cc, .slice A1 n1 c1, .slice A2 n2 c2, .slice A3 n3 c3] 29) := by unfold Hid; rw [hX0]; exact Blk.new w _ _
 go_enter Try.func22, Try.ntmps22
 go_wp2_with fail
 rw [← hX0]
 clear hX0
 refine wp_region_until (fun w' => w'.cell? ⟨w.heap.size, 0, none⟩ = some (.int .i64 ci) ∧ w'.cell? ⟨w.heap.size, 1, none⟩ = some (.int .i64 cp) ∧ w'.cell? ⟨w.heap.size, 2, none⟩ = some (.int .i64 ct) ∧ w'.cell? ⟨w.heap.size, 3, none⟩ = some (.int .i64 cv) ∧ w'.cell? ⟨w.heap.size, 4, none⟩ = some (.int .i64 3) ∧ w'.cell? ⟨w.heap.size, 5, none⟩ = some (.int .i64 cd) ∧ w'.cell? ⟨w.heap.size, 6, none⟩ = some (.int .i64 cb) ∧ w'.cell? ⟨w.heap.size, 7, none⟩ = some (.int .i64 cbt) ∧ w'.cell? ⟨w.heap.size, 8, none⟩ = some (.slice A0 n0 c0) ∧ w'.cell? ⟨w.heap.size, 9, none⟩ = some (.int .i64 cc) ∧ w'.cell? ⟨w.heap.size, 10, none⟩ = some (.slice A1 n1 c1) ∧ w'.cell? ⟨w.heap.size, 11, none⟩ = some (.slice A2 n2 c2) ∧ w'.cell? ⟨w.heap.size, 12, none⟩ = some (.slice A3 n3 c3)) (fun _ => false) 36 (by rfl) (by kernel_rfl) ?_
 have V0 : Hid (Below w.heap.size w X0.drew) := B0.out.trans ((Below.refl _ _).drew.mono B0.out.size)
 have KY0 := Hid.mk (K0.out.on ((Below.refl _ X0).drew) K0.out.lt)
 generalize X0.drew = Y0 at *
 have SS0 := Hid.mk (cellsC13 KY0.out)
 refine pF 0 ?_
 refine tF 1 SS0.out ?_
 refine uNe 2 (fun K hK => ?_)
 go_simp
 refine (a1 _).mono ?_
 rintro e w' ⟨rfl, rfl⟩
 refine hK.out _ _ (fun _ h => h) ?_
 clear hK K
 try simp only [Act.put, zQ1, zQ2, zQ3]
 refine pF 3 ?_
 refine pF 4 ?_
 refine pF 5 ?_
 refine tF 6 SS0.out ?_
 refine pF 7 ?_
 refine tF 8 SS0.out ?_
 refine pF 9 ?_
 refine uNe 10 (fun K hK => ?_)
 go_simp
 refine (a2 _).mono ?_
 rintro e w' ⟨rfl, rfl⟩
 refine hK.out _ _ (fun _ h => h) ?_
 clear hK K
 try simp only [Act.put, zQ1, zQ2, zQ3]
 refine pF 11 ?_
 refine pF 12 ?_
 refine pF 13 ?_
 refine tF 14 SS0.out ?_
 refine uNe 15 (fun K hK => ?_)
 go_simp
 refine (cW Y0 (HLg.out.on (V0.out.mono HBB.out)) (Nat.le_trans HBB.out V0.out.size)).mono ?_
 rintro e Y1 ⟨⟨uw, rfl, hOw⟩, hb⟩
 obtain ⟨Aw, mw, kw, rfl⟩ := hOw.shape
 have HOw := Hid.mk hOw
 clear hOw
 have V1 : Hid (Below w.heap.size w Y1) := V0.out.trans (hb.mono V0.out.size)
 have KY1 := Hid.mk (KY0.out.on hb KY0.out.lt)
 have SS1 := Hid.mk (cellsC13 KY1.out)
 clear hb
 refine hK.out _ _ (fun _ _ => SS1.out) ?_
 clear hK K
 try simp only [Act.put, zQ1, zQ2, zQ3]
 refine uNe 16 (fun K hK => ?_)
 go_simp
 refine (cO _ Y1 HOw.out.lies (Nat.le_refl _)).mono ?_
 rintro e Y2 ⟨rfl, hb⟩
 have V2 : Hid (Below w.heap.size w Y2) := V1.out.trans (hb.mono V1.out.size)
 have KY2 := Hid.mk (KY1.out.on hb KY1.out.lt)
 have SS2 := Hid.mk (cellsC13 KY2.out)
 clear hb
 refine hK.out _ _ (fun _ _ => SS2.out) ?_
 clear hK K
 try simp only [Act.put, zQ1, zQ2, zQ3]
 refine pF 17 ?_
 refine pF 18 ?_
 refine pF 19 ?_
 refine pF 20 ?_
 refine tF 21 SS2.out ?_
 refine pF 22 ?_
 refine tF 23 SS2.out ?_
 refine pF 24 ?_
 refine pF 25 ?_
 refine pF 26 ?_
 refine pF 27 ?_
 refine tF 28 SS2.out ?_
 refine pF 29 ?_
 refine tF 30 SS2.out ?_
 refine tF 31 SS2.out ?_
 refine uNe 32 (fun K hK => ?_)
 go_simp
 refine (cLS Y2).mono ?_
 rintro e Y3 ⟨rfl, hb⟩
 have V3 : Hid (Below w.heap.size w Y3) := V2.out.trans (hb.mono V2.out.size)
 have KY3 := Hid.mk (KY2.out.on hb KY2.out.lt)
 have SS3 := Hid.mk (cellsC13 KY3.out)
 clear hb
 refine hK.out _ _ (fun _ _ => SS3.out) ?_
 clear hK K
 try simp only [Act.put, zQ1, zQ2, zQ3]
 refine uNe 33 (fun K hK => ?_)
 go_simp
 refine (a4 _).mono ?_
 rintro e w' ⟨rfl, rfl⟩
 refine hK.out _ _ (fun _ h => h) ?_
 clear hK K
 try simp only [Act.put, zQ1, zQ2, zQ3]
 refine pF 34 ?_
 refine pF 35 ?_
 refine until_done (by kernel_rfl) ?_ _
 have BY : Hid (Below w.heap.size w Y3) := V3.out
 have KY : Hid (Blk Y3 w.heap.size #[.int .i64 ci, .int .i64 cp, .int .i64 ct, .int .i64 cv, .int .i64 3, .int .i64 cd, .int .i64 cb, .int .i64 cbt, .slice A0 n0 c0, .int .i64 cc, .slice A1 n1 c1, .slice A2 n2 c2, .slice A3 n3 c3] 29) := KY3.out
 clear V0 V1 V2 V3 KY0 KY1 KY2 KY3 SS0 SS1 SS2 HOw a1 a2 a4 cW cO
 clear SS3
 have w3 : IntKind.i64.wrap (cb + (n0 : Int) + 1) = cb + (n0 : Int) + 1 := by rw [IntKind.wrap_i64]; omega
 by_cases hq1 : 1 ≤ ct
 rotate_left
 ·have HE := Hid.mk (HC1.out (by omega))
  have za : decide (ct < 1) = true := decide_eq_true (by omega)
  clear HA hq1
  obtain ⟨k0, k1, k2, k3, k4, k5, k6, k7, k8, k9, k10, k11, k12⟩ := cellsC13 KY.out
  go_wp2_with fail
  clear k0 k1 k2 k3 k4 k5 k6 k7 k8 k9 k10 k11 k12
  have V4 : Hid (Below Y3.heap.size Y3 Y3.drew) := (Below.refl _ _).drew
  have KY4 := Hid.mk (KY.out.on V4.out KY.out.lt)
  have SS0 := Hid.mk (show (fun w' => w'.cell? ⟨w.heap.size, 0, none⟩ = some (.int .i64 ci) ∧ w'.cell? ⟨w.heap.size, 1, none⟩ = some (.int .i64 cp) ∧ w'.cell? ⟨w.heap.size, 2, none⟩ = some (.int .i64 ct) ∧ w'.cell? ⟨w.heap.size, 3, none⟩ = some (.int .i64 cv) ∧ w'.cell? ⟨w.heap.size, 4, none⟩ = some (.int .i64 3) ∧ w'.cell? ⟨w.heap.size, 5, none⟩ = some (.int .i64 cd) ∧ w'.cell? ⟨w.heap.size, 6, none⟩ = some (.int .i64 cb) ∧ w'.cell? ⟨w.heap.size, 7, none⟩ = some (.int .i64 cbt) ∧ w'.cell? ⟨w.heap.size, 8, none⟩ = some (.slice A0 n0 c0) ∧ w'.cell? ⟨w.heap.size, 9, none⟩ = some (.int .i64 cc) ∧ w'.cell? ⟨w.heap.size, 10, none⟩ = some (.slice A1 n1 c1) ∧ w'.cell? ⟨w.heap.size, 11, none⟩ = some (.slice A2 n2 c2) ∧ w'.cell? ⟨w.heap.size, 12, none⟩ = some (.slice A3 n3 c3)) Y3.drew from ⟨KY4.out.cell 0 _ rfl, KY4.out.cell 1 _ rfl, KY4.out.cell 2 _ rfl, KY4.out.cell 3 _ rfl, KY4.out.cell 4 _ rfl, KY4.out.cell 5 _ rfl, KY4.out.cell 6 _ rfl, KY4.out.cell 7 _ rfl, KY4.out.cell 8 _ rfl, KY4.out.cell 9 _ rfl, KY4.out.cell 10 _ rfl, KY4.out.cell 11 _ rfl, KY4.out.cell 12 _ rfl⟩)
  refine wp_region_until (fun w' => w'.cell? ⟨w.heap.size, 0, none⟩ = some (.int .i64 ci) ∧ w'.cell? ⟨w.heap.size, 1, none⟩ = some (.int .i64 cp) ∧ w'.cell? ⟨w.heap.size, 2, none⟩ = some (.int .i64 ct) ∧ w'.cell? ⟨w.heap.size, 3, none⟩ = some (.int .i64 cv) ∧ w'.cell? ⟨w.heap.size, 4, none⟩ = some (.int .i64 3) ∧ w'.cell? ⟨w.heap.size, 5, none⟩ = some (.int .i64 cd) ∧ w'.cell? ⟨w.heap.size, 6, none⟩ = some (.int .i64 cb) ∧ w'.cell? ⟨w.heap.size, 7, none⟩ = some (.int .i64 cbt) ∧ w'.cell? ⟨w.heap.size, 8, none⟩ = some (.slice A0 n0 c0) ∧ w'.cell? ⟨w.heap.size, 9, none⟩ = some (.int .i64 cc) ∧ w'.cell? ⟨w.heap.size, 10, none⟩ = some (.slice A1 n1 c1) ∧ w'.cell? ⟨w.heap.size, 11, none⟩ = some (.slice A2 n2 c2) ∧ w'.cell? ⟨w.heap.size, 12, none⟩ = some (.slice A3 n3 c3)) (fun _ => false) 50 (by rfl) (by kernel_rfl) ?_
  generalize Y3.drew = Y4 at *
  refine pF 0 ?_
  refine tF 1 SS0.out ?_
  refine pF 2 ?_
  refine pF 3 ?_
  refine sF 4 ?_
  refine sF 5 ?_
  refine sF 6 ?_
  refine sF 7 ?_
  refine sF 8 ?_
  refine pF 9 ?_
  refine pF 10 ?_
  refine sF 11 ?_
  refine sF 12 ?_
  refine sF 13 ?_
  refine sF 14 ?_
  refine sF 15 ?_
  refine pF 16 ?_
  refine pF 17 ?_
  refine sF 18 ?_
  refine sF 19 ?_
  refine sF 20 ?_
  refine sF 21 ?_
  refine pF 22 ?_
  refine pF 23 ?_
  refine sF 24 ?_
  refine sF 25 ?_
  refine sF 26 ?_
  refine sF 27 ?_
  refine sF 28 ?_
  refine sF 29 ?_
  refine pF 30 ?_
  refine pF 31 ?_
  refine sF 32 ?_
  refine sF 33 ?_
  refine sF 34 ?_
  refine sF 35 ?_
  refine sF 36 ?_
  refine sF 37 ?_
  refine pF 38 ?_
  refine pF 39 ?_
  refine sF 40 ?_
  refine sF 41 ?_
  refine sF 42 ?_
  refine sF 43 ?_
  refine sF 44 ?_
  refine sF 45 ?_
  refine sF 46 ?_
  refine sF 47 ?_
  refine sF 48 ?_
  refine pF 49 ?_
  refine until_done (by kernel_rfl) ?_ _
  go_wp2_with fail
  go_ret
  exact ⟨by rw [HE.out]; rfl, BY.out.trans (V4.out.mono BY.out.size)⟩
 have za : decide (ct < 1) = false := decide_eq_false (by omega)
 by_cases hq2 : cv = ci
 rotate_left
 ·have HE := Hid.mk (HC2.out (by omega))
  have zb : (cv != ci) = true := bne_iff_ne.2 hq2
  clear HA hq1 hq2
  obtain ⟨k0, k1, k2, k3, k4, k5, k6, k7, k8, k9, k10, k11, k12⟩ := cellsC13 KY.out
  go_wp2_with fail
  clear k0 k1 k2 k3 k4 k5 k6 k7 k8 k9 k10 k11 k12
  have V4 : Hid (Below Y3.heap.size Y3 Y3.drew) := (Below.refl _ _).drew
  have KY4 := Hid.mk (KY.out.on V4.out KY.out.lt)
  have SS0 := Hid.mk (show (fun w' => w'.cell? ⟨w.heap.size, 0, none⟩ = some (.int .i64 ci) ∧ w'.cell? ⟨w.heap.size, 1, none⟩ = some (.int .i64 cp) ∧ w'.cell? ⟨w.heap.size, 2, none⟩ = some (.int .i64 ct) ∧ w'.cell? ⟨w.heap.size, 3, none⟩ = some (.int .i64 cv) ∧ w'.cell? ⟨w.heap.size, 4, none⟩ = some (.int .i64 3) ∧ w'.cell? ⟨w.heap.size, 5, none⟩ = some (.int .i64 cd) ∧ w'.cell? ⟨w.heap.size, 6, none⟩ = some (.int .i64 cb) ∧ w'.cell? ⟨w.heap.size, 7, none⟩ = some (.int .i64 cbt) ∧ w'.cell? ⟨w.heap.size, 8, none⟩ = some (.slice A0 n0 c0) ∧ w'.cell? ⟨w.heap.size, 9, none⟩ = some (.int .i64 cc) ∧ w'.cell? ⟨w.heap.size, 10, none⟩ = some (.slice A1 n1 c1) ∧ w'.cell? ⟨w.heap.size, 11, none⟩ = some (.slice A2 n2 c2) ∧ w'.cell? ⟨w.heap.size, 12, none⟩ = some (.slice A3 n3 c3)) Y3.drew from ⟨KY4.out.cell 0 _ rfl, KY4.out.cell 1 _ rfl, KY4.out.cell 2 _ rfl, KY4.out.cell 3 _ rfl, KY4.out.cell 4 _ rfl, KY4.out.cell 5 _ rfl, KY4.out.cell 6 _ rfl, KY4.out.cell 7 _ rfl, KY4.out.cell 8 _ rfl, KY4.out.cell 9 _ rfl, KY4.out.cell 10 _ rfl, KY4.out.cell 11 _ rfl, KY4.out.cell 12 _ rfl⟩)
  refine wp_region_until (fun w' => w'.cell? ⟨w.heap.size, 0, none⟩ = some (.int .i64 ci) ∧ w'.cell? ⟨w.heap.size, 1, none⟩ = some (.int .i64 cp) ∧ w'.cell? ⟨w.heap.size, 2, none⟩ = some (.int .i64 ct) ∧ w'.cell? ⟨w.heap.size, 3, none⟩ = some (.int .i64 cv) ∧ w'.cell? ⟨w.heap.size, 4, none⟩ = some (.int .i64 3) ∧ w'.cell? ⟨w.heap.size, 5, none⟩ = some (.int .i64 cd) ∧ w'.cell? ⟨w.heap.size, 6, none⟩ = some (.int .i64 cb) ∧ w'.cell? ⟨w.heap.size, 7, none⟩ = some (.int .i64 cbt) ∧ w'.cell? ⟨w.heap.size, 8, none⟩ = some (.slice A0 n0 c0) ∧ w'.cell? ⟨w.heap.size, 9, none⟩ = some (.int .i64 cc) ∧ w'.cell? ⟨w.heap.size, 10, none⟩ = some (.slice A1 n1 c1) ∧ w'.cell? ⟨w.heap.size, 11, none⟩ = some (.slice A2 n2 c2) ∧ w'.cell? ⟨w.heap.size, 12, none⟩ = some (.slice A3 n3 c3)) (fun _ => false) 50 (by rfl) (by kernel_rfl) ?_
  generalize Y3.drew = Y4 at *
  refine pF 0 ?_
  refine tF 1 SS0.out ?_
  refine pF 2 ?_
  refine pF 3 ?_
  refine pF 4 ?_
  refine tF 5 SS0.out ?_
  refine pF 6 ?_
  refine tF 7 SS0.out ?_
  refine pF 8 ?_
  refine pF 9 ?_
  refine pF 10 ?_
  refine sF 11 ?_
  refine sF 12 ?_
  refine sF 13 ?_
  refine sF 14 ?_
  refine sF 15 ?_
  refine pF 16 ?_
  refine pF 17 ?_
  refine sF 18 ?_
  refine sF 19 ?_
  refine sF 20 ?_
  refine sF 21 ?_
  refine pF 22 ?_
  refine pF 23 ?_
  refine sF 24 ?_
  refine sF 25 ?_
  refine sF 26 ?_
  refine sF 27 ?_
  refine sF 28 ?_
  refine sF 29 ?_
  refine pF 30 ?_
  refine pF 31 ?_
  refine sF 32 ?_
  refine sF 33 ?_
  refine sF 34 ?_
  refine sF 35 ?_
  refine sF 36 ?_
  refine sF 37 ?_
  refine pF 38 ?_
  refine pF 39 ?_
  refine sF 40 ?_
  refine sF 41 ?_
  refine sF 42 ?_
  refine sF 43 ?_
  refine sF 44 ?_
  refine sF 45 ?_
  refine sF 46 ?_
  refine sF 47 ?_
  refine sF 48 ?_
  refine pF 49 ?_
  refine until_done (by kernel_rfl) ?_ _
  go_wp2_with fail
  go_ret
  exact ⟨by rw [HE.out]; rfl, BY.out.trans (V4.out.mono BY.out.size)⟩
 have zb : (cv != ci) = false := by rw [hq2]; exact bne_self_eq_false _
 by_cases hq3 : cd = ci
 rotate_left
 ·have HE := Hid.mk (HC3.out (by omega))
  have zc : (cd != ci) = true := bne_iff_ne.2 hq3
  clear HA hq1 hq2 hq3
  obtain ⟨k0, k1, k2, k3, k4, k5, k6, k7, k8, k9, k10, k11, k12⟩ := cellsC13 KY.out
  go_wp2_with fail
  clear k0 k1 k2 k3 k4 k5 k6 k7 k8 k9 k10 k11 k12
  have V4 : Hid (Below Y3.heap.size Y3 Y3.drew) := (Below.refl _ _).drew
  have KY4 := Hid.mk (KY.out.on V4.out KY.out.lt)
  have SS0 := Hid.mk (show (fun w' => w'.cell? ⟨w.heap.size, 0, none⟩ = some (.int .i64 ci) ∧ w'.cell? ⟨w.heap.size, 1, none⟩ = some (.int .i64 cp) ∧ w'.cell? ⟨w.heap.size, 2, none⟩ = some (.int .i64 ct) ∧ w'.cell? ⟨w.heap.size, 3, none⟩ = some (.int .i64 cv) ∧ w'.cell? ⟨w.heap.size, 4, none⟩ = some (.int .i64 3) ∧ w'.cell? ⟨w.heap.size, 5, none⟩ = some (.int .i64 cd) ∧ w'.cell? ⟨w.heap.size, 6, none⟩ = some (.int .i64 cb) ∧ w'.cell? ⟨w.heap.size, 7, none⟩ = some (.int .i64 cbt) ∧ w'.cell? ⟨w.heap.size, 8, none⟩ = some (.slice A0 n0 c0) ∧ w'.cell? ⟨w.heap.size, 9, none⟩ = some (.int .i64 cc) ∧ w'.cell? ⟨w.heap.size, 10, none⟩ = some (.slice A1 n1 c1) ∧ w'.cell? ⟨w.heap.size, 11, none⟩ = some (.slice A2 n2 c2) ∧ w'.cell? ⟨w.heap.size, 12, none⟩ = some (.slice A3 n3 c3)) Y3.drew from ⟨KY4.out.cell 0 _ rfl, KY4.out.cell 1 _ rfl, KY4.out.cell 2 _ rfl, KY4.out.cell 3 _ rfl, KY4.out.cell 4 _ rfl, KY4.out.cell 5 _ rfl, KY4.out.cell 6 _ rfl, KY4.out.cell 7 _ rfl, KY4.out.cell 8 _ rfl, KY4.out.cell 9 _ rfl, KY4.out.cell 10 _ rfl, KY4.out.cell 11 _ rfl, KY4.out.cell 12 _ rfl⟩)
  refine wp_region_until (fun w' => w'.cell? ⟨w.heap.size, 0, none⟩ = some (.int .i64 ci) ∧ w'.cell? ⟨w.heap.size, 1, none⟩ = some (.int .i64 cp) ∧ w'.cell? ⟨w.heap.size, 2, none⟩ = some (.int .i64 ct) ∧ w'.cell? ⟨w.heap.size, 3, none⟩ = some (.int .i64 cv) ∧ w'.cell? ⟨w.heap.size, 4, none⟩ = some (.int .i64 3) ∧ w'.cell? ⟨w.heap.size, 5, none⟩ = some (.int .i64 cd) ∧ w'.cell? ⟨w.heap.size, 6, none⟩ = some (.int .i64 cb) ∧ w'.cell? ⟨w.heap.size, 7, none⟩ = some (.int .i64 cbt) ∧ w'.cell? ⟨w.heap.size, 8, none⟩ = some (.slice A0 n0 c0) ∧ w'.cell? ⟨w.heap.size, 9, none⟩ = some (.int .i64 cc) ∧ w'.cell? ⟨w.heap.size, 10, none⟩ = some (.slice A1 n1 c1) ∧ w'.cell? ⟨w.heap.size, 11, none⟩ = some (.slice A2 n2 c2) ∧ w'.cell? ⟨w.heap.size, 12, none⟩ = some (.slice A3 n3 c3)) (fun _ => false) 50 (by rfl) (by kernel_rfl) ?_
  generalize Y3.drew = Y4 at *
  refine pF 0 ?_
  refine tF 1 SS0.out ?_
  refine pF 2 ?_
  refine pF 3 ?_
  refine pF 4 ?_
  refine tF 5 SS0.out ?_
  refine pF 6 ?_
  refine tF 7 SS0.out ?_
  refine pF 8 ?_
  refine pF 9 ?_
  refine pF 10 ?_
  refine pF 11 ?_
  refine tF 12 SS0.out ?_
  refine pF 13 ?_
  refine tF 14 SS0.out ?_
  refine pF 15 ?_
  refine pF 16 ?_
  refine pF 17 ?_
  refine sF 18 ?_
  refine sF 19 ?_
  refine sF 20 ?_
  refine sF 21 ?_
  refine pF 22 ?_
  refine pF 23 ?_
  refine sF 24 ?_
  refine sF 25 ?_
  refine sF 26 ?_
  refine sF 27 ?_
  refine sF 28 ?_
  refine sF 29 ?_
  refine pF 30 ?_
  refine pF 31 ?_
  refine sF 32 ?_
  refine sF 33 ?_
  refine sF 34 ?_
  refine sF 35 ?_
  refine sF 36 ?_
  refine sF 37 ?_
  refine pF 38 ?_
  refine pF 39 ?_
  refine sF 40 ?_
  refine sF 41 ?_
  refine sF 42 ?_
  refine sF 43 ?_
  refine sF 44 ?_
  refine sF 45 ?_
  refine sF 46 ?_
  refine sF 47 ?_
  refine sF 48 ?_
  refine pF 49 ?_
  refine until_done (by kernel_rfl) ?_ _
  go_wp2_with fail
  go_ret
  exact ⟨by rw [HE.out]; rfl, BY.out.trans (V4.out.mono BY.out.size)⟩
 have zc : (cd != ci) = false := by rw [hq3]; exact bne_self_eq_false _
 by_cases hq4 : n1 = 0
 rotate_left
 ·have HE := Hid.mk (HC4.out (by omega))
  have zd : decide (0 < (n1 : Int)) = true := decide_eq_true (by omega)
  have zd2 : decide (0 < n1) = true := decide_eq_true (by omega)
  have zd3 : 0 < n1 := by omega
  clear HA hq1 hq2 hq3 hq4
  obtain ⟨k0, k1, k2, k3, k4, k5, k6, k7, k8, k9, k10, k11, k12⟩ := cellsC13 KY.out
  go_wp2_with fail
  clear k0 k1 k2 k3 k4 k5 k6 k7 k8 k9 k10 k11 k12
  have V4 : Hid (Below Y3.heap.size Y3 Y3.drew) := (Below.refl _ _).drew
  have KY4 := Hid.mk (KY.out.on V4.out KY.out.lt)
  have SS0 := Hid.mk (show (fun w' => w'.cell? ⟨w.heap.size, 0, none⟩ = some (.int .i64 ci) ∧ w'.cell? ⟨w.heap.size, 1, none⟩ = some (.int .i64 cp) ∧ w'.cell? ⟨w.heap.size, 2, none⟩ = some (.int .i64 ct) ∧ w'.cell? ⟨w.heap.size, 3, none⟩ = some (.int .i64 cv) ∧ w'.cell? ⟨w.heap.size, 4, none⟩ = some (.int .i64 3) ∧ w'.cell? ⟨w.heap.size, 5, none⟩ = some (.int .i64 cd) ∧ w'.cell? ⟨w.heap.size, 6, none⟩ = some (.int .i64 cb) ∧ w'.cell? ⟨w.heap.size, 7, none⟩ = some (.int .i64 cbt) ∧ w'.cell? ⟨w.heap.size, 8, none⟩ = some (.slice A0 n0 c0) ∧ w'.cell? ⟨w.heap.size, 9, none⟩ = some (.int .i64 cc) ∧ w'.cell? ⟨w.heap.size, 10, none⟩ = some (.slice A1 n1 c1) ∧ w'.cell? ⟨w.heap.size, 11, none⟩ = some (.slice A2 n2 c2) ∧ w'.cell? ⟨w.heap.size, 12, none⟩ = some (.slice A3 n3 c3)) Y3.drew from ⟨KY4.out.cell 0 _ rfl, KY4.out.cell 1 _ rfl, KY4.out.cell 2 _ rfl, KY4.out.cell 3 _ rfl, KY4.out.cell 4 _ rfl, KY4.out.cell 5 _ rfl, KY4.out.cell 6 _ rfl, KY4.out.cell 7 _ rfl, KY4.out.cell 8 _ rfl, KY4.out.cell 9 _ rfl, KY4.out.cell 10 _ rfl, KY4.out.cell 11 _ rfl, KY4.out.cell 12 _ rfl⟩)
  refine wp_region_until (fun w' => w'.cell? ⟨w.heap.size, 0, none⟩ = some (.int .i64 ci) ∧ w'.cell? ⟨w.heap.size, 1, none⟩ = some (.int .i64 cp) ∧ w'.cell? ⟨w.heap.size, 2, none⟩ = some (.int .i64 ct) ∧ w'.cell? ⟨w.heap.size, 3, none⟩ = some (.int .i64 cv) ∧ w'.cell? ⟨w.heap.size, 4, none⟩ = some (.int .i64 3) ∧ w'.cell? ⟨w.heap.size, 5, none⟩ = some (.int .i64 cd) ∧ w'.cell? ⟨w.heap.size, 6, none⟩ = some (.int .i64 cb) ∧ w'.cell? ⟨w.heap.size, 7, none⟩ = some (.int .i64 cbt) ∧ w'.cell? ⟨w.heap.size, 8, none⟩ = some (.slice A0 n0 c0) ∧ w'.cell? ⟨w.heap.size, 9, none⟩ = some (.int .i64 cc) ∧ w'.cell? ⟨w.heap.size, 10, none⟩ = some (.slice A1 n1 c1) ∧ w'.cell? ⟨w.heap.size, 11, none⟩ = some (.slice A2 n2 c2) ∧ w'.cell? ⟨w.heap.size, 12, none⟩ = some (.slice A3 n3 c3)) (fun _ => false) 50 (by rfl) (by kernel_rfl) ?_
  generalize Y3.drew = Y4 at *
  refine pF 0 ?_
  refine tF 1 SS0.out ?_
  refine pF 2 ?_
  refine pF 3 ?_
  refine pF 4 ?_
  refine tF 5 SS0.out ?_
  refine pF 6 ?_
  refine tF 7 SS0.out ?_
  refine pF 8 ?_
  refine pF 9 ?_
  refine pF 10 ?_
  refine pF 11 ?_
  refine tF 12 SS0.out ?_
  refine pF 13 ?_
  refine tF 14 SS0.out ?_
  refine pF 15 ?_
  refine pF 16 ?_
  refine pF 17 ?_
  refine pF 18 ?_
  refine tF 19 SS0.out ?_
  refine pF 20 ?_
  refine pF 21 ?_
  refine pF 22 ?_
  refine pF 23 ?_
  refine sF 24 ?_
  refine sF 25 ?_
  refine sF 26 ?_
  refine sF 27 ?_
  refine sF 28 ?_
  refine sF 29 ?_
  refine pF 30 ?_
  refine pF 31 ?_
  refine sF 32 ?_
  refine sF 33 ?_
  refine sF 34 ?_
  refine sF 35 ?_
  refine sF 36 ?_
  refine sF 37 ?_
  refine pF 38 ?_
  refine pF 39 ?_
  refine sF 40 ?_
  refine sF 41 ?_
  refine sF 42 ?_
  refine sF 43 ?_
  refine sF 44 ?_
  refine sF 45 ?_
  refine sF 46 ?_
  refine sF 47 ?_
  refine sF 48 ?_
  refine pF 49 ?_
  refine until_done (by kernel_rfl) ?_ _
  go_wp2_with fail
  go_ret
  exact ⟨by rw [HE.out]; rfl, BY.out.trans (V4.out.mono BY.out.size)⟩
 have zd : decide (0 < (n1 : Int)) = false := decide_eq_false (by omega)
 have zd2 : decide (0 < n1) = false := decide_eq_false (by omega)
 have zd3 : ¬ 0 < n1 := by omega
 have HQ4 : Hid (n1 = 0) := hq4
 clear hq4
 by_cases hq5 : (n2 : Int) = cp
 rotate_left
 ·have HE := Hid.mk (HC5.out (by omega))
  have ze : ((n2 : Int) != cp) = true := bne_iff_ne.2 hq5
  clear HA hq1 hq2 hq3 hq5
  obtain ⟨k0, k1, k2, k3, k4, k5, k6, k7, k8, k9, k10, k11, k12⟩ := cellsC13 KY.out
  go_wp2_with fail
  clear k0 k1 k2 k3 k4 k5 k6 k7 k8 k9 k10 k11 k12
  have V4 : Hid (Below Y3.heap.size Y3 Y3.drew) := (Below.refl _ _).drew
  have KY4 := Hid.mk (KY.out.on V4.out KY.out.lt)
  have SS0 := Hid.mk (show (fun w' => w'.cell? ⟨w.heap.size, 0, none⟩ = some (.int .i64 ci) ∧ w'.cell? ⟨w.heap.size, 1, none⟩ = some (.int .i64 cp) ∧ w'.cell? ⟨w.heap.size, 2, none⟩ = some (.int .i64 ct) ∧ w'.cell? ⟨w.heap.size, 3, none⟩ = some (.int .i64 cv) ∧ w'.cell? ⟨w.heap.size, 4, none⟩ = some (.int .i64 3) ∧ w'.cell? ⟨w.heap.size, 5, none⟩ = some (.int .i64 cd) ∧ w'.cell? ⟨w.heap.size, 6, none⟩ = some (.int .i64 cb) ∧ w'.cell? ⟨w.heap.size, 7, none⟩ = some (.int .i64 cbt) ∧ w'.cell? ⟨w.heap.size, 8, none⟩ = some (.slice A0 n0 c0) ∧ w'.cell? ⟨w.heap.size, 9, none⟩ = some (.int .i64 cc) ∧ w'.cell? ⟨w.heap.size, 10, none⟩ = some (.slice A1 n1 c1) ∧ w'.cell? ⟨w.heap.size, 11, none⟩ = some (.slice A2 n2 c2) ∧ w'.cell? ⟨w.heap.size, 12, none⟩ = some (.slice A3 n3 c3)) Y3.drew from ⟨KY4.out.cell 0 _ rfl, KY4.out.cell 1 _ rfl, KY4.out.cell 2 _ rfl, KY4.out.cell 3 _ rfl, KY4.out.cell 4 _ rfl, KY4.out.cell 5 _ rfl, KY4.out.cell 6 _ rfl, KY4.out.cell 7 _ rfl, KY4.out.cell 8 _ rfl, KY4.out.cell 9 _ rfl, KY4.out.cell 10 _ rfl, KY4.out.cell 11 _ rfl, KY4.out.cell 12 _ rfl⟩)
  refine wp_region_until (fun w' => w'.cell? ⟨w.heap.size, 0, none⟩ = some (.int .i64 ci) ∧ w'.cell? ⟨w.heap.size, 1, none⟩ = some (.int .i64 cp) ∧ w'.cell? ⟨w.heap.size, 2, none⟩ = some (.int .i64 ct) ∧ w'.cell? ⟨w.heap.size, 3, none⟩ = some (.int .i64 cv) ∧ w'.cell? ⟨w.heap.size, 4, none⟩ = some (.int .i64 3) ∧ w'.cell? ⟨w.heap.size, 5, none⟩ = some (.int .i64 cd) ∧ w'.cell? ⟨w.heap.size, 6, none⟩ = some (.int .i64 cb) ∧ w'.cell? ⟨w.heap.size, 7, none⟩ = some (.int .i64 cbt) ∧ w'.cell? ⟨w.heap.size, 8, none⟩ = some (.slice A0 n0 c0) ∧ w'.cell? ⟨w.heap.size, 9, none⟩ = some (.int .i64 cc) ∧ w'.cell? ⟨w.heap.size, 10, none⟩ = some (.slice A1 n1 c1) ∧ w'.cell? ⟨w.heap.size, 11, none⟩ = some (.slice A2 n2 c2) ∧ w'.cell? ⟨w.heap.size, 12, none⟩ = some (.slice A3 n3 c3)) (fun _ => false) 50 (by rfl) (by kernel_rfl) ?_
  generalize Y3.drew = Y4 at *
  refine pF 0 ?_
  refine tF 1 SS0.out ?_
  refine pF 2 ?_
  refine pF 3 ?_
  refine pF 4 ?_
  refine tF 5 SS0.out ?_
  refine pF 6 ?_
  refine tF 7 SS0.out ?_
  refine pF 8 ?_
  refine pF 9 ?_
  refine pF 10 ?_
  refine pF 11 ?_
  refine tF 12 SS0.out ?_
  refine pF 13 ?_
  refine tF 14 SS0.out ?_
  refine pF 15 ?_
  refine pF 16 ?_
  refine pF 17 ?_
  refine pF 18 ?_
  refine tF 19 SS0.out ?_
  refine pF 20 ?_
  refine pF 21 ?_
  refine pF 22 ?_
  refine pF 23 ?_
  refine pF 24 ?_
  refine tF 25 SS0.out ?_
  refine pF 26 ?_
  refine pF 27 ?_
  refine tF 28 SS0.out ?_
  refine pF 29 ?_
  refine pF 30 ?_
  refine pF 31 ?_
  refine sF 32 ?_
  refine sF 33 ?_
  refine sF 34 ?_
  refine sF 35 ?_
  refine sF 36 ?_
  refine sF 37 ?_
  refine pF 38 ?_
  refine pF 39 ?_
  refine sF 40 ?_
  refine sF 41 ?_
  refine sF 42 ?_
  refine sF 43 ?_
  refine sF 44 ?_
  refine sF 45 ?_
  refine sF 46 ?_
  refine sF 47 ?_
  refine sF 48 ?_
  refine pF 49 ?_
  refine until_done (by kernel_rfl) ?_ _
  go_wp2_with fail
  go_ret
  exact ⟨by rw [HE.out]; rfl, BY.out.trans (V4.out.mono BY.out.size)⟩
 have ze : ((n2 : Int) != cp) = false := by rw [hq5]; exact bne_self_eq_false _
 by_cases hq6 : (n3 : Int) = cp
 rotate_left
 ·have HE := Hid.mk (HC6.out (by omega))
  have zf : ((n3 : Int) != cp) = true := bne_iff_ne.2 hq6
  clear HA hq1 hq2 hq3 hq5 hq6
  obtain ⟨k0, k1, k2, k3, k4, k5, k6, k7, k8, k9, k10, k11, k12⟩ := cellsC13 KY.out
  go_wp2_with fail
  clear k0 k1 k2 k3 k4 k5 k6 k7 k8 k9 k10 k11 k12
  have V4 : Hid (Below Y3.heap.size Y3 Y3.drew) := (Below.refl _ _).drew
  have KY4 := Hid.mk (KY.out.on V4.out KY.out.lt)
  have SS0 := Hid.mk (show (fun w' => w'.cell? ⟨w.heap.size, 0, none⟩ = some (.int .i64 ci) ∧ w'.cell? ⟨w.heap.size, 1, none⟩ = some (.int .i64 cp) ∧ w'.cell? ⟨w.heap.size, 2, none⟩ = some (.int .i64 ct) ∧ w'.cell? ⟨w.heap.size, 3, none⟩ = some (.int .i64 cv) ∧ w'.cell? ⟨w.heap.size, 4, none⟩ = some (.int .i64 3) ∧ w'.cell? ⟨w.heap.size, 5, none⟩ = some (.int .i64 cd) ∧ w'.cell? ⟨w.heap.size, 6, none⟩ = some (.int .i64 cb) ∧ w'.cell? ⟨w.heap.size, 7, none⟩ = some (.int .i64 cbt) ∧ w'.cell? ⟨w.heap.size, 8, none⟩ = some (.slice A0 n0 c0) ∧ w'.cell? ⟨w.heap.size, 9, none⟩ = some (.int .i64 cc) ∧ w'.cell? ⟨w.heap.size, 10, none⟩ = some (.slice A1 n1 c1) ∧ w'.cell? ⟨w.heap.size, 11, none⟩ = some (.slice A2 n2 c2) ∧ w'.cell? ⟨w.heap.size, 12, none⟩ = some (.slice A3 n3 c3)) Y3.drew from ⟨KY4.out.cell 0 _ rfl, KY4.out.cell 1 _ rfl, KY4.out.cell 2 _ rfl, KY4.out.cell 3 _ rfl, KY4.out.cell 4 _ rfl, KY4.out.cell 5 _ rfl, KY4.out.cell 6 _ rfl, KY4.out.cell 7 _ rfl, KY4.out.cell 8 _ rfl, KY4.out.cell 9 _ rfl, KY4.out.cell 10 _ rfl, KY4.out.cell 11 _ rfl, KY4.out.cell 12 _ rfl⟩)
  refine wp_region_until (fun w' => w'.cell? ⟨w.heap.size, 0, none⟩ = some (.int .i64 ci) ∧ w'.cell? ⟨w.heap.size, 1, none⟩ = some (.int .i64 cp) ∧ w'.cell? ⟨w.heap.size, 2, none⟩ = some (.int .i64 ct) ∧ w'.cell? ⟨w.heap.size, 3, none⟩ = some (.int .i64 cv) ∧ w'.cell? ⟨w.heap.size, 4, none⟩ = some (.int .i64 3) ∧ w'.cell? ⟨w.heap.size, 5, none⟩ = some (.int .i64 cd) ∧ w'.cell? ⟨w.heap.size, 6, none⟩ = some (.int .i64 cb) ∧ w'.cell? ⟨w.heap.size, 7, none⟩ = some (.int .i64 cbt) ∧ w'.cell? ⟨w.heap.size, 8, none⟩ = some (.slice A0 n0 c0) ∧ w'.cell? ⟨w.heap.size, 9, none⟩ = some (.int .i64 cc) ∧ w'.cell? ⟨w.heap.size, 10, none⟩ = some (.slice A1 n1 c1) ∧ w'.cell? ⟨w.heap.size, 11, none⟩ = some (.slice A2 n2 c2) ∧ w'.cell? ⟨w.heap.size, 12, none⟩ = some (.slice A3 n3 c3)) (fun _ => false) 50 (by rfl) (by kernel_rfl) ?_
  generalize Y3.drew = Y4 at *
  refine pF 0 ?_
  refine tF 1 SS0.out ?_
  refine pF 2 ?_
  refine pF 3 ?_
  refine pF 4 ?_
  refine tF 5 SS0.out ?_
  refine pF 6 ?_
  refine tF 7 SS0.out ?_
  refine pF 8 ?_
  refine pF 9 ?_
  refine pF 10 ?_
  refine pF 11 ?_
  refine tF 12 SS0.out ?_
  refine pF 13 ?_
  refine tF 14 SS0.out ?_
  refine pF 15 ?_
  refine pF 16 ?_
  refine pF 17 ?_
  refine pF 18 ?_
  refine tF 19 SS0.out ?_
  refine pF 20 ?_
  refine pF 21 ?_
  refine pF 22 ?_
  refine pF 23 ?_
  refine pF 24 ?_
  refine tF 25 SS0.out ?_
  refine pF 26 ?_
  refine pF 27 ?_
  refine tF 28 SS0.out ?_
  refine pF 29 ?_
  refine pF 30 ?_
  refine pF 31 ?_
  refine pF 32 ?_
  refine tF 33 SS0.out ?_
  refine pF 34 ?_
  refine pF 35 ?_
  refine tF 36 SS0.out ?_
  refine pF 37 ?_
  refine pF 38 ?_
  refine pF 39 ?_
  refine sF 40 ?_
  refine sF 41 ?_
  refine sF 42 ?_
  refine sF 43 ?_
  refine sF 44 ?_
  refine sF 45 ?_
  refine sF 46 ?_
  refine sF 47 ?_
  refine sF 48 ?_
  refine pF 49 ?_
  refine until_done (by kernel_rfl) ?_ _
  go_wp2_with fail
  go_ret
  exact ⟨by rw [HE.out]; rfl, BY.out.trans (V4.out.mono BY.out.size)⟩
 have zf : ((n3 : Int) != cp) = false := by rw [hq6]; exact bne_self_eq_false _
 have HT := Hid.mk (HA.out hq1 hq2 hq3 HQ4.out hq5 hq6)
 have hcip : ci.toNat < n3 := by omega
 have hcil : ci < (n3 : Int) := by omega
 have HN32 : Hid (n3 = n2) := by unfold Hid; omega
 have HN3 : Hid ((n3 : Int) = cp) := hq6
 have HCI : Hid ((ci.toNat : Int) = ci) := by unfold Hid; omega
 have hp5 : n3 ≤ 5 := by omega
 clear HA hq1 hq2 hq3 hq5 hq6 HC1 HC2 HC3 HC4 HC5 HC6
 obtain ⟨g3, o3, rfl, hg3, d0⟩ := H3.out ci.toNat hcip
 have hgw : g3 < Y3.heap.size := Nat.lt_of_lt_of_le hg3 (Nat.le_trans HBB.out BY.out.size)
 rw [← BY.out.cell (p := ⟨_, _, none⟩) (Nat.lt_of_lt_of_le hg3 HBB.out)] at d0
 generalize hmy : ms.getD ci.toNat 0 = my at *
 clear hmy
 generalize hct : ci.toNat = t at *
 clear hct
 have qt : (t : Int) < (n3 : Int) := by omega
 obtain rfl : (t : Int) = ci := HCI.out
 by_cases hq7 : my = cb + (n0 : Int)
 rotate_left
 ·have HE := Hid.mk (HC7.out hq7)
  have zg : (my != cb + (n0 : Int)) = true := bne_iff_ne.2 hq7
  clear HT hq7
  obtain ⟨k0, k1, k2, k3, k4, k5, k6, k7, k8, k9, k10, k11, k12⟩ := cellsC13 KY.out
  go_wp2_with fail
  clear k0 k1 k2 k3 k4 k5 k6 k7 k8 k9 k10 k11 k12
  have V4 : Hid (Below Y3.heap.size Y3 Y3.drew) := (Below.refl _ _).drew
  have KY4 := Hid.mk (KY.out.on V4.out KY.out.lt)
  have SS0 := Hid.mk (show (fun w' => w'.cell? ⟨w.heap.size, 0, none⟩ = some (.int .i64 (t : Int)) ∧ w'.cell? ⟨w.heap.size, 1, none⟩ = some (.int .i64 cp) ∧ w'.cell? ⟨w.heap.size, 2, none⟩ = some (.int .i64 ct) ∧ w'.cell? ⟨w.heap.size, 3, none⟩ = some (.int .i64 cv) ∧ w'.cell? ⟨w.heap.size, 4, none⟩ = some (.int .i64 3) ∧ w'.cell? ⟨w.heap.size, 5, none⟩ = some (.int .i64 cd) ∧ w'.cell? ⟨w.heap.size, 6, none⟩ = some (.int .i64 cb) ∧ w'.cell? ⟨w.heap.size, 7, none⟩ = some (.int .i64 cbt) ∧ w'.cell? ⟨w.heap.size, 8, none⟩ = some (.slice A0 n0 c0) ∧ w'.cell? ⟨w.heap.size, 9, none⟩ = some (.int .i64 cc) ∧ w'.cell? ⟨w.heap.size, 10, none⟩ = some (.slice A1 n1 c1) ∧ w'.cell? ⟨w.heap.size, 11, none⟩ = some (.slice A2 n2 c2) ∧ w'.cell? ⟨w.heap.size, 12, none⟩ = some (.slice (some ⟨g3, o3, none⟩) n3 c3) ∧ w'.cell? ⟨g3, o3 + t, none⟩ = some (.int .i64 my)) Y3.drew from ⟨KY4.out.cell 0 _ rfl, KY4.out.cell 1 _ rfl, KY4.out.cell 2 _ rfl, KY4.out.cell 3 _ rfl, KY4.out.cell 4 _ rfl, KY4.out.cell 5 _ rfl, KY4.out.cell 6 _ rfl, KY4.out.cell 7 _ rfl, KY4.out.cell 8 _ rfl, KY4.out.cell 9 _ rfl, KY4.out.cell 10 _ rfl, KY4.out.cell 11 _ rfl, KY4.out.cell 12 _ rfl, (by rw [V4.out.cell (p := ⟨g3, _, none⟩) hgw]; exact d0)⟩)
  refine wp_region_until (fun w' => w'.cell? ⟨w.heap.size, 0, none⟩ = some (.int .i64 (t : Int)) ∧ w'.cell? ⟨w.heap.size, 1, none⟩ = some (.int .i64 cp) ∧ w'.cell? ⟨w.heap.size, 2, none⟩ = some (.int .i64 ct) ∧ w'.cell? ⟨w.heap.size, 3, none⟩ = some (.int .i64 cv) ∧ w'.cell? ⟨w.heap.size, 4, none⟩ = some (.int .i64 3) ∧ w'.cell? ⟨w.heap.size, 5, none⟩ = some (.int .i64 cd) ∧ w'.cell? ⟨w.heap.size, 6, none⟩ = some (.int .i64 cb) ∧ w'.cell? ⟨w.heap.size, 7, none⟩ = some (.int .i64 cbt) ∧ w'.cell? ⟨w.heap.size, 8, none⟩ = some (.slice A0 n0 c0) ∧ w'.cell? ⟨w.heap.size, 9, none⟩ = some (.int .i64 cc) ∧ w'.cell? ⟨w.heap.size, 10, none⟩ = some (.slice A1 n1 c1) ∧ w'.cell? ⟨w.heap.size, 11, none⟩ = some (.slice A2 n2 c2) ∧ w'.cell? ⟨w.heap.size, 12, none⟩ = some (.slice (some ⟨g3, o3, none⟩) n3 c3) ∧ w'.cell? ⟨g3, o3 + t, none⟩ = some (.int .i64 my)) (fun _ => false) 50 (by rfl) (by kernel_rfl) ?_
  generalize Y3.drew = Y4 at *
  refine pF 0 ?_
  refine tF 1 SS0.out ?_
  refine pF 2 ?_
  refine pF 3 ?_
  refine pF 4 ?_
  refine tF 5 SS0.out ?_
  refine pF 6 ?_
  refine tF 7 SS0.out ?_
  refine pF 8 ?_
  refine pF 9 ?_
  refine pF 10 ?_
  refine pF 11 ?_
  refine tF 12 SS0.out ?_
  refine pF 13 ?_
  refine tF 14 SS0.out ?_
  refine pF 15 ?_
  refine pF 16 ?_
  refine pF 17 ?_
  refine pF 18 ?_
  refine tF 19 SS0.out ?_
  refine pF 20 ?_
  refine pF 21 ?_
  refine pF 22 ?_
  refine pF 23 ?_
  refine pF 24 ?_
  refine tF 25 SS0.out ?_
  refine pF 26 ?_
  refine pF 27 ?_
  refine tF 28 SS0.out ?_
  refine pF 29 ?_
  refine pF 30 ?_
  refine pF 31 ?_
  refine pF 32 ?_
  refine tF 33 SS0.out ?_
  refine pF 34 ?_
  refine pF 35 ?_
  refine tF 36 SS0.out ?_
  refine pF 37 ?_
  refine pF 38 ?_
  refine pF 39 ?_
  refine pF 40 ?_
  refine tF 41 SS0.out ?_
  refine pF 42 ?_
  refine tF 43 SS0.out ?_
  refine pF 44 ?_
  refine tF 45 SS0.out ?_
  refine tF 46 SS0.out ?_
  refine uNe 47 (fun K hK => ?_)
  go_simp
  refine (cLS Y4).mono ?_
  rintro e Y5 ⟨rfl, hb⟩
  have V5 : Hid (Below Y3.heap.size Y3 Y5) := V4.out.trans (hb.mono V4.out.size)
  have KY5 := Hid.mk (KY4.out.on hb KY4.out.lt)
  clear hb
  refine hK.out _ _ (fun _ _ => ⟨KY5.out.cell 0 _ rfl, KY5.out.cell 1 _ rfl, KY5.out.cell 2 _ rfl, KY5.out.cell 3 _ rfl, KY5.out.cell 4 _ rfl, KY5.out.cell 5 _ rfl, KY5.out.cell 6 _ rfl, KY5.out.cell 7 _ rfl, KY5.out.cell 8 _ rfl, KY5.out.cell 9 _ rfl, KY5.out.cell 10 _ rfl, KY5.out.cell 11 _ rfl, KY5.out.cell 12 _ rfl, (by rw [V5.out.cell (p := ⟨g3, _, none⟩) hgw]; exact d0)⟩) ?_
  clear hK K
  try simp only [Act.put, zQ1, zQ2, zQ3]
  refine pF 48 ?_
  refine pF 49 ?_
  refine until_done (by kernel_rfl) ?_ _
  go_wp2_with fail
  go_ret
  exact ⟨by rw [HE.out]; rfl, BY.out.trans (V5.out.mono BY.out.size)⟩
 have zg : (my != cb + (n0 : Int)) = false := by rw [hq7]; exact bne_self_eq_false _
 have HT2 := Hid.mk (HT.out hq7)
 clear HT hq7
 obtain ⟨k0, k1, k2, k3, k4, k5, k6, k7, k8, k9, k10, k11, k12⟩ := cellsC13 KY.out
 go_wp2_with fail
 clear k0 k1 k2 k3 k4 k5 k6 k7 k8 k9 k10 k11 k12
 have V4 : Hid (Below Y3.heap.size Y3 Y3.drew) := (Below.refl _ _).drew
 have KY4 := Hid.mk (KY.out.on V4.out KY.out.lt)
 have SS0 := Hid.mk (show (fun w' => w'.cell? ⟨w.heap.size, 0, none⟩ = some (.int .i64 (t : Int)) ∧ w'.cell? ⟨w.heap.size, 1, none⟩ = some (.int .i64 cp) ∧ w'.cell? ⟨w.heap.size, 2, none⟩ = some (.int .i64 ct) ∧ w'.cell? ⟨w.heap.size, 3, none⟩ = some (.int .i64 cv) ∧ w'.cell? ⟨w.heap.size, 4, none⟩ = some (.int .i64 3) ∧ w'.cell? ⟨w.heap.size, 5, none⟩ = some (.int .i64 cd) ∧ w'.cell? ⟨w.heap.size, 6, none⟩ = some (.int .i64 cb) ∧ w'.cell? ⟨w.heap.size, 7, none⟩ = some (.int .i64 cbt) ∧ w'.cell? ⟨w.heap.size, 8, none⟩ = some (.slice A0 n0 c0) ∧ w'.cell? ⟨w.heap.size, 9, none⟩ = some (.int .i64 cc) ∧ w'.cell? ⟨w.heap.size, 10, none⟩ = some (.slice A1 n1 c1) ∧ w'.cell? ⟨w.heap.size, 11, none⟩ = some (.slice A2 n2 c2) ∧ w'.cell? ⟨w.heap.size, 12, none⟩ = some (.slice (some ⟨g3, o3, none⟩) n3 c3) ∧ w'.cell? ⟨g3, o3 + t, none⟩ = some (.int .i64 my)) Y3.drew from ⟨KY4.out.cell 0 _ rfl, KY4.out.cell 1 _ rfl, KY4.out.cell 2 _ rfl, KY4.out.cell 3 _ rfl, KY4.out.cell 4 _ rfl, KY4.out.cell 5 _ rfl, KY4.out.cell 6 _ rfl, KY4.out.cell 7 _ rfl, KY4.out.cell 8 _ rfl, KY4.out.cell 9 _ rfl, KY4.out.cell 10 _ rfl, KY4.out.cell 11 _ rfl, KY4.out.cell 12 _ rfl, (by rw [V4.out.cell (p := ⟨g3, _, none⟩) hgw]; exact d0)⟩)
 refine wp_region_until (fun w' => w'.cell? ⟨w.heap.size, 0, none⟩ = some (.int .i64 (t : Int)) ∧ w'.cell? ⟨w.heap.size, 1, none⟩ = some (.int .i64 cp) ∧ w'.cell? ⟨w.heap.size, 2, none⟩ = some (.int .i64 ct) ∧ w'.cell? ⟨w.heap.size, 3, none⟩ = some (.int .i64 cv) ∧ w'.cell? ⟨w.heap.size, 4, none⟩ = some (.int .i64 3) ∧ w'.cell? ⟨w.heap.size, 5, none⟩ = some (.int .i64 cd) ∧ w'.cell? ⟨w.heap.size, 6, none⟩ = some (.int .i64 cb) ∧ w'.cell? ⟨w.heap.size, 7, none⟩ = some (.int .i64 cbt) ∧ w'.cell? ⟨w.heap.size, 8, none⟩ = some (.slice A0 n0 c0) ∧ w'.cell? ⟨w.heap.size, 9, none⟩ = some (.int .i64 cc) ∧ w'.cell? ⟨w.heap.size, 10, none⟩ = some (.slice A1 n1 c1) ∧ w'.cell? ⟨w.heap.size, 11, none⟩ = some (.slice A2 n2 c2) ∧ w'.cell? ⟨w.heap.size, 12, none⟩ = some (.slice (some ⟨g3, o3, none⟩) n3 c3) ∧ w'.cell? ⟨g3, o3 + t, none⟩ = some (.int .i64 my)) (fun _ => false) 50 (by rfl) (by kernel_rfl) ?_
 generalize Y3.drew = Y4 at *
 refine pF 0 ?_
 refine tF 1 SS0.out ?_
 refine pF 2 ?_
 refine pF 3 ?_
 refine pF 4 ?_
 refine tF 5 SS0.out ?_
 refine pF 6 ?_
 refine tF 7 SS0.out ?_
 refine pF 8 ?_
 refine pF 9 ?_
 refine pF 10 ?_
 refine pF 11 ?_
 refine tF 12 SS0.out ?_
 refine pF 13 ?_
 refine tF 14 SS0.out ?_
 refine pF 15 ?_
 refine pF 16 ?_
 refine pF 17 ?_
 refine pF 18 ?_
 refine tF 19 SS0.out ?_
 refine pF 20 ?_
 refine pF 21 ?_
 refine pF 22 ?_
 refine pF 23 ?_
 refine pF 24 ?_
 refine tF 25 SS0.out ?_
 refine pF 26 ?_
 refine pF 27 ?_
 refine tF 28 SS0.out ?_
 refine pF 29 ?_
 refine pF 30 ?_
 refine pF 31 ?_
 refine pF 32 ?_
 refine tF 33 SS0.out ?_
 refine pF 34 ?_
 refine pF 35 ?_
 refine tF 36 SS0.out ?_
 refine pF 37 ?_
 refine pF 38 ?_
 refine pF 39 ?_
 refine pF 40 ?_
 refine tF 41 SS0.out ?_
 refine pF 42 ?_
 refine tF 43 SS0.out ?_
 refine pF 44 ?_
 refine tF 45 SS0.out ?_
 refine tF 46 SS0.out ?_
 refine uNe 47 (fun K hK => ?_)
 go_simp
 refine (cLS Y4).mono ?_
 rintro e Y5 ⟨rfl, hb⟩
 have V5 : Hid (Below Y3.heap.size Y3 Y5) := V4.out.trans (hb.mono V4.out.size)
 have KY5 := Hid.mk (KY4.out.on hb KY4.out.lt)
 clear hb
 refine hK.out _ _ (fun _ _ => ⟨KY5.out.cell 0 _ rfl, KY5.out.cell 1 _ rfl, KY5.out.cell 2 _ rfl, KY5.out.cell 3 _ rfl, KY5.out.cell 4 _ rfl, KY5.out.cell 5 _ rfl, KY5.out.cell 6 _ rfl, KY5.out.cell 7 _ rfl, KY5.out.cell 8 _ rfl, KY5.out.cell 9 _ rfl, KY5.out.cell 10 _ rfl, KY5.out.cell 11 _ rfl, KY5.out.cell 12 _ rfl, (by rw [V5.out.cell (p := ⟨g3, _, none⟩) hgw]; exact d0)⟩) ?_
 clear hK K
 try simp only [Act.put, zQ1, zQ2, zQ3]
 refine pF 48 ?_
 refine pF 49 ?_
 refine until_done (by kernel_rfl) ?_ _
 go_wp2_with fail
 have BY5 : Hid (Below w.heap.size w Y5) := BY.out.trans (V5.out.mono BY.out.size)
 have KZ : Hid (Blk Y5 w.heap.size #[.int .i64 (t : Int), .int .i64 cp, .int .i64 ct, .int .i64 cv, .int .i64 3, .int .i64 cd, .int .i64 cb, .int .i64 cbt, .slice A0 n0 c0, .int .i64 cc, .slice A1 n1 c1, .slice A2 n2 c2, .slice (some ⟨g3, o3, none⟩) n3 c3] 29) := KY5.out
 clear KY4 KY5 KY SS0 V4 V5 BY zg d0 hgw hg3
 go_loopw [4] (fun v4 wr => ∃ k : Nat, k ≤ n3 ∧ v4 = .int .i64 (k : Int) ∧ Below Y5.heap.size Y5 wr ∧ Hid (∀ j, j < k → 0 ≤ ms.getD j 0 ∧ ms.getD j 0 < ns.getD j 0 ∧ ns.getD j 0 ≤ cb + (n0 : Int) + 1)) (fun v _ => n3 - (intOf v).toNat)
 case atStart => exact ⟨0, by omega, rfl, Below.refl _ _, fun j hj => by omega⟩
 case round =>
  obtain ⟨k, hk, rfl, hbr, HR⟩ := hrel
  have BR := Hid.mk hbr
  have KB := Hid.mk (KZ.out.on hbr KZ.out.lt)
  have BW : Hid (Below w.heap.size w wr) := BY5.out.trans (hbr.mono BY5.out.size)
  clear hbr
  have k1 := KB.out.cell 1 _ rfl
  by_cases hlt : k < n3
  ·have q4 : (k : Int) < cp := by have := HN3.out; omega
   have q5 : (k : Int) < (n3 : Int) := by omega
   have q6 : (k : Int) < (n2 : Int) := by have := HN32.out; omega
   obtain ⟨g3', o3', eA, hg3, d0⟩ := H3.out k hlt
   cases eA
   obtain ⟨g2, o2, rfl, hg2, d1⟩ := H2.out k (by rw [← HN32.out]; exact hlt)
   have hgw : g2 < wr.heap.size := Nat.lt_of_lt_of_le hg2 (Nat.le_trans HBB.out BW.out.size)
   have hgw3 : g3 < wr.heap.size := Nat.lt_of_lt_of_le hg3 (Nat.le_trans HBB.out BW.out.size)
   rw [← BW.out.cell (p := ⟨_, _, none⟩) (Nat.lt_of_lt_of_le hg3 HBB.out)] at d0
   rw [← BW.out.cell (p := ⟨_, _, none⟩) (Nat.lt_of_lt_of_le hg2 HBB.out)] at d1
   have HNk := Hid.mk (HI.out k hlt)
   have HYk : Hid (∀ my ny, ms.getD k 0 = my → ns.getD k 0 = ny → 0 ≤ my ∧ my < ny ∧ ny ≤ cb + (n0 : Int) + 1 → ∀ j, j < k + 1 → 0 ≤ ms.getD j 0 ∧ ms.getD j 0 < ns.getD j 0 ∧ ns.getD j 0 ≤ cb + (n0 : Int) + 1) := fun my ny h1 h2 h j hj => by
    by_cases e : j = k
    ·subst e; rw [h1, h2]; exact h
    ·exact HR.out j (by omega)
   generalize ms.getD k 0 = mx at *
   generalize ns.getD k 0 = ny at *
   clear HR
   by_cases h1 : mx < 0
   ·have HE := Hid.mk (HNk.out (fun h => by omega))
    have z1 : decide (mx < 0) = true := decide_eq_true h1
    clear HYk HNk h1
    go_wp2_with fail
    have V0 : Hid (Below wr.heap.size wr wr.drew) := (Below.refl _ _).drew
    have KY0 := Hid.mk (KB.out.on V0.out KB.out.lt)
    have SS0 := Hid.mk (show (fun w' => w'.cell? ⟨w.heap.size, 0, none⟩ = some (.int .i64 (t : Int)) ∧ w'.cell? ⟨w.heap.size, 1, none⟩ = some (.int .i64 cp) ∧ w'.cell? ⟨w.heap.size, 2, none⟩ = some (.int .i64 ct) ∧ w'.cell? ⟨w.heap.size, 3, none⟩ = some (.int .i64 cv) ∧ w'.cell? ⟨w.heap.size, 4, none⟩ = some (.int .i64 3) ∧ w'.cell? ⟨w.heap.size, 5, none⟩ = some (.int .i64 cd) ∧ w'.cell? ⟨w.heap.size, 6, none⟩ = some (.int .i64 cb) ∧ w'.cell? ⟨w.heap.size, 7, none⟩ = some (.int .i64 cbt) ∧ w'.cell? ⟨w.heap.size, 8, none⟩ = some (.slice A0 n0 c0) ∧ w'.cell? ⟨w.heap.size, 9, none⟩ = some (.int .i64 cc) ∧ w'.cell? ⟨w.heap.size, 10, none⟩ = some (.slice A1 n1 c1) ∧ w'.cell? ⟨w.heap.size, 11, none⟩ = some (.slice (some ⟨g2, o2, none⟩) n2 c2) ∧ w'.cell? ⟨w.heap.size, 12, none⟩ = some (.slice (some ⟨g3, o3, none⟩) n3 c3) ∧ w'.cell? ⟨g3, o3 + k, none⟩ = some (.int .i64 mx) ∧ w'.cell? ⟨g2, o2 + k, none⟩ = some (.int .i64 ny)) wr.drew from ⟨KY0.out.cell 0 _ rfl, KY0.out.cell 1 _ rfl, KY0.out.cell 2 _ rfl, KY0.out.cell 3 _ rfl, KY0.out.cell 4 _ rfl, KY0.out.cell 5 _ rfl, KY0.out.cell 6 _ rfl, KY0.out.cell 7 _ rfl, KY0.out.cell 8 _ rfl, KY0.out.cell 9 _ rfl, KY0.out.cell 10 _ rfl, KY0.out.cell 11 _ rfl, KY0.out.cell 12 _ rfl, (by rw [V0.out.cell (p := ⟨g3, _, none⟩) hgw3]; exact d0), (by rw [V0.out.cell (p := ⟨g2, _, none⟩) hgw]; exact d1)⟩)
    refine wp_region_until (fun w' => w'.cell? ⟨w.heap.size, 0, none⟩ = some (.int .i64 (t : Int)) ∧ w'.cell? ⟨w.heap.size, 1, none⟩ = some (.int .i64 cp) ∧ w'.cell? ⟨w.heap.size, 2, none⟩ = some (.int .i64 ct) ∧ w'.cell? ⟨w.heap.size, 3, none⟩ = some (.int .i64 cv) ∧ w'.cell? ⟨w.heap.size, 4, none⟩ = some (.int .i64 3) ∧ w'.cell? ⟨w.heap.size, 5, none⟩ = some (.int .i64 cd) ∧ w'.cell? ⟨w.heap.size, 6, none⟩ = some (.int .i64 cb) ∧ w'.cell? ⟨w.heap.size, 7, none⟩ = some (.int .i64 cbt) ∧ w'.cell? ⟨w.heap.size, 8, none⟩ = some (.slice A0 n0 c0) ∧ w'.cell? ⟨w.heap.size, 9, none⟩ = some (.int .i64 cc) ∧ w'.cell? ⟨w.heap.size, 10, none⟩ = some (.slice A1 n1 c1) ∧ w'.cell? ⟨w.heap.size, 11, none⟩ = some (.slice (some ⟨g2, o2, none⟩) n2 c2) ∧ w'.cell? ⟨w.heap.size, 12, none⟩ = some (.slice (some ⟨g3, o3, none⟩) n3 c3) ∧ w'.cell? ⟨g3, o3 + k, none⟩ = some (.int .i64 mx) ∧ w'.cell? ⟨g2, o2 + k, none⟩ = some (.int .i64 ny)) (fun _ => false) 30 (by rfl) (by kernel_rfl) ?_
    generalize wr.drew = Y0 at *
    refine pF 0 ?_
    refine tF 1 SS0.out ?_
    refine pF 2 ?_
    refine pF 3 ?_
    refine tF 4 SS0.out ?_
    refine pF 5 ?_
    refine pF 6 ?_
    refine sF 7 ?_
    refine sF 8 ?_
    refine sF 9 ?_
    refine sF 10 ?_
    refine sF 11 ?_
    refine sF 12 ?_
    refine sF 13 ?_
    refine sF 14 ?_
    refine sF 15 ?_
    refine sF 16 ?_
    refine sF 17 ?_
    refine pF 18 ?_
    refine pF 19 ?_
    refine sF 20 ?_
    refine sF 21 ?_
    refine sF 22 ?_
    refine sF 23 ?_
    refine sF 24 ?_
    refine sF 25 ?_
    refine sF 26 ?_
    refine sF 27 ?_
    refine sF 28 ?_
    refine pF 29 ?_
    refine until_done (by kernel_rfl) ?_ _
    go_wp2_with fail
    go_ret
    exact ⟨by rw [HE.out]; rfl, BW.out.trans (V0.out.mono BW.out.size)⟩
   have z1 : decide (mx < 0) = false := decide_eq_false h1
   by_cases h2 : ny ≤ mx
   ·have HE := Hid.mk (HNk.out (fun h => by omega))
    have z2 : decide (ny ≤ mx) = true := decide_eq_true h2
    clear HYk HNk h1 h2
    go_wp2_with fail
    have V0 : Hid (Below wr.heap.size wr wr.drew) := (Below.refl _ _).drew
    have KY0 := Hid.mk (KB.out.on V0.out KB.out.lt)
    have SS0 := Hid.mk (show (fun w' => w'.cell? ⟨w.heap.size, 0, none⟩ = some (.int .i64 (t : Int)) ∧ w'.cell? ⟨w.heap.size, 1, none⟩ = some (.int .i64 cp) ∧ w'.cell? ⟨w.heap.size, 2, none⟩ = some (.int .i64 ct) ∧ w'.cell? ⟨w.heap.size, 3, none⟩ = some (.int .i64 cv) ∧ w'.cell? ⟨w.heap.size, 4, none⟩ = some (.int .i64 3) ∧ w'.cell? ⟨w.heap.size, 5, none⟩ = some (.int .i64 cd) ∧ w'.cell? ⟨w.heap.size, 6, none⟩ = some (.int .i64 cb) ∧ w'.cell? ⟨w.heap.size, 7, none⟩ = some (.int .i64 cbt) ∧ w'.cell? ⟨w.heap.size, 8, none⟩ = some (.slice A0 n0 c0) ∧ w'.cell? ⟨w.heap.size, 9, none⟩ = some (.int .i64 cc) ∧ w'.cell? ⟨w.heap.size, 10, none⟩ = some (.slice A1 n1 c1) ∧ w'.cell? ⟨w.heap.size, 11, none⟩ = some (.slice (some ⟨g2, o2, none⟩) n2 c2) ∧ w'.cell? ⟨w.heap.size, 12, none⟩ = some (.slice (some ⟨g3, o3, none⟩) n3 c3) ∧ w'.cell? ⟨g3, o3 + k, none⟩ = some (.int .i64 mx) ∧ w'.cell? ⟨g2, o2 + k, none⟩ = some (.int .i64 ny)) wr.drew from ⟨KY0.out.cell 0 _ rfl, KY0.out.cell 1 _ rfl, KY0.out.cell 2 _ rfl, KY0.out.cell 3 _ rfl, KY0.out.cell 4 _ rfl, KY0.out.cell 5 _ rfl, KY0.out.cell 6 _ rfl, KY0.out.cell 7 _ rfl, KY0.out.cell 8 _ rfl, KY0.out.cell 9 _ rfl, KY0.out.cell 10 _ rfl, KY0.out.cell 11 _ rfl, KY0.out.cell 12 _ rfl, (by rw [V0.out.cell (p := ⟨g3, _, none⟩) hgw3]; exact d0), (by rw [V0.out.cell (p := ⟨g2, _, none⟩) hgw]; exact d1)⟩)
    refine wp_region_until (fun w' => w'.cell? ⟨w.heap.size, 0, none⟩ = some (.int .i64 (t : Int)) ∧ w'.cell? ⟨w.heap.size, 1, none⟩ = some (.int .i64 cp) ∧ w'.cell? ⟨w.heap.size, 2, none⟩ = some (.int .i64 ct) ∧ w'.cell? ⟨w.heap.size, 3, none⟩ = some (.int .i64 cv) ∧ w'.cell? ⟨w.heap.size, 4, none⟩ = some (.int .i64 3) ∧ w'.cell? ⟨w.heap.size, 5, none⟩ = some (.int .i64 cd) ∧ w'.cell? ⟨w.heap.size, 6, none⟩ = some (.int .i64 cb) ∧ w'.cell? ⟨w.heap.size, 7, none⟩ = some (.int .i64 cbt) ∧ w'.cell? ⟨w.heap.size, 8, none⟩ = some (.slice A0 n0 c0) ∧ w'.cell? ⟨w.heap.size, 9, none⟩ = some (.int .i64 cc) ∧ w'.cell? ⟨w.heap.size, 10, none⟩ = some (.slice A1 n1 c1) ∧ w'.cell? ⟨w.heap.size, 11, none⟩ = some (.slice (some ⟨g2, o2, none⟩) n2 c2) ∧ w'.cell? ⟨w.heap.size, 12, none⟩ = some (.slice (some ⟨g3, o3, none⟩) n3 c3) ∧ w'.cell? ⟨g3, o3 + k, none⟩ = some (.int .i64 mx) ∧ w'.cell? ⟨g2, o2 + k, none⟩ = some (.int .i64 ny)) (fun _ => false) 30 (by rfl) (by kernel_rfl) ?_
    generalize wr.drew = Y0 at *
    refine pF 0 ?_
    refine tF 1 SS0.out ?_
    refine pF 2 ?_
    refine pF 3 ?_
    refine tF 4 SS0.out ?_
    refine pF 5 ?_
    refine pF 6 ?_
    refine pF 7 ?_
    refine tF 8 SS0.out ?_
    refine pF 9 ?_
    refine pF 10 ?_
    refine tF 11 SS0.out ?_
    refine pF 12 ?_
    refine tF 13 SS0.out ?_
    refine pF 14 ?_
    refine pF 15 ?_
    refine tF 16 SS0.out ?_
    refine pF 17 ?_
    refine pF 18 ?_
    refine pF 19 ?_
    refine sF 20 ?_
    refine sF 21 ?_
    refine sF 22 ?_
    refine sF 23 ?_
    refine sF 24 ?_
    refine sF 25 ?_
    refine sF 26 ?_
    refine sF 27 ?_
    refine sF 28 ?_
    refine pF 29 ?_
    refine until_done (by kernel_rfl) ?_ _
    go_wp2_with fail
    go_ret
    exact ⟨by rw [HE.out]; rfl, BW.out.trans (V0.out.mono BW.out.size)⟩
   have z2 : decide (ny ≤ mx) = false := decide_eq_false h2
   by_cases h3 : cb + (n0 : Int) + 1 < ny
   ·have HE := Hid.mk (HNk.out (fun h => by omega))
    have z3 : decide (cb + (n0 : Int) + 1 < ny) = true := decide_eq_true h3
    clear HYk HNk h1 h2 h3
    go_wp2_with fail
    have V0 : Hid (Below wr.heap.size wr wr.drew) := (Below.refl _ _).drew
    have KY0 := Hid.mk (KB.out.on V0.out KB.out.lt)
    have SS0 := Hid.mk (show (fun w' => w'.cell? ⟨w.heap.size, 0, none⟩ = some (.int .i64 (t : Int)) ∧ w'.cell? ⟨w.heap.size, 1, none⟩ = some (.int .i64 cp) ∧ w'.cell? ⟨w.heap.size, 2, none⟩ = some (.int .i64 ct) ∧ w'.cell? ⟨w.heap.size, 3, none⟩ = some (.int .i64 cv) ∧ w'.cell? ⟨w.heap.size, 4, none⟩ = some (.int .i64 3) ∧ w'.cell? ⟨w.heap.size, 5, none⟩ = some (.int .i64 cd) ∧ w'.cell? ⟨w.heap.size, 6, none⟩ = some (.int .i64 cb) ∧ w'.cell? ⟨w.heap.size, 7, none⟩ = some (.int .i64 cbt) ∧ w'.cell? ⟨w.heap.size, 8, none⟩ = some (.slice A0 n0 c0) ∧ w'.cell? ⟨w.heap.size, 9, none⟩ = some (.int .i64 cc) ∧ w'.cell? ⟨w.heap.size, 10, none⟩ = some (.slice A1 n1 c1) ∧ w'.cell? ⟨w.heap.size, 11, none⟩ = some (.slice (some ⟨g2, o2, none⟩) n2 c2) ∧ w'.cell? ⟨w.heap.size, 12, none⟩ = some (.slice (some ⟨g3, o3, none⟩) n3 c3) ∧ w'.cell? ⟨g3, o3 + k, none⟩ = some (.int .i64 mx) ∧ w'.cell? ⟨g2, o2 + k, none⟩ = some (.int .i64 ny)) wr.drew from ⟨KY0.out.cell 0 _ rfl, KY0.out.cell 1 _ rfl, KY0.out.cell 2 _ rfl, KY0.out.cell 3 _ rfl, KY0.out.cell 4 _ rfl, KY0.out.cell 5 _ rfl, KY0.out.cell 6 _ rfl, KY0.out.cell 7 _ rfl, KY0.out.cell 8 _ rfl, KY0.out.cell 9 _ rfl, KY0.out.cell 10 _ rfl, KY0.out.cell 11 _ rfl, KY0.out.cell 12 _ rfl, (by rw [V0.out.cell (p := ⟨g3, _, none⟩) hgw3]; exact d0), (by rw [V0.out.cell (p := ⟨g2, _, none⟩) hgw]; exact d1)⟩)
    refine wp_region_until (fun w' => w'.cell? ⟨w.heap.size, 0, none⟩ = some (.int .i64 (t : Int)) ∧ w'.cell? ⟨w.heap.size, 1, none⟩ = some (.int .i64 cp) ∧ w'.cell? ⟨w.heap.size, 2, none⟩ = some (.int .i64 ct) ∧ w'.cell? ⟨w.heap.size, 3, none⟩ = some (.int .i64 cv) ∧ w'.cell? ⟨w.heap.size, 4, none⟩ = some (.int .i64 3) ∧ w'.cell? ⟨w.heap.size, 5, none⟩ = some (.int .i64 cd) ∧ w'.cell? ⟨w.heap.size, 6, none⟩ = some (.int .i64 cb) ∧ w'.cell? ⟨w.heap.size, 7, none⟩ = some (.int .i64 cbt) ∧ w'.cell? ⟨w.heap.size, 8, none⟩ = some (.slice A0 n0 c0) ∧ w'.cell? ⟨w.heap.size, 9, none⟩ = some (.int .i64 cc) ∧ w'.cell? ⟨w.heap.size, 10, none⟩ = some (.slice A1 n1 c1) ∧ w'.cell? ⟨w.heap.size, 11, none⟩ = some (.slice (some ⟨g2, o2, none⟩) n2 c2) ∧ w'.cell? ⟨w.heap.size, 12, none⟩ = some (.slice (some ⟨g3, o3, none⟩) n3 c3) ∧ w'.cell? ⟨g3, o3 + k, none⟩ = some (.int .i64 mx) ∧ w'.cell? ⟨g2, o2 + k, none⟩ = some (.int .i64 ny)) (fun _ => false) 30 (by rfl) (by kernel_rfl) ?_
    generalize wr.drew = Y0 at *
    refine pF 0 ?_
    refine tF 1 SS0.out ?_
    refine pF 2 ?_
    refine pF 3 ?_
    refine tF 4 SS0.out ?_
    refine pF 5 ?_
    refine pF 6 ?_
    refine pF 7 ?_
    refine tF 8 SS0.out ?_
    refine pF 9 ?_
    refine pF 10 ?_
    refine tF 11 SS0.out ?_
    refine pF 12 ?_
    refine tF 13 SS0.out ?_
    refine pF 14 ?_
    refine pF 15 ?_
    refine tF 16 SS0.out ?_
    refine pF 17 ?_
    refine pF 18 ?_
    refine pF 19 ?_
    refine pF 20 ?_
    refine tF 21 SS0.out ?_
    refine pF 22 ?_
    refine pF 23 ?_
    refine tF 24 SS0.out ?_
    refine tF 25 SS0.out ?_
    refine uNe 26 (fun K hK => ?_)
    go_simp
    refine (cLS _).mono ?_
    rintro e Y1 ⟨rfl, hb⟩
    have V1 := Hid.mk (V0.out.trans (hb.mono V0.out.size))
    have KY1 := Hid.mk (KY0.out.on hb KY0.out.lt)
    clear hb
    refine hK.out _ _ (fun _ h => ⟨KY1.out.cell 0 _ rfl, KY1.out.cell 1 _ rfl, KY1.out.cell 2 _ rfl, KY1.out.cell 3 _ rfl, KY1.out.cell 4 _ rfl, KY1.out.cell 5 _ rfl, KY1.out.cell 6 _ rfl, KY1.out.cell 7 _ rfl, KY1.out.cell 8 _ rfl, KY1.out.cell 9 _ rfl, KY1.out.cell 10 _ rfl, KY1.out.cell 11 _ rfl, KY1.out.cell 12 _ rfl, (by rw [V1.out.cell (p := ⟨g3, _, none⟩) hgw3]; exact d0), (by rw [V1.out.cell (p := ⟨g2, _, none⟩) hgw]; exact d1)⟩) ?_
    clear hK K
    try simp only [Act.put, zQ1, zQ2, zQ3]
    refine pF 27 ?_
    refine pF 28 ?_
    refine pF 29 ?_
    refine until_done (by kernel_rfl) ?_ _
    go_wp2_with fail
    go_ret
    exact ⟨by rw [HE.out]; rfl, BW.out.trans (V1.out.mono BW.out.size)⟩
   have z3 : decide (cb + (n0 : Int) + 1 < ny) = false := decide_eq_false h3
   have HG := Hid.mk (HYk.out mx ny rfl rfl ⟨by omega, by omega, by omega⟩)
   clear HYk HNk h1 h2 h3
   go_wp2_with fail
   have V0 : Hid (Below wr.heap.size wr wr.drew) := (Below.refl _ _).drew
   have KY0 := Hid.mk (KB.out.on V0.out KB.out.lt)
   have SS0 := Hid.mk (show (fun w' => w'.cell? ⟨w.heap.size, 0, none⟩ = some (.int .i64 (t : Int)) ∧ w'.cell? ⟨w.heap.size, 1, none⟩ = some (.int .i64 cp) ∧ w'.cell? ⟨w.heap.size, 2, none⟩ = some (.int .i64 ct) ∧ w'.cell? ⟨w.heap.size, 3, none⟩ = some (.int .i64 cv) ∧ w'.cell? ⟨w.heap.size, 4, none⟩ = some (.int .i64 3) ∧ w'.cell? ⟨w.heap.size, 5, none⟩ = some (.int .i64 cd) ∧ w'.cell? ⟨w.heap.size, 6, none⟩ = some (.int .i64 cb) ∧ w'.cell? ⟨w.heap.size, 7, none⟩ = some (.int .i64 cbt) ∧ w'.cell? ⟨w.heap.size, 8, none⟩ = some (.slice A0 n0 c0) ∧ w'.cell? ⟨w.heap.size, 9, none⟩ = some (.int .i64 cc) ∧ w'.cell? ⟨w.heap.size, 10, none⟩ = some (.slice A1 n1 c1) ∧ w'.cell? ⟨w.heap.size, 11, none⟩ = some (.slice (some ⟨g2, o2, none⟩) n2 c2) ∧ w'.cell? ⟨w.heap.size, 12, none⟩ = some (.slice (some ⟨g3, o3, none⟩) n3 c3) ∧ w'.cell? ⟨g3, o3 + k, none⟩ = some (.int .i64 mx) ∧ w'.cell? ⟨g2, o2 + k, none⟩ = some (.int .i64 ny)) wr.drew from ⟨KY0.out.cell 0 _ rfl, KY0.out.cell 1 _ rfl, KY0.out.cell 2 _ rfl, KY0.out.cell 3 _ rfl, KY0.out.cell 4 _ rfl, KY0.out.cell 5 _ rfl, KY0.out.cell 6 _ rfl, KY0.out.cell 7 _ rfl, KY0.out.cell 8 _ rfl, KY0.out.cell 9 _ rfl, KY0.out.cell 10 _ rfl, KY0.out.cell 11 _ rfl, KY0.out.cell 12 _ rfl, (by rw [V0.out.cell (p := ⟨g3, _, none⟩) hgw3]; exact d0), (by rw [V0.out.cell (p := ⟨g2, _, none⟩) hgw]; exact d1)⟩)
   refine wp_region_until (fun w' => w'.cell? ⟨w.heap.size, 0, none⟩ = some (.int .i64 (t : Int)) ∧ w'.cell? ⟨w.heap.size, 1, none⟩ = some (.int .i64 cp) ∧ w'.cell? ⟨w.heap.size, 2, none⟩ = some (.int .i64 ct) ∧ w'.cell? ⟨w.heap.size, 3, none⟩ = some (.int .i64 cv) ∧ w'.cell? ⟨w.heap.size, 4, none⟩ = some (.int .i64 3) ∧ w'.cell? ⟨w.heap.size, 5, none⟩ = some (.int .i64 cd) ∧ w'.cell? ⟨w.heap.size, 6, none⟩ = some (.int .i64 cb) ∧ w'.cell? ⟨w.heap.size, 7, none⟩ = some (.int .i64 cbt) ∧ w'.cell? ⟨w.heap.size, 8, none⟩ = some (.slice A0 n0 c0) ∧ w'.cell? ⟨w.heap.size, 9, none⟩ = some (.int .i64 cc) ∧ w'.cell? ⟨w.heap.size, 10, none⟩ = some (.slice A1 n1 c1) ∧ w'.cell? ⟨w.heap.size, 11, none⟩ = some (.slice (some ⟨g2, o2, none⟩) n2 c2) ∧ w'.cell? ⟨w.heap.size, 12, none⟩ = some (.slice (some ⟨g3, o3, none⟩) n3 c3) ∧ w'.cell? ⟨g3, o3 + k, none⟩ = some (.int .i64 mx) ∧ w'.cell? ⟨g2, o2 + k, none⟩ = some (.int .i64 ny)) (fun _ => false) 30 (by rfl) (by kernel_rfl) ?_
   generalize wr.drew = Y0 at *
   refine pF 0 ?_
   refine tF 1 SS0.out ?_
   refine pF 2 ?_
   refine pF 3 ?_
   refine tF 4 SS0.out ?_
   refine pF 5 ?_
   refine pF 6 ?_
   refine pF 7 ?_
   refine tF 8 SS0.out ?_
   refine pF 9 ?_
   refine pF 10 ?_
   refine tF 11 SS0.out ?_
   refine pF 12 ?_
   refine tF 13 SS0.out ?_
   refine pF 14 ?_
   refine pF 15 ?_
   refine tF 16 SS0.out ?_
   refine pF 17 ?_
   refine pF 18 ?_
   refine pF 19 ?_
   refine pF 20 ?_
   refine tF 21 SS0.out ?_
   refine pF 22 ?_
   refine pF 23 ?_
   refine tF 24 SS0.out ?_
   refine tF 25 SS0.out ?_
   refine uNe 26 (fun K hK => ?_)
   go_simp
   refine (cLS _).mono ?_
   rintro e Y1 ⟨rfl, hb⟩
   have V1 := Hid.mk (V0.out.trans (hb.mono V0.out.size))
   have KY1 := Hid.mk (KY0.out.on hb KY0.out.lt)
   clear hb
   refine hK.out _ _ (fun _ h => ⟨KY1.out.cell 0 _ rfl, KY1.out.cell 1 _ rfl, KY1.out.cell 2 _ rfl, KY1.out.cell 3 _ rfl, KY1.out.cell 4 _ rfl, KY1.out.cell 5 _ rfl, KY1.out.cell 6 _ rfl, KY1.out.cell 7 _ rfl, KY1.out.cell 8 _ rfl, KY1.out.cell 9 _ rfl, KY1.out.cell 10 _ rfl, KY1.out.cell 11 _ rfl, KY1.out.cell 12 _ rfl, (by rw [V1.out.cell (p := ⟨g3, _, none⟩) hgw3]; exact d0), (by rw [V1.out.cell (p := ⟨g2, _, none⟩) hgw]; exact d1)⟩) ?_
   clear hK K
   try simp only [Act.put, zQ1, zQ2, zQ3]
   refine pF 27 ?_
   refine pF 28 ?_
   refine pF 29 ?_
   refine until_done (by kernel_rfl) ?_ _
   go_wp2_with fail
   go_roundw
   case rel => exact ⟨k + 1, by omega, by go_num, BR.out.trans (V1.out.mono BR.out.size), HG.out⟩
   case measure => simp [intOf]; omega
  ·obtain rfl : k = n3 := by omega
   have HE := Hid.mk (HT2.out HR.out)
   have z5 : ¬ (k : Int) < cp := by have := HN3.out; omega
   have z6 : decide ((k : Int) < cp) = false := decide_eq_false z5
   clear HT2 HR
   go_wp2_with fail
   go_ret
   exact ⟨by rw [HE.out]; rfl, BW.out⟩
end Go.Proofs.Ytlhoonohpfpkbaa
namespace Go.Proofs.Ytlhoonohpfpkbaa
open Go.ChangeShapes Go.WideShapes Go.ChangeAt Go.RowKit Go.PlainAid
set_option linter.unusedVariables false
theorem specCoreOk (x : Cor) (v : Value) (w : World) (B : Nat) (hv : CorV w B v x) (hs : ShortC x) (hB : B ≤ w.heap.size) : Calls Try.prog 22 #[v] w fun e w' => e = .returned (.bool (corOk x)) ∧ Below w.heap.size w w' := by
 obtain ⟨ci, cp, ct, cv, cr, cd, cb, cbt, lg, cc, ys, ns, ms⟩ := x
 obtain ⟨u0, u1, u2, u3, rfl, hl, hy, hn, hm⟩ := hv
 by_cases h0 : COk0 ⟨ci, cp, ct, cv, cr, cd, cb, cbt, lg, cc, ys, ns, ms⟩
 rotate_left
 ·exact coreS0 ci cp ct cv cr cd cb cbt lg cc ys ns ms u0 u1 u2 u3 w B hl hy hn hm hs hB h0
 by_cases h1 : cr = 1
 ·subst h1; exact coreS1 ci cp ct cv cd cb cbt lg cc ys ns ms u0 u1 u2 u3 w B hl hy hn hm hs hB h0
 by_cases h2 : cr = 2
 ·subst h2; exact coreS2 ci cp ct cv cd cb cbt lg cc ys ns ms u0 u1 u2 u3 w B hl hy hn hm hs hB h0
 by_cases h3 : cr = 3
 ·subst h3; exact coreS3 ci cp ct cv cd cb cbt lg cc ys ns ms u0 u1 u2 u3 w B hl hy hn hm hs hB h0
 exact coreSx ci cp ct cv cr cd cb cbt lg cc ys ns ms u0 u1 u2 u3 w B hl hy hn hm hs hB h0 h1 h2 h3
end Go.Proofs.Ytlhoonohpfpkbaa
