/- CoS3 -/
import Derived.Test.YtlhoonohpfpkbaaRows
import Derived.Test.YtlhoonohpfpkbaaQp10
import Derived.Deep.Cut
import Derived.Handy
open List (setIfInBounds_toArray set_cons_zero set_cons_succ)
namespace Go.Proofs.Ytlhoonohpfpkbaa
open Go.ChangeShapes Go.WideShapes Go.ChangeAt Go.RowKit Go.PlainAid
set_option linter.unusedVariables false
set_option maxRecDepth 20000 in
set_option maxHeartbeats 16000000 in
theorem coreS2 (ci cp ct cv cd cb cbt : Int) (lg : List Ent) (cc : Int) (ys ns ms : List Int) (u0 u1 u2 u3 : Value) (w : World) (B : Nat) (hl : Lies w B 2 u0 (entR lg)) (hy : NumsV w B u1 ys) (hn : NumsV w B u2 ns) (hm : NumsV w B u3 ms) (hs : ShortC ⟨ci, cp, ct, cv, 2, cd, cb, cbt, lg, cc, ys, ns, ms⟩) (hB : B ≤ w.heap.size) (hok : COk0 ⟨ci, cp, ct, cv, 2, cd, cb, cbt, lg, cc, ys, ns, ms⟩) : Calls Try.prog 22 #[.agg #[.int .i64 ci, .int .i64 cp, .int .i64 ct, .int .i64 cv, .int .i64 2, .int .i64 cd, .int .i64 cb, .int .i64 cbt, u0, .int .i64 cc, u1, u2, u3]] w fun e w' => e = .returned (.bool (corOk ⟨ci, cp, ct, cv, 2, cd, cb, cbt, lg, cc, ys, ns, ms⟩)) ∧ Below w.heap.size w w' := by
 have HYv : Hid (NumsV w B u1 ys ∧ NumsV w B u2 ns ∧ NumsV w B u3 ms) := ⟨hy, hn, hm⟩
 have HLg : Hid (Lies w B 2 u0 (entR lg)) := hl
 have HBB : Hid (B ≤ w.heap.size) := hB
 have HS : Hid (ShortC ⟨ci, cp, ct, cv, 2, cd, cb, cbt, lg, cc, ys, ns, ms⟩) := hs
 obtain ⟨A0, c0, rfl, _⟩ := ent_look hl
 obtain ⟨A1, c1, rfl, _, _, hc1⟩ := hy
 obtain ⟨A2, c2, rfl, _, _, hc2⟩ := hn
 obtain ⟨A3, c3, rfl, _, _, hc3⟩ := hm
 have H1 : Hid (∀ j, j < ys.length → ∃ g off, A1 = some ⟨g, off, none⟩ ∧ g < B ∧ w.cell? ⟨g, off + j, none⟩ = some (.int .i64 (ys.getD j 0))) := hc1
 have H2 : Hid (∀ j, j < ns.length → ∃ g off, A2 = some ⟨g, off, none⟩ ∧ g < B ∧ w.cell? ⟨g, off + j, none⟩ = some (.int .i64 (ns.getD j 0))) := hc2
 have H3 : Hid (∀ j, j < ms.length → ∃ g off, A3 = some ⟨g, off, none⟩ ∧ g < B ∧ w.cell? ⟨g, off + j, none⟩ = some (.int .i64 (ms.getD j 0))) := hc3
 clear hc1 hc2 hc3
 have a1 := inB cp 1 5
 have a2 := inB ci 0 (cp - 1)
 have cW := fun wx h1 h2 => walS ci cp ct cv 2 cd cb cbt lg cc A0 lg.length c0 (.slice A1 ys.length c1) (.slice A2 ns.length c2) (.slice A3 ms.length c3) wx B h1 hs.n h2
 have cO := fun ux wx h1 h2 => specWalOk (corW ⟨ci, cp, ct, cv, 2, cd, cb, cbt, lg, cc, ys, ns, ms⟩) (.agg #[.int .i64 ct, .int .i64 cv, .int .i64 cb, .int .i64 cbt, ux]) wx wx.heap.size ⟨_, rfl, h1⟩ ⟨Nat.le_trans hs.n (by decide), fun e he => Nat.le_trans (hs.d e he) (by decide)⟩ h2
 have cL := fun h0 h1 wx => lastS ci cp ct cv 2 cd cb cbt cc A0 lg.length c0 (.slice A1 ys.length c1) (.slice A2 ns.length c2) (.slice A3 ms.length c3) wx h0 h1 hs.n
 have a4 := inB cc cb (cb + (lg.length : Int))
 have HCl : Hid (cLast ⟨ci, cp, ct, cv, 2, cd, cb, cbt, lg, cc, ys, ns, ms⟩ = cb + (lg.length : Int)) := rfl
 have HWl : Hid (walOk (corW ⟨ci, cp, ct, cv, 2, cd, cb, cbt, lg, cc, ys, ns, ms⟩) = true → 0 ≤ cb ∧ cb ≤ 100000) := fun h => (walOk_in h).2.2.1
 have q0 : (lg.length : Int) ≤ 1048576 := by have := hs.n; simp only at this; omega
 have qy : (ys.length : Int) ≤ 1048576 := by have := hs.y; simp only at this; omega
 have qn : (ns.length : Int) ≤ 1048576 := by have := hs.q; simp only at this; omega
 have qm : (ms.length : Int) ≤ 1048576 := by have := hs.m; simp only at this; omega
 clear hl hB
 have HR : Hid (corOk ⟨ci, cp, ct, cv, 2, cd, cb, cbt, lg, cc, ys, ns, ms⟩ = roleB ⟨ci, cp, ct, cv, 2, cd, cb, cbt, lg, cc, ys, ns, ms⟩) := corOk_and hok
 obtain ⟨⟨p0, p1⟩, ⟨i0, i1⟩, h3, h4, m⟩ := hok
 simp only at p0 p1 i0 i1 h4
 rw [HCl.out] at m
 obtain ⟨m0, m1⟩ := m
 simp only at m0
 rw [show inIt cp 1 5 = true by unfold inIt; simp [p0, p1]] at a1
 rw [show inIt ci 0 (cp - 1) = true by unfold inIt; simp [i0, i1]] at a2
 rw [h3] at cO
 obtain ⟨b0, b1⟩ := HWl.out h3
 have cLS := cL b0 (by omega)
 rw [show inIt cc cb (cb + (lg.length : Int)) = true by unfold inIt; simp [m0, m1]] at a4
 have z4 : decide (cp ≤ cv) = false := decide_eq_false (by omega)
 have w1 : IntKind.i64.wrap (cp - 1) = cp - 1 := by rw [IntKind.wrap_i64]; omega
 clear h3 h4 m0 m1 HWl cL hs
 have HNo : Hid (¬ RSeek ⟨ci, cp, ct, cv, 2, cd, cb, cbt, lg, cc, ys, ns, ms⟩ → corOk ⟨ci, cp, ct, cv, 2, cd, cb, cbt, lg, cc, ys, ns, ms⟩ = false) := fun h => by
  rw [HR.out]
  refine roleB_no fun q => ?_
  rcases q with ⟨e, q⟩ | ⟨e, q⟩ | ⟨e, q⟩
  ·cases e
  ·exact h q
  ·cases e
 have HYe : Hid (RSeek ⟨ci, cp, ct, cv, 2, cd, cb, cbt, lg, cc, ys, ns, ms⟩ → corOk ⟨ci, cp, ct, cv, 2, cd, cb, cbt, lg, cc, ys, ns, ms⟩ = true) := fun h => by
  rw [HR.out]
  exact roleB_yes (.inr (.inl ⟨rfl, h⟩))
 have HI : Hid (∀ j, j < ys.length → inIt (ys.getD j 0) 0 (cp - 1) = false → corOk ⟨ci, cp, ct, cv, 2, cd, cb, cbt, lg, cc, ys, ns, ms⟩ = false) := fun j hj h => HNo.out fun q => by have a := q.i j hj; simp only at a; rw [inIt_mk a.1 a.2] at h; cases h
 have HU : Hid (∀ j, j + 1 < ys.length → ¬ ys.getD j 0 < ys.getD (j + 1) 0 → corOk ⟨ci, cp, ct, cv, 2, cd, cb, cbt, lg, cc, ys, ns, ms⟩ = false) := fun j hj h => HNo.out fun q => h (q.r j hj)
 have HA : Hid ((∀ j, j < ys.length → 0 ≤ ys.getD j 0 ∧ ys.getD j 0 ≤ cp - 1) → (∀ j, j + 1 < ys.length → ys.getD j 0 < ys.getD (j + 1) 0) → 1 ≤ ct → cv = ci → cd = -1 → ci ∈ ys → 2 * (ys.length : Int) ≤ cp → ns.length = 0 → ms.length = 0 → corOk ⟨ci, cp, ct, cv, 2, cd, cb, cbt, lg, cc, ys, ns, ms⟩ = true) := fun h1 h2 h3 h4 h5 h6 h7 h8 h9 => HYe.out ⟨h3, h4, h5, h1, h2, h6, h7, h8, h9⟩
 have HC1 : Hid (¬ 1 ≤ ct → corOk ⟨ci, cp, ct, cv, 2, cd, cb, cbt, lg, cc, ys, ns, ms⟩ = false) := fun h => HNo.out fun q => h q.t
 have HC2 : Hid (¬ cv = ci → corOk ⟨ci, cp, ct, cv, 2, cd, cb, cbt, lg, cc, ys, ns, ms⟩ = false) := fun h => HNo.out fun q => h q.v
 have HC3 : Hid (¬ cd = -1 → corOk ⟨ci, cp, ct, cv, 2, cd, cb, cbt, lg, cc, ys, ns, ms⟩ = false) := fun h => HNo.out fun q => h q.l
 have HC4 : Hid (¬ ci ∈ ys → corOk ⟨ci, cp, ct, cv, 2, cd, cb, cbt, lg, cc, ys, ns, ms⟩ = false) := fun h => HNo.out fun q => h q.h
 have HC5 : Hid (¬ 2 * (ys.length : Int) ≤ cp → corOk ⟨ci, cp, ct, cv, 2, cd, cb, cbt, lg, cc, ys, ns, ms⟩ = false) := fun h => HNo.out fun q => h q.f
 have HC6 : Hid (¬ ns.length = 0 → corOk ⟨ci, cp, ct, cv, 2, cd, cb, cbt, lg, cc, ys, ns, ms⟩ = false) := fun h => HNo.out fun q => h q.n
 have HC7 : Hid (¬ ms.length = 0 → corOk ⟨ci, cp, ct, cv, 2, cd, cb, cbt, lg, cc, ys, ns, ms⟩ = false) := fun h => HNo.out fun q => h q.m
 have cH := fun wx h => hasS ys (.slice A1 ys.length c1) ci wx B h HS.out.y
 clear HNo HYe
 generalize lg.length = n0 at *
 generalize ys.length = n1 at *
 generalize ns.length = n2 at *
 generalize ms.length = n3 at *
 obtain ⟨X0, hX0⟩ : ∃ X0, X0 = w.alloc (.cells #[.int .i64 ci, .int .i64 cp, .int .i64 ct, .int .i64 cv, .int .i64 2, .int .i64 cd, .int .i64 cb, .int .i64 cbt, .slice A0 n0 c0, .int .i64 cc, .slice A1 n1 c1, .slice A2 n2 c2, .slice A3 n3 c3] 29) := ⟨_, rfl⟩
 have B0 : Hid (Below w.heap.size w X0) := by unfold Hid; rw [hX0]; exact (Below.refl _ _).alloc (Nat.le_refl _) _
 have K0 : Hid (Blk X0 w.heap.size #[.int .i64 ci, .int .i64 cp, .int .i64 ct, .int .i64 cv, .int .i64 2, .int .i64 cd, .int .i64 cb, .int .i64 cbt, .slice A0 n0 c0, .int .i64 cc, .slice A1 n1 c1, .slice A2 n2 c2, .slice A3 n3 c3] 29) := by unfold Hid; rw [hX0]; exact Blk.new w _ _
 go_enter Try.func22, Try.ntmps22
 go_wp2_with fail
 rw [← hX0]
 clear hX0
 refine wp_region_until (fun w' => w'.cell? ⟨w.heap.size, 0, none⟩ = some (.int .i64 ci) ∧ w'.cell? ⟨w.heap.size, 1, none⟩ = some (.int .i64 cp) ∧ w'.cell? ⟨w.heap.size, 2, none⟩ = some (.int .i64 ct) ∧ w'.cell? ⟨w.heap.size, 3, none⟩ = some (.int .i64 cv) ∧ w'.cell? ⟨w.heap.size, 4, none⟩ = some (.int .i64 2) ∧ w'.cell? ⟨w.heap.size, 5, none⟩ = some (.int .i64 cd) ∧ w'.cell? ⟨w.heap.size, 6, none⟩ = some (.int .i64 cb) ∧ w'.cell? ⟨w.heap.size, 7, none⟩ = some (.int .i64 cbt) ∧ w'.cell? ⟨w.heap.size, 8, none⟩ = some (.slice A0 n0 c0) ∧ w'.cell? ⟨w.heap.size, 9, none⟩ = some (.int .i64 cc) ∧ w'.cell? ⟨w.heap.size, 10, none⟩ = some (.slice A1 n1 c1) ∧ w'.cell? ⟨w.heap.size, 11, none⟩ = some (.slice A2 n2 c2) ∧ w'.cell? ⟨w.heap.size, 12, none⟩ = some (.slice A3 n3 c3)) (fun _ => false) 36 (by rfl) (by kernel_rfl) ?_
 have V0 : Hid (Below w.heap.size w X0.drew) := B0.out.trans ((Below.refl _ _).drew.mono B0.out.size)
 have KY0 := Hid.mk (K0.out.on ((Below.refl _ X0).drew) K0.out.lt)
 generalize X0.drew = Y0 at *
 have SS0 := Hid.mk (cellsC13 KY0.out)
 refine pF 0 ?_
 refine tF 1 SS0.out ?_
 refine uNe 2 (fun K hK => ?_)
 go_simp
 refine (a1 _).mono ?_
 rintro e w' ⟨rfl, rfl⟩
 refine hK.out _ _ (fun _ h => h) ?_
 clear hK K
 try simp only [Act.put, zQ1, zQ2, zQ3]
 refine pF 3 ?_
 refine pF 4 ?_
 refine pF 5 ?_
 refine tF 6 SS0.out ?_
 refine pF 7 ?_
 refine tF 8 SS0.out ?_
 refine pF 9 ?_
 refine uNe 10 (fun K hK => ?_)
 go_simp
 refine (a2 _).mono ?_
 rintro e w' ⟨rfl, rfl⟩
 refine hK.out _ _ (fun _ h => h) ?_
 clear hK K
 try simp only [Act.put, zQ1, zQ2, zQ3]
 refine pF 11 ?_
 refine pF 12 ?_
 refine pF 13 ?_
 refine tF 14 SS0.out ?_
 refine uNe 15 (fun K hK => ?_)
 go_simp
 refine (cW Y0 (HLg.out.on (V0.out.mono HBB.out)) (Nat.le_trans HBB.out V0.out.size)).mono ?_
 rintro e Y1 ⟨⟨uw, rfl, hOw⟩, hb⟩
 obtain ⟨Aw, mw, kw, rfl⟩ := hOw.shape
 have HOw := Hid.mk hOw
 clear hOw
 have V1 : Hid (Below w.heap.size w Y1) := V0.out.trans (hb.mono V0.out.size)
 have KY1 := Hid.mk (KY0.out.on hb KY0.out.lt)
 have SS1 := Hid.mk (cellsC13 KY1.out)
 clear hb
 refine hK.out _ _ (fun _ _ => SS1.out) ?_
 clear hK K
 try simp only [Act.put, zQ1, zQ2, zQ3]
 refine uNe 16 (fun K hK => ?_)
 go_simp
 refine (cO _ Y1 HOw.out.lies (Nat.le_refl _)).mono ?_
 rintro e Y2 ⟨rfl, hb⟩
 have V2 : Hid (Below w.heap.size w Y2) := V1.out.trans (hb.mono V1.out.size)
 have KY2 := Hid.mk (KY1.out.on hb KY1.out.lt)
 have SS2 := Hid.mk (cellsC13 KY2.out)
 clear hb
 refine hK.out _ _ (fun _ _ => SS2.out) ?_
 clear hK K
 try simp only [Act.put, zQ1, zQ2, zQ3]
 refine pF 17 ?_
 refine pF 18 ?_
 refine pF 19 ?_
 refine pF 20 ?_
 refine tF 21 SS2.out ?_
 refine pF 22 ?_
 refine tF 23 SS2.out ?_
 refine pF 24 ?_
 refine pF 25 ?_
 refine pF 26 ?_
 refine pF 27 ?_
 refine tF 28 SS2.out ?_
 refine pF 29 ?_
 refine tF 30 SS2.out ?_
 refine tF 31 SS2.out ?_
 refine uNe 32 (fun K hK => ?_)
 go_simp
 refine (cLS Y2).mono ?_
 rintro e Y3 ⟨rfl, hb⟩
 have V3 : Hid (Below w.heap.size w Y3) := V2.out.trans (hb.mono V2.out.size)
 have KY3 := Hid.mk (KY2.out.on hb KY2.out.lt)
 have SS3 := Hid.mk (cellsC13 KY3.out)
 clear hb
 refine hK.out _ _ (fun _ _ => SS3.out) ?_
 clear hK K
 try simp only [Act.put, zQ1, zQ2, zQ3]
 refine uNe 33 (fun K hK => ?_)
 go_simp
 refine (a4 _).mono ?_
 rintro e w' ⟨rfl, rfl⟩
 refine hK.out _ _ (fun _ h => h) ?_
 clear hK K
 try simp only [Act.put, zQ1, zQ2, zQ3]
 refine pF 34 ?_
 refine pF 35 ?_
 refine until_done (by kernel_rfl) ?_ _
 have BY : Hid (Below w.heap.size w Y3) := V3.out
 have KY : Hid (Blk Y3 w.heap.size #[.int .i64 ci, .int .i64 cp, .int .i64 ct, .int .i64 cv, .int .i64 2, .int .i64 cd, .int .i64 cb, .int .i64 cbt, .slice A0 n0 c0, .int .i64 cc, .slice A1 n1 c1, .slice A2 n2 c2, .slice A3 n3 c3] 29) := KY3.out
 clear V0 V1 V2 V3 KY0 KY1 KY2 KY3 SS0 SS1 SS2 HOw a1 a2 a4 cW cO
 clear SS3
 have HBY : Hid (B ≤ Y3.heap.size) := Nat.le_trans HBB.out BY.out.size
 obtain ⟨k0, k1, k2, k3, k4, k5, k6, k7, k8, k9, k10, k11, k12⟩ := cellsC13 KY.out
 go_wp2_with fail
 clear k0 k1 k2 k3 k4 k5 k6 k7 k8 k9 k10 k11 k12
 go_loopw [3] (fun v3 wr => ∃ k : Nat, k ≤ n1 ∧ v3 = .int .i64 (k : Int) ∧ Below Y3.heap.size Y3 wr ∧ Hid (∀ j, j < k → 0 ≤ ys.getD j 0 ∧ ys.getD j 0 ≤ cp - 1) ∧ Hid (∀ j, j + 1 < k → ys.getD j 0 < ys.getD (j + 1) 0)) (fun v _ => n1 - (intOf v).toNat)
 case atStart => exact ⟨0, by omega, rfl, Below.refl _ _, fun j hj => by omega, fun j hj => by omega⟩
 case round =>
  obtain ⟨k, hk, rfl, hbr, HI1, HU1⟩ := hrel
  have BR := Hid.mk hbr
  have KB := Hid.mk (KY.out.on hbr KY.out.lt)
  have BW : Hid (Below w.heap.size w wr) := BY.out.trans (hbr.mono BY.out.size)
  clear hbr
  have k10 := KB.out.cell 10 _ rfl
  by_cases hlt : k < n1
  ·have q4 : (k : Int) < (n1 : Int) := by omega
   obtain ⟨g1, o1, rfl, hg1, d0⟩ := H1.out k hlt
   have hgw : g1 < wr.heap.size := Nat.lt_of_lt_of_le hg1 (Nat.le_trans HBB.out BW.out.size)
   rw [← BW.out.cell (p := ⟨_, _, none⟩) (Nat.lt_of_lt_of_le hg1 HBB.out)] at d0
   have HIk := Hid.mk (HI.out k hlt)
   have HIn : Hid (∀ y, ys.getD k 0 = y → 0 ≤ y ∧ y ≤ cp - 1 → ∀ j, j < k + 1 → 0 ≤ ys.getD j 0 ∧ ys.getD j 0 ≤ cp - 1) := fun y hy h j hj => by
    by_cases e : j = k
    ·subst e; rw [hy]; exact h
    ·exact HI1.out j (by omega)
   have HUn : Hid (k = 0 → ∀ j, j + 1 < k + 1 → ys.getD j 0 < ys.getD (j + 1) 0) := fun h j hj => by omega
   have HUs : Hid (∀ q, k = q + 1 → ys.getD q 0 < ys.getD k 0 → ∀ j, j + 1 < k + 1 → ys.getD j 0 < ys.getD (j + 1) 0) := fun q h1 h2 j hj => by
    by_cases e : j = q
    ·subst e; rw [← h1]; exact h2
    ·exact HU1.out j (by omega)
   have HUf : Hid (∀ q, k = q + 1 → ¬ ys.getD q 0 < ys.getD k 0 → corOk ⟨ci, cp, ct, cv, 2, cd, cb, cbt, lg, cc, ys, ns, ms⟩ = false) := fun q h1 h2 => HU.out q (by omega) (by rw [← h1]; omega)
   generalize hy : ys.getD k 0 = y at *
   have HY : Hid (ys.getD k 0 = y) := hy
   clear hy
   have a6 := inB y 0 (cp - 1)
   cases h1 : inIt y 0 (cp - 1) <;> rw [h1] at a6
   ·have HE := Hid.mk (HIk.out h1)
    clear h1
    go_wp2_with fail
    have V0 : Hid (Below wr.heap.size wr wr.drew) := (Below.refl _ _).drew
    have KY0 := Hid.mk (KB.out.on V0.out KB.out.lt)
    have SS0 := Hid.mk (show (fun w' => w'.cell? ⟨w.heap.size, 0, none⟩ = some (.int .i64 ci) ∧ w'.cell? ⟨w.heap.size, 1, none⟩ = some (.int .i64 cp) ∧ w'.cell? ⟨w.heap.size, 2, none⟩ = some (.int .i64 ct) ∧ w'.cell? ⟨w.heap.size, 3, none⟩ = some (.int .i64 cv) ∧ w'.cell? ⟨w.heap.size, 4, none⟩ = some (.int .i64 2) ∧ w'.cell? ⟨w.heap.size, 5, none⟩ = some (.int .i64 cd) ∧ w'.cell? ⟨w.heap.size, 6, none⟩ = some (.int .i64 cb) ∧ w'.cell? ⟨w.heap.size, 7, none⟩ = some (.int .i64 cbt) ∧ w'.cell? ⟨w.heap.size, 8, none⟩ = some (.slice A0 n0 c0) ∧ w'.cell? ⟨w.heap.size, 9, none⟩ = some (.int .i64 cc) ∧ w'.cell? ⟨w.heap.size, 10, none⟩ = some (.slice (some ⟨g1, o1, none⟩) n1 c1) ∧ w'.cell? ⟨w.heap.size, 11, none⟩ = some (.slice A2 n2 c2) ∧ w'.cell? ⟨w.heap.size, 12, none⟩ = some (.slice A3 n3 c3) ∧ w'.cell? ⟨g1, o1 + k, none⟩ = some (.int .i64 y)) wr.drew from ⟨KY0.out.cell 0 _ rfl, KY0.out.cell 1 _ rfl, KY0.out.cell 2 _ rfl, KY0.out.cell 3 _ rfl, KY0.out.cell 4 _ rfl, KY0.out.cell 5 _ rfl, KY0.out.cell 6 _ rfl, KY0.out.cell 7 _ rfl, KY0.out.cell 8 _ rfl, KY0.out.cell 9 _ rfl, KY0.out.cell 10 _ rfl, KY0.out.cell 11 _ rfl, KY0.out.cell 12 _ rfl, (by rw [V0.out.cell (p := ⟨g1, _, none⟩) hgw]; exact d0)⟩)
    refine wp_region_until (fun w' => w'.cell? ⟨w.heap.size, 0, none⟩ = some (.int .i64 ci) ∧ w'.cell? ⟨w.heap.size, 1, none⟩ = some (.int .i64 cp) ∧ w'.cell? ⟨w.heap.size, 2, none⟩ = some (.int .i64 ct) ∧ w'.cell? ⟨w.heap.size, 3, none⟩ = some (.int .i64 cv) ∧ w'.cell? ⟨w.heap.size, 4, none⟩ = some (.int .i64 2) ∧ w'.cell? ⟨w.heap.size, 5, none⟩ = some (.int .i64 cd) ∧ w'.cell? ⟨w.heap.size, 6, none⟩ = some (.int .i64 cb) ∧ w'.cell? ⟨w.heap.size, 7, none⟩ = some (.int .i64 cbt) ∧ w'.cell? ⟨w.heap.size, 8, none⟩ = some (.slice A0 n0 c0) ∧ w'.cell? ⟨w.heap.size, 9, none⟩ = some (.int .i64 cc) ∧ w'.cell? ⟨w.heap.size, 10, none⟩ = some (.slice (some ⟨g1, o1, none⟩) n1 c1) ∧ w'.cell? ⟨w.heap.size, 11, none⟩ = some (.slice A2 n2 c2) ∧ w'.cell? ⟨w.heap.size, 12, none⟩ = some (.slice A3 n3 c3) ∧ w'.cell? ⟨g1, o1 + k, none⟩ = some (.int .i64 y)) (fun _ => false) 28 (by rfl) (by kernel_rfl) ?_
    generalize wr.drew = Y0 at *
    refine pF 0 ?_
    refine tF 1 SS0.out ?_
    refine pF 2 ?_
    refine pF 3 ?_
    refine tF 4 SS0.out ?_
    refine pF 5 ?_
    refine tF 6 SS0.out ?_
    refine pF 7 ?_
    refine uNe 8 (fun K hK => ?_)
    go_simp
    refine (a6 _).mono ?_
    rintro e w' ⟨rfl, rfl⟩
    refine hK.out _ _ (fun _ h => h) ?_
    clear hK K
    try simp only [Act.put, zQ1, zQ2, zQ3]
    refine pF 9 ?_
    refine pF 10 ?_
    refine sF 11 ?_
    refine sF 12 ?_
    refine sF 13 ?_
    refine sF 14 ?_
    refine sF 15 ?_
    refine sF 16 ?_
    refine sF 17 ?_
    refine sF 18 ?_
    refine sF 19 ?_
    refine sF 20 ?_
    refine sF 21 ?_
    refine sF 22 ?_
    refine sF 23 ?_
    refine sF 24 ?_
    refine sF 25 ?_
    refine sF 26 ?_
    refine pF 27 ?_
    refine until_done (by kernel_rfl) ?_ _
    go_wp2_with fail
    go_ret
    exact ⟨by rw [HE.out]; rfl, BW.out.trans (V0.out.mono BW.out.size)⟩
   have HI2 := Hid.mk (HIn.out y rfl (inIt_in _ _ _ h1))
   clear h1 HIn HIk
   by_cases hk0 : k = 0
   ·have z1 : decide (0 < (k : Int)) = false := decide_eq_false (by omega)
    have z2 : decide (0 < k) = false := decide_eq_false (by omega)
    have z3 : ¬ 0 < k := by omega
    have HU2 := Hid.mk (HUn.out hk0)
    have HK0 : Hid (k = 0) := hk0
    clear hk0 HUs HUf HUn
    go_wp2_with fail
    have V0 : Hid (Below wr.heap.size wr wr.drew) := (Below.refl _ _).drew
    have KY0 := Hid.mk (KB.out.on V0.out KB.out.lt)
    have SS0 := Hid.mk (show (fun w' => w'.cell? ⟨w.heap.size, 0, none⟩ = some (.int .i64 ci) ∧ w'.cell? ⟨w.heap.size, 1, none⟩ = some (.int .i64 cp) ∧ w'.cell? ⟨w.heap.size, 2, none⟩ = some (.int .i64 ct) ∧ w'.cell? ⟨w.heap.size, 3, none⟩ = some (.int .i64 cv) ∧ w'.cell? ⟨w.heap.size, 4, none⟩ = some (.int .i64 2) ∧ w'.cell? ⟨w.heap.size, 5, none⟩ = some (.int .i64 cd) ∧ w'.cell? ⟨w.heap.size, 6, none⟩ = some (.int .i64 cb) ∧ w'.cell? ⟨w.heap.size, 7, none⟩ = some (.int .i64 cbt) ∧ w'.cell? ⟨w.heap.size, 8, none⟩ = some (.slice A0 n0 c0) ∧ w'.cell? ⟨w.heap.size, 9, none⟩ = some (.int .i64 cc) ∧ w'.cell? ⟨w.heap.size, 10, none⟩ = some (.slice (some ⟨g1, o1, none⟩) n1 c1) ∧ w'.cell? ⟨w.heap.size, 11, none⟩ = some (.slice A2 n2 c2) ∧ w'.cell? ⟨w.heap.size, 12, none⟩ = some (.slice A3 n3 c3) ∧ w'.cell? ⟨g1, o1 + k, none⟩ = some (.int .i64 y)) wr.drew from ⟨KY0.out.cell 0 _ rfl, KY0.out.cell 1 _ rfl, KY0.out.cell 2 _ rfl, KY0.out.cell 3 _ rfl, KY0.out.cell 4 _ rfl, KY0.out.cell 5 _ rfl, KY0.out.cell 6 _ rfl, KY0.out.cell 7 _ rfl, KY0.out.cell 8 _ rfl, KY0.out.cell 9 _ rfl, KY0.out.cell 10 _ rfl, KY0.out.cell 11 _ rfl, KY0.out.cell 12 _ rfl, (by rw [V0.out.cell (p := ⟨g1, _, none⟩) hgw]; exact d0)⟩)
    refine wp_region_until (fun w' => w'.cell? ⟨w.heap.size, 0, none⟩ = some (.int .i64 ci) ∧ w'.cell? ⟨w.heap.size, 1, none⟩ = some (.int .i64 cp) ∧ w'.cell? ⟨w.heap.size, 2, none⟩ = some (.int .i64 ct) ∧ w'.cell? ⟨w.heap.size, 3, none⟩ = some (.int .i64 cv) ∧ w'.cell? ⟨w.heap.size, 4, none⟩ = some (.int .i64 2) ∧ w'.cell? ⟨w.heap.size, 5, none⟩ = some (.int .i64 cd) ∧ w'.cell? ⟨w.heap.size, 6, none⟩ = some (.int .i64 cb) ∧ w'.cell? ⟨w.heap.size, 7, none⟩ = some (.int .i64 cbt) ∧ w'.cell? ⟨w.heap.size, 8, none⟩ = some (.slice A0 n0 c0) ∧ w'.cell? ⟨w.heap.size, 9, none⟩ = some (.int .i64 cc) ∧ w'.cell? ⟨w.heap.size, 10, none⟩ = some (.slice (some ⟨g1, o1, none⟩) n1 c1) ∧ w'.cell? ⟨w.heap.size, 11, none⟩ = some (.slice A2 n2 c2) ∧ w'.cell? ⟨w.heap.size, 12, none⟩ = some (.slice A3 n3 c3) ∧ w'.cell? ⟨g1, o1 + k, none⟩ = some (.int .i64 y)) (fun _ => false) 28 (by rfl) (by kernel_rfl) ?_
    generalize wr.drew = Y0 at *
    refine pF 0 ?_
    refine tF 1 SS0.out ?_
    refine pF 2 ?_
    refine pF 3 ?_
    refine tF 4 SS0.out ?_
    refine pF 5 ?_
    refine tF 6 SS0.out ?_
    refine pF 7 ?_
    refine uNe 8 (fun K hK => ?_)
    go_simp
    refine (a6 _).mono ?_
    rintro e w' ⟨rfl, rfl⟩
    refine hK.out _ _ (fun _ h => h) ?_
    clear hK K
    try simp only [Act.put, zQ1, zQ2, zQ3]
    refine pF 9 ?_
    refine pF 10 ?_
    refine pF 11 ?_
    refine pF 12 ?_
    refine pF 13 ?_
    refine sF 14 ?_
    refine sF 15 ?_
    refine sF 16 ?_
    refine sF 17 ?_
    refine sF 18 ?_
    refine sF 19 ?_
    refine sF 20 ?_
    refine sF 21 ?_
    refine sF 22 ?_
    refine sF 23 ?_
    refine sF 24 ?_
    refine sF 25 ?_
    refine pF 26 ?_
    refine pF 27 ?_
    refine until_done (by kernel_rfl) ?_ _
    go_wp2_with fail
    go_roundw
    case rel => exact ⟨k + 1, by omega, by go_num, BR.out.trans (V0.out.mono BR.out.size), HI2.out, HU2.out⟩
    case measure => simp [intOf]; omega
   obtain ⟨q, hq⟩ : ∃ q, k = q + 1 := ⟨k - 1, by omega⟩
   have HQ : Hid (k = q + 1) := hq
   obtain ⟨g1', o1', eA, hg', d1⟩ := H1.out q (by omega)
   cases eA
   rw [← BW.out.cell (p := ⟨_, _, none⟩) (Nat.lt_of_lt_of_le hg1 HBB.out)] at d1
   have z1 : decide (0 < (k : Int)) = true := decide_eq_true (by omega)
   have z2 : decide (0 < k) = true := decide_eq_true (by omega)
   have z3 : 0 < k := by omega
   have q5 : (q : Int) < (n1 : Int) := by omega
   have wk : IntKind.i64.wrap ((k : Int) - 1) = (q : Int) := by rw [IntKind.wrap_i64]; omega
   have HUs2 := Hid.mk (HUs.out q hq)
   have HUf2 := Hid.mk (HUf.out q hq)
   clear HUs HUf HUn hq hk0 hg'
   generalize ys.getD q 0 = yp at *
   by_cases hle : y ≤ yp
   ·have z4 : decide (y ≤ yp) = true := decide_eq_true hle
    have HE := Hid.mk (HUf2.out (by omega))
    clear hle HUs2 HUf2
    go_wp2_with fail
    have V0 : Hid (Below wr.heap.size wr wr.drew) := (Below.refl _ _).drew
    have KY0 := Hid.mk (KB.out.on V0.out KB.out.lt)
    have SS0 := Hid.mk (show (fun w' => w'.cell? ⟨w.heap.size, 0, none⟩ = some (.int .i64 ci) ∧ w'.cell? ⟨w.heap.size, 1, none⟩ = some (.int .i64 cp) ∧ w'.cell? ⟨w.heap.size, 2, none⟩ = some (.int .i64 ct) ∧ w'.cell? ⟨w.heap.size, 3, none⟩ = some (.int .i64 cv) ∧ w'.cell? ⟨w.heap.size, 4, none⟩ = some (.int .i64 2) ∧ w'.cell? ⟨w.heap.size, 5, none⟩ = some (.int .i64 cd) ∧ w'.cell? ⟨w.heap.size, 6, none⟩ = some (.int .i64 cb) ∧ w'.cell? ⟨w.heap.size, 7, none⟩ = some (.int .i64 cbt) ∧ w'.cell? ⟨w.heap.size, 8, none⟩ = some (.slice A0 n0 c0) ∧ w'.cell? ⟨w.heap.size, 9, none⟩ = some (.int .i64 cc) ∧ w'.cell? ⟨w.heap.size, 10, none⟩ = some (.slice (some ⟨g1, o1, none⟩) n1 c1) ∧ w'.cell? ⟨w.heap.size, 11, none⟩ = some (.slice A2 n2 c2) ∧ w'.cell? ⟨w.heap.size, 12, none⟩ = some (.slice A3 n3 c3) ∧ w'.cell? ⟨g1, o1 + k, none⟩ = some (.int .i64 y) ∧ w'.cell? ⟨g1, o1 + q, none⟩ = some (.int .i64 yp)) wr.drew from ⟨KY0.out.cell 0 _ rfl, KY0.out.cell 1 _ rfl, KY0.out.cell 2 _ rfl, KY0.out.cell 3 _ rfl, KY0.out.cell 4 _ rfl, KY0.out.cell 5 _ rfl, KY0.out.cell 6 _ rfl, KY0.out.cell 7 _ rfl, KY0.out.cell 8 _ rfl, KY0.out.cell 9 _ rfl, KY0.out.cell 10 _ rfl, KY0.out.cell 11 _ rfl, KY0.out.cell 12 _ rfl, (by rw [V0.out.cell (p := ⟨g1, _, none⟩) hgw]; exact d0), (by rw [V0.out.cell (p := ⟨g1, _, none⟩) hgw]; exact d1)⟩)
    refine wp_region_until (fun w' => w'.cell? ⟨w.heap.size, 0, none⟩ = some (.int .i64 ci) ∧ w'.cell? ⟨w.heap.size, 1, none⟩ = some (.int .i64 cp) ∧ w'.cell? ⟨w.heap.size, 2, none⟩ = some (.int .i64 ct) ∧ w'.cell? ⟨w.heap.size, 3, none⟩ = some (.int .i64 cv) ∧ w'.cell? ⟨w.heap.size, 4, none⟩ = some (.int .i64 2) ∧ w'.cell? ⟨w.heap.size, 5, none⟩ = some (.int .i64 cd) ∧ w'.cell? ⟨w.heap.size, 6, none⟩ = some (.int .i64 cb) ∧ w'.cell? ⟨w.heap.size, 7, none⟩ = some (.int .i64 cbt) ∧ w'.cell? ⟨w.heap.size, 8, none⟩ = some (.slice A0 n0 c0) ∧ w'.cell? ⟨w.heap.size, 9, none⟩ = some (.int .i64 cc) ∧ w'.cell? ⟨w.heap.size, 10, none⟩ = some (.slice (some ⟨g1, o1, none⟩) n1 c1) ∧ w'.cell? ⟨w.heap.size, 11, none⟩ = some (.slice A2 n2 c2) ∧ w'.cell? ⟨w.heap.size, 12, none⟩ = some (.slice A3 n3 c3) ∧ w'.cell? ⟨g1, o1 + k, none⟩ = some (.int .i64 y) ∧ w'.cell? ⟨g1, o1 + q, none⟩ = some (.int .i64 yp)) (fun _ => false) 28 (by rfl) (by kernel_rfl) ?_
    generalize wr.drew = Y0 at *
    refine pF 0 ?_
    refine tF 1 SS0.out ?_
    refine pF 2 ?_
    refine pF 3 ?_
    refine tF 4 SS0.out ?_
    refine pF 5 ?_
    refine tF 6 SS0.out ?_
    refine pF 7 ?_
    refine uNe 8 (fun K hK => ?_)
    go_simp
    refine (a6 _).mono ?_
    rintro e w' ⟨rfl, rfl⟩
    refine hK.out _ _ (fun _ h => h) ?_
    clear hK K
    try simp only [Act.put, zQ1, zQ2, zQ3]
    refine pF 9 ?_
    refine pF 10 ?_
    refine pF 11 ?_
    refine pF 12 ?_
    refine pF 13 ?_
    refine pF 14 ?_
    refine tF 15 SS0.out ?_
    refine pF 16 ?_
    refine pF 17 ?_
    refine pF 18 ?_
    refine tF 19 SS0.out ?_
    refine pF 20 ?_
    refine tF 21 SS0.out ?_
    refine pF 22 ?_
    refine pF 23 ?_
    refine tF 24 SS0.out ?_
    refine pF 25 ?_
    refine pF 26 ?_
    refine pF 27 ?_
    refine until_done (by kernel_rfl) ?_ _
    go_wp2_with fail
    go_ret
    exact ⟨by rw [HE.out]; rfl, BW.out.trans (V0.out.mono BW.out.size)⟩
   have z4 : decide (y ≤ yp) = false := decide_eq_false hle
   have HU2 := Hid.mk (HUs2.out (by omega))
   clear hle HUs2 HUf2
   go_wp2_with fail
   have V0 : Hid (Below wr.heap.size wr wr.drew) := (Below.refl _ _).drew
   have KY0 := Hid.mk (KB.out.on V0.out KB.out.lt)
   have SS0 := Hid.mk (show (fun w' => w'.cell? ⟨w.heap.size, 0, none⟩ = some (.int .i64 ci) ∧ w'.cell? ⟨w.heap.size, 1, none⟩ = some (.int .i64 cp) ∧ w'.cell? ⟨w.heap.size, 2, none⟩ = some (.int .i64 ct) ∧ w'.cell? ⟨w.heap.size, 3, none⟩ = some (.int .i64 cv) ∧ w'.cell? ⟨w.heap.size, 4, none⟩ = some (.int .i64 2) ∧ w'.cell? ⟨w.heap.size, 5, none⟩ = some (.int .i64 cd) ∧ w'.cell? ⟨w.heap.size, 6, none⟩ = some (.int .i64 cb) ∧ w'.cell? ⟨w.heap.size, 7, none⟩ = some (.int .i64 cbt) ∧ w'.cell? ⟨w.heap.size, 8, none⟩ = some (.slice A0 n0 c0) ∧ w'.cell? ⟨w.heap.size, 9, none⟩ = some (.int .i64 cc) ∧ w'.cell? ⟨w.heap.size, 10, none⟩ = some (.slice (some ⟨g1, o1, none⟩) n1 c1) ∧ w'.cell? ⟨w.heap.size, 11, none⟩ = some (.slice A2 n2 c2) ∧ w'.cell? ⟨w.heap.size, 12, none⟩ = some (.slice A3 n3 c3) ∧ w'.cell? ⟨g1, o1 + k, none⟩ = some (.int .i64 y) ∧ w'.cell? ⟨g1, o1 + q, none⟩ = some (.int .i64 yp)) wr.drew from ⟨KY0.out.cell 0 _ rfl, KY0.out.cell 1 _ rfl, KY0.out.cell 2 _ rfl, KY0.out.cell 3 _ rfl, KY0.out.cell 4 _ rfl, KY0.out.cell 5 _ rfl, KY0.out.cell 6 _ rfl, KY0.out.cell 7 _ rfl, KY0.out.cell 8 _ rfl, KY0.out.cell 9 _ rfl, KY0.out.cell 10 _ rfl, KY0.out.cell 11 _ rfl, KY0.out.cell 12 _ rfl, (by rw [V0.out.cell (p := ⟨g1, _, none⟩) hgw]; exact d0), (by rw [V0.out.cell (p := ⟨g1, _, none⟩) hgw]; exact d1)⟩)
   refine wp_region_until (fun w' => w'.cell? ⟨w.heap.size, 0, none⟩ = some (.int .i64 ci) ∧ w'.cell? ⟨w.heap.size, 1, none⟩ = some (.int .i64 cp) ∧ w'.cell? ⟨w.heap.size, 2, none⟩ = some (.int .i64 ct) ∧ w'.cell? ⟨w.heap.size, 3, none⟩ = some (.int .i64 cv) ∧ w'.cell? ⟨w.heap.size, 4, none⟩ = some (.int .i64 2) ∧ w'.cell? ⟨w.heap.size, 5, none⟩ = some (.int .i64 cd) ∧ w'.cell? ⟨w.heap.size, 6, none⟩ = some (.int .i64 cb) ∧ w'.cell? ⟨w.heap.size, 7, none⟩ = some (.int .i64 cbt) ∧ w'.cell? ⟨w.heap.size, 8, none⟩ = some (.slice A0 n0 c0) ∧ w'.cell? ⟨w.heap.size, 9, none⟩ = some (.int .i64 cc) ∧ w'.cell? ⟨w.heap.size, 10, none⟩ = some (.slice (some ⟨g1, o1, none⟩) n1 c1) ∧ w'.cell? ⟨w.heap.size, 11, none⟩ = some (.slice A2 n2 c2) ∧ w'.cell? ⟨w.heap.size, 12, none⟩ = some (.slice A3 n3 c3) ∧ w'.cell? ⟨g1, o1 + k, none⟩ = some (.int .i64 y) ∧ w'.cell? ⟨g1, o1 + q, none⟩ = some (.int .i64 yp)) (fun _ => false) 28 (by rfl) (by kernel_rfl) ?_
   generalize wr.drew = Y0 at *
   refine pF 0 ?_
   refine tF 1 SS0.out ?_
   refine pF 2 ?_
   refine pF 3 ?_
   refine tF 4 SS0.out ?_
   refine pF 5 ?_
   refine tF 6 SS0.out ?_
   refine pF 7 ?_
   refine uNe 8 (fun K hK => ?_)
   go_simp
   refine (a6 _).mono ?_
   rintro e w' ⟨rfl, rfl⟩
   refine hK.out _ _ (fun _ h => h) ?_
   clear hK K
   try simp only [Act.put, zQ1, zQ2, zQ3]
   refine pF 9 ?_
   refine pF 10 ?_
   refine pF 11 ?_
   refine pF 12 ?_
   refine pF 13 ?_
   refine pF 14 ?_
   refine tF 15 SS0.out ?_
   refine pF 16 ?_
   refine pF 17 ?_
   refine pF 18 ?_
   refine tF 19 SS0.out ?_
   refine pF 20 ?_
   refine tF 21 SS0.out ?_
   refine pF 22 ?_
   refine pF 23 ?_
   refine tF 24 SS0.out ?_
   refine pF 25 ?_
   refine pF 26 ?_
   refine pF 27 ?_
   refine until_done (by kernel_rfl) ?_ _
   go_wp2_with fail
   go_roundw
   case rel => exact ⟨k + 1, by omega, by go_num, BR.out.trans (V0.out.mono BR.out.size), HI2.out, HU2.out⟩
   case measure => simp [intOf]; omega
  ·obtain rfl : k = n1 := by omega
   have HT := Hid.mk (HA.out HI1.out HU1.out)
   have cH1 := cH wr (HYv.out.1.on (BW.out.mono HBB.out))
   clear HA HI HU HI1 HU1 cH
   obtain ⟨j0, j1, j2, j3, j4, j5, j6, j7, j8, j9, j10, j11, j12⟩ := cellsC13 KB.out
   clear k10
   have wm : IntKind.i64.wrap (2 * (k : Int)) = 2 * (k : Int) := by rw [IntKind.wrap_i64]; omega
   by_cases hq0 : 1 ≤ ct
   rotate_left
   ·have HE := Hid.mk (HC1.out (by omega))
    have za : decide (1 ≤ ct) = false := decide_eq_false hq0
    clear HT hq0
    go_wp2_with fail
    go_ret
    exact ⟨by rw [HE.out]; rfl, BW.out⟩
   have za : decide (1 ≤ ct) = true := decide_eq_true hq0
   by_cases hq1 : cv = ci
   rotate_left
   ·have HE := Hid.mk (HC2.out hq1)
    have zb : (cv == ci) = false := beq_eq_false_iff_ne.2 hq1
    clear HT hq0 hq1
    go_wp2_with fail
    go_ret
    exact ⟨by rw [HE.out]; rfl, BW.out⟩
   have zb : (cv == ci) = true := beq_iff_eq.2 hq1
   by_cases hq2 : cd = -1
   rotate_left
   ·have HE := Hid.mk (HC3.out hq2)
    have zc : (cd == -1) = false := beq_eq_false_iff_ne.2 hq2
    clear HT hq0 hq1 hq2
    go_wp2_with fail
    go_ret
    exact ⟨by rw [HE.out]; rfl, BW.out⟩
   have zc : (cd == -1) = true := beq_iff_eq.2 hq2
   by_cases hq3 : ci ∈ ys
   rotate_left
   ·have HE := Hid.mk (HC4.out hq3)
    rw [decide_eq_false hq3] at cH1
    clear HT hq0 hq1 hq2 hq3
    go_wp2_with fail
    refine cH1.mono ?_
    rintro e w' ⟨rfl, rfl⟩
    go_wp2_with fail
    go_ret
    exact ⟨by rw [HE.out]; rfl, BW.out⟩
   rw [decide_eq_true hq3] at cH1
   by_cases hq4 : 2 * (k : Int) ≤ cp
   rotate_left
   ·have HE := Hid.mk (HC5.out (by omega))
    have ze : decide (2 * (k : Int) ≤ cp) = false := decide_eq_false hq4
    clear HT hq0 hq1 hq2 hq3 hq4
    go_wp2_with fail
    refine cH1.mono ?_
    rintro e w' ⟨rfl, rfl⟩
    go_wp2_with fail
    go_ret
    exact ⟨by rw [HE.out]; rfl, BW.out⟩
   have ze : decide (2 * (k : Int) ≤ cp) = true := decide_eq_true hq4
   by_cases hq5 : n2 = 0
   rotate_left
   ·have HE := Hid.mk (HC6.out hq5)
    have zi5 : ((n2 : Int) == 0) = false := beq_eq_false_iff_ne.2 (by omega)
    have zn5 : (n2 == 0) = false := beq_eq_false_iff_ne.2 hq5
    clear HT hq0 hq1 hq2 hq3 hq4 hq5
    go_wp2_with fail
    refine cH1.mono ?_
    rintro e w' ⟨rfl, rfl⟩
    go_wp2_with fail
    go_ret
    exact ⟨by rw [HE.out]; rfl, BW.out⟩
   have HQ5 : Hid (n2 = 0) := hq5
   have zi5 : ((n2 : Int) == 0) = true := by rw [hq5]; rfl
   have zn5 : (n2 == 0) = true := by rw [hq5]; rfl
   by_cases hq6 : n3 = 0
   rotate_left
   ·have HE := Hid.mk (HC7.out hq6)
    have zi6 : ((n3 : Int) == 0) = false := beq_eq_false_iff_ne.2 (by omega)
    have zn6 : (n3 == 0) = false := beq_eq_false_iff_ne.2 hq6
    clear HT hq0 hq1 hq2 hq3 hq4 hq5 hq6
    go_wp2_with fail
    refine cH1.mono ?_
    rintro e w' ⟨rfl, rfl⟩
    go_wp2_with fail
    go_ret
    exact ⟨by rw [HE.out]; rfl, BW.out⟩
   have HQ6 : Hid (n3 = 0) := hq6
   have zi6 : ((n3 : Int) == 0) = true := by rw [hq6]; rfl
   have zn6 : (n3 == 0) = true := by rw [hq6]; rfl
   have HE := Hid.mk (HT.out hq0 hq1 hq2 hq3 hq4 hq5 hq6)
   clear HT hq0 hq1 hq2 hq3 hq4 hq5 hq6
   go_wp2_with fail
   refine cH1.mono ?_
   rintro e w' ⟨rfl, rfl⟩
   go_wp2_with fail
   go_ret
   exact ⟨by rw [HE.out]; rfl, BW.out⟩
end Go.Proofs.Ytlhoonohpfpkbaa
