/-
  Contract of spec.CoreOk: what does not hang on the role.
-/
import Derived.Test.YtjejcpieajeflaaRows
import Derived.Test.YtjejcpieajeflaaCoS0
import Derived.Test.YtjejcpieajeflaaWokSpec
import Derived.Deep.Cut
import Derived.Handy
namespace Go.Proofs.Ytjejcpieajeflaa
open Go.ChangeShapes Go.WideShapes Go.ChangeAt Go.RowKit Go.PlainAid
set_option linter.unusedVariables false

set_option maxRecDepth 20000 in
set_option maxHeartbeats 16000000 in
theorem coreS0 (ci cp ct cv cr cd cb cbt : Int) (lg : List Ent) (cc : Int) (ys ns ms : List Int) (u0 u1 u2 u3 : Value) (w : World) (B : Nat) (hl : Lies w B 2 u0 (entR lg)) (hy : NumsV w B u1 ys) (hn : NumsV w B u2 ns) (hm : NumsV w B u3 ms) (hs : ShortC ⟨ci, cp, ct, cv, cr, cd, cb, cbt, lg, cc, ys, ns, ms⟩) (hB : B ≤ w.heap.size) (hno : ¬ COk0 ⟨ci, cp, ct, cv, cr, cd, cb, cbt, lg, cc, ys, ns, ms⟩) : Calls Try.prog 11 #[.agg #[.int .i64 ci, .int .i64 cp, .int .i64 ct, .int .i64 cv, .int .i64 cr, .int .i64 cd, .int .i64 cb, .int .i64 cbt, u0, .int .i64 cc, u1, u2, u3]] w fun e w' => e = .returned (.bool (corOk ⟨ci, cp, ct, cv, cr, cd, cb, cbt, lg, cc, ys, ns, ms⟩)) ∧ Below w.heap.size w w' := by
  have HYv : Hid (NumsV w B u1 ys ∧ NumsV w B u2 ns ∧ NumsV w B u3 ms) := ⟨hy, hn, hm⟩
  have HLg : Hid (Lies w B 2 u0 (entR lg)) := hl
  have HBB : Hid (B ≤ w.heap.size) := hB
  have HS : Hid (ShortC ⟨ci, cp, ct, cv, cr, cd, cb, cbt, lg, cc, ys, ns, ms⟩) := hs
  obtain ⟨A0, c0, rfl, _⟩ := ent_look hl
  obtain ⟨A1, c1, rfl, _, _, hc1⟩ := hy
  obtain ⟨A2, c2, rfl, _, _, hc2⟩ := hn
  obtain ⟨A3, c3, rfl, _, _, hc3⟩ := hm
  have H1 : Hid (∀ j, j < ys.length → ∃ g off, A1 = some ⟨g, off, none⟩ ∧ g < B ∧ w.cell? ⟨g, off + j, none⟩ = some (.int .i64 (ys.getD j 0))) := hc1
  have H2 : Hid (∀ j, j < ns.length → ∃ g off, A2 = some ⟨g, off, none⟩ ∧ g < B ∧ w.cell? ⟨g, off + j, none⟩ = some (.int .i64 (ns.getD j 0))) := hc2
  have H3 : Hid (∀ j, j < ms.length → ∃ g off, A3 = some ⟨g, off, none⟩ ∧ g < B ∧ w.cell? ⟨g, off + j, none⟩ = some (.int .i64 (ms.getD j 0))) := hc3
  clear hc1 hc2 hc3
  have a1 := inB cp 1 5
  have a2 := inB ci 0 (cp - 1)
  have cW := fun wx h1 h2 => walS ci cp ct cv cr cd cb cbt lg cc A0 lg.length c0 (.slice A1 ys.length c1) (.slice A2 ns.length c2) (.slice A3 ms.length c3) wx B h1 hs.n h2
  have cO := fun ux wx h1 h2 => specWalOk (corW ⟨ci, cp, ct, cv, cr, cd, cb, cbt, lg, cc, ys, ns, ms⟩) (.agg #[.int .i64 ct, .int .i64 cv, .int .i64 cb, .int .i64 cbt, ux]) wx wx.heap.size ⟨_, rfl, h1⟩ ⟨Nat.le_trans hs.n (by decide), fun e he => Nat.le_trans (hs.d e he) (by decide)⟩ h2
  have cL := fun h0 h1 wx => lastS ci cp ct cv cr cd cb cbt cc A0 lg.length c0 (.slice A1 ys.length c1) (.slice A2 ns.length c2) (.slice A3 ms.length c3) wx h0 h1 hs.n
  have a4 := inB cc cb (cb + (lg.length : Int))
  have HCl : Hid (cLast ⟨ci, cp, ct, cv, cr, cd, cb, cbt, lg, cc, ys, ns, ms⟩ = cb + (lg.length : Int)) := rfl
  have HWl : Hid (walOk (corW ⟨ci, cp, ct, cv, cr, cd, cb, cbt, lg, cc, ys, ns, ms⟩) = true → 0 ≤ cb ∧ cb ≤ 100000) := fun h => (walOk_in h).2.2.1
  have q0 : (lg.length : Int) ≤ 1048576 := by have := hs.n; simp only at this; omega
  have qy : (ys.length : Int) ≤ 1048576 := by have := hs.y; simp only at this; omega
  have qn : (ns.length : Int) ≤ 1048576 := by have := hs.q; simp only at this; omega
  have qm : (ms.length : Int) ≤ 1048576 := by have := hs.m; simp only at this; omega
  clear hl hB
  have HE : Hid (corOk ⟨ci, cp, ct, cv, cr, cd, cb, cbt, lg, cc, ys, ns, ms⟩ = false) := corOk_no fun q => hno q.1
  generalize lg.length = n0 at *
  generalize ys.length = n1 at *
  generalize ns.length = n2 at *
  generalize ms.length = n3 at *
  obtain ⟨X0, hX0⟩ : ∃ X0, X0 = w.alloc (.cells #[.int .i64 ci, .int .i64 cp, .int .i64 ct, .int .i64 cv, .int .i64 cr, .int .i64 cd, .int .i64 cb, .int .i64 cbt, .slice A0 n0 c0, .int .i64 cc, .slice A1 n1 c1, .slice A2 n2 c2, .slice A3 n3 c3] 30) := ⟨_, rfl⟩
  have B0 : Hid (Below w.heap.size w X0) := by unfold Hid; rw [hX0]; exact (Below.refl _ _).alloc (Nat.le_refl _) _
  have K0 : Hid (Blk X0 w.heap.size #[.int .i64 ci, .int .i64 cp, .int .i64 ct, .int .i64 cv, .int .i64 cr, .int .i64 cd, .int .i64 cb, .int .i64 cbt, .slice A0 n0 c0, .int .i64 cc, .slice A1 n1 c1, .slice A2 n2 c2, .slice A3 n3 c3] 30) := by unfold Hid; rw [hX0]; exact Blk.new w _ _
  cases h1 : inIt cp 1 5 <;> rw [h1] at a1
  · clear h1 a2 cW cO cL a4
    go_enter Try.func11, Try.ntmps11
    go_wp2_with fail
    rw [← hX0]
    clear hX0
    refine wp_region_until (fun w' => w'.cell? ⟨w.heap.size, 0, none⟩ = some (.int .i64 ci) ∧ w'.cell? ⟨w.heap.size, 1, none⟩ = some (.int .i64 cp) ∧ w'.cell? ⟨w.heap.size, 2, none⟩ = some (.int .i64 ct) ∧ w'.cell? ⟨w.heap.size, 3, none⟩ = some (.int .i64 cv) ∧ w'.cell? ⟨w.heap.size, 4, none⟩ = some (.int .i64 cr) ∧ w'.cell? ⟨w.heap.size, 5, none⟩ = some (.int .i64 cd) ∧ w'.cell? ⟨w.heap.size, 6, none⟩ = some (.int .i64 cb) ∧ w'.cell? ⟨w.heap.size, 7, none⟩ = some (.int .i64 cbt) ∧ w'.cell? ⟨w.heap.size, 8, none⟩ = some (.slice A0 n0 c0) ∧ w'.cell? ⟨w.heap.size, 9, none⟩ = some (.int .i64 cc) ∧ w'.cell? ⟨w.heap.size, 10, none⟩ = some (.slice A1 n1 c1) ∧ w'.cell? ⟨w.heap.size, 11, none⟩ = some (.slice A2 n2 c2) ∧ w'.cell? ⟨w.heap.size, 12, none⟩ = some (.slice A3 n3 c3)) (fun _ => false) 36 (by rfl) (by kernel_rfl) ?_
    have V0 : Hid (Below w.heap.size w X0.drew) := B0.out.trans ((Below.refl _ _).drew.mono B0.out.size)
    have KY0 := Hid.mk (K0.out.on ((Below.refl _ X0).drew) K0.out.lt)
    generalize X0.drew = Y0 at *
    have SS0 := Hid.mk (cellsC13 KY0.out)
    refine pF 0 ?_
    refine tF 1 SS0.out ?_
    refine until_one 2 (by rfl) (by kernel_rfl) (fun K hK => ?_)
    go_simp
    refine (a1 _).mono ?_
    rintro e w' ⟨rfl, rfl⟩
    refine hK.out _ _ (fun _ h => h) ?_
    clear hK K
    try simp only [Act.put, List.setIfInBounds_toArray, List.set_cons_zero, List.set_cons_succ]
    refine pF 3 ?_
    refine pF 4 ?_
    refine sF 5 ?_
    refine sF 6 ?_
    refine sF 7 ?_
    refine sF 8 ?_
    refine sF 9 ?_
    refine sF 10 ?_
    refine sF 11 ?_
    refine pF 12 ?_
    refine pF 13 ?_
    refine sF 14 ?_
    refine sF 15 ?_
    refine sF 16 ?_
    refine sF 17 ?_
    refine pF 18 ?_
    refine pF 19 ?_
    refine sF 20 ?_
    refine sF 21 ?_
    refine sF 22 ?_
    refine sF 23 ?_
    refine sF 24 ?_
    refine pF 25 ?_
    refine pF 26 ?_
    refine sF 27 ?_
    refine sF 28 ?_
    refine sF 29 ?_
    refine sF 30 ?_
    refine sF 31 ?_
    refine sF 32 ?_
    refine sF 33 ?_
    refine sF 34 ?_
    refine pF 35 ?_
    refine until_done (by kernel_rfl) ?_ _
    go_wp2_with fail
    go_ret
    exact ⟨by rw [HE.out]; rfl, V0.out⟩
  obtain ⟨p0, p1⟩ := inIt_in _ _ _ h1
  have w1 : IntKind.i64.wrap (cp - 1) = cp - 1 := by rw [IntKind.wrap_i64]; omega
  cases h2 : inIt ci 0 (cp - 1) <;> rw [h2] at a2
  · clear h1 h2 cW cO cL a4
    go_enter Try.func11, Try.ntmps11
    go_wp2_with fail
    rw [← hX0]
    clear hX0
    refine wp_region_until (fun w' => w'.cell? ⟨w.heap.size, 0, none⟩ = some (.int .i64 ci) ∧ w'.cell? ⟨w.heap.size, 1, none⟩ = some (.int .i64 cp) ∧ w'.cell? ⟨w.heap.size, 2, none⟩ = some (.int .i64 ct) ∧ w'.cell? ⟨w.heap.size, 3, none⟩ = some (.int .i64 cv) ∧ w'.cell? ⟨w.heap.size, 4, none⟩ = some (.int .i64 cr) ∧ w'.cell? ⟨w.heap.size, 5, none⟩ = some (.int .i64 cd) ∧ w'.cell? ⟨w.heap.size, 6, none⟩ = some (.int .i64 cb) ∧ w'.cell? ⟨w.heap.size, 7, none⟩ = some (.int .i64 cbt) ∧ w'.cell? ⟨w.heap.size, 8, none⟩ = some (.slice A0 n0 c0) ∧ w'.cell? ⟨w.heap.size, 9, none⟩ = some (.int .i64 cc) ∧ w'.cell? ⟨w.heap.size, 10, none⟩ = some (.slice A1 n1 c1) ∧ w'.cell? ⟨w.heap.size, 11, none⟩ = some (.slice A2 n2 c2) ∧ w'.cell? ⟨w.heap.size, 12, none⟩ = some (.slice A3 n3 c3)) (fun _ => false) 36 (by rfl) (by kernel_rfl) ?_
    have V0 : Hid (Below w.heap.size w X0.drew) := B0.out.trans ((Below.refl _ _).drew.mono B0.out.size)
    have KY0 := Hid.mk (K0.out.on ((Below.refl _ X0).drew) K0.out.lt)
    generalize X0.drew = Y0 at *
    have SS0 := Hid.mk (cellsC13 KY0.out)
    refine pF 0 ?_
    refine tF 1 SS0.out ?_
    refine until_one 2 (by rfl) (by kernel_rfl) (fun K hK => ?_)
    go_simp
    refine (a1 _).mono ?_
    rintro e w' ⟨rfl, rfl⟩
    refine hK.out _ _ (fun _ h => h) ?_
    clear hK K
    try simp only [Act.put, List.setIfInBounds_toArray, List.set_cons_zero, List.set_cons_succ]
    refine pF 3 ?_
    refine pF 4 ?_
    refine pF 5 ?_
    refine tF 6 SS0.out ?_
    refine pF 7 ?_
    refine tF 8 SS0.out ?_
    refine pF 9 ?_
    refine until_one 10 (by rfl) (by kernel_rfl) (fun K hK => ?_)
    go_simp
    refine (a2 _).mono ?_
    rintro e w' ⟨rfl, rfl⟩
    refine hK.out _ _ (fun _ h => h) ?_
    clear hK K
    try simp only [Act.put, List.setIfInBounds_toArray, List.set_cons_zero, List.set_cons_succ]
    refine pF 11 ?_
    refine pF 12 ?_
    refine pF 13 ?_
    refine sF 14 ?_
    refine sF 15 ?_
    refine sF 16 ?_
    refine sF 17 ?_
    refine pF 18 ?_
    refine pF 19 ?_
    refine sF 20 ?_
    refine sF 21 ?_
    refine sF 22 ?_
    refine sF 23 ?_
    refine sF 24 ?_
    refine pF 25 ?_
    refine pF 26 ?_
    refine sF 27 ?_
    refine sF 28 ?_
    refine sF 29 ?_
    refine sF 30 ?_
    refine sF 31 ?_
    refine sF 32 ?_
    refine sF 33 ?_
    refine sF 34 ?_
    refine pF 35 ?_
    refine until_done (by kernel_rfl) ?_ _
    go_wp2_with fail
    go_ret
    exact ⟨by rw [HE.out]; rfl, V0.out⟩
  obtain ⟨i0, i1⟩ := inIt_in _ _ _ h2
  cases h3 : walOk (corW ⟨ci, cp, ct, cv, cr, cd, cb, cbt, lg, cc, ys, ns, ms⟩) <;> rw [h3] at cO
  · clear h1 h2 h3 cL a4
    go_enter Try.func11, Try.ntmps11
    go_wp2_with fail
    rw [← hX0]
    clear hX0
    refine wp_region_until (fun w' => w'.cell? ⟨w.heap.size, 0, none⟩ = some (.int .i64 ci) ∧ w'.cell? ⟨w.heap.size, 1, none⟩ = some (.int .i64 cp) ∧ w'.cell? ⟨w.heap.size, 2, none⟩ = some (.int .i64 ct) ∧ w'.cell? ⟨w.heap.size, 3, none⟩ = some (.int .i64 cv) ∧ w'.cell? ⟨w.heap.size, 4, none⟩ = some (.int .i64 cr) ∧ w'.cell? ⟨w.heap.size, 5, none⟩ = some (.int .i64 cd) ∧ w'.cell? ⟨w.heap.size, 6, none⟩ = some (.int .i64 cb) ∧ w'.cell? ⟨w.heap.size, 7, none⟩ = some (.int .i64 cbt) ∧ w'.cell? ⟨w.heap.size, 8, none⟩ = some (.slice A0 n0 c0) ∧ w'.cell? ⟨w.heap.size, 9, none⟩ = some (.int .i64 cc) ∧ w'.cell? ⟨w.heap.size, 10, none⟩ = some (.slice A1 n1 c1) ∧ w'.cell? ⟨w.heap.size, 11, none⟩ = some (.slice A2 n2 c2) ∧ w'.cell? ⟨w.heap.size, 12, none⟩ = some (.slice A3 n3 c3)) (fun _ => false) 36 (by rfl) (by kernel_rfl) ?_
    have V0 : Hid (Below w.heap.size w X0.drew) := B0.out.trans ((Below.refl _ _).drew.mono B0.out.size)
    have KY0 := Hid.mk (K0.out.on ((Below.refl _ X0).drew) K0.out.lt)
    generalize X0.drew = Y0 at *
    have SS0 := Hid.mk (cellsC13 KY0.out)
    refine pF 0 ?_
    refine tF 1 SS0.out ?_
    refine until_one 2 (by rfl) (by kernel_rfl) (fun K hK => ?_)
    go_simp
    refine (a1 _).mono ?_
    rintro e w' ⟨rfl, rfl⟩
    refine hK.out _ _ (fun _ h => h) ?_
    clear hK K
    try simp only [Act.put, List.setIfInBounds_toArray, List.set_cons_zero, List.set_cons_succ]
    refine pF 3 ?_
    refine pF 4 ?_
    refine pF 5 ?_
    refine tF 6 SS0.out ?_
    refine pF 7 ?_
    refine tF 8 SS0.out ?_
    refine pF 9 ?_
    refine until_one 10 (by rfl) (by kernel_rfl) (fun K hK => ?_)
    go_simp
    refine (a2 _).mono ?_
    rintro e w' ⟨rfl, rfl⟩
    refine hK.out _ _ (fun _ h => h) ?_
    clear hK K
    try simp only [Act.put, List.setIfInBounds_toArray, List.set_cons_zero, List.set_cons_succ]
    refine pF 11 ?_
    refine pF 12 ?_
    refine pF 13 ?_
    refine tF 14 SS0.out ?_
    refine until_one 15 (by rfl) (by kernel_rfl) (fun K hK => ?_)
    go_simp
    refine (cW Y0 (HLg.out.on (V0.out.mono HBB.out)) (Nat.le_trans HBB.out V0.out.size)).mono ?_
    rintro e Y1 ⟨⟨uw, rfl, hOw⟩, hb⟩
    obtain ⟨Aw, mw, kw, rfl⟩ := hOw.shape
    have HOw := Hid.mk hOw
    clear hOw
    have V1 : Hid (Below w.heap.size w Y1) := V0.out.trans (hb.mono V0.out.size)
    have KY1 := Hid.mk (KY0.out.on hb KY0.out.lt)
    have SS1 := Hid.mk (cellsC13 KY1.out)
    clear hb
    refine hK.out _ _ (fun _ _ => SS1.out) ?_
    clear hK K
    try simp only [Act.put, List.setIfInBounds_toArray, List.set_cons_zero, List.set_cons_succ]
    refine until_one 16 (by rfl) (by kernel_rfl) (fun K hK => ?_)
    go_simp
    refine (cO _ Y1 HOw.out.lies (Nat.le_refl _)).mono ?_
    rintro e Y2 ⟨rfl, hb⟩
    have V2 : Hid (Below w.heap.size w Y2) := V1.out.trans (hb.mono V1.out.size)
    have KY2 := Hid.mk (KY1.out.on hb KY1.out.lt)
    have SS2 := Hid.mk (cellsC13 KY2.out)
    clear hb
    refine hK.out _ _ (fun _ _ => SS2.out) ?_
    clear hK K
    try simp only [Act.put, List.setIfInBounds_toArray, List.set_cons_zero, List.set_cons_succ]
    refine pF 17 ?_
    refine pF 18 ?_
    refine pF 19 ?_
    refine sF 20 ?_
    refine sF 21 ?_
    refine sF 22 ?_
    refine sF 23 ?_
    refine sF 24 ?_
    refine pF 25 ?_
    refine pF 26 ?_
    refine sF 27 ?_
    refine sF 28 ?_
    refine sF 29 ?_
    refine sF 30 ?_
    refine sF 31 ?_
    refine sF 32 ?_
    refine sF 33 ?_
    refine sF 34 ?_
    refine pF 35 ?_
    refine until_done (by kernel_rfl) ?_ _
    go_wp2_with fail
    go_ret
    exact ⟨by rw [HE.out]; rfl, V2.out⟩
  obtain ⟨b0, b1⟩ := HWl.out h3
  have cL := cL b0 (by omega)
  by_cases h4 : cv < cp
  rotate_left
  · have z4 : decide (cp ≤ cv) = true := decide_eq_true (by omega)
    clear h1 h2 h3 h4 cL a4
    go_enter Try.func11, Try.ntmps11
    go_wp2_with fail
    rw [← hX0]
    clear hX0
    refine wp_region_until (fun w' => w'.cell? ⟨w.heap.size, 0, none⟩ = some (.int .i64 ci) ∧ w'.cell? ⟨w.heap.size, 1, none⟩ = some (.int .i64 cp) ∧ w'.cell? ⟨w.heap.size, 2, none⟩ = some (.int .i64 ct) ∧ w'.cell? ⟨w.heap.size, 3, none⟩ = some (.int .i64 cv) ∧ w'.cell? ⟨w.heap.size, 4, none⟩ = some (.int .i64 cr) ∧ w'.cell? ⟨w.heap.size, 5, none⟩ = some (.int .i64 cd) ∧ w'.cell? ⟨w.heap.size, 6, none⟩ = some (.int .i64 cb) ∧ w'.cell? ⟨w.heap.size, 7, none⟩ = some (.int .i64 cbt) ∧ w'.cell? ⟨w.heap.size, 8, none⟩ = some (.slice A0 n0 c0) ∧ w'.cell? ⟨w.heap.size, 9, none⟩ = some (.int .i64 cc) ∧ w'.cell? ⟨w.heap.size, 10, none⟩ = some (.slice A1 n1 c1) ∧ w'.cell? ⟨w.heap.size, 11, none⟩ = some (.slice A2 n2 c2) ∧ w'.cell? ⟨w.heap.size, 12, none⟩ = some (.slice A3 n3 c3)) (fun _ => false) 36 (by rfl) (by kernel_rfl) ?_
    have V0 : Hid (Below w.heap.size w X0.drew) := B0.out.trans ((Below.refl _ _).drew.mono B0.out.size)
    have KY0 := Hid.mk (K0.out.on ((Below.refl _ X0).drew) K0.out.lt)
    generalize X0.drew = Y0 at *
    have SS0 := Hid.mk (cellsC13 KY0.out)
    refine pF 0 ?_
    refine tF 1 SS0.out ?_
    refine until_one 2 (by rfl) (by kernel_rfl) (fun K hK => ?_)
    go_simp
    refine (a1 _).mono ?_
    rintro e w' ⟨rfl, rfl⟩
    refine hK.out _ _ (fun _ h => h) ?_
    clear hK K
    try simp only [Act.put, List.setIfInBounds_toArray, List.set_cons_zero, List.set_cons_succ]
    refine pF 3 ?_
    refine pF 4 ?_
    refine pF 5 ?_
    refine tF 6 SS0.out ?_
    refine pF 7 ?_
    refine tF 8 SS0.out ?_
    refine pF 9 ?_
    refine until_one 10 (by rfl) (by kernel_rfl) (fun K hK => ?_)
    go_simp
    refine (a2 _).mono ?_
    rintro e w' ⟨rfl, rfl⟩
    refine hK.out _ _ (fun _ h => h) ?_
    clear hK K
    try simp only [Act.put, List.setIfInBounds_toArray, List.set_cons_zero, List.set_cons_succ]
    refine pF 11 ?_
    refine pF 12 ?_
    refine pF 13 ?_
    refine tF 14 SS0.out ?_
    refine until_one 15 (by rfl) (by kernel_rfl) (fun K hK => ?_)
    go_simp
    refine (cW Y0 (HLg.out.on (V0.out.mono HBB.out)) (Nat.le_trans HBB.out V0.out.size)).mono ?_
    rintro e Y1 ⟨⟨uw, rfl, hOw⟩, hb⟩
    obtain ⟨Aw, mw, kw, rfl⟩ := hOw.shape
    have HOw := Hid.mk hOw
    clear hOw
    have V1 : Hid (Below w.heap.size w Y1) := V0.out.trans (hb.mono V0.out.size)
    have KY1 := Hid.mk (KY0.out.on hb KY0.out.lt)
    have SS1 := Hid.mk (cellsC13 KY1.out)
    clear hb
    refine hK.out _ _ (fun _ _ => SS1.out) ?_
    clear hK K
    try simp only [Act.put, List.setIfInBounds_toArray, List.set_cons_zero, List.set_cons_succ]
    refine until_one 16 (by rfl) (by kernel_rfl) (fun K hK => ?_)
    go_simp
    refine (cO _ Y1 HOw.out.lies (Nat.le_refl _)).mono ?_
    rintro e Y2 ⟨rfl, hb⟩
    have V2 : Hid (Below w.heap.size w Y2) := V1.out.trans (hb.mono V1.out.size)
    have KY2 := Hid.mk (KY1.out.on hb KY1.out.lt)
    have SS2 := Hid.mk (cellsC13 KY2.out)
    clear hb
    refine hK.out _ _ (fun _ _ => SS2.out) ?_
    clear hK K
    try simp only [Act.put, List.setIfInBounds_toArray, List.set_cons_zero, List.set_cons_succ]
    refine pF 17 ?_
    refine pF 18 ?_
    refine pF 19 ?_
    refine pF 20 ?_
    refine tF 21 SS2.out ?_
    refine pF 22 ?_
    refine tF 23 SS2.out ?_
    refine pF 24 ?_
    refine pF 25 ?_
    refine pF 26 ?_
    refine sF 27 ?_
    refine sF 28 ?_
    refine sF 29 ?_
    refine sF 30 ?_
    refine sF 31 ?_
    refine sF 32 ?_
    refine sF 33 ?_
    refine sF 34 ?_
    refine pF 35 ?_
    refine until_done (by kernel_rfl) ?_ _
    go_wp2_with fail
    go_ret
    exact ⟨by rw [HE.out]; rfl, V2.out⟩
  have z4 : decide (cp ≤ cv) = false := decide_eq_false (by omega)
  cases h5 : inIt cc cb (cb + (n0 : Int)) <;> rw [h5] at a4
  · clear h1 h2 h3 h4 h5
    go_enter Try.func11, Try.ntmps11
    go_wp2_with fail
    rw [← hX0]
    clear hX0
    refine wp_region_until (fun w' => w'.cell? ⟨w.heap.size, 0, none⟩ = some (.int .i64 ci) ∧ w'.cell? ⟨w.heap.size, 1, none⟩ = some (.int .i64 cp) ∧ w'.cell? ⟨w.heap.size, 2, none⟩ = some (.int .i64 ct) ∧ w'.cell? ⟨w.heap.size, 3, none⟩ = some (.int .i64 cv) ∧ w'.cell? ⟨w.heap.size, 4, none⟩ = some (.int .i64 cr) ∧ w'.cell? ⟨w.heap.size, 5, none⟩ = some (.int .i64 cd) ∧ w'.cell? ⟨w.heap.size, 6, none⟩ = some (.int .i64 cb) ∧ w'.cell? ⟨w.heap.size, 7, none⟩ = some (.int .i64 cbt) ∧ w'.cell? ⟨w.heap.size, 8, none⟩ = some (.slice A0 n0 c0) ∧ w'.cell? ⟨w.heap.size, 9, none⟩ = some (.int .i64 cc) ∧ w'.cell? ⟨w.heap.size, 10, none⟩ = some (.slice A1 n1 c1) ∧ w'.cell? ⟨w.heap.size, 11, none⟩ = some (.slice A2 n2 c2) ∧ w'.cell? ⟨w.heap.size, 12, none⟩ = some (.slice A3 n3 c3)) (fun _ => false) 36 (by rfl) (by kernel_rfl) ?_
    have V0 : Hid (Below w.heap.size w X0.drew) := B0.out.trans ((Below.refl _ _).drew.mono B0.out.size)
    have KY0 := Hid.mk (K0.out.on ((Below.refl _ X0).drew) K0.out.lt)
    generalize X0.drew = Y0 at *
    have SS0 := Hid.mk (cellsC13 KY0.out)
    refine pF 0 ?_
    refine tF 1 SS0.out ?_
    refine until_one 2 (by rfl) (by kernel_rfl) (fun K hK => ?_)
    go_simp
    refine (a1 _).mono ?_
    rintro e w' ⟨rfl, rfl⟩
    refine hK.out _ _ (fun _ h => h) ?_
    clear hK K
    try simp only [Act.put, List.setIfInBounds_toArray, List.set_cons_zero, List.set_cons_succ]
    refine pF 3 ?_
    refine pF 4 ?_
    refine pF 5 ?_
    refine tF 6 SS0.out ?_
    refine pF 7 ?_
    refine tF 8 SS0.out ?_
    refine pF 9 ?_
    refine until_one 10 (by rfl) (by kernel_rfl) (fun K hK => ?_)
    go_simp
    refine (a2 _).mono ?_
    rintro e w' ⟨rfl, rfl⟩
    refine hK.out _ _ (fun _ h => h) ?_
    clear hK K
    try simp only [Act.put, List.setIfInBounds_toArray, List.set_cons_zero, List.set_cons_succ]
    refine pF 11 ?_
    refine pF 12 ?_
    refine pF 13 ?_
    refine tF 14 SS0.out ?_
    refine until_one 15 (by rfl) (by kernel_rfl) (fun K hK => ?_)
    go_simp
    refine (cW Y0 (HLg.out.on (V0.out.mono HBB.out)) (Nat.le_trans HBB.out V0.out.size)).mono ?_
    rintro e Y1 ⟨⟨uw, rfl, hOw⟩, hb⟩
    obtain ⟨Aw, mw, kw, rfl⟩ := hOw.shape
    have HOw := Hid.mk hOw
    clear hOw
    have V1 : Hid (Below w.heap.size w Y1) := V0.out.trans (hb.mono V0.out.size)
    have KY1 := Hid.mk (KY0.out.on hb KY0.out.lt)
    have SS1 := Hid.mk (cellsC13 KY1.out)
    clear hb
    refine hK.out _ _ (fun _ _ => SS1.out) ?_
    clear hK K
    try simp only [Act.put, List.setIfInBounds_toArray, List.set_cons_zero, List.set_cons_succ]
    refine until_one 16 (by rfl) (by kernel_rfl) (fun K hK => ?_)
    go_simp
    refine (cO _ Y1 HOw.out.lies (Nat.le_refl _)).mono ?_
    rintro e Y2 ⟨rfl, hb⟩
    have V2 : Hid (Below w.heap.size w Y2) := V1.out.trans (hb.mono V1.out.size)
    have KY2 := Hid.mk (KY1.out.on hb KY1.out.lt)
    have SS2 := Hid.mk (cellsC13 KY2.out)
    clear hb
    refine hK.out _ _ (fun _ _ => SS2.out) ?_
    clear hK K
    try simp only [Act.put, List.setIfInBounds_toArray, List.set_cons_zero, List.set_cons_succ]
    refine pF 17 ?_
    refine pF 18 ?_
    refine pF 19 ?_
    refine pF 20 ?_
    refine tF 21 SS2.out ?_
    refine pF 22 ?_
    refine tF 23 SS2.out ?_
    refine pF 24 ?_
    refine pF 25 ?_
    refine pF 26 ?_
    refine pF 27 ?_
    refine tF 28 SS2.out ?_
    refine pF 29 ?_
    refine tF 30 SS2.out ?_
    refine tF 31 SS2.out ?_
    refine until_one 32 (by rfl) (by kernel_rfl) (fun K hK => ?_)
    go_simp
    refine (cL Y2).mono ?_
    rintro e Y3 ⟨rfl, hb⟩
    have V3 : Hid (Below w.heap.size w Y3) := V2.out.trans (hb.mono V2.out.size)
    have KY3 := Hid.mk (KY2.out.on hb KY2.out.lt)
    have SS3 := Hid.mk (cellsC13 KY3.out)
    clear hb
    refine hK.out _ _ (fun _ _ => SS3.out) ?_
    clear hK K
    try simp only [Act.put, List.setIfInBounds_toArray, List.set_cons_zero, List.set_cons_succ]
    refine until_one 33 (by rfl) (by kernel_rfl) (fun K hK => ?_)
    go_simp
    refine (a4 _).mono ?_
    rintro e w' ⟨rfl, rfl⟩
    refine hK.out _ _ (fun _ h => h) ?_
    clear hK K
    try simp only [Act.put, List.setIfInBounds_toArray, List.set_cons_zero, List.set_cons_succ]
    refine pF 34 ?_
    refine pF 35 ?_
    refine until_done (by kernel_rfl) ?_ _
    go_wp2_with fail
    go_ret
    exact ⟨by rw [HE.out]; rfl, V3.out⟩
  obtain ⟨m0, m1⟩ := inIt_in _ _ _ h5
  exact absurd ⟨⟨p0, p1⟩, ⟨i0, i1⟩, h3, h4, ⟨m0, by rw [HCl.out]; exact m1⟩⟩ hno
end Go.Proofs.Ytjejcpieajeflaa
