/- CoI5 CoAf CoSnd CoCpS CoKc CoAll CoBt CoBi CoMk2 CoCn -/
import Derived.Test.YtlhoonohpfpkbaaRows
import Derived.Test.YtlhoonohpfpkbaaQp4
import Derived.Deep.Cut
import Derived.Handy
import Derived.Test.YtlhoonohpfpkbaaQp2
import Derived.Test.YtlhoonohpfpkbaaQp3
import Derived.Deep.CutRange
import Derived.Test.YtlhoonohpfpkbaaQp1
open List (setIfInBounds_toArray set_cons_zero set_cons_succ)
namespace Go.Proofs.Ytlhoonohpfpkbaa
open Go.ChangeShapes Go.WideShapes Go.ChangeAt Go.RowKit Go.PlainAid
set_option linter.unusedVariables false
set_option maxHeartbeats 16000000 in
theorem implCoreOk (x : Cor) (v : Value) (w : World) (B : Nat) (hv : CorV w B v x) (hs : ShortC x) (hB : B ≤ w.heap.size) : Calls Try.prog 52 #[v] w fun e w' => e = .returned (.bool (corOk x)) ∧ Below w.heap.size w w' := by
 obtain ⟨ci, cp, ct, cv, cr, cd, cb, cbt, lg, cc, ys, ns, ms⟩ := x
 obtain ⟨u0, u1, u2, u3, rfl, hl, hy, hn, hm⟩ := hv
 unfold vCo
 simp only at hl hy hn hm ⊢
 have HYv : Hid (NumsV w B u1 ys ∧ NumsV w B u2 ns ∧ NumsV w B u3 ms) := ⟨hy, hn, hm⟩
 have HLg : Hid (Lies w B 2 u0 (entR lg)) := hl
 have HBB : Hid (B ≤ w.heap.size) := hB
 have HS : Hid (ShortC ⟨ci, cp, ct, cv, cr, cd, cb, cbt, lg, cc, ys, ns, ms⟩) := hs
 obtain ⟨A0, c0, rfl, _⟩ := ent_look hl
 obtain ⟨A1, c1, rfl, _⟩ := hy
 obtain ⟨A2, c2, rfl, _⟩ := hn
 obtain ⟨A3, c3, rfl, _⟩ := hm
 have a1 := inW cp 1 5
 have a2 := inW ci 0 (cp - 1)
 have cW := fun wx => walI ci cp ct cv cr cd cb cbt cc A0 lg.length c0 (.slice A1 ys.length c1) (.slice A2 ns.length c2) (.slice A3 ms.length c3) wx
 have cO := fun wx h1 h2 => implWalOk (corW ⟨ci, cp, ct, cv, cr, cd, cb, cbt, lg, cc, ys, ns, ms⟩) (.agg #[.int .i64 ct, .int .i64 cv, .int .i64 cb, .int .i64 cbt, .slice A0 lg.length c0]) wx B ⟨_, rfl, h1⟩ ⟨Nat.le_trans hs.n (by decide), fun e he => Nat.le_trans (hs.d e he) (by decide)⟩ h2
 have cL := fun h0 h1 wx => lastI ci cp ct cv cr cd cb cbt cc A0 lg.length c0 (.slice A1 ys.length c1) (.slice A2 ns.length c2) (.slice A3 ms.length c3) wx h0 h1 hs.n
 have a4 := inW cc cb (cb + (lg.length : Int))
 have cR := fun h1 h2 h3 h4 h5 h6 wx q1 q2 q3 q4 => roleI ci cp ct cv cr cd cb cbt lg cc ys ns ms A0 lg.length c0 (.slice A1 ys.length c1) (.slice A2 ns.length c2) (.slice A3 ms.length c3) wx B q1 q2 q3 hs.y hs.q hs.m h1 h2 h3 h4 h5 h6 rfl hs.n q4
 have HNo : Hid (¬ COk0 ⟨ci, cp, ct, cv, cr, cd, cb, cbt, lg, cc, ys, ns, ms⟩ → corOk ⟨ci, cp, ct, cv, cr, cd, cb, cbt, lg, cc, ys, ns, ms⟩ = false) := fun h => corOk_no fun q => h q.1
 have HYe : Hid (COk0 ⟨ci, cp, ct, cv, cr, cd, cb, cbt, lg, cc, ys, ns, ms⟩ → corOk ⟨ci, cp, ct, cv, cr, cd, cb, cbt, lg, cc, ys, ns, ms⟩ = roleB ⟨ci, cp, ct, cv, cr, cd, cb, cbt, lg, cc, ys, ns, ms⟩) := corOk_and
 have HCl : Hid (cLast ⟨ci, cp, ct, cv, cr, cd, cb, cbt, lg, cc, ys, ns, ms⟩ = cb + (lg.length : Int)) := rfl
 have HWl : Hid (walOk (corW ⟨ci, cp, ct, cv, cr, cd, cb, cbt, lg, cc, ys, ns, ms⟩) = true → 0 ≤ cb ∧ cb ≤ 100000) := fun h => (walOk_in h).2.2.1
 have q0 : (lg.length : Int) ≤ 1048576 := by have := hs.n; simp only at this; omega
 clear hl hs hB
 generalize lg.length = n0 at *
 generalize ys.length = n1 at *
 generalize ns.length = n2 at *
 generalize ms.length = n3 at *
 obtain ⟨X0, hX0⟩ : ∃ X0, X0 = w.alloc (.cells #[.int .i64 ci, .int .i64 cp, .int .i64 ct, .int .i64 cv, .int .i64 cr, .int .i64 cd, .int .i64 cb, .int .i64 cbt, .slice A0 n0 c0, .int .i64 cc, .slice A1 n1 c1, .slice A2 n2 c2, .slice A3 n3 c3] 29) := ⟨_, rfl⟩
 have B0 : Hid (Below w.heap.size w X0) := by unfold Hid; rw [hX0]; exact (Below.refl _ _).alloc (Nat.le_refl _) _
 have K0 : Hid (Blk X0 w.heap.size #[.int .i64 ci, .int .i64 cp, .int .i64 ct, .int .i64 cv, .int .i64 cr, .int .i64 cd, .int .i64 cb, .int .i64 cbt, .slice A0 n0 c0, .int .i64 cc, .slice A1 n1 c1, .slice A2 n2 c2, .slice A3 n3 c3] 29) := by unfold Hid; rw [hX0]; exact Blk.new w _ _
 cases h1 : inIt cp 1 5 <;> rw [h1] at a1
 ·have HE : Hid (corOk ⟨ci, cp, ct, cv, cr, cd, cb, cbt, lg, cc, ys, ns, ms⟩ = false) := HNo.out fun q => by have a := q.p; simp only at a; rw [show inIt cp 1 5 = true by unfold inIt; simp [a.1, a.2]] at h1; cases h1
  clear h1 a2 cW cO cL a4 cR
  go_enter Try.func52, Try.ntmps52
  go_wp2_with fail
  rw [← hX0]
  clear hX0
  refine wp_region_until (fun w' => w'.cell? ⟨w.heap.size, 0, none⟩ = some (.int .i64 ci) ∧ w'.cell? ⟨w.heap.size, 1, none⟩ = some (.int .i64 cp) ∧ w'.cell? ⟨w.heap.size, 2, none⟩ = some (.int .i64 ct) ∧ w'.cell? ⟨w.heap.size, 3, none⟩ = some (.int .i64 cv) ∧ w'.cell? ⟨w.heap.size, 4, none⟩ = some (.int .i64 cr) ∧ w'.cell? ⟨w.heap.size, 5, none⟩ = some (.int .i64 cd) ∧ w'.cell? ⟨w.heap.size, 6, none⟩ = some (.int .i64 cb) ∧ w'.cell? ⟨w.heap.size, 7, none⟩ = some (.int .i64 cbt) ∧ w'.cell? ⟨w.heap.size, 8, none⟩ = some (.slice A0 n0 c0) ∧ w'.cell? ⟨w.heap.size, 9, none⟩ = some (.int .i64 cc) ∧ w'.cell? ⟨w.heap.size, 10, none⟩ = some (.slice A1 n1 c1) ∧ w'.cell? ⟨w.heap.size, 11, none⟩ = some (.slice A2 n2 c2) ∧ w'.cell? ⟨w.heap.size, 12, none⟩ = some (.slice A3 n3 c3)) (fun _ => false) 37 (by rfl) (by kernel_rfl) ?_
  have V0 : Hid (Below w.heap.size w X0.drew) := B0.out.trans ((Below.refl _ _).drew.mono B0.out.size)
  have KY0 := Hid.mk (K0.out.on ((Below.refl _ X0).drew) K0.out.lt)
  generalize X0.drew = Y0 at *
  have SS0 := Hid.mk (cellsC13 KY0.out)
  refine pF 0 ?_
  refine tF 1 SS0.out ?_
  refine uNe 2 (fun K hK => ?_)
  go_simp
  refine (a1 _).mono ?_
  rintro e w' ⟨rfl, rfl⟩
  refine hK.out _ _ (fun _ h => h) ?_
  clear hK K
  try simp only [Act.put, zQ1, zQ2, zQ3]
  refine pF 3 ?_
  refine sF 4 ?_
  refine sF 5 ?_
  refine sF 6 ?_
  refine sF 7 ?_
  refine sF 8 ?_
  refine sF 9 ?_
  refine pF 10 ?_
  refine pF 11 ?_
  refine sF 12 ?_
  refine sF 13 ?_
  refine sF 14 ?_
  refine pF 15 ?_
  refine pF 16 ?_
  refine sF 17 ?_
  refine sF 18 ?_
  refine sF 19 ?_
  refine sF 20 ?_
  refine sF 21 ?_
  refine pF 22 ?_
  refine pF 23 ?_
  refine sF 24 ?_
  refine sF 25 ?_
  refine sF 26 ?_
  refine sF 27 ?_
  refine sF 28 ?_
  refine sF 29 ?_
  refine sF 30 ?_
  refine pF 31 ?_
  refine pF 32 ?_
  refine sF 33 ?_
  refine sF 34 ?_
  refine pF 35 ?_
  refine pF 36 ?_
  refine until_done (by kernel_rfl) ?_ _
  go_wp2_with fail
  go_ret
  exact ⟨by rw [HE.out]; rfl, V0.out⟩
 obtain ⟨p0, p1⟩ := inIt_in _ _ _ h1
 have w1 : IntKind.i64.wrap (cp - 1) = cp - 1 := by rw [IntKind.wrap_i64]; omega
 cases h2 : inIt ci 0 (cp - 1) <;> rw [h2] at a2
 ·have HE : Hid (corOk ⟨ci, cp, ct, cv, cr, cd, cb, cbt, lg, cc, ys, ns, ms⟩ = false) := HNo.out fun q => by have a := q.i; simp only at a; rw [show inIt ci 0 (cp - 1) = true by unfold inIt; simp [a.1, a.2]] at h2; cases h2
  clear h1 h2 cW cO cL a4 cR
  go_enter Try.func52, Try.ntmps52
  go_wp2_with fail
  rw [← hX0]
  clear hX0
  refine wp_region_until (fun w' => w'.cell? ⟨w.heap.size, 0, none⟩ = some (.int .i64 ci) ∧ w'.cell? ⟨w.heap.size, 1, none⟩ = some (.int .i64 cp) ∧ w'.cell? ⟨w.heap.size, 2, none⟩ = some (.int .i64 ct) ∧ w'.cell? ⟨w.heap.size, 3, none⟩ = some (.int .i64 cv) ∧ w'.cell? ⟨w.heap.size, 4, none⟩ = some (.int .i64 cr) ∧ w'.cell? ⟨w.heap.size, 5, none⟩ = some (.int .i64 cd) ∧ w'.cell? ⟨w.heap.size, 6, none⟩ = some (.int .i64 cb) ∧ w'.cell? ⟨w.heap.size, 7, none⟩ = some (.int .i64 cbt) ∧ w'.cell? ⟨w.heap.size, 8, none⟩ = some (.slice A0 n0 c0) ∧ w'.cell? ⟨w.heap.size, 9, none⟩ = some (.int .i64 cc) ∧ w'.cell? ⟨w.heap.size, 10, none⟩ = some (.slice A1 n1 c1) ∧ w'.cell? ⟨w.heap.size, 11, none⟩ = some (.slice A2 n2 c2) ∧ w'.cell? ⟨w.heap.size, 12, none⟩ = some (.slice A3 n3 c3)) (fun _ => false) 37 (by rfl) (by kernel_rfl) ?_
  have V0 : Hid (Below w.heap.size w X0.drew) := B0.out.trans ((Below.refl _ _).drew.mono B0.out.size)
  have KY0 := Hid.mk (K0.out.on ((Below.refl _ X0).drew) K0.out.lt)
  generalize X0.drew = Y0 at *
  have SS0 := Hid.mk (cellsC13 KY0.out)
  refine pF 0 ?_
  refine tF 1 SS0.out ?_
  refine uNe 2 (fun K hK => ?_)
  go_simp
  refine (a1 _).mono ?_
  rintro e w' ⟨rfl, rfl⟩
  refine hK.out _ _ (fun _ h => h) ?_
  clear hK K
  try simp only [Act.put, zQ1, zQ2, zQ3]
  refine pF 3 ?_
  refine pF 4 ?_
  refine tF 5 SS0.out ?_
  refine pF 6 ?_
  refine tF 7 SS0.out ?_
  refine pF 8 ?_
  refine uNe 9 (fun K hK => ?_)
  go_simp
  refine (a2 _).mono ?_
  rintro e w' ⟨rfl, rfl⟩
  refine hK.out _ _ (fun _ h => h) ?_
  clear hK K
  try simp only [Act.put, zQ1, zQ2, zQ3]
  refine pF 10 ?_
  refine pF 11 ?_
  refine sF 12 ?_
  refine sF 13 ?_
  refine sF 14 ?_
  refine pF 15 ?_
  refine pF 16 ?_
  refine sF 17 ?_
  refine sF 18 ?_
  refine sF 19 ?_
  refine sF 20 ?_
  refine sF 21 ?_
  refine pF 22 ?_
  refine pF 23 ?_
  refine sF 24 ?_
  refine sF 25 ?_
  refine sF 26 ?_
  refine sF 27 ?_
  refine sF 28 ?_
  refine sF 29 ?_
  refine sF 30 ?_
  refine pF 31 ?_
  refine pF 32 ?_
  refine sF 33 ?_
  refine sF 34 ?_
  refine pF 35 ?_
  refine pF 36 ?_
  refine until_done (by kernel_rfl) ?_ _
  go_wp2_with fail
  go_ret
  exact ⟨by rw [HE.out]; rfl, V0.out⟩
 obtain ⟨i0, i1⟩ := inIt_in _ _ _ h2
 cases h3 : walOk (corW ⟨ci, cp, ct, cv, cr, cd, cb, cbt, lg, cc, ys, ns, ms⟩) <;> rw [h3] at cO
 ·have HE : Hid (corOk ⟨ci, cp, ct, cv, cr, cd, cb, cbt, lg, cc, ys, ns, ms⟩ = false) := HNo.out fun q => by have a := q.w; rw [h3] at a; cases a
  clear h1 h2 h3 cL a4 cR
  go_enter Try.func52, Try.ntmps52
  go_wp2_with fail
  rw [← hX0]
  clear hX0
  refine wp_region_until (fun w' => w'.cell? ⟨w.heap.size, 0, none⟩ = some (.int .i64 ci) ∧ w'.cell? ⟨w.heap.size, 1, none⟩ = some (.int .i64 cp) ∧ w'.cell? ⟨w.heap.size, 2, none⟩ = some (.int .i64 ct) ∧ w'.cell? ⟨w.heap.size, 3, none⟩ = some (.int .i64 cv) ∧ w'.cell? ⟨w.heap.size, 4, none⟩ = some (.int .i64 cr) ∧ w'.cell? ⟨w.heap.size, 5, none⟩ = some (.int .i64 cd) ∧ w'.cell? ⟨w.heap.size, 6, none⟩ = some (.int .i64 cb) ∧ w'.cell? ⟨w.heap.size, 7, none⟩ = some (.int .i64 cbt) ∧ w'.cell? ⟨w.heap.size, 8, none⟩ = some (.slice A0 n0 c0) ∧ w'.cell? ⟨w.heap.size, 9, none⟩ = some (.int .i64 cc) ∧ w'.cell? ⟨w.heap.size, 10, none⟩ = some (.slice A1 n1 c1) ∧ w'.cell? ⟨w.heap.size, 11, none⟩ = some (.slice A2 n2 c2) ∧ w'.cell? ⟨w.heap.size, 12, none⟩ = some (.slice A3 n3 c3)) (fun _ => false) 37 (by rfl) (by kernel_rfl) ?_
  have V0 : Hid (Below w.heap.size w X0.drew) := B0.out.trans ((Below.refl _ _).drew.mono B0.out.size)
  have KY0 := Hid.mk (K0.out.on ((Below.refl _ X0).drew) K0.out.lt)
  generalize X0.drew = Y0 at *
  have SS0 := Hid.mk (cellsC13 KY0.out)
  refine pF 0 ?_
  refine tF 1 SS0.out ?_
  refine uNe 2 (fun K hK => ?_)
  go_simp
  refine (a1 _).mono ?_
  rintro e w' ⟨rfl, rfl⟩
  refine hK.out _ _ (fun _ h => h) ?_
  clear hK K
  try simp only [Act.put, zQ1, zQ2, zQ3]
  refine pF 3 ?_
  refine pF 4 ?_
  refine tF 5 SS0.out ?_
  refine pF 6 ?_
  refine tF 7 SS0.out ?_
  refine pF 8 ?_
  refine uNe 9 (fun K hK => ?_)
  go_simp
  refine (a2 _).mono ?_
  rintro e w' ⟨rfl, rfl⟩
  refine hK.out _ _ (fun _ h => h) ?_
  clear hK K
  try simp only [Act.put, zQ1, zQ2, zQ3]
  refine pF 10 ?_
  refine pF 11 ?_
  refine tF 12 SS0.out ?_
  refine uNe 13 (fun K hK => ?_)
  go_simp
  refine (cW Y0).mono ?_
  rintro e Y1 ⟨rfl, hb⟩
  have V1 : Hid (Below w.heap.size w Y1) := V0.out.trans (hb.mono V0.out.size)
  have KY1 := Hid.mk (KY0.out.on hb KY0.out.lt)
  have SS1 := Hid.mk (cellsC13 KY1.out)
  clear hb
  refine hK.out _ _ (fun _ _ => SS1.out) ?_
  clear hK K
  try simp only [Act.put, zQ1, zQ2, zQ3]
  refine uNe 14 (fun K hK => ?_)
  go_simp
  refine (cO Y1 (HLg.out.on (V1.out.mono HBB.out)) (Nat.le_trans HBB.out V1.out.size)).mono ?_
  rintro e Y2 ⟨rfl, hb⟩
  have V2 : Hid (Below w.heap.size w Y2) := V1.out.trans (hb.mono V1.out.size)
  have KY2 := Hid.mk (KY1.out.on hb KY1.out.lt)
  have SS2 := Hid.mk (cellsC13 KY2.out)
  clear hb
  refine hK.out _ _ (fun _ _ => SS2.out) ?_
  clear hK K
  try simp only [Act.put, zQ1, zQ2, zQ3]
  refine pF 15 ?_
  refine pF 16 ?_
  refine sF 17 ?_
  refine sF 18 ?_
  refine sF 19 ?_
  refine sF 20 ?_
  refine sF 21 ?_
  refine pF 22 ?_
  refine pF 23 ?_
  refine sF 24 ?_
  refine sF 25 ?_
  refine sF 26 ?_
  refine sF 27 ?_
  refine sF 28 ?_
  refine sF 29 ?_
  refine sF 30 ?_
  refine pF 31 ?_
  refine pF 32 ?_
  refine sF 33 ?_
  refine sF 34 ?_
  refine pF 35 ?_
  refine pF 36 ?_
  refine until_done (by kernel_rfl) ?_ _
  go_wp2_with fail
  go_ret
  exact ⟨by rw [HE.out]; rfl, V2.out⟩
 obtain ⟨b0, b1⟩ := HWl.out h3
 have cL := cL b0 (by omega)
 have cR := cR p0 p1 i0 i1 b0 (by omega)
 by_cases h4 : cv < cp
 rotate_left
 ·have z4 : decide (cv < cp) = false := decide_eq_false h4
  have HE : Hid (corOk ⟨ci, cp, ct, cv, cr, cd, cb, cbt, lg, cc, ys, ns, ms⟩ = false) := HNo.out fun q => h4 q.v
  clear h1 h2 h3 h4 cL a4 cR
  go_enter Try.func52, Try.ntmps52
  go_wp2_with fail
  rw [← hX0]
  clear hX0
  refine wp_region_until (fun w' => w'.cell? ⟨w.heap.size, 0, none⟩ = some (.int .i64 ci) ∧ w'.cell? ⟨w.heap.size, 1, none⟩ = some (.int .i64 cp) ∧ w'.cell? ⟨w.heap.size, 2, none⟩ = some (.int .i64 ct) ∧ w'.cell? ⟨w.heap.size, 3, none⟩ = some (.int .i64 cv) ∧ w'.cell? ⟨w.heap.size, 4, none⟩ = some (.int .i64 cr) ∧ w'.cell? ⟨w.heap.size, 5, none⟩ = some (.int .i64 cd) ∧ w'.cell? ⟨w.heap.size, 6, none⟩ = some (.int .i64 cb) ∧ w'.cell? ⟨w.heap.size, 7, none⟩ = some (.int .i64 cbt) ∧ w'.cell? ⟨w.heap.size, 8, none⟩ = some (.slice A0 n0 c0) ∧ w'.cell? ⟨w.heap.size, 9, none⟩ = some (.int .i64 cc) ∧ w'.cell? ⟨w.heap.size, 10, none⟩ = some (.slice A1 n1 c1) ∧ w'.cell? ⟨w.heap.size, 11, none⟩ = some (.slice A2 n2 c2) ∧ w'.cell? ⟨w.heap.size, 12, none⟩ = some (.slice A3 n3 c3)) (fun _ => false) 37 (by rfl) (by kernel_rfl) ?_
  have V0 : Hid (Below w.heap.size w X0.drew) := B0.out.trans ((Below.refl _ _).drew.mono B0.out.size)
  have KY0 := Hid.mk (K0.out.on ((Below.refl _ X0).drew) K0.out.lt)
  generalize X0.drew = Y0 at *
  have SS0 := Hid.mk (cellsC13 KY0.out)
  refine pF 0 ?_
  refine tF 1 SS0.out ?_
  refine uNe 2 (fun K hK => ?_)
  go_simp
  refine (a1 _).mono ?_
  rintro e w' ⟨rfl, rfl⟩
  refine hK.out _ _ (fun _ h => h) ?_
  clear hK K
  try simp only [Act.put, zQ1, zQ2, zQ3]
  refine pF 3 ?_
  refine pF 4 ?_
  refine tF 5 SS0.out ?_
  refine pF 6 ?_
  refine tF 7 SS0.out ?_
  refine pF 8 ?_
  refine uNe 9 (fun K hK => ?_)
  go_simp
  refine (a2 _).mono ?_
  rintro e w' ⟨rfl, rfl⟩
  refine hK.out _ _ (fun _ h => h) ?_
  clear hK K
  try simp only [Act.put, zQ1, zQ2, zQ3]
  refine pF 10 ?_
  refine pF 11 ?_
  refine tF 12 SS0.out ?_
  refine uNe 13 (fun K hK => ?_)
  go_simp
  refine (cW Y0).mono ?_
  rintro e Y1 ⟨rfl, hb⟩
  have V1 : Hid (Below w.heap.size w Y1) := V0.out.trans (hb.mono V0.out.size)
  have KY1 := Hid.mk (KY0.out.on hb KY0.out.lt)
  have SS1 := Hid.mk (cellsC13 KY1.out)
  clear hb
  refine hK.out _ _ (fun _ _ => SS1.out) ?_
  clear hK K
  try simp only [Act.put, zQ1, zQ2, zQ3]
  refine uNe 14 (fun K hK => ?_)
  go_simp
  refine (cO Y1 (HLg.out.on (V1.out.mono HBB.out)) (Nat.le_trans HBB.out V1.out.size)).mono ?_
  rintro e Y2 ⟨rfl, hb⟩
  have V2 : Hid (Below w.heap.size w Y2) := V1.out.trans (hb.mono V1.out.size)
  have KY2 := Hid.mk (KY1.out.on hb KY1.out.lt)
  have SS2 := Hid.mk (cellsC13 KY2.out)
  clear hb
  refine hK.out _ _ (fun _ _ => SS2.out) ?_
  clear hK K
  try simp only [Act.put, zQ1, zQ2, zQ3]
  refine pF 15 ?_
  refine pF 16 ?_
  refine pF 17 ?_
  refine tF 18 SS2.out ?_
  refine pF 19 ?_
  refine tF 20 SS2.out ?_
  refine pF 21 ?_
  refine pF 22 ?_
  refine pF 23 ?_
  refine sF 24 ?_
  refine sF 25 ?_
  refine sF 26 ?_
  refine sF 27 ?_
  refine sF 28 ?_
  refine sF 29 ?_
  refine sF 30 ?_
  refine pF 31 ?_
  refine pF 32 ?_
  refine sF 33 ?_
  refine sF 34 ?_
  refine pF 35 ?_
  refine pF 36 ?_
  refine until_done (by kernel_rfl) ?_ _
  go_wp2_with fail
  go_ret
  exact ⟨by rw [HE.out]; rfl, V2.out⟩
 have z4 : decide (cv < cp) = true := decide_eq_true h4
 cases h5 : inIt cc cb (cb + (n0 : Int)) <;> rw [h5] at a4
 ·have HE : Hid (corOk ⟨ci, cp, ct, cv, cr, cd, cb, cbt, lg, cc, ys, ns, ms⟩ = false) := HNo.out fun q => by have a := q.c; rw [HCl.out] at a; simp only at a; rw [show inIt cc cb (cb + (n0 : Int)) = true by unfold inIt; simp [a.1, a.2]] at h5; cases h5
  clear h1 h2 h3 h4 h5 cR
  go_enter Try.func52, Try.ntmps52
  go_wp2_with fail
  rw [← hX0]
  clear hX0
  refine wp_region_until (fun w' => w'.cell? ⟨w.heap.size, 0, none⟩ = some (.int .i64 ci) ∧ w'.cell? ⟨w.heap.size, 1, none⟩ = some (.int .i64 cp) ∧ w'.cell? ⟨w.heap.size, 2, none⟩ = some (.int .i64 ct) ∧ w'.cell? ⟨w.heap.size, 3, none⟩ = some (.int .i64 cv) ∧ w'.cell? ⟨w.heap.size, 4, none⟩ = some (.int .i64 cr) ∧ w'.cell? ⟨w.heap.size, 5, none⟩ = some (.int .i64 cd) ∧ w'.cell? ⟨w.heap.size, 6, none⟩ = some (.int .i64 cb) ∧ w'.cell? ⟨w.heap.size, 7, none⟩ = some (.int .i64 cbt) ∧ w'.cell? ⟨w.heap.size, 8, none⟩ = some (.slice A0 n0 c0) ∧ w'.cell? ⟨w.heap.size, 9, none⟩ = some (.int .i64 cc) ∧ w'.cell? ⟨w.heap.size, 10, none⟩ = some (.slice A1 n1 c1) ∧ w'.cell? ⟨w.heap.size, 11, none⟩ = some (.slice A2 n2 c2) ∧ w'.cell? ⟨w.heap.size, 12, none⟩ = some (.slice A3 n3 c3)) (fun _ => false) 37 (by rfl) (by kernel_rfl) ?_
  have V0 : Hid (Below w.heap.size w X0.drew) := B0.out.trans ((Below.refl _ _).drew.mono B0.out.size)
  have KY0 := Hid.mk (K0.out.on ((Below.refl _ X0).drew) K0.out.lt)
  generalize X0.drew = Y0 at *
  have SS0 := Hid.mk (cellsC13 KY0.out)
  refine pF 0 ?_
  refine tF 1 SS0.out ?_
  refine uNe 2 (fun K hK => ?_)
  go_simp
  refine (a1 _).mono ?_
  rintro e w' ⟨rfl, rfl⟩
  refine hK.out _ _ (fun _ h => h) ?_
  clear hK K
  try simp only [Act.put, zQ1, zQ2, zQ3]
  refine pF 3 ?_
  refine pF 4 ?_
  refine tF 5 SS0.out ?_
  refine pF 6 ?_
  refine tF 7 SS0.out ?_
  refine pF 8 ?_
  refine uNe 9 (fun K hK => ?_)
  go_simp
  refine (a2 _).mono ?_
  rintro e w' ⟨rfl, rfl⟩
  refine hK.out _ _ (fun _ h => h) ?_
  clear hK K
  try simp only [Act.put, zQ1, zQ2, zQ3]
  refine pF 10 ?_
  refine pF 11 ?_
  refine tF 12 SS0.out ?_
  refine uNe 13 (fun K hK => ?_)
  go_simp
  refine (cW Y0).mono ?_
  rintro e Y1 ⟨rfl, hb⟩
  have V1 : Hid (Below w.heap.size w Y1) := V0.out.trans (hb.mono V0.out.size)
  have KY1 := Hid.mk (KY0.out.on hb KY0.out.lt)
  have SS1 := Hid.mk (cellsC13 KY1.out)
  clear hb
  refine hK.out _ _ (fun _ _ => SS1.out) ?_
  clear hK K
  try simp only [Act.put, zQ1, zQ2, zQ3]
  refine uNe 14 (fun K hK => ?_)
  go_simp
  refine (cO Y1 (HLg.out.on (V1.out.mono HBB.out)) (Nat.le_trans HBB.out V1.out.size)).mono ?_
  rintro e Y2 ⟨rfl, hb⟩
  have V2 : Hid (Below w.heap.size w Y2) := V1.out.trans (hb.mono V1.out.size)
  have KY2 := Hid.mk (KY1.out.on hb KY1.out.lt)
  have SS2 := Hid.mk (cellsC13 KY2.out)
  clear hb
  refine hK.out _ _ (fun _ _ => SS2.out) ?_
  clear hK K
  try simp only [Act.put, zQ1, zQ2, zQ3]
  refine pF 15 ?_
  refine pF 16 ?_
  refine pF 17 ?_
  refine tF 18 SS2.out ?_
  refine pF 19 ?_
  refine tF 20 SS2.out ?_
  refine pF 21 ?_
  refine pF 22 ?_
  refine pF 23 ?_
  refine pF 24 ?_
  refine tF 25 SS2.out ?_
  refine pF 26 ?_
  refine tF 27 SS2.out ?_
  refine tF 28 SS2.out ?_
  refine uNe 29 (fun K hK => ?_)
  go_simp
  refine (cL Y2).mono ?_
  rintro e Y3 ⟨rfl, hb⟩
  have V3 : Hid (Below w.heap.size w Y3) := V2.out.trans (hb.mono V2.out.size)
  have KY3 := Hid.mk (KY2.out.on hb KY2.out.lt)
  have SS3 := Hid.mk (cellsC13 KY3.out)
  clear hb
  refine hK.out _ _ (fun _ _ => SS3.out) ?_
  clear hK K
  try simp only [Act.put, zQ1, zQ2, zQ3]
  refine uNe 30 (fun K hK => ?_)
  go_simp
  refine (a4 _).mono ?_
  rintro e w' ⟨rfl, rfl⟩
  refine hK.out _ _ (fun _ h => h) ?_
  clear hK K
  try simp only [Act.put, zQ1, zQ2, zQ3]
  refine pF 31 ?_
  refine pF 32 ?_
  refine sF 33 ?_
  refine sF 34 ?_
  refine pF 35 ?_
  refine pF 36 ?_
  refine until_done (by kernel_rfl) ?_ _
  go_wp2_with fail
  go_ret
  exact ⟨by rw [HE.out]; rfl, V3.out⟩
 obtain ⟨m0, m1⟩ := inIt_in _ _ _ h5
 have HE : Hid (corOk ⟨ci, cp, ct, cv, cr, cd, cb, cbt, lg, cc, ys, ns, ms⟩ = roleB ⟨ci, cp, ct, cv, cr, cd, cb, cbt, lg, cc, ys, ns, ms⟩) := HYe.out ⟨⟨p0, p1⟩, ⟨i0, i1⟩, h3, h4, ⟨m0, by rw [HCl.out]; exact m1⟩⟩
 clear h1 h2 h3 h4 h5
 go_enter Try.func52, Try.ntmps52
 go_wp2_with fail
 rw [← hX0]
 clear hX0
 refine wp_region_until (fun w' => w'.cell? ⟨w.heap.size, 0, none⟩ = some (.int .i64 ci) ∧ w'.cell? ⟨w.heap.size, 1, none⟩ = some (.int .i64 cp) ∧ w'.cell? ⟨w.heap.size, 2, none⟩ = some (.int .i64 ct) ∧ w'.cell? ⟨w.heap.size, 3, none⟩ = some (.int .i64 cv) ∧ w'.cell? ⟨w.heap.size, 4, none⟩ = some (.int .i64 cr) ∧ w'.cell? ⟨w.heap.size, 5, none⟩ = some (.int .i64 cd) ∧ w'.cell? ⟨w.heap.size, 6, none⟩ = some (.int .i64 cb) ∧ w'.cell? ⟨w.heap.size, 7, none⟩ = some (.int .i64 cbt) ∧ w'.cell? ⟨w.heap.size, 8, none⟩ = some (.slice A0 n0 c0) ∧ w'.cell? ⟨w.heap.size, 9, none⟩ = some (.int .i64 cc) ∧ w'.cell? ⟨w.heap.size, 10, none⟩ = some (.slice A1 n1 c1) ∧ w'.cell? ⟨w.heap.size, 11, none⟩ = some (.slice A2 n2 c2) ∧ w'.cell? ⟨w.heap.size, 12, none⟩ = some (.slice A3 n3 c3)) (fun _ => false) 37 (by rfl) (by kernel_rfl) ?_
 have V0 : Hid (Below w.heap.size w X0.drew) := B0.out.trans ((Below.refl _ _).drew.mono B0.out.size)
 have KY0 := Hid.mk (K0.out.on ((Below.refl _ X0).drew) K0.out.lt)
 generalize X0.drew = Y0 at *
 have SS0 := Hid.mk (cellsC13 KY0.out)
 refine pF 0 ?_
 refine tF 1 SS0.out ?_
 refine uNe 2 (fun K hK => ?_)
 go_simp
 refine (a1 _).mono ?_
 rintro e w' ⟨rfl, rfl⟩
 refine hK.out _ _ (fun _ h => h) ?_
 clear hK K
 try simp only [Act.put, zQ1, zQ2, zQ3]
 refine pF 3 ?_
 refine pF 4 ?_
 refine tF 5 SS0.out ?_
 refine pF 6 ?_
 refine tF 7 SS0.out ?_
 refine pF 8 ?_
 refine uNe 9 (fun K hK => ?_)
 go_simp
 refine (a2 _).mono ?_
 rintro e w' ⟨rfl, rfl⟩
 refine hK.out _ _ (fun _ h => h) ?_
 clear hK K
 try simp only [Act.put, zQ1, zQ2, zQ3]
 refine pF 10 ?_
 refine pF 11 ?_
 refine tF 12 SS0.out ?_
 refine uNe 13 (fun K hK => ?_)
 go_simp
 refine (cW Y0).mono ?_
 rintro e Y1 ⟨rfl, hb⟩
 have V1 : Hid (Below w.heap.size w Y1) := V0.out.trans (hb.mono V0.out.size)
 have KY1 := Hid.mk (KY0.out.on hb KY0.out.lt)
 have SS1 := Hid.mk (cellsC13 KY1.out)
 clear hb
 refine hK.out _ _ (fun _ _ => SS1.out) ?_
 clear hK K
 try simp only [Act.put, zQ1, zQ2, zQ3]
 refine uNe 14 (fun K hK => ?_)
 go_simp
 refine (cO Y1 (HLg.out.on (V1.out.mono HBB.out)) (Nat.le_trans HBB.out V1.out.size)).mono ?_
 rintro e Y2 ⟨rfl, hb⟩
 have V2 : Hid (Below w.heap.size w Y2) := V1.out.trans (hb.mono V1.out.size)
 have KY2 := Hid.mk (KY1.out.on hb KY1.out.lt)
 have SS2 := Hid.mk (cellsC13 KY2.out)
 clear hb
 refine hK.out _ _ (fun _ _ => SS2.out) ?_
 clear hK K
 try simp only [Act.put, zQ1, zQ2, zQ3]
 refine pF 15 ?_
 refine pF 16 ?_
 refine pF 17 ?_
 refine tF 18 SS2.out ?_
 refine pF 19 ?_
 refine tF 20 SS2.out ?_
 refine pF 21 ?_
 refine pF 22 ?_
 refine pF 23 ?_
 refine pF 24 ?_
 refine tF 25 SS2.out ?_
 refine pF 26 ?_
 refine tF 27 SS2.out ?_
 refine tF 28 SS2.out ?_
 refine uNe 29 (fun K hK => ?_)
 go_simp
 refine (cL Y2).mono ?_
 rintro e Y3 ⟨rfl, hb⟩
 have V3 : Hid (Below w.heap.size w Y3) := V2.out.trans (hb.mono V2.out.size)
 have KY3 := Hid.mk (KY2.out.on hb KY2.out.lt)
 have SS3 := Hid.mk (cellsC13 KY3.out)
 clear hb
 refine hK.out _ _ (fun _ _ => SS3.out) ?_
 clear hK K
 try simp only [Act.put, zQ1, zQ2, zQ3]
 refine uNe 30 (fun K hK => ?_)
 go_simp
 refine (a4 _).mono ?_
 rintro e w' ⟨rfl, rfl⟩
 refine hK.out _ _ (fun _ h => h) ?_
 clear hK K
 try simp only [Act.put, zQ1, zQ2, zQ3]
 refine pF 31 ?_
 refine pF 32 ?_
 refine tF 33 SS3.out ?_
 refine uNe 34 (fun K hK => ?_)
 go_simp
 refine (cR Y3 (HYv.out.1.on (V3.out.mono HBB.out)) (HYv.out.2.1.on (V3.out.mono HBB.out)) (HYv.out.2.2.on (V3.out.mono HBB.out)) (Nat.le_trans HBB.out V3.out.size)).mono ?_
 rintro e Y4 ⟨rfl, hb⟩
 have V4 : Hid (Below w.heap.size w Y4) := V3.out.trans (hb.mono V3.out.size)
 have KY4 := Hid.mk (KY3.out.on hb KY3.out.lt)
 have SS4 := Hid.mk (cellsC13 KY4.out)
 clear hb
 refine hK.out _ _ (fun _ _ => SS4.out) ?_
 clear hK K
 try simp only [Act.put, zQ1, zQ2, zQ3]
 refine pF 35 ?_
 refine pF 36 ?_
 refine until_done (by kernel_rfl) ?_ _
 go_wp2_with fail
 go_ret
 exact ⟨by rw [HE.out]; rfl, V4.out⟩
end Go.Proofs.Ytlhoonohpfpkbaa
namespace Go.Proofs.Ytlhoonohpfpkbaa
open Go.ChangeShapes Go.WideShapes Go.ChangeAt Go.RowKit Go.PlainAid
set_option linter.unusedVariables false
theorem otherC13 {w : World} {k g : Nat} {cs : Array Value} {t : TypeId} (h : Blk w k cs t) (hne : k ≠ g) (x0 x1 x2 x3 x4 x5 x6 x7 x8 x9 x10 x11 x12 : Value) : Blk (((((((((((((w.setCell ⟨g, 0, none⟩ x0).setCell ⟨g, 1, none⟩ x1).setCell ⟨g, 2, none⟩ x2).setCell ⟨g, 3, none⟩ x3).setCell ⟨g, 4, none⟩ x4).setCell ⟨g, 5, none⟩ x5).setCell ⟨g, 6, none⟩ x6).setCell ⟨g, 7, none⟩ x7).setCell ⟨g, 8, none⟩ x8).setCell ⟨g, 9, none⟩ x9).setCell ⟨g, 10, none⟩ x10).setCell ⟨g, 11, none⟩ x11).setCell ⟨g, 12, none⟩ x12) k cs t := (((((((((((((h.other hne 0 x0).other hne 1 x1).other hne 2 x2).other hne 3 x3).other hne 4 x4).other hne 5 x5).other hne 6 x6).other hne 7 x7).other hne 8 x8).other hne 9 x9).other hne 10 x10).other hne 11 x11).other hne 12 x12)
theorem rowsM13 {w : World} {bs g : Nat} {u : Value} {L : List (Mg × Value)} (h : MsO w bs u L) (hl : g < bs) (x0 x1 x2 x3 x4 x5 x6 x7 x8 x9 x10 x11 x12 : Value) : MsO (((((((((((((w.setCell ⟨g, 0, none⟩ x0).setCell ⟨g, 1, none⟩ x1).setCell ⟨g, 2, none⟩ x2).setCell ⟨g, 3, none⟩ x3).setCell ⟨g, 4, none⟩ x4).setCell ⟨g, 5, none⟩ x5).setCell ⟨g, 6, none⟩ x6).setCell ⟨g, 7, none⟩ x7).setCell ⟨g, 8, none⟩ x8).setCell ⟨g, 9, none⟩ x9).setCell ⟨g, 10, none⟩ x10).setCell ⟨g, 11, none⟩ x11).setCell ⟨g, 12, none⟩ x12) bs u L := (((((((((((((h.low hl).low hl).low hl).low hl).low hl).low hl).low hl).low hl).low hl).low hl).low hl).low hl).low hl)
theorem BelowX.setCell {g0 B : Nat} {w w' : World} (h : BelowX g0 B w w') {g j : Nat} (hg : B ≤ g) (v : Value) : BelowX g0 B w (w'.setCell ⟨g, j, none⟩ v) := h.trans (BelowX.of ((Below.refl B w').setCell hg v))
theorem belowX13 {g0 B g : Nat} {w w' : World} (h : BelowX g0 B w w') (hg : B ≤ g) (x0 x1 x2 x3 x4 x5 x6 x7 x8 x9 x10 x11 x12 : Value) : BelowX g0 B w (((((((((((((w'.setCell ⟨g, 0, none⟩ x0).setCell ⟨g, 1, none⟩ x1).setCell ⟨g, 2, none⟩ x2).setCell ⟨g, 3, none⟩ x3).setCell ⟨g, 4, none⟩ x4).setCell ⟨g, 5, none⟩ x5).setCell ⟨g, 6, none⟩ x6).setCell ⟨g, 7, none⟩ x7).setCell ⟨g, 8, none⟩ x8).setCell ⟨g, 9, none⟩ x9).setCell ⟨g, 10, none⟩ x10).setCell ⟨g, 11, none⟩ x11).setCell ⟨g, 12, none⟩ x12) := (((((((((((((h.setCell hg _).setCell hg _).setCell hg _).setCell hg _).setCell hg _).setCell hg _).setCell hg _).setCell hg _).setCell hg _).setCell hg _).setCell hg _).setCell hg _).setCell hg _)
theorem heapX13 {k g : Nat} (hk : k ≠ g) (w : World) (x0 x1 x2 x3 x4 x5 x6 x7 x8 x9 x10 x11 x12 : Value) : (((((((((((((w.setCell ⟨g, 0, none⟩ x0).setCell ⟨g, 1, none⟩ x1).setCell ⟨g, 2, none⟩ x2).setCell ⟨g, 3, none⟩ x3).setCell ⟨g, 4, none⟩ x4).setCell ⟨g, 5, none⟩ x5).setCell ⟨g, 6, none⟩ x6).setCell ⟨g, 7, none⟩ x7).setCell ⟨g, 8, none⟩ x8).setCell ⟨g, 9, none⟩ x9).setCell ⟨g, 10, none⟩ x10).setCell ⟨g, 11, none⟩ x11).setCell ⟨g, 12, none⟩ x12).heap[k]? = w.heap[k]? := by
 rw [Below.heap_setCell _ _ _ _ hk, Below.heap_setCell _ _ _ _ hk, Below.heap_setCell _ _ _ _ hk, Below.heap_setCell _ _ _ _ hk, Below.heap_setCell _ _ _ _ hk, Below.heap_setCell _ _ _ _ hk, Below.heap_setCell _ _ _ _ hk, Below.heap_setCell _ _ _ _ hk, Below.heap_setCell _ _ _ _ hk, Below.heap_setCell _ _ _ _ hk, Below.heap_setCell _ _ _ _ hk, Below.heap_setCell _ _ _ _ hk, Below.heap_setCell _ _ _ _ hk]
end Go.Proofs.Ytlhoonohpfpkbaa
namespace Go.Proofs.Ytlhoonohpfpkbaa
open Go.ChangeShapes Go.WideShapes Go.ChangeAt Go.RowKit Go.PlainAid
set_option linter.unusedVariables false
def sendM (x : Cor) (t : Int) : Mg :=
 if x.nxt.getD t.toNat 0 ≤ x.base then ⟨5, x.id, t, x.term, x.base, x.bterm, 0, false, [], ⟨#[]⟩⟩
 else ⟨3, x.id, t, x.term, x.nxt.getD t.toNat 0 - 1, termAt x (x.nxt.getD t.toNat 0 - 1), x.commit, false, (x.log.drop (x.nxt.getD t.toNat 0 - 1 - x.base).toNat).take 4, ⟨#[]⟩⟩
theorem cells14 {w : World} {g : Nat} {a0 a1 a2 a3 a4 a5 a6 a7 a8 a9 a10 a11 a12 a13 : Value} {t : TypeId} (h : Blk w g #[a0, a1, a2, a3, a4, a5, a6, a7, a8, a9, a10, a11, a12, a13] t) : w.cell? ⟨g, 0, none⟩ = some a0 ∧ w.cell? ⟨g, 1, none⟩ = some a1 ∧ w.cell? ⟨g, 2, none⟩ = some a2 ∧ w.cell? ⟨g, 3, none⟩ = some a3 ∧ w.cell? ⟨g, 4, none⟩ = some a4 ∧ w.cell? ⟨g, 5, none⟩ = some a5 ∧ w.cell? ⟨g, 6, none⟩ = some a6 ∧ w.cell? ⟨g, 7, none⟩ = some a7 ∧ w.cell? ⟨g, 8, none⟩ = some a8 ∧ w.cell? ⟨g, 9, none⟩ = some a9 ∧ w.cell? ⟨g, 10, none⟩ = some a10 ∧ w.cell? ⟨g, 11, none⟩ = some a11 ∧ w.cell? ⟨g, 12, none⟩ = some a12 ∧ w.cell? ⟨g, 13, none⟩ = some a13 := ⟨h.cell 0 _ rfl, h.cell 1 _ rfl, h.cell 2 _ rfl, h.cell 3 _ rfl, h.cell 4 _ rfl, h.cell 5 _ rfl, h.cell 6 _ rfl, h.cell 7 _ rfl, h.cell 8 _ rfl, h.cell 9 _ rfl, h.cell 10 _ rfl, h.cell 11 _ rfl, h.cell 12 _ rfl, h.cell 13 _ rfl⟩
theorem cut_to_run (A : Option Addr) (n c k : Nat) (hk : k ≤ c) (wx : World) : (Instr.sliceAt 27 (.slice A n c) none (some (.int .i64 (k : Int))) none).run Try.prog wx = .ok (.slice A k c) wx := by
 have hu : Try.prog.underlying 27 = some (.slice (Try.prog.elem 27)) := by rw [elem_entC]; exact Try.underlying27
 cases hq : Try.prog.info? 71 with
 | none => have hz := size_entC; rw [hq] at hz; simp at hz
 | some i =>
  rw [run_sliceAt_slice wx 27 _ _ _ _ hu, run_slice_h wx 27 A n c hu .i64 (k : Int) (by omega) (by omega), elem_entC]
  have e : A.map (·.add (0 * i.size)) = A := by
   cases A <;> simp [Addr.add]
  simp [sizeOf, typeInfo, hq, sliced]
  intro _
  simpa using e
theorem Owns.newer {w w' : World} {b : Nat} {e e' : TypeId} {sz sz' : Nat} {u v : Value} {r r' : List (List Value)} (h : Owns w b e sz u r) (h' : Owns w' w.heap.size e' sz' v r') : Apart u v := fun g h1 h2 => by
 have := (h.lt g h1).2
 have := (h'.lt g h2).1
 omega
set_option maxRecDepth 20000 in
set_option maxHeartbeats 8000000 in
theorem sendE0 (ci cp ct cv cr cd cb cbt : Int) (lg : List Ent) (cc : Int) (ys ns ms : List Int) (M : List Mg) (t : Nat) (w : World) (base p : Nat) (hsp : Spk w base p ⟨ci, cp, ct, cv, cr, cd, cb, cbt, lg, cc, ys, ns, ms⟩ M) (hs : ShortC ⟨ci, cp, ct, cv, cr, cd, cb, cbt, lg, cc, ys, ns, ms⟩) (h0 : 0 ≤ cb) (h1 : cb ≤ 100000) (hln : lg.length ≤ 60) (ht : t < ns.length) (hnx0 : 1 ≤ ns.getD t 0) (hnx1 : ns.getD t 0 ≤ cb + (lg.length : Int) + 1) (hle0 : ns.getD t 0 ≤ cb) (hM : M.length ≤ 500) (hbs : base ≤ w.heap.size) :
  Calls Try.prog 74 #[.pointer (some ⟨p, 0, none⟩), .int .i64 (t : Int)] w fun e w' => e = .returned (.tuple #[]) ∧ Spk w' base p ⟨ci, cp, ct, cv, cr, cd, cb, cbt, lg, cc, ys, ns, ms⟩ (M ++ [sendM ⟨ci, cp, ct, cv, cr, cd, cb, cbt, lg, cc, ys, ns, ms⟩ (t : Int)]) ∧ Below base w w' ∧ KeepI w w' := by
 have HS : Hid (ShortC ⟨ci, cp, ct, cv, cr, cd, cb, cbt, lg, cc, ys, ns, ms⟩) := hs
 have HBS : Hid (base ≤ w.heap.size) := hbs
 obtain ⟨ul, uy, un, um, us, L, hso, hLM⟩ := hsp
 obtain ⟨A0, An0, Ac0, A1, An1, Ac1, A2, An2, Ac2, A3, An3, Ac3, A4, An4, Ac4, rfl, rfl, rfl, rfl, rfl⟩ := hso.shape
 have SO := Hid.mk hso
 have KP : Hid (Blk w p #[.int .i64 ci, .int .i64 cp, .int .i64 ct, .int .i64 cv, .int .i64 cr, .int .i64 cd, .int .i64 cb, .int .i64 cbt, .slice A0 An0 Ac0, .int .i64 cc, .slice A1 An1 Ac1, .slice A2 An2 Ac2, .slice A3 An3 Ac3, .slice A4 An4 Ac4] 74) := hso.b
 have HLM : Hid (L.map Prod.fst = M) := hLM
 have hLl : L.length ≤ 500 := by rw [← hLM, List.length_map] at hM; exact hM
 have HLl : Hid (L.length ≤ 500) := hLl
 have hNn : An2 = ns.length := hso.r.n.len
 obtain ⟨g2, hg2e, _, hg2w⟩ := hso.r.n.block (by simp only; omega)
 subst hg2e
 have d0 := hso.r.n.cell t (by simp only; omega)
 simp only at d0
 have HSm : Hid (sendM ⟨ci, cp, ct, cv, cr, cd, cb, cbt, lg, cc, ys, ns, ms⟩ (t : Int) = if ns.getD t 0 ≤ cb then ⟨5, ci, (t : Int), ct, cb, cbt, 0, false, [], ⟨#[]⟩⟩ else ⟨3, ci, (t : Int), ct, ns.getD t 0 - 1, termAt ⟨ci, cp, ct, cv, cr, cd, cb, cbt, lg, cc, ys, ns, ms⟩ (ns.getD t 0 - 1), cc, false, (lg.drop (ns.getD t 0 - 1 - cb).toNat).take 4, ⟨#[]⟩⟩) := by unfold Hid sendM; simp only [Int.toNat_natCast]
 have HFin : Hid (∀ wx m ue, (∃ us, SpkO wx base p ⟨ci, cp, ct, cv, cr, cd, cb, cbt, lg, cc, ys, ns, ms⟩ (.slice A0 An0 Ac0) (.slice A1 An1 Ac1) (.slice (some ⟨g2, 0, none⟩) An2 Ac2) (.slice A3 An3 Ac3) (us) (L ++ [(m, ue)])) → Spk wx base p ⟨ci, cp, ct, cv, cr, cd, cb, cbt, lg, cc, ys, ns, ms⟩ (M ++ [m])) := fun wx m ue h => by
  obtain ⟨us, h⟩ := h
  exact ⟨_, _, _, _, us, _, h, by rw [List.map_append, HLM.out]; rfl⟩
 have q1 : (t : Int) < (An2 : Int) := by omega
 clear hso hLM hM hs hbs hNn
 generalize hnx : ns.getD t 0 = nx at *
 clear hnx
 have k11 := KP.out.cell 11 _ rfl
 have k6 := KP.out.cell 6 _ rfl
 have hle := hle0
 clear hle0
 have z1 : decide (nx ≤ cb) = true := decide_eq_true hle
 have HE : Hid (sendM ⟨ci, cp, ct, cv, cr, cd, cb, cbt, lg, cc, ys, ns, ms⟩ (t : Int) = ⟨5, ci, (t : Int), ct, cb, cbt, 0, false, [], ⟨#[]⟩⟩) := by unfold Hid; rw [HSm.out, if_pos hle]
 have cS := fun wx (h : SpkO wx base p ⟨ci, cp, ct, cv, cr, cd, cb, cbt, lg, cc, ys, ns, ms⟩ (.slice A0 An0 Ac0) (.slice A1 An1 Ac1) (.slice (some ⟨g2, 0, none⟩) An2 Ac2) (.slice A3 An3 Ac3) (.slice A4 An4 Ac4) L) (hb : base ≤ wx.heap.size) => sayI ci cp ct cv cr cd cb cbt lg cc ys ns ms A0 An0 Ac0 A1 An1 Ac1 (some ⟨g2, 0, none⟩) An2 Ac2 A3 An3 Ac3 A4 An4 Ac4 L 5 0 (t : Int) 0 cb cbt 0 false [] ⟨#[]⟩ (.slice none 0 0) wx base p h (Owns.nil _ _ _ _) (fun q hq g _ e => by cases e) (fun g e => by cases e) (by omega) hb
 clear hle HSm
 go_enter Try.func74, Try.ntmps74
 go_wp2_with fail
 clear k11 k6 d0
 refine wp_region_until (fun w' => w'.cell? ⟨p, 6, none⟩ = some (.int .i64 cb) ∧ w'.cell? ⟨p, 7, none⟩ = some (.int .i64 cbt)) (fun i => i == 13) 14 (by rfl) (by kernel_rfl) ?_
 have V0 : Hid (Below w.heap.size w w.drew) := (Below.refl _ _).drew
 generalize w.drew = Y0 at *
 have SS0 := Hid.mk (show (fun w' => w'.cell? ⟨p, 6, none⟩ = some (.int .i64 cb) ∧ w'.cell? ⟨p, 7, none⟩ = some (.int .i64 cbt)) Y0 from ⟨(KP.out.on V0.out KP.out.lt).cell 6 _ rfl, (KP.out.on V0.out KP.out.lt).cell 7 _ rfl⟩)
 refine tF 0 SS0.out ?_
 refine tF 1 SS0.out ?_
 refine tF 2 SS0.out ?_
 refine tF 3 SS0.out ?_
 refine tF 4 SS0.out ?_
 refine tF 5 SS0.out ?_
 refine tF 6 SS0.out ?_
 refine tF 7 SS0.out ?_
 refine tF 8 SS0.out ?_
 refine tF 9 SS0.out ?_
 refine tF 10 SS0.out ?_
 refine tF 11 SS0.out ?_
 refine pF 12 ?_
 refine uNe 13 (fun K hK => ?_)
 go_simp
 refine (cS Y0 (SO.out.on V0.out) (Nat.le_trans HBS.out V0.out.size)).mono ?_
 rintro e Y1 ⟨rfl, hS, hb, hki⟩
 have FK := Hid.mk ((KeepI.of V0.out).trans hki)
 clear hki
 have FS := Hid.mk (HFin.out Y1 _ _ hS)
 have FB : Hid (Below base w Y1) := (V0.out.mono HBS.out).trans hb
 clear hS hb cS
 refine hK.out _ _ (fun h => by cases h) ?_
 clear hK K
 try simp only [Act.put, zQ1, zQ2, zQ3]
 refine until_done (by kernel_rfl) ?_ _
 try go_wp2_with fail
 exact bodyPost_ret (v := .tuple #[]) (by simp [results, go_sem]) rfl ⟨rfl, by rw [HE.out]; exact FS.out, FB.out, FK.out⟩
set_option maxRecDepth 20000 in
set_option maxHeartbeats 8000000 in
theorem sendE1 (ci cp ct cv cr cd cb cbt : Int) (lg : List Ent) (cc : Int) (ys ns ms : List Int) (M : List Mg) (t : Nat) (w : World) (base p : Nat) (hsp : Spk w base p ⟨ci, cp, ct, cv, cr, cd, cb, cbt, lg, cc, ys, ns, ms⟩ M) (hs : ShortC ⟨ci, cp, ct, cv, cr, cd, cb, cbt, lg, cc, ys, ns, ms⟩) (h0 : 0 ≤ cb) (h1 : cb ≤ 100000) (hln : lg.length ≤ 60) (ht : t < ns.length) (hnx0 : 1 ≤ ns.getD t 0) (hnx1 : ns.getD t 0 ≤ cb + (lg.length : Int) + 1) (hle0 : ¬ ns.getD t 0 ≤ cb) (hM : M.length ≤ 500) (hbs : base ≤ w.heap.size) :
  Calls Try.prog 74 #[.pointer (some ⟨p, 0, none⟩), .int .i64 (t : Int)] w fun e w' => e = .returned (.tuple #[]) ∧ Spk w' base p ⟨ci, cp, ct, cv, cr, cd, cb, cbt, lg, cc, ys, ns, ms⟩ (M ++ [sendM ⟨ci, cp, ct, cv, cr, cd, cb, cbt, lg, cc, ys, ns, ms⟩ (t : Int)]) ∧ Below base w w' ∧ KeepI w w' := by
 have HS : Hid (ShortC ⟨ci, cp, ct, cv, cr, cd, cb, cbt, lg, cc, ys, ns, ms⟩) := hs
 have HBS : Hid (base ≤ w.heap.size) := hbs
 obtain ⟨ul, uy, un, um, us, L, hso, hLM⟩ := hsp
 obtain ⟨A0, An0, Ac0, A1, An1, Ac1, A2, An2, Ac2, A3, An3, Ac3, A4, An4, Ac4, rfl, rfl, rfl, rfl, rfl⟩ := hso.shape
 have SO := Hid.mk hso
 have KP : Hid (Blk w p #[.int .i64 ci, .int .i64 cp, .int .i64 ct, .int .i64 cv, .int .i64 cr, .int .i64 cd, .int .i64 cb, .int .i64 cbt, .slice A0 An0 Ac0, .int .i64 cc, .slice A1 An1 Ac1, .slice A2 An2 Ac2, .slice A3 An3 Ac3, .slice A4 An4 Ac4] 74) := hso.b
 have HLM : Hid (L.map Prod.fst = M) := hLM
 have hLl : L.length ≤ 500 := by rw [← hLM, List.length_map] at hM; exact hM
 have HLl : Hid (L.length ≤ 500) := hLl
 have hNn : An2 = ns.length := hso.r.n.len
 obtain ⟨g2, hg2e, _, hg2w⟩ := hso.r.n.block (by simp only; omega)
 subst hg2e
 have d0 := hso.r.n.cell t (by simp only; omega)
 simp only at d0
 have HSm : Hid (sendM ⟨ci, cp, ct, cv, cr, cd, cb, cbt, lg, cc, ys, ns, ms⟩ (t : Int) = if ns.getD t 0 ≤ cb then ⟨5, ci, (t : Int), ct, cb, cbt, 0, false, [], ⟨#[]⟩⟩ else ⟨3, ci, (t : Int), ct, ns.getD t 0 - 1, termAt ⟨ci, cp, ct, cv, cr, cd, cb, cbt, lg, cc, ys, ns, ms⟩ (ns.getD t 0 - 1), cc, false, (lg.drop (ns.getD t 0 - 1 - cb).toNat).take 4, ⟨#[]⟩⟩) := by unfold Hid sendM; simp only [Int.toNat_natCast]
 have HFin : Hid (∀ wx m ue, (∃ us, SpkO wx base p ⟨ci, cp, ct, cv, cr, cd, cb, cbt, lg, cc, ys, ns, ms⟩ (.slice A0 An0 Ac0) (.slice A1 An1 Ac1) (.slice (some ⟨g2, 0, none⟩) An2 Ac2) (.slice A3 An3 Ac3) (us) (L ++ [(m, ue)])) → Spk wx base p ⟨ci, cp, ct, cv, cr, cd, cb, cbt, lg, cc, ys, ns, ms⟩ (M ++ [m])) := fun wx m ue h => by
  obtain ⟨us, h⟩ := h
  exact ⟨_, _, _, _, us, _, h, by rw [List.map_append, HLM.out]; rfl⟩
 have q1 : (t : Int) < (An2 : Int) := by omega
 clear hso hLM hM hs hbs hNn
 generalize hnx : ns.getD t 0 = nx at *
 clear hnx
 have k11 := KP.out.cell 11 _ rfl
 have k6 := KP.out.cell 6 _ rfl
 have hle := hle0
 clear hle0
 have z1 : decide (nx ≤ cb) = false := decide_eq_false hle
 obtain ⟨k, hk⟩ : ∃ k : Nat, nx - 1 - cb = (k : Int) := ⟨(nx - 1 - cb).toNat, by omega⟩
 have hkn : k ≤ lg.length := by omega
 have w1 : IntKind.i64.wrap (nx - 1) = nx - 1 := by rw [IntKind.wrap_i64]; omega
 obtain ⟨A', m', c', hrun, hcut, _⟩ := SO.out.r.l.cut k (by rw [entR_length]; exact hkn)
 have hcutE : OwnF w base (.slice A' m' c') (entR (lg.drop k)) := by unfold entR; rw [List.map_drop]; exact hcut
 have hml : m' = (lg.drop k).length := by obtain ⟨A, c, e⟩ := hcutE.shape; rw [entR_length] at e; cases e; rfl
 have hroom := hcutE.lies.room
 obtain ⟨m4, hm4⟩ : ∃ m4, m4 = min m' 4 := ⟨_, rfl⟩
 have HLi : Hid (Lies w w.heap.size 2 (.slice A' m4 c') (entR ((lg.drop k).take 4))) := by
  have h := hcutE.lies.first m4 (by rw [entR_length, ← hml]; omega)
  unfold Hid
  have e : (lg.drop k).take 4 = (lg.drop k).take m4 := by
   rw [hm4, hml]
   rcases Nat.le_total (lg.drop k).length 4 with h | h
   ·rw [Nat.min_eq_left h, List.take_of_length_le h, List.take_length]
   ·rw [Nat.min_eq_right h]
  rw [e]
  unfold entR at h ⊢
  rw [List.map_take]
  exact h
 have hr4 := fun wx => cut_to_run A' m' c' m4 (by omega) wx
 have HE : Hid (sendM ⟨ci, cp, ct, cv, cr, cd, cb, cbt, lg, cc, ys, ns, ms⟩ (t : Int) = ⟨3, ci, (t : Int), ct, nx - 1, termAt ⟨ci, cp, ct, cv, cr, cd, cb, cbt, lg, cc, ys, ns, ms⟩ (nx - 1), cc, false, (lg.drop k).take 4, ⟨#[]⟩⟩) := by unfold Hid; rw [HSm.out, if_neg hle, show (nx - 1 - cb).toNat = k by omega]
 have cB := fun wx => behindI ci cp ct cv cr cd cb cbt lg cc A0 An0 Ac0 (.slice A1 An1 Ac1) (.slice (some ⟨g2, 0, none⟩) An2 Ac2) (.slice A3 An3 Ac3) (nx - 1) k A' m' c' wx hk (by omega) hrun
 have cC := fun wx h hb => copyEntsI ((lg.drop k).take 4) (.slice A' m4 c') wx w.heap.size h (by rw [List.length_take]; omega) (fun y hy => HS.out.d y (List.mem_of_mem_drop (List.mem_of_mem_take hy))) hb
 have HLt : Hid (Lies w w.heap.size 2 (.slice A0 An0 Ac0) (entR lg)) := SO.out.r.l.lies
 have cT := fun wx h hb => termI ci cp ct cv cr cd cb cbt lg cc ys ns ms A0 An0 Ac0 (.slice A1 An1 Ac1) (.slice (some ⟨g2, 0, none⟩) An2 Ac2) (.slice A3 An3 Ac3) (nx - 1) wx w.heap.size h (by omega) h0 (by omega) (by omega) (by omega) hb
 have cS := fun wx ue te (h : SpkO wx base p ⟨ci, cp, ct, cv, cr, cd, cb, cbt, lg, cc, ys, ns, ms⟩ (.slice A0 An0 Ac0) (.slice A1 An1 Ac1) (.slice (some ⟨g2, 0, none⟩) An2 Ac2) (.slice A3 An3 Ac3) (.slice A4 An4 Ac4) L) hu ha hl (hb : base ≤ wx.heap.size) => sayI ci cp ct cv cr cd cb cbt lg cc ys ns ms A0 An0 Ac0 A1 An1 Ac1 (some ⟨g2, 0, none⟩) An2 Ac2 A3 An3 Ac3 A4 An4 Ac4 L 3 0 (t : Int) 0 (nx - 1) te cc false ((lg.drop k).take 4) ⟨#[]⟩ ue wx base p h hu ha hl (by omega) hb
 have qm : m' ≤ 60 := by rw [hml, List.length_drop]; omega
 have HM4 : Hid (m4 = min m' 4) := hm4
 clear hle HSm hcut hcutE hml hroom hkn hk hrun
 generalize (lg.drop k).take 4 = es at *
 have emin : min (m' : Int) 4 = (m4 : Int) := by rw [hm4]; omega
 clear hm4
 have k13 := cells14 KP.out
 obtain ⟨kk0, kk1, kk2, kk3, kk4, kk5, kk6, kk7, kk8, kk9, kk10, kk11, kk12, kk13⟩ := k13
 go_enter Try.func74, Try.ntmps74
 go_wp2_with fail
 refine (cB w).mono ?_
 rintro e w2 ⟨rfl, hb2⟩
 have V2 := Hid.mk hb2
 clear hb2 cB kk0 kk1 kk2 kk3 kk4 kk5 kk6 kk7 kk8 kk9 kk10 kk11 kk12 kk13 k11 k6 d0
 have c3 := cC w2 (HLi.out.on V2.out) V2.out.size
 go_wp2_with fail
 refine c3.mono ?_
 rintro e w3 ⟨⟨ue, rfl, hO⟩, hb3⟩
 clear c3
 have V3 : Hid (Below w.heap.size w w3) := V2.out.trans (hb3.mono V2.out.size)
 have SO3 := Hid.mk (SO.out.on V3.out)
 have OU : Hid (Owns w3 w.heap.size 71 2 ue (entR es)) := hO.mono V2.out.size
 have HUa : Hid (∀ q ∈ L, Apart q.2 ue) := fun q hq => (SO.out.m.e q hq).newer (w' := w3) OU.out
 have HUl : Hid (∀ g, ue.ownBlock = some g → blkF (.slice A0 An0 Ac0) ≠ some g) := fun g h1 h2 => by
  have := (OU.out.lt g h1).1
  have := (SO.out.r.l.lt g h2).2
  omega
 obtain ⟨Ue, Um, Uc, rfl⟩ := hO.shape
 clear hO hb3
 have P3 : Hid (Blk w3 p #[.int .i64 ci, .int .i64 cp, .int .i64 ct, .int .i64 cv, .int .i64 cr, .int .i64 cd, .int .i64 cb, .int .i64 cbt, .slice A0 An0 Ac0, .int .i64 cc, .slice A1 An1 Ac1, .slice (some ⟨g2, 0, none⟩) An2 Ac2, .slice A3 An3 Ac3, .slice A4 An4 Ac4] 74) := SO3.out.b
 go_wp2_with fail
 refine wp_region_until (fun w' => w'.cell? ⟨p, 0, none⟩ = some (.int .i64 ci) ∧ w'.cell? ⟨p, 1, none⟩ = some (.int .i64 cp) ∧ w'.cell? ⟨p, 2, none⟩ = some (.int .i64 ct) ∧ w'.cell? ⟨p, 3, none⟩ = some (.int .i64 cv) ∧ w'.cell? ⟨p, 4, none⟩ = some (.int .i64 cr) ∧ w'.cell? ⟨p, 5, none⟩ = some (.int .i64 cd) ∧ w'.cell? ⟨p, 6, none⟩ = some (.int .i64 cb) ∧ w'.cell? ⟨p, 7, none⟩ = some (.int .i64 cbt) ∧ w'.cell? ⟨p, 8, none⟩ = some (.slice A0 An0 Ac0) ∧ w'.cell? ⟨p, 9, none⟩ = some (.int .i64 cc) ∧ w'.cell? ⟨p, 10, none⟩ = some (.slice A1 An1 Ac1) ∧ w'.cell? ⟨p, 11, none⟩ = some (.slice (some ⟨g2, 0, none⟩) An2 Ac2) ∧ w'.cell? ⟨p, 12, none⟩ = some (.slice A3 An3 Ac3) ∧ w'.cell? ⟨p, 13, none⟩ = some (.slice A4 An4 Ac4)) (fun i => i == 18) 19 (by rfl) (by kernel_rfl) ?_
 have V4 : Hid (Below w3.heap.size w3 w3.drew) := (Below.refl _ _).drew
 generalize w3.drew = Y0 at *
 have P4 := Hid.mk (P3.out.on V4.out P3.out.lt)
 have VY : Hid (Below w.heap.size w Y0) := V3.out.trans (V4.out.mono V3.out.size)
 have SS0 := Hid.mk (show (fun w' => w'.cell? ⟨p, 0, none⟩ = some (.int .i64 ci) ∧ w'.cell? ⟨p, 1, none⟩ = some (.int .i64 cp) ∧ w'.cell? ⟨p, 2, none⟩ = some (.int .i64 ct) ∧ w'.cell? ⟨p, 3, none⟩ = some (.int .i64 cv) ∧ w'.cell? ⟨p, 4, none⟩ = some (.int .i64 cr) ∧ w'.cell? ⟨p, 5, none⟩ = some (.int .i64 cd) ∧ w'.cell? ⟨p, 6, none⟩ = some (.int .i64 cb) ∧ w'.cell? ⟨p, 7, none⟩ = some (.int .i64 cbt) ∧ w'.cell? ⟨p, 8, none⟩ = some (.slice A0 An0 Ac0) ∧ w'.cell? ⟨p, 9, none⟩ = some (.int .i64 cc) ∧ w'.cell? ⟨p, 10, none⟩ = some (.slice A1 An1 Ac1) ∧ w'.cell? ⟨p, 11, none⟩ = some (.slice (some ⟨g2, 0, none⟩) An2 Ac2) ∧ w'.cell? ⟨p, 12, none⟩ = some (.slice A3 An3 Ac3) ∧ w'.cell? ⟨p, 13, none⟩ = some (.slice A4 An4 Ac4)) Y0 from ⟨P4.out.cell 0 _ rfl, P4.out.cell 1 _ rfl, P4.out.cell 2 _ rfl, P4.out.cell 3 _ rfl, P4.out.cell 4 _ rfl, P4.out.cell 5 _ rfl, P4.out.cell 6 _ rfl, P4.out.cell 7 _ rfl, P4.out.cell 8 _ rfl, P4.out.cell 9 _ rfl, P4.out.cell 10 _ rfl, P4.out.cell 11 _ rfl, P4.out.cell 12 _ rfl, P4.out.cell 13 _ rfl⟩)
 refine tF 0 SS0.out ?_
 refine tF 1 SS0.out ?_
 refine tF 2 SS0.out ?_
 refine tF 3 SS0.out ?_
 refine tF 4 SS0.out ?_
 refine tF 5 SS0.out ?_
 refine tF 6 SS0.out ?_
 refine tF 7 SS0.out ?_
 refine tF 8 SS0.out ?_
 refine tF 9 SS0.out ?_
 refine tF 11 SS0.out ?_
 refine tF 12 SS0.out ?_
 refine tF 13 SS0.out ?_
 refine tF 14 SS0.out ?_
 refine tF 15 SS0.out ?_
 refine tF 16 SS0.out ?_
 refine uNe 10 (fun K hK => ?_)
 go_simp
 refine (cT Y0 (HLt.out.on VY.out) VY.out.size).mono ?_
 rintro e Y1 ⟨rfl, hb⟩
 have V5 : Hid (Below w3.heap.size w3 Y1) := V4.out.trans (hb.mono V4.out.size)
 have P5 := Hid.mk (P3.out.on V5.out P3.out.lt)
 clear hb cT P4 SS0
 refine hK.out _ _ (fun _ _ => ⟨P5.out.cell 0 _ rfl, P5.out.cell 1 _ rfl, P5.out.cell 2 _ rfl, P5.out.cell 3 _ rfl, P5.out.cell 4 _ rfl, P5.out.cell 5 _ rfl, P5.out.cell 6 _ rfl, P5.out.cell 7 _ rfl, P5.out.cell 8 _ rfl, P5.out.cell 9 _ rfl, P5.out.cell 10 _ rfl, P5.out.cell 11 _ rfl, P5.out.cell 12 _ rfl, P5.out.cell 13 _ rfl⟩) ?_
 clear hK K
 try simp only [Act.put, zQ1, zQ2, zQ3]
 refine pF 17 ?_
 refine uNe 18 (fun K hK => ?_)
 go_simp
 refine (cS Y1 _ _ (SO3.out.on V5.out) ((OU.out.on V5.out).mono HBS.out) HUa.out HUl.out (Nat.le_trans HBS.out (V3.out.trans (V5.out.mono V3.out.size)).size)).mono ?_
 rintro e Y2 ⟨rfl, hS, hb, hki⟩
 have FK := Hid.mk ((KeepI.of (V3.out.trans (V5.out.mono V3.out.size))).trans hki)
 clear hki
 have FS := Hid.mk (HFin.out Y2 _ _ hS)
 have FB : Hid (Below base w Y2) := ((V3.out.trans (V5.out.mono V3.out.size)).mono HBS.out).trans hb
 clear hS hb cS
 refine hK.out _ _ (fun h => by cases h) ?_
 clear hK K
 try simp only [Act.put, zQ1, zQ2, zQ3]
 refine until_done (by kernel_rfl) ?_ _
 try go_wp2_with fail
 exact bodyPost_end (v := .tuple #[]) (by simp [results, go_sem]) rfl ⟨rfl, by rw [HE.out]; exact FS.out, FB.out, FK.out⟩
theorem sendEI (ci cp ct cv cr cd cb cbt : Int) (lg : List Ent) (cc : Int) (ys ns ms : List Int) (M : List Mg) (t : Nat) (w : World) (base p : Nat) (hsp : Spk w base p ⟨ci, cp, ct, cv, cr, cd, cb, cbt, lg, cc, ys, ns, ms⟩ M) (hs : ShortC ⟨ci, cp, ct, cv, cr, cd, cb, cbt, lg, cc, ys, ns, ms⟩) (h0 : 0 ≤ cb) (h1 : cb ≤ 100000) (hln : lg.length ≤ 60) (ht : t < ns.length) (hnx0 : 1 ≤ ns.getD t 0) (hnx1 : ns.getD t 0 ≤ cb + (lg.length : Int) + 1) (hM : M.length ≤ 500) (hbs : base ≤ w.heap.size) :
  Calls Try.prog 74 #[.pointer (some ⟨p, 0, none⟩), .int .i64 (t : Int)] w fun e w' => e = .returned (.tuple #[]) ∧ Spk w' base p ⟨ci, cp, ct, cv, cr, cd, cb, cbt, lg, cc, ys, ns, ms⟩ (M ++ [sendM ⟨ci, cp, ct, cv, cr, cd, cb, cbt, lg, cc, ys, ns, ms⟩ (t : Int)]) ∧ Below base w w' ∧ KeepI w w' := by
 by_cases h2 : ns.getD t 0 ≤ cb
 ·exact sendE0 ci cp ct cv cr cd cb cbt lg cc ys ns ms M t w base p hsp hs h0 h1 hln ht hnx0 hnx1 h2 hM hbs
 exact sendE1 ci cp ct cv cr cd cb cbt lg cc ys ns ms M t w base p hsp hs h0 h1 hln ht hnx0 hnx1 h2 hM hbs
end Go.Proofs.Ytlhoonohpfpkbaa
namespace Go.Proofs.Ytlhoonohpfpkbaa
open Go.ChangeShapes Go.WideShapes Go.ChangeAt Go.RowKit Go.PlainAid
set_option linter.unusedVariables false
def numR (l : List Int) : List (List Value) := l.map fun z => [.int .i64 z]
theorem numR_length (l : List Int) : (numR l).length = l.length := by simp [numR]
theorem numR_flat (l : List Int) : (numR l).flatten = numCells l := by
 induction l with
 | nil => rfl
 | cons x l ih =>
  simp only [numR, numCells, List.map_cons, List.flatten_cons, List.cons_append, List.nil_append] at ih ⊢
  rw [ih]
theorem owns_nums {w : World} {b : Nat} {v : Value} {l : List Int} (h : Owns w b 3 1 v (numR l)) : Nums w b v l := by
 have := h.2
 rw [numR_length, numR_flat] at this
 exact this
theorem nums_owns {w : World} {b : Nat} {v : Value} {l : List Int} (h : Nums w b v l) : Owns w b 3 1 v (numR l) := by
 refine ⟨fun r hr => ?_, ?_⟩
 ·obtain ⟨z, _, rfl⟩ := List.mem_map.1 hr
  rfl
 ·rw [numR_length, numR_flat]
  exact h
theorem num_one (l : List Int) : ∀ r ∈ numR l, ∀ y ∈ r, y.oneCell' = true := by
 intro r hr y hy
 obtain ⟨z, _, rfl⟩ := List.mem_map.1 hr
 simp only [List.mem_cons, List.not_mem_nil, or_false] at hy
 subst hy
 rfl
end Go.Proofs.Ytlhoonohpfpkbaa
namespace Go.Proofs.Ytlhoonohpfpkbaa
open Go.ChangeShapes Go.WideShapes Go.ChangeAt Go.RowKit Go.PlainAid
set_option linter.unusedVariables false
theorem Spk.low {w : World} {bs g j p : Nat} {v : Value} {x : Cor} {M : List Mg} (h : Spk w bs p x M) (hl : g < bs) : Spk (w.setCell ⟨g, j, none⟩ v) bs p x M := by
 obtain ⟨ul, uy, un, um, us, L, h, e⟩ := h
 exact ⟨ul, uy, un, um, us, L, ⟨h.b.other (by have := h.p; omega) j v, h.r.low hl, h.m.low hl, h.a, h.p⟩, e⟩
end Go.Proofs.Ytlhoonohpfpkbaa
namespace Go.Proofs.Ytlhoonohpfpkbaa
open Go.ChangeShapes Go.WideShapes Go.ChangeAt Go.RowKit Go.PlainAid
set_option linter.unusedVariables false
def toAll (x : Cor) : List Mg := (othL x.id x.peers.toNat).map (sendM x)
theorem take_snocI (l : List Int) (k : Nat) (h : k < l.length) (f : Int → Mg) : (l.take (k + 1)).map f = (l.take k).map f ++ [f (l.getD k 0)] := by
 rw [take_num l k h, List.map_append]
 rfl
set_option maxRecDepth 20000 in
set_option maxHeartbeats 8000000 in
theorem sendAI (ci cp ct cv cr cd cb cbt : Int) (lg : List Ent) (cc : Int) (ys ns ms : List Int) (M : List Mg) (w : World) (base p : Nat) (hsp : Spk w base p ⟨ci, cp, ct, cv, cr, cd, cb, cbt, lg, cc, ys, ns, ms⟩ M) (hs : ShortC ⟨ci, cp, ct, cv, cr, cd, cb, cbt, lg, cc, ys, ns, ms⟩) (h0 : 0 ≤ cb) (h1 : cb ≤ 100000) (hln : lg.length ≤ 60) (hp0 : 1 ≤ cp) (hp5 : cp ≤ 5) (hnl : (ns.length : Int) = cp) (hnx : ∀ j, j < ns.length → 1 ≤ ns.getD j 0 ∧ ns.getD j 0 ≤ cb + (lg.length : Int) + 1) (hM : M.length ≤ 100) (hbs : base ≤ w.heap.size) :
  Calls Try.prog 63 #[.pointer (some ⟨p, 0, none⟩)] w fun e w' => e = .returned (.tuple #[]) ∧ Spk w' base p ⟨ci, cp, ct, cv, cr, cd, cb, cbt, lg, cc, ys, ns, ms⟩ (M ++ toAll ⟨ci, cp, ct, cv, cr, cd, cb, cbt, lg, cc, ys, ns, ms⟩) ∧ Below base w w' := by
 have HSp := Hid.mk hsp
 have HBS : Hid (base ≤ w.heap.size) := hbs
 obtain ⟨n, hn⟩ : ∃ n : Nat, cp = (n : Int) := ⟨cp.toNat, by omega⟩
 subst hn
 have HTA : Hid (toAll ⟨ci, (n : Int), ct, cv, cr, cd, cb, cbt, lg, cc, ys, ns, ms⟩ = (othL ci n).map (sendM ⟨ci, (n : Int), ct, cv, cr, cd, cb, cbt, lg, cc, ys, ns, ms⟩)) := by unfold Hid toAll; simp only [Int.toNat_natCast]
 have HIn : Hid (∀ k, k < (othL ci n).length → ∃ j : Nat, (othL ci n).getD k 0 = (j : Int) ∧ j < ns.length) := fun k hk => by
  have hm : (othL ci n).getD k 0 ∈ othL ci n := by rw [List.getD_eq_getElem?_getD, List.getElem?_eq_getElem hk]; exact List.getElem_mem hk
  have := othL_in ci n _ hm
  exact ⟨((othL ci n).getD k 0).toNat, by omega, by omega⟩
 have HL5 : Hid ((othL ci n).length ≤ 5) := by have := othL_len ci n; unfold Hid; omega
 have cE := fun Mx (t : Nat) wx h ht (hMx : Mx.length ≤ 500) hb => sendEI ci (n : Int) ct cv cr cd cb cbt lg cc ys ns ms Mx t wx base p h hs h0 h1 hln ht (hnx t ht).1 (hnx t ht).2 hMx hb
 have HMl : Hid (M.length ≤ 100) := hM
 have HTk : Hid (∀ k, k < (othL ci n).length → ((othL ci n).take (k + 1)).map (sendM ⟨ci, (n : Int), ct, cv, cr, cd, cb, cbt, lg, cc, ys, ns, ms⟩) = ((othL ci n).take k).map (sendM ⟨ci, (n : Int), ct, cv, cr, cd, cb, cbt, lg, cc, ys, ns, ms⟩) ++ [sendM ⟨ci, (n : Int), ct, cv, cr, cd, cb, cbt, lg, cc, ys, ns, ms⟩ ((othL ci n).getD k 0)]) := fun k hk => take_snocI _ k hk _
 have HTA2 : Hid ((othL ci n).take (othL ci n).length = othL ci n) := List.take_length
 obtain ⟨ul, uy, un, um, us, L, hso, hLM⟩ := hsp
 obtain ⟨A0, An0, Ac0, A1, An1, Ac1, A2, An2, Ac2, A3, An3, Ac3, A4, An4, Ac4, rfl, rfl, rfl, rfl, rfl⟩ := hso.shape
 have KP : Hid (Blk w p #[.int .i64 ci, .int .i64 (n : Int), .int .i64 ct, .int .i64 cv, .int .i64 cr, .int .i64 cd, .int .i64 cb, .int .i64 cbt, .slice A0 An0 Ac0, .int .i64 cc, .slice A1 An1 Ac1, .slice A2 An2 Ac2, .slice A3 An3 Ac3, .slice A4 An4 Ac4] 74) := hso.b
 have cO := fun wx => othersI ci ct cv cr cd cb cbt cc n (.slice A0 An0 Ac0) (.slice A1 An1 Ac1) (.slice A2 An2 Ac2) (.slice A3 An3 Ac3) wx (by omega)
 obtain ⟨k0, k1, k2, k3, k4, k5, k6, k7, k8, k9, k10, k11, k12, k13⟩ := cells14 KP.out
 clear hso hLM hnl hnx hbs hM hs
 go_enter Try.func63, Try.ntmps63
 go_wp2_with fail
 refine (cO w).mono ?_
 rintro e w1 ⟨⟨u, rfl, hN⟩, hb1⟩
 obtain ⟨Ao, co, rfl, _, _⟩ := hN.shape
 have NN := Hid.mk hN
 have V1 := Hid.mk hb1
 have SP1 := Hid.mk (HSp.out.on hb1)
 clear hN hb1 cO k0 k1 k2 k3 k4 k5 k6 k7 k8 k9 k10 k11 k12 k13 KP
 generalize hol : othL ci n = ol at *
 clear hol
 have HNl : Hid (Nums w1 w.heap.size (.slice Ao ol.length co) ol) := NN.out
 generalize hon : ol.length = on at *
 clear NN
 have hon5 : on ≤ 5 := HL5.out
 go_wp2_with fail
 go_loopw [3, 10] (fun v3 v10 wr => ∃ k : Nat, k ≤ on ∧ v10 = .int .i64 (k : Int) ∧ Spk wr base p ⟨ci, (n : Int), ct, cv, cr, cd, cb, cbt, lg, cc, ys, ns, ms⟩ (M ++ (ol.take k).map (sendM ⟨ci, (n : Int), ct, cv, cr, cd, cb, cbt, lg, cc, ys, ns, ms⟩)) ∧ Below base w wr ∧ KeepI w1 wr) (fun _ v _ => on - (intOf v).toNat)
 case atStart => exact ⟨0, by omega, rfl, by simpa using SP1.out, V1.out.mono HBS.out, fun _ _ _ _ => rfl⟩
 case round =>
  obtain ⟨k, hk, rfl, hS, hB, hK⟩ := hrel
  have SR := Hid.mk hS
  have BR := Hid.mk hB
  have KR := Hid.mk hK
  clear hS hB hK
  by_cases hlt : k < on
  ·have q2 : (k : Int) < (on : Int) := by omega
   have hNr := HNl.out.keepI KR.out
   have hNr2 : Nums wr w.heap.size (.slice Ao on co) ol := hNr
   obtain ⟨go, hge, _, _⟩ := hNr2.block (by omega)
   subst hge
   have d0 := hNr2.cell k (by omega)
   obtain ⟨j, hj, hjn⟩ := HIn.out k (by omega)
   have HT := Hid.mk (HTk.out k (by omega))
   rw [hj] at d0
   have HJ : Hid (ol.getD k 0 = (j : Int)) := hj
   have hml : (M ++ (ol.take k).map (sendM ⟨ci, (n : Int), ct, cv, cr, cd, cb, cbt, lg, cc, ys, ns, ms⟩)).length ≤ 500 := by
    rw [List.length_append, List.length_map, List.length_take]
    have := HMl.out
    have := HL5.out
    omega
   have c1 := cE _ j wr SR.out hjn hml (Nat.le_trans HBS.out BR.out.size)
   clear hNr hNr2 hj hml
   go_wp2_with fail
   refine c1.mono ?_
   rintro e w3 ⟨rfl, hS, hb, hki⟩
   have SF : Hid (Spk w3 base p ⟨ci, (n : Int), ct, cv, cr, cd, cb, cbt, lg, cc, ys, ns, ms⟩ (M ++ (ol.take (k + 1)).map (sendM ⟨ci, (n : Int), ct, cv, cr, cd, cb, cbt, lg, cc, ys, ns, ms⟩))) := by unfold Hid; rw [HT.out, HJ.out, ← List.append_assoc]; exact hS
   have BF : Hid (Below base w w3) := BR.out.trans hb
   have KF := Hid.mk (KR.out.trans hki)
   clear hS hb hki c1
   go_wp2_with fail
   go_roundw
   case rel => exact ⟨k + 1, by omega, by go_num, SF.out, BF.out, KF.out⟩
   case measure => simp [intOf]; omega
  ·obtain rfl : k = on := by omega
   have SF : Hid (Spk wr base p ⟨ci, (n : Int), ct, cv, cr, cd, cb, cbt, lg, cc, ys, ns, ms⟩ (M ++ toAll ⟨ci, (n : Int), ct, cv, cr, cd, cb, cbt, lg, cc, ys, ns, ms⟩)) := by
    unfold Hid
    rw [HTA.out]
    have := SR.out
    rw [← hon, List.take_length] at this
    exact this
   clear hon
   go_wp2_with fail
   exact bodyPost_end (v := .tuple #[]) (by simp [results, go_sem]) rfl ⟨rfl, SF.out, BR.out⟩
end Go.Proofs.Ytlhoonohpfpkbaa
namespace Go.Proofs.Ytlhoonohpfpkbaa
open Go.ChangeShapes Go.WideShapes Go.ChangeAt Go.RowKit Go.PlainAid
set_option linter.unusedVariables false
theorem COk.lead {x : Cor} (h : COk x) (hr : x.role = 3) : RLead x := by
 rcases h.2 with ⟨e, _⟩ | ⟨e, _⟩ | ⟨_, q⟩
 ·omega
 ·omega
 ·exact q
end Go.Proofs.Ytlhoonohpfpkbaa
namespace Go.Proofs.Ytlhoonohpfpkbaa
open Go.ChangeShapes Go.WideShapes Go.ChangeAt Go.RowKit Go.PlainAid
set_option linter.unusedVariables false
def CoMs (w : World) (b : Nat) (u us : Value) (y : Cor) (M : List Mg) : Prop := ∃ ul uy un um L, u = vCo y ul uy un um ∧ CoRows w b y ul uy un um ∧ MsO w b us L ∧ L.map Prod.fst = M ∧ ∀ q ∈ L, ∀ k, q.2.ownBlock = some k → blkF ul ≠ some k
theorem CoMs.zero (w : World) (b : Nat) : CoMs w b (vCo ⟨0, 0, 0, 0, 0, 0, 0, 0, [], 0, [], [], []⟩ (.slice none 0 0) (.slice none 0 0) (.slice none 0 0) (.slice none 0 0)) (.slice none 0 0) ⟨0, 0, 0, 0, 0, 0, 0, 0, [], 0, [], [], []⟩ [] := ⟨_, _, _, _, [], rfl, ⟨.inl ⟨rfl, none, 0, rfl, fun _ => rfl⟩, Nums.nil _ _, Nums.nil _ _, Nums.nil _ _, fun g h => (by cases h), fun g h => (by cases h), fun g h => (by cases h)⟩, MsO.nil _ _, rfl, fun q hq => (by cases hq)⟩
end Go.Proofs.Ytlhoonohpfpkbaa
namespace Go.Proofs.Ytlhoonohpfpkbaa
open Go.ChangeShapes Go.WideShapes Go.ChangeAt Go.RowKit Go.PlainAid
set_option linter.unusedVariables false
theorem CoMs.sh {w : World} {b : Nat} {u us : Value} {y : Cor} {M : List Mg} (h : CoMs w b u us y M) : ∃ A0 n0 c0 A1 n1 c1 A2 n2 c2 A3 n3 c3 A4 n4 c4 L, u = vCo y (.slice A0 n0 c0) (.slice A1 n1 c1) (.slice A2 n2 c2) (.slice A3 n3 c3) ∧ us = .slice A4 n4 c4 ∧ CoRows w b y (.slice A0 n0 c0) (.slice A1 n1 c1) (.slice A2 n2 c2) (.slice A3 n3 c3) ∧ MsO w b (.slice A4 n4 c4) L ∧ L.map Prod.fst = M ∧ ∀ q ∈ L, ∀ k, q.2.ownBlock = some k → blkF (.slice A0 n0 c0) ≠ some k := by
 obtain ⟨ul, uy, un, um, L, rfl, hr, hm, e, ha⟩ := h
 obtain ⟨A0, c0, A1, c1, A2, c2, A3, c3, rfl, rfl, rfl, rfl⟩ := hr.shape
 obtain ⟨A4, n4, c4, rfl⟩ := hm.r.shape
 exact ⟨A0, _, c0, A1, _, c1, A2, _, c2, A3, _, c3, A4, n4, c4, L, rfl, rfl, hr, hm, e, ha⟩
theorem MsO.markC {w w' : World} {b : Nat} {y : Cor} {ul uy un um us : Value} {L : List (Mg × Value)} (h : MsO w b us L) (hr : CoRows w b y ul uy un um) (ha : ∀ q ∈ L, ∀ k, q.2.ownBlock = some k → blkF ul ≠ some k) (hk : ∀ g, g < w.heap.size → NotC ul uy un um g → w'.heap[g]? = w.heap[g]?) : MsO w' b us L := by
 refine ⟨h.r.kept fun g hg e => hk g hg ?_, fun q hq => (h.e q hq).kept fun g hg e => hk g hg ?_, h.a⟩
 ·obtain ⟨cs, fz, e1⟩ := h.r.kind e
  exact hr.notBlk e1 (by decide) (by decide)
 ·obtain ⟨cs, fz, e1⟩ := (h.e q hq).kind e
  exact ⟨ha q hq g e, hr.y.notBlk e1 (by decide), hr.n.notBlk e1 (by decide), hr.m.notBlk e1 (by decide)⟩
theorem CoMks.markM {w w' : World} {b b' : Nat} {y : Cor} {ul uy un um us : Value} {L : List (Mg × Value)} (h : CoMks w b y ul uy un um) (hm : MsO w b' us L) (ha : ∀ q ∈ L, ∀ k, q.2.ownBlock = some k → blkF ul ≠ some k) (hk : ∀ g, g < w.heap.size → us.ownBlock ≠ some g → (∀ q ∈ L, q.2.ownBlock ≠ some g) → w'.heap[g]? = w.heap[g]?) : CoMks w' b y ul uy un um := by
 have hn : ∀ (v : Value) (l : List Int), Nums w b v l → Nums w' b v l := fun v l hv => hv.kept fun g hg e => by
  obtain ⟨cs, fz, e1⟩ := hv.kind e
  exact hk g hg (hm.r.notBlk e1 (by decide)) fun q hq => (hm.e q hq).notBlk e1 (by decide)
 refine ⟨h.l.kept fun g hg e => ?_, hn _ _ h.y, hn _ _ h.n, hn _ _ h.m⟩
 obtain ⟨cs, fz, e1⟩ := h.l.ents e
 exact hk g hg (hm.r.notBlk e1 (by decide)) fun q hq e2 => ha q hq g e2 e
theorem MsO.viewM {w : World} {base : Nat} {v : Value} {L : List (Mg × Value)} {M : List Mg} (h : MsO w base v L) (e : L.map Prod.fst = M) : MsV w w.heap.size v M := e ▸ h.view
theorem MsO.notOf {w : World} {base g : Nat} {v : Value} {L : List (Mg × Value)} {cs : Array Value} {t : TypeId} {fz : Nat × Nat} (h : MsO w base v L) (hB : w.heap[g]? = some (.cells cs t fz)) (h1 : t ≠ 48) (h2 : t ≠ 71) : v.ownBlock ≠ some g ∧ ∀ q ∈ L, q.2.ownBlock ≠ some g := ⟨h.r.notBlk hB h1, fun q hq => (h.e q hq).notBlk hB h2⟩
end Go.Proofs.Ytlhoonohpfpkbaa
namespace Go.Proofs.Ytlhoonohpfpkbaa
open Go.ChangeShapes Go.WideShapes Go.ChangeAt Go.RowKit Go.PlainAid
set_option linter.unusedVariables false
def reachN (l : List Int) (i : Int) : Nat := (l.filter fun m => decide (i ≤ m)).length
theorem reachN_yes {l : List Int} {i : Int} {k : Nat} (h : k < l.length) (hi : i ≤ l.getD k 0) : reachN (l.take (k + 1)) i = reachN (l.take k) i + 1 := by
 unfold reachN
 rw [take_num l k h, List.filter_append, List.length_append]
 generalize l.getD k 0 = z at *
 rw [List.filter_cons_of_pos (by simpa using hi)]
 rfl
theorem reachN_no {l : List Int} {i : Int} {k : Nat} (h : k < l.length) (hi : ¬ i ≤ l.getD k 0) : reachN (l.take (k + 1)) i = reachN (l.take k) i := by
 unfold reachN
 rw [take_num l k h, List.filter_append, List.length_append]
 generalize l.getD k 0 = z at *
 rw [List.filter_cons_of_neg (by simpa using hi)]
 rfl
theorem reachN_le (l : List Int) (i : Int) : reachN l i ≤ l.length := List.length_filter_le _ _
def cntAt (x : Cor) (i : Int) : Bool := decide (termAt x i = x.term) && decide (x.peers < 2 * (reachN x.mat i : Int))
def cntFrom (x : Cor) : Nat → Int
 | 0 => x.commit
 | k + 1 => if cntAt x (x.commit + (k : Int) + 1) = true then x.commit + (k : Int) + 1 else cntFrom x k
def countX (x : Cor) : Cor := { x with commit := cntFrom x (cLast x - x.commit).toNat }
theorem cntFrom_yes {x : Cor} {k : Nat} (h : cntAt x (x.commit + (k : Int) + 1) = true) : cntFrom x (k + 1) = x.commit + (k : Int) + 1 := by rw [cntFrom, if_pos h]
theorem cntFrom_no {x : Cor} {k : Nat} (h : cntAt x (x.commit + (k : Int) + 1) = false) : cntFrom x (k + 1) = cntFrom x k := by rw [cntFrom, if_neg (by rw [h]; exact Bool.false_ne_true)]
theorem cntFrom_le (x : Cor) : ∀ k, x.commit ≤ cntFrom x k ∧ cntFrom x k ≤ x.commit + (k : Int)
 | 0 => by unfold cntFrom; omega
 | k + 1 => by
  have := cntFrom_le x k
  unfold cntFrom
  split <;> omega
def matX (x : Cor) (j : Nat) (n : Int) : Cor := { x with nxt := x.nxt.set j (n + 1), mat := x.mat.set j n }
def RoomP (x : Cor) : Prop := x.log.length < 60 ∧ cLast x < 100000
instance (x : Cor) : Decidable (RoomP x) := inferInstanceAs (Decidable (_ ∧ _))
def addX (x : Cor) (d : ByteArray) : Cor := if RoomP x then { x with log := x.log ++ [⟨x.term, d⟩] } else x
def ownX (x : Cor) : Cor := countX (matX x x.id.toNat (cLast x))
def putC (x : Cor) (d : ByteArray) : Cor := ownX (addX x d)
structure SendOk (x : Cor) : Prop where
 s : ShortC x
 b0 : 0 ≤ x.base
 b1 : x.base ≤ 100000
 n : x.log.length ≤ 60
 p0 : 1 ≤ x.peers
 p1 : x.peers ≤ 5
 l : (x.nxt.length : Int) = x.peers
 m : (x.mat.length : Int) = x.peers
 i0 : 0 ≤ x.id
 i1 : x.id < x.peers
 q : ∀ j, j < x.nxt.length → 1 ≤ x.nxt.getD j 0 ∧ x.nxt.getD j 0 ≤ cLast x + 1
 c : x.base ≤ x.commit ∧ x.commit ≤ cLast x
theorem SendOk.of {x : Cor} (h : COk x) (hr : x.role = 3) (hs : ShortC x) : SendOk x := by
 have hl := COk.lead h hr
 obtain ⟨w0, w1, w2, w3, w4, w5, w6⟩ := walOk_in h.1.w
 simp only [corW] at w2 w3 w4 w5
 have hp := h.1.p
 have hi := h.1.i
 refine ⟨hs, w2.1, w2.2, w4, hp.1, hp.2, hl.n, hl.m, hi.1, by omega, fun j hj => ?_, h.1.c⟩
 have hm := hl.m
 have hn := hl.n
 have := hl.a j (by omega)
 omega
theorem set_in {l : List Int} {j : Nat} {z : Int} {P : Int → Prop} (h : ∀ k, k < l.length → P (l.getD k 0)) (hz : P z) : ∀ k, k < (l.set j z).length → P ((l.set j z).getD k 0) := fun k hk => by
 rw [List.length_set] at hk
 by_cases e : j = k
 ·subst e; rw [getD_set_same l j z hk]; exact hz
 ·rw [getD_set_ne l j k z e]; exact h k hk
theorem SendOk.own {x : Cor} (h : SendOk x) : SendOk (ownX x) := by
 have hc := cntFrom_le (matX x x.id.toNat (cLast x)) (cLast (matX x x.id.toNat (cLast x)) - (matX x x.id.toNat (cLast x)).commit).toNat
 have hcl : cLast (matX x x.id.toNat (cLast x)) = cLast x := rfl
 have hcc : (matX x x.id.toNat (cLast x)).commit = x.commit := rfl
 have h0 := h.b0
 have h1 := h.c
 refine ⟨⟨h.s.n, h.s.d, h.s.y, ?_, ?_⟩, h.b0, h.b1, h.n, h.p0, h.p1, ?_, ?_, h.i0, h.i1, ?_, ?_⟩
 ·show (x.nxt.set _ _).length ≤ _; rw [List.length_set]; exact h.s.q
 ·show (x.mat.set _ _).length ≤ _; rw [List.length_set]; exact h.s.m
 ·show ((x.nxt.set _ _).length : Int) = _; rw [List.length_set]; exact h.l
 ·show ((x.mat.set _ _).length : Int) = _; rw [List.length_set]; exact h.m
 ·show ∀ j, j < (x.nxt.set _ _).length → _
  exact set_in (P := fun z => 1 ≤ z ∧ z ≤ cLast x + 1) h.q (by unfold cLast at *; omega)
 ·show x.base ≤ cntFrom _ _ ∧ cntFrom _ _ ≤ cLast x
  rw [hcl, hcc] at hc
  rw [hcl, hcc]
  omega
theorem SendOk.add {x : Cor} (h : SendOk x) (d : ByteArray) (hd : d.size ≤ 1048576) : SendOk (addX x d) := by
 unfold addX
 split
 ·next hr =>
  obtain ⟨r1, r2⟩ := hr
  have hcl : cLast { x with log := x.log ++ [⟨x.term, d⟩] } = cLast x + 1 := by unfold cLast; simp only [List.length_append, List.length_cons, List.length_nil]; omega
  refine ⟨⟨?_, ?_, h.s.y, h.s.q, h.s.m⟩, h.b0, h.b1, ?_, h.p0, h.p1, h.l, h.m, h.i0, h.i1, ?_, ?_⟩
  ·show (x.log ++ [_]).length ≤ _; rw [List.length_append]; simp only [List.length_cons, List.length_nil]; omega
  ·intro y hy
   rcases List.mem_append.1 hy with hy | hy
   ·exact h.s.d y hy
   ·rw [List.mem_singleton.1 hy]; exact hd
  ·show (x.log ++ [_]).length ≤ _; rw [List.length_append]; simp only [List.length_cons, List.length_nil]; omega
  ·intro j hj
   have hq : 1 ≤ x.nxt.getD j 0 ∧ x.nxt.getD j 0 ≤ cLast x + 1 := h.q j hj
   rw [hcl]
   show 1 ≤ x.nxt.getD j 0 ∧ x.nxt.getD j 0 ≤ cLast x + 1 + 1
   omega
  ·rw [hcl]
   have := h.c
   exact ⟨this.1, by show x.commit ≤ _; omega⟩
 ·exact h
theorem SendOk.put {x : Cor} (h : SendOk x) (d : ByteArray) (hd : d.size ≤ 1048576) : SendOk (putC x d) := (h.add d hd).own
end Go.Proofs.Ytlhoonohpfpkbaa
