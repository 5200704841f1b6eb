/-
  The law FnExactCoreOk answers true at every core.
-/
import Derived.Test.YtjejcpieajeflaaRows
import Derived.Test.YtjejcpieajeflaaCoLaw
import Derived.Test.YtjejcpieajeflaaCoArg
import Derived.Test.YtjejcpieajeflaaUntilF
import Derived.Test.YtjejcpieajeflaaCoI5
import Derived.Test.YtjejcpieajeflaaCoS5
import Derived.Test.YtjejcpieajeflaaCoShort
import Derived.Deep.Cut
import Derived.Handy
namespace Go.Proofs.Ytjejcpieajeflaa
open Go.ChangeShapes Go.WideShapes Go.ChangeAt Go.RowKit Go.PlainAid
set_option linter.unusedVariables false

set_option maxRecDepth 20000 in
set_option maxHeartbeats 16000000 in
theorem law_fnExactCoreOk (x : Cor) (v : Value) (w : World) (hv : CorV w w.heap.size v x) (hf : FitsC x) (hi : IntsC x) : Calls Try.prog 3 #[v] w fun e w' => e = .returned (.bool true) ∧ Below w.heap.size w w' := by
  obtain ⟨ci, cp, ct, cv, cr, cd, cb, cbt, lg, cc, ys, ns, ms⟩ := x
  have HV : Hid (CorV w w.heap.size v ⟨ci, cp, ct, cv, cr, cd, cb, cbt, lg, cc, ys, ns, ms⟩) := hv
  obtain ⟨u0, u1, u2, u3, rfl, hl, hy, hn, hm⟩ := hv
  obtain ⟨A0, c0, rfl, _⟩ := ent_look hl
  obtain ⟨A1, c1, rfl, _⟩ := hy
  obtain ⟨A2, c2, rfl, _⟩ := hn
  obtain ⟨A3, c3, rfl, _⟩ := hm
  unfold vCo at HV ⊢
  simp only at HV ⊢
  have HF : Hid (FitsC ⟨ci, cp, ct, cv, cr, cd, cb, cbt, lg, cc, ys, ns, ms⟩) := hf
  have HSH : Hid (wtC ⟨ci, cp, ct, cv, cr, cd, cb, cbt, lg, cc, ys, ns, ms⟩ ≤ 1048576 → ShortC ⟨ci, cp, ct, cv, cr, cd, cb, cbt, lg, cc, ys, ns, ms⟩) := fun h => ShortC.of h
  clear hl hf
  generalize lg.length = m0 at *
  generalize ys.length = m1 at *
  generalize ns.length = m2 at *
  generalize ms.length = m3 at *
  have cS := fun vx wx h1 h2 => szCore ⟨ci, cp, ct, cv, cr, cd, cb, cbt, lg, cc, ys, ns, ms⟩ vx wx w.heap.size 1048576 (by omega) (by omega) h1 HF.out h2
  have cT := fun (hw : wtC ⟨ci, cp, ct, cv, cr, cd, cb, cbt, lg, cc, ys, ns, ms⟩ ≤ 1048576) vx wx h1 h2 => toCore ⟨ci, cp, ct, cv, cr, cd, cb, cbt, lg, cc, ys, ns, ms⟩ vx wx w.heap.size h1 hw h2
  have K0 := Hid.mk (Blk.new w #[.int .i64 ci, .int .i64 cp, .int .i64 ct, .int .i64 cv, .int .i64 cr, .int .i64 cd, .int .i64 cb, .int .i64 cbt, .slice A0 m0 c0, .int .i64 cc, .slice A1 m1 c1, .slice A2 m2 c2, .slice A3 m3 c3] 25)
  have B0 : Hid (Below w.heap.size w (w.alloc (.cells #[.int .i64 ci, .int .i64 cp, .int .i64 ct, .int .i64 cv, .int .i64 cr, .int .i64 cd, .int .i64 cb, .int .i64 cbt, .slice A0 m0 c0, .int .i64 cc, .slice A1 m1 c1, .slice A2 m2 c2, .slice A3 m3 c3] 25))) := (Below.refl _ _).alloc (Nat.le_refl _) _
  go_enter Try.func3, Try.ntmps3
  go_wp2_with fail
  generalize w.alloc (.cells #[.int .i64 ci, .int .i64 cp, .int .i64 ct, .int .i64 cv, .int .i64 cr, .int .i64 cd, .int .i64 cb, .int .i64 cbt, .slice A0 m0 c0, .int .i64 cc, .slice A1 m1 c1, .slice A2 m2 c2, .slice A3 m3 c3] 25) = W at *
  refine (cS _ W (HV.out.on B0.out) B0.out.size).mono ?_
  rintro e w1 ⟨r, rfl, HRr, hb1⟩
  have B1 : Hid (Below w.heap.size w w1) := B0.out.trans (hb1.mono B0.out.size)
  have K1 : Hid (Blk w1 w.heap.size #[.int .i64 ci, .int .i64 cp, .int .i64 ct, .int .i64 cv, .int .i64 cr, .int .i64 cd, .int .i64 cb, .int .i64 cbt, .slice A0 m0 c0, .int .i64 cc, .slice A1 m1 c1, .slice A2 m2 c2, .slice A3 m3 c3] 25) := K0.out.on hb1 K0.out.lt
  clear hb1 cS K0
  rcases HRr.out with rfl | ⟨hr0, hr1⟩
  · go_wp2_with fail
    go_ret
    exact ⟨rfl, B1.out⟩
  have HW : Hid (wtC ⟨ci, cp, ct, cv, cr, cd, cb, cbt, lg, cc, ys, ns, ms⟩ ≤ 1048576) := by unfold Hid; omega
  have HSh : Hid (ShortC ⟨ci, cp, ct, cv, cr, cd, cb, cbt, lg, cc, ys, ns, ms⟩) := HSH.out HW.out
  have hr2 : decide (r < 0) = false := decide_eq_false (by omega)
  clear hr1 HRr HSH
  have y0 := K1.out.cell 0 _ rfl
  have y1 := K1.out.cell 1 _ rfl
  have y2 := K1.out.cell 2 _ rfl
  have y3 := K1.out.cell 3 _ rfl
  have y4 := K1.out.cell 4 _ rfl
  have y5 := K1.out.cell 5 _ rfl
  have y6 := K1.out.cell 6 _ rfl
  have y7 := K1.out.cell 7 _ rfl
  have y8 := K1.out.cell 8 _ rfl
  have y9 := K1.out.cell 9 _ rfl
  have y10 := K1.out.cell 10 _ rfl
  have y11 := K1.out.cell 11 _ rfl
  have y12 := K1.out.cell 12 _ rfl
  go_wp2_with fail
  refine (cT HW.out _ w1 (HV.out.on B1.out) B1.out.size).mono ?_
  rintro e w2 ⟨q2, rfl, hO, hb2⟩
  have B2 : Hid (Below w.heap.size w w2) := B1.out.trans (hb2.mono B1.out.size)
  have K2 : Hid (Blk w2 w.heap.size #[.int .i64 ci, .int .i64 cp, .int .i64 ct, .int .i64 cv, .int .i64 cr, .int .i64 cd, .int .i64 cb, .int .i64 cbt, .slice A0 m0 c0, .int .i64 cc, .slice A1 m1 c1, .slice A2 m2 c2, .slice A3 m3 c3] 25) := K1.out.on hb2 K1.out.lt
  have O2 : Hid (CorO w2 w1.heap.size q2 ⟨ci, cp, ct, cv, cr, cd, cb, cbt, lg, cc, ys, ns, ms⟩) := hO
  clear y0 y1 y2 y3 y4 y5 y6 y7 y8 y9 y10 y11 y12 hb2 hO K1
  have hcs := specCoreOk ⟨ci, cp, ct, cv, cr, cd, cb, cbt, lg, cc, ys, ns, ms⟩ q2 w2 w2.heap.size O2.out.lies HSh.out (Nat.le_refl _)
  obtain ⟨z0, z1, z2, z3, rfl, _⟩ := O2.out
  unfold vCo
  simp only
  unfold vCo at hcs
  simp only at hcs
  go_wp2_with fail
  refine hcs.mono ?_
  rintro e w3 ⟨rfl, hb3⟩
  have B3 : Hid (Below w.heap.size w w3) := B2.out.trans (hb3.mono B2.out.size)
  have K3 : Hid (Blk w3 w.heap.size #[.int .i64 ci, .int .i64 cp, .int .i64 ct, .int .i64 cv, .int .i64 cr, .int .i64 cd, .int .i64 cb, .int .i64 cbt, .slice A0 m0 c0, .int .i64 cc, .slice A1 m1 c1, .slice A2 m2 c2, .slice A3 m3 c3] 25) := K2.out.on hb3 K2.out.lt
  clear hcs hb3 K2 O2
  have y0 := K3.out.cell 0 _ rfl
  have y1 := K3.out.cell 1 _ rfl
  have y2 := K3.out.cell 2 _ rfl
  have y3 := K3.out.cell 3 _ rfl
  have y4 := K3.out.cell 4 _ rfl
  have y5 := K3.out.cell 5 _ rfl
  have y6 := K3.out.cell 6 _ rfl
  have y7 := K3.out.cell 7 _ rfl
  have y8 := K3.out.cell 8 _ rfl
  have y9 := K3.out.cell 9 _ rfl
  have y10 := K3.out.cell 10 _ rfl
  have y11 := K3.out.cell 11 _ rfl
  have y12 := K3.out.cell 12 _ rfl
  go_wp2_with fail
  refine (cT HW.out _ w3 (HV.out.on B3.out) B3.out.size).mono ?_
  rintro e w4 ⟨q4, rfl, hO4, hb4⟩
  have B4 : Hid (Below w.heap.size w w4) := B3.out.trans (hb4.mono B3.out.size)
  have K4 : Hid (Blk w4 w.heap.size #[.int .i64 ci, .int .i64 cp, .int .i64 ct, .int .i64 cv, .int .i64 cr, .int .i64 cd, .int .i64 cb, .int .i64 cbt, .slice A0 m0 c0, .int .i64 cc, .slice A1 m1 c1, .slice A2 m2 c2, .slice A3 m3 c3] 25) := K3.out.on hb4 K3.out.lt
  obtain ⟨D0, p0, d0, D1, p1, d1, D2, p2, d2, D3, p3, d3, rfl, hO4'⟩ := hO4.sh
  unfold vCo
  simp only
  have O4 : Hid (CoRows w4 w3.heap.size ⟨ci, cp, ct, cv, cr, cd, cb, cbt, lg, cc, ys, ns, ms⟩ (.slice D0 p0 d0) (.slice D1 p1 d1) (.slice D2 p2 d2) (.slice D3 p3 d3)) := hO4'
  clear hO4' hO4
  clear y0 y1 y2 y3 y4 y5 y6 y7 y8 y9 y10 y11 y12 hb4 K3
  obtain ⟨W5, hW5⟩ : ∃ W5, W5 = w4.alloc (.cells #[.int .i64 ci, .int .i64 cp, .int .i64 ct, .int .i64 cv, .int .i64 cr, .int .i64 cd, .int .i64 cb, .int .i64 cbt, .slice D0 p0 d0, .int .i64 cc, .slice D1 p1 d1, .slice D2 p2 d2, .slice D3 p3 d3] 30) := ⟨_, rfl⟩
  have hb5 : Below w4.heap.size w4 W5 := by rw [hW5]; exact (Below.refl _ _).alloc (Nat.le_refl _) _
  have X5 : Hid (Blk W5 w4.heap.size #[.int .i64 ci, .int .i64 cp, .int .i64 ct, .int .i64 cv, .int .i64 cr, .int .i64 cd, .int .i64 cb, .int .i64 cbt, .slice D0 p0 d0, .int .i64 cc, .slice D1 p1 d1, .slice D2 p2 d2, .slice D3 p3 d3] 30) := by unfold Hid; rw [hW5]; exact Blk.new w4 _ _
  have B5 : Hid (Below w.heap.size w W5) := B4.out.trans (hb5.mono B4.out.size)
  have K5 : Hid (Blk W5 w.heap.size #[.int .i64 ci, .int .i64 cp, .int .i64 ct, .int .i64 cv, .int .i64 cr, .int .i64 cd, .int .i64 cb, .int .i64 cbt, .slice A0 m0 c0, .int .i64 cc, .slice A1 m1 c1, .slice A2 m2 c2, .slice A3 m3 c3] 25) := K4.out.on hb5 K4.out.lt
  have O5 : Hid (CoRows W5 w3.heap.size ⟨ci, cp, ct, cv, cr, cd, cb, cbt, lg, cc, ys, ns, ms⟩ (.slice D0 p0 d0) (.slice D1 p1 d1) (.slice D2 p2 d2) (.slice D3 p3 d3)) := O4.out.on hb5
  clear hb5 K4 O4
  go_wp2_with fail
  rw [← hW5]
  clear hW5
  generalize w4.heap.size = px at *
  have cOk := implCoreOk ⟨ci, cp, ct, cv, cr, cd, cb, cbt, lg, cc, ys, ns, ms⟩ (.agg #[.int .i64 ci, .int .i64 cp, .int .i64 ct, .int .i64 cv, .int .i64 cr, .int .i64 cd, .int .i64 cb, .int .i64 cbt, .slice D0 p0 d0, .int .i64 cc, .slice D1 p1 d1, .slice D2 p2 d2, .slice D3 p3 d3]) W5 W5.heap.size O5.out.lies HSh.out (Nat.le_refl _)
  refine cOk.mono ?_
  rintro e w6 ⟨rfl, hb6⟩
  have Bw6 : Hid (Below w.heap.size w w6) := B5.out.trans (hb6.mono B5.out.size)
  have Kw6 : Hid (Blk w6 w.heap.size #[.int .i64 ci, .int .i64 cp, .int .i64 ct, .int .i64 cv, .int .i64 cr, .int .i64 cd, .int .i64 cb, .int .i64 cbt, .slice A0 m0 c0, .int .i64 cc, .slice A1 m1 c1, .slice A2 m2 c2, .slice A3 m3 c3] 25) := K5.out.on hb6 K5.out.lt
  have Ow6 : Hid (CoRows w6 w3.heap.size ⟨ci, cp, ct, cv, cr, cd, cb, cbt, lg, cc, ys, ns, ms⟩ (.slice D0 p0 d0) (.slice D1 p1 d1) (.slice D2 p2 d2) (.slice D3 p3 d3)) := O5.out.on hb6
  have Xw6 : Hid (Blk w6 px #[.int .i64 ci, .int .i64 cp, .int .i64 ct, .int .i64 cv, .int .i64 cr, .int .i64 cd, .int .i64 cb, .int .i64 cbt, .slice D0 p0 d0, .int .i64 cc, .slice D1 p1 d1, .slice D2 p2 d2, .slice D3 p3 d3] 30) := X5.out.on hb6 X5.out.lt
  clear cOk hb6 K5 O5 X5
  have n1 : (corOk ⟨ci, cp, ct, cv, cr, cd, cb, cbt, lg, cc, ys, ns, ms⟩ != corOk ⟨ci, cp, ct, cv, cr, cd, cb, cbt, lg, cc, ys, ns, ms⟩) = false := by cases corOk ⟨ci, cp, ct, cv, cr, cd, cb, cbt, lg, cc, ys, ns, ms⟩ <;> rfl
  generalize corOk ⟨ci, cp, ct, cv, cr, cd, cb, cbt, lg, cc, ys, ns, ms⟩ = ok at *
  have S0 : Hid (w6.drew.cell? ⟨px, 0, none⟩ = some (.int .i64 ci) ∧ w6.drew.cell? ⟨px, 1, none⟩ = some (.int .i64 cp) ∧ w6.drew.cell? ⟨px, 2, none⟩ = some (.int .i64 ct) ∧ w6.drew.cell? ⟨px, 3, none⟩ = some (.int .i64 cv) ∧ w6.drew.cell? ⟨px, 4, none⟩ = some (.int .i64 cr) ∧ w6.drew.cell? ⟨px, 5, none⟩ = some (.int .i64 cd) ∧ w6.drew.cell? ⟨px, 6, none⟩ = some (.int .i64 cb) ∧ w6.drew.cell? ⟨px, 7, none⟩ = some (.int .i64 cbt) ∧ w6.drew.cell? ⟨px, 8, none⟩ = some (.slice D0 p0 d0) ∧ w6.drew.cell? ⟨px, 9, none⟩ = some (.int .i64 cc) ∧ w6.drew.cell? ⟨px, 10, none⟩ = some (.slice D1 p1 d1) ∧ w6.drew.cell? ⟨px, 11, none⟩ = some (.slice D2 p2 d2) ∧ w6.drew.cell? ⟨px, 12, none⟩ = some (.slice D3 p3 d3) ∧ w6.drew.cell? ⟨w.heap.size, 0, none⟩ = some (.int .i64 ci) ∧ w6.drew.cell? ⟨w.heap.size, 1, none⟩ = some (.int .i64 cp) ∧ w6.drew.cell? ⟨w.heap.size, 2, none⟩ = some (.int .i64 ct) ∧ w6.drew.cell? ⟨w.heap.size, 3, none⟩ = some (.int .i64 cv) ∧ w6.drew.cell? ⟨w.heap.size, 4, none⟩ = some (.int .i64 cr) ∧ w6.drew.cell? ⟨w.heap.size, 5, none⟩ = some (.int .i64 cd) ∧ w6.drew.cell? ⟨w.heap.size, 6, none⟩ = some (.int .i64 cb) ∧ w6.drew.cell? ⟨w.heap.size, 7, none⟩ = some (.int .i64 cbt) ∧ w6.drew.cell? ⟨w.heap.size, 8, none⟩ = some (.slice A0 m0 c0) ∧ w6.drew.cell? ⟨w.heap.size, 9, none⟩ = some (.int .i64 cc) ∧ w6.drew.cell? ⟨w.heap.size, 10, none⟩ = some (.slice A1 m1 c1) ∧ w6.drew.cell? ⟨w.heap.size, 11, none⟩ = some (.slice A2 m2 c2) ∧ w6.drew.cell? ⟨w.heap.size, 12, none⟩ = some (.slice A3 m3 c3)) := ⟨Xw6.out.cell 0 _ rfl, Xw6.out.cell 1 _ rfl, Xw6.out.cell 2 _ rfl, Xw6.out.cell 3 _ rfl, Xw6.out.cell 4 _ rfl, Xw6.out.cell 5 _ rfl, Xw6.out.cell 6 _ rfl, Xw6.out.cell 7 _ rfl, Xw6.out.cell 8 _ rfl, Xw6.out.cell 9 _ rfl, Xw6.out.cell 10 _ rfl, Xw6.out.cell 11 _ rfl, Xw6.out.cell 12 _ rfl, Kw6.out.cell 0 _ rfl, Kw6.out.cell 1 _ rfl, Kw6.out.cell 2 _ rfl, Kw6.out.cell 3 _ rfl, Kw6.out.cell 4 _ rfl, Kw6.out.cell 5 _ rfl, Kw6.out.cell 6 _ rfl, Kw6.out.cell 7 _ rfl, Kw6.out.cell 8 _ rfl, Kw6.out.cell 9 _ rfl, Kw6.out.cell 10 _ rfl, Kw6.out.cell 11 _ rfl, Kw6.out.cell 12 _ rfl⟩
  go_wp2_with fail
  refine wp_region_until (fun w' => w'.cell? ⟨px, 0, none⟩ = some (.int .i64 ci) ∧ w'.cell? ⟨px, 1, none⟩ = some (.int .i64 cp) ∧ w'.cell? ⟨px, 2, none⟩ = some (.int .i64 ct) ∧ w'.cell? ⟨px, 3, none⟩ = some (.int .i64 cv) ∧ w'.cell? ⟨px, 4, none⟩ = some (.int .i64 cr) ∧ w'.cell? ⟨px, 5, none⟩ = some (.int .i64 cd) ∧ w'.cell? ⟨px, 6, none⟩ = some (.int .i64 cb) ∧ w'.cell? ⟨px, 7, none⟩ = some (.int .i64 cbt) ∧ w'.cell? ⟨px, 8, none⟩ = some (.slice D0 p0 d0) ∧ w'.cell? ⟨px, 9, none⟩ = some (.int .i64 cc) ∧ w'.cell? ⟨px, 10, none⟩ = some (.slice D1 p1 d1) ∧ w'.cell? ⟨px, 11, none⟩ = some (.slice D2 p2 d2) ∧ w'.cell? ⟨px, 12, none⟩ = some (.slice D3 p3 d3) ∧ w'.cell? ⟨w.heap.size, 0, none⟩ = some (.int .i64 ci) ∧ w'.cell? ⟨w.heap.size, 1, none⟩ = some (.int .i64 cp) ∧ w'.cell? ⟨w.heap.size, 2, none⟩ = some (.int .i64 ct) ∧ w'.cell? ⟨w.heap.size, 3, none⟩ = some (.int .i64 cv) ∧ w'.cell? ⟨w.heap.size, 4, none⟩ = some (.int .i64 cr) ∧ w'.cell? ⟨w.heap.size, 5, none⟩ = some (.int .i64 cd) ∧ w'.cell? ⟨w.heap.size, 6, none⟩ = some (.int .i64 cb) ∧ w'.cell? ⟨w.heap.size, 7, none⟩ = some (.int .i64 cbt) ∧ w'.cell? ⟨w.heap.size, 8, none⟩ = some (.slice A0 m0 c0) ∧ w'.cell? ⟨w.heap.size, 9, none⟩ = some (.int .i64 cc) ∧ w'.cell? ⟨w.heap.size, 10, none⟩ = some (.slice A1 m1 c1) ∧ w'.cell? ⟨w.heap.size, 11, none⟩ = some (.slice A2 m2 c2) ∧ w'.cell? ⟨w.heap.size, 12, none⟩ = some (.slice A3 m3 c3)) (fun i => false) 5 (by rfl) (by kernel_rfl) ?_
  refine tF 0 S0.out ?_
  refine tF 1 S0.out ?_
  refine until_one 2 (by rfl) (by kernel_rfl) (fun K hK => ?_)
  go_simp
  refine (cT HW.out _ w6.drew (HV.out.on Bw6.out.drew) Bw6.out.size).mono ?_
  rintro e Q1 ⟨yr, rfl, hO7, hb7⟩
  have hb71 : Below w6.heap.size w6 Q1 := (Below.refl _ w6).drew.trans hb7
  have BQ1 : Hid (Below w.heap.size w Q1) := Bw6.out.trans (hb71.mono Bw6.out.size)
  have KQ1 := Hid.mk (Kw6.out.on hb71 Kw6.out.lt)
  have XQ1 := Hid.mk (Xw6.out.on hb71 Xw6.out.lt)
  have cE2 := eqCore ⟨ci, cp, ct, cv, cr, cd, cb, cbt, lg, cc, ys, ns, ms⟩ (.agg #[.int .i64 ci, .int .i64 cp, .int .i64 ct, .int .i64 cv, .int .i64 cr, .int .i64 cd, .int .i64 cb, .int .i64 cbt, .slice D0 p0 d0, .int .i64 cc, .slice D1 p1 d1, .slice D2 p2 d2, .slice D3 p3 d3]) yr Q1 Q1.heap.size (Ow6.out.on hb71).lies hO7.lies HSh.out (Nat.le_refl _)
  have H71 := Hid.mk hb71
  obtain ⟨z0, z1, z2, z3, rfl, _⟩ := hO7
  unfold vCo
  simp only
  unfold vCo at cE2
  simp only at cE2
  clear hb7 hb71
  go_wp2_with fail
  refine hK.out _ _ (fun _ _ => ⟨XQ1.out.cell 0 _ rfl, XQ1.out.cell 1 _ rfl, XQ1.out.cell 2 _ rfl, XQ1.out.cell 3 _ rfl, XQ1.out.cell 4 _ rfl, XQ1.out.cell 5 _ rfl, XQ1.out.cell 6 _ rfl, XQ1.out.cell 7 _ rfl, XQ1.out.cell 8 _ rfl, XQ1.out.cell 9 _ rfl, XQ1.out.cell 10 _ rfl, XQ1.out.cell 11 _ rfl, XQ1.out.cell 12 _ rfl, KQ1.out.cell 0 _ rfl, KQ1.out.cell 1 _ rfl, KQ1.out.cell 2 _ rfl, KQ1.out.cell 3 _ rfl, KQ1.out.cell 4 _ rfl, KQ1.out.cell 5 _ rfl, KQ1.out.cell 6 _ rfl, KQ1.out.cell 7 _ rfl, KQ1.out.cell 8 _ rfl, KQ1.out.cell 9 _ rfl, KQ1.out.cell 10 _ rfl, KQ1.out.cell 11 _ rfl, KQ1.out.cell 12 _ rfl⟩) ?_
  clear hK K
  try simp only [Act.put, List.setIfInBounds_toArray, List.set_cons_zero, List.set_cons_succ]
  refine until_one 3 (by rfl) (by kernel_rfl) (fun K hK => ?_)
  go_simp
  refine cE2.mono ?_
  rintro e w8 ⟨rfl, hb8⟩
  have Kw8 := Hid.mk (KQ1.out.on hb8 KQ1.out.lt)
  have Xw8 := Hid.mk (XQ1.out.on hb8 XQ1.out.lt)
  have Bw8 : Hid (Below w.heap.size w w8) := BQ1.out.trans (hb8.mono BQ1.out.size)
  clear hb8 cE2
  go_wp2_with fail
  refine hK.out _ _ (fun _ _ => ⟨Xw8.out.cell 0 _ rfl, Xw8.out.cell 1 _ rfl, Xw8.out.cell 2 _ rfl, Xw8.out.cell 3 _ rfl, Xw8.out.cell 4 _ rfl, Xw8.out.cell 5 _ rfl, Xw8.out.cell 6 _ rfl, Xw8.out.cell 7 _ rfl, Xw8.out.cell 8 _ rfl, Xw8.out.cell 9 _ rfl, Xw8.out.cell 10 _ rfl, Xw8.out.cell 11 _ rfl, Xw8.out.cell 12 _ rfl, Kw8.out.cell 0 _ rfl, Kw8.out.cell 1 _ rfl, Kw8.out.cell 2 _ rfl, Kw8.out.cell 3 _ rfl, Kw8.out.cell 4 _ rfl, Kw8.out.cell 5 _ rfl, Kw8.out.cell 6 _ rfl, Kw8.out.cell 7 _ rfl, Kw8.out.cell 8 _ rfl, Kw8.out.cell 9 _ rfl, Kw8.out.cell 10 _ rfl, Kw8.out.cell 11 _ rfl, Kw8.out.cell 12 _ rfl⟩) ?_
  clear hK K KQ1 XQ1 BQ1 S0
  try simp only [Act.put, List.setIfInBounds_toArray, List.set_cons_zero, List.set_cons_succ]
  refine pF 4 ?_
  refine until_done (by kernel_rfl) ?_ _
  clear Kw8 Xw8
  go_wp2_with fail
  go_ret
  exact ⟨rfl, Bw8.out⟩
end Go.Proofs.Ytjejcpieajeflaa
