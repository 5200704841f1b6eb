/- CoS5 CoEs -/
import Derived.Test.YtlhoonohpfpkbaaRows
import Derived.Deep.Cut
import Derived.Handy
import Derived.Test.YtlhoonohpfpkbaaQz19
import Derived.Test.YtlhoonohpfpkbaaQz15
import Derived.Deep.CutRange
import Derived.Test.YtlhoonohpfpkbaaQp0
import Derived.Test.YtlhoonohpfpkbaaQp1
import Derived.Test.YtlhoonohpfpkbaaQp2
import Derived.Test.YtlhoonohpfpkbaaQp3
import Derived.Test.YtlhoonohpfpkbaaQp4
import Derived.Test.YtlhoonohpfpkbaaQp5
import Derived.Test.YtlhoonohpfpkbaaQp6
import Derived.Test.YtlhoonohpfpkbaaQp7
import Derived.Test.YtlhoonohpfpkbaaQp8
import Derived.Test.YtlhoonohpfpkbaaQp9
import Derived.Test.YtlhoonohpfpkbaaQp10
import Derived.Test.YtlhoonohpfpkbaaQp11
import Derived.Test.YtlhoonohpfpkbaaQp12
open List (setIfInBounds_toArray set_cons_zero set_cons_succ)
namespace Go.Proofs.Ytlhoonohpfpkbaa
open Go.ChangeShapes Go.WideShapes Go.ChangeAt Go.RowKit Go.PlainAid
set_option linter.unusedVariables false
end Go.Proofs.Ytlhoonohpfpkbaa
namespace Go.Proofs.Ytlhoonohpfpkbaa
open Go.ChangeShapes Go.WideShapes Go.ChangeAt Go.RowKit Go.PlainAid
set_option linter.unusedVariables false
set_option maxRecDepth 20000 in
set_option maxHeartbeats 16000000 in
theorem specElect (ci cp ct cv cr cd cb cbt : Int) (lg : List Ent) (cc : Int) (ys ns ms : List Int) (u0 u1 u2 u3 : Value) (w : World) (base0 : Nat) (hr : CoRows w base0 ⟨ci, cp, ct, cv, cr, cd, cb, cbt, lg, cc, ys, ns, ms⟩ u0 u1 u2 u3) (hs : ShortC ⟨ci, cp, ct, cv, cr, cd, cb, cbt, lg, cc, ys, ns, ms⟩) :
  Calls Try.prog 7 #[.agg #[.int .i64 ci, .int .i64 cp, .int .i64 ct, .int .i64 cv, .int .i64 cr, .int .i64 cd, .int .i64 cb, .int .i64 cbt, u0, .int .i64 cc, u1, u2, u3]] w fun e w' => (∃ u us, e = .returned (.tuple #[u, us]) ∧ CoMs w' w.heap.size u us (electX ⟨ci, cp, ct, cv, cr, cd, cb, cbt, lg, cc, ys, ns, ms⟩).1 (electX ⟨ci, cp, ct, cv, cr, cd, cb, cbt, lg, cc, ys, ns, ms⟩).2) ∧ Below w.heap.size w w' := by
 have HR : Hid (CoRows w base0 ⟨ci, cp, ct, cv, cr, cd, cb, cbt, lg, cc, ys, ns, ms⟩ u0 u1 u2 u3) := hr
 have HS : Hid (ShortC ⟨ci, cp, ct, cv, cr, cd, cb, cbt, lg, cc, ys, ns, ms⟩) := hs
 obtain ⟨A0, Ac0, A1, Ac1, A2, Ac2, A3, Ac3, rfl, rfl, rfl, rfl⟩ := hr.shape
 simp only at HR ⊢
 generalize lg.length = An0 at HR ⊢
 generalize ys.length = An1 at HR ⊢
 generalize ns.length = An2 at HR ⊢
 generalize ms.length = An3 at HR ⊢
 clear hr hs
 have HX0 : Hid (corOk ⟨ci, cp, ct, cv, cr, cd, cb, cbt, lg, cc, ys, ns, ms⟩ = false → electX ⟨ci, cp, ct, cv, cr, cd, cb, cbt, lg, cc, ys, ns, ms⟩ = (⟨0, 0, 0, 0, 0, 0, 0, 0, [], 0, [], [], []⟩, [])) := electX_no
 have HX1 : Hid (corOk ⟨ci, cp, ct, cv, cr, cd, cb, cbt, lg, cc, ys, ns, ms⟩ = true → electX ⟨ci, cp, ct, cv, cr, cd, cb, cbt, lg, cc, ys, ns, ms⟩ = electR ⟨ci, cp, ct, cv, cr, cd, cb, cbt, lg, cc, ys, ns, ms⟩) := electX_yes
 obtain ⟨W0, hW0⟩ : ∃ W0, W0 = ((w.alloc (.cells #[.int .i64 ci, .int .i64 cp, .int .i64 ct, .int .i64 cv, .int .i64 cr, .int .i64 cd, .int .i64 cb, .int .i64 cbt, .slice A0 An0 Ac0, .int .i64 cc, .slice A1 An1 Ac1, .slice A2 An2 Ac2, .slice A3 An3 Ac3] 29)).alloc (.cells #[.int .i64 0, .int .i64 0, .int .i64 0, .int .i64 0, .int .i64 0, .int .i64 0, .int .i64 0, .int .i64 0, .slice none 0 0, .int .i64 0, .slice none 0 0, .slice none 0 0, .slice none 0 0] 29)).alloc (.cells #[] 48) := ⟨_, rfl⟩
 have B0 : Hid (Below w.heap.size w W0) := by unfold Hid; rw [hW0]; exact (((Below.refl _ w).alloc (Nat.le_refl _) _).alloc (by simp) _).alloc (by simp; omega) _
 have K0 : Hid (Blk W0 w.heap.size #[.int .i64 ci, .int .i64 cp, .int .i64 ct, .int .i64 cv, .int .i64 cr, .int .i64 cd, .int .i64 cb, .int .i64 cbt, .slice A0 An0 Ac0, .int .i64 cc, .slice A1 An1 Ac1, .slice A2 An2 Ac2, .slice A3 An3 Ac3] 29) := by unfold Hid; rw [hW0]; exact ((Blk.new w _ _).alloc _).alloc _
 have R0 : Hid (Blk W0 (w.heap.size + 1) #[.int .i64 0, .int .i64 0, .int .i64 0, .int .i64 0, .int .i64 0, .int .i64 0, .int .i64 0, .int .i64 0, .slice none 0 0, .int .i64 0, .slice none 0 0, .slice none 0 0, .slice none 0 0] 29) := by unfold Hid; rw [hW0]; have := (Blk.new (w.alloc (.cells #[.int .i64 ci, .int .i64 cp, .int .i64 ct, .int .i64 cv, .int .i64 cr, .int .i64 cd, .int .i64 cb, .int .i64 cbt, .slice A0 An0 Ac0, .int .i64 cc, .slice A1 An1 Ac1, .slice A2 An2 Ac2, .slice A3 An3 Ac3] 29)) #[.int .i64 0, .int .i64 0, .int .i64 0, .int .i64 0, .int .i64 0, .int .i64 0, .int .i64 0, .int .i64 0, .slice none 0 0, .int .i64 0, .slice none 0 0, .slice none 0 0, .slice none 0 0] 29).alloc (.cells #[] 48); simp only [World.size_alloc] at this; exact this
 have OM0 : Hid (Owns W0 (w.heap.size + 2) 48 10 (.slice (some ⟨w.heap.size + 2, 0, none⟩) 0 0) (mgR [])) := by unfold Hid; rw [hW0]; have := Owns.empty ((w.alloc (.cells #[.int .i64 ci, .int .i64 cp, .int .i64 ct, .int .i64 cv, .int .i64 cr, .int .i64 cd, .int .i64 cb, .int .i64 cbt, .slice A0 An0 Ac0, .int .i64 cc, .slice A1 An1 Ac1, .slice A2 An2 Ac2, .slice A3 An3 Ac3] 29)).alloc (.cells #[.int .i64 0, .int .i64 0, .int .i64 0, .int .i64 0, .int .i64 0, .int .i64 0, .int .i64 0, .int .i64 0, .slice none 0 0, .int .i64 0, .slice none 0 0, .slice none 0 0, .slice none 0 0] 29)) (w.heap.size + 2) 48 10 (by simp); simp only [World.size_alloc] at this; exact this
 have HZ0 : Hid (w.heap.size + 3 ≤ W0.heap.size) := by unfold Hid; rw [hW0]; simp
 have hok := specCoreOk ⟨ci, cp, ct, cv, cr, cd, cb, cbt, lg, cc, ys, ns, ms⟩ (.agg #[.int .i64 ci, .int .i64 cp, .int .i64 ct, .int .i64 cv, .int .i64 cr, .int .i64 cd, .int .i64 cb, .int .i64 cbt, .slice A0 An0 Ac0, .int .i64 cc, .slice A1 An1 Ac1, .slice A2 An2 Ac2, .slice A3 An3 Ac3]) W0 W0.heap.size (HR.out.on B0.out).lies HS.out (Nat.le_refl _)
 go_enter Try.func7, Try.ntmps7
 go_wp2_with fail
 rw [← hW0]
 clear hW0
 refine hok.mono ?_
 rintro e W1 ⟨rfl, hb⟩
 have B1 : Hid (Below w.heap.size w W1) := B0.out.trans (hb.mono B0.out.size)
 have K1 : Hid (Blk W1 w.heap.size #[.int .i64 ci, .int .i64 cp, .int .i64 ct, .int .i64 cv, .int .i64 cr, .int .i64 cd, .int .i64 cb, .int .i64 cbt, .slice A0 An0 Ac0, .int .i64 cc, .slice A1 An1 Ac1, .slice A2 An2 Ac2, .slice A3 An3 Ac3] 29) := K0.out.on hb K0.out.lt
 have R1 : Hid (Blk W1 (w.heap.size + 1) #[.int .i64 0, .int .i64 0, .int .i64 0, .int .i64 0, .int .i64 0, .int .i64 0, .int .i64 0, .int .i64 0, .slice none 0 0, .int .i64 0, .slice none 0 0, .slice none 0 0, .slice none 0 0] 29) := R0.out.on hb R0.out.lt
 have OM1 := Hid.mk (OM0.out.on hb)
 have HZ1 : Hid (w.heap.size + 3 ≤ W1.heap.size) := Nat.le_trans HZ0.out hb.size
 clear hok hb K0 R0 B0 HZ0 OM0
 cases hc : corOk ⟨ci, cp, ct, cv, cr, cd, cb, cbt, lg, cc, ys, ns, ms⟩
 ·have HE := Hid.mk (HX0.out hc)
  clear K1 hc HX0 HX1
  obtain ⟨⟨r0, g0⟩, ⟨r1, g1⟩, ⟨r2, g2⟩, ⟨r3, g3⟩, ⟨r4, g4⟩, ⟨r5, g5⟩, ⟨r6, g6⟩, ⟨r7, g7⟩, ⟨r8, g8⟩, ⟨r9, g9⟩, ⟨r10, g10⟩, ⟨r11, g11⟩, ⟨r12, g12⟩, z0, z1, z2, z3, z4, z5, z6, z7, z8, z9, z10, z11, z12⟩ := resC13 (x0 := .int .i64 0) (x1 := .int .i64 0) (x2 := .int .i64 0) (x3 := .int .i64 0) (x4 := .int .i64 0) (x5 := .int .i64 0) (x6 := .int .i64 0) (x7 := .int .i64 0) (x8 := .slice none 0 0) (x9 := .int .i64 0) (x10 := .slice none 0 0) (x11 := .slice none 0 0) (x12 := .slice none 0 0) R1.out
  have FB := Hid.mk (belowC13 B1.out (show w.heap.size ≤ w.heap.size + 1 by omega) (.int .i64 0) (.int .i64 0) (.int .i64 0) (.int .i64 0) (.int .i64 0) (.int .i64 0) (.int .i64 0) (.int .i64 0) (.slice none 0 0) (.int .i64 0) (.slice none 0 0) (.slice none 0 0) (.slice none 0 0))
  have FM : Hid (MsO (((((((((((((W1.setCell ⟨w.heap.size + 1, 0, none⟩ (.int .i64 0)).setCell ⟨w.heap.size + 1, 1, none⟩ (.int .i64 0)).setCell ⟨w.heap.size + 1, 2, none⟩ (.int .i64 0)).setCell ⟨w.heap.size + 1, 3, none⟩ (.int .i64 0)).setCell ⟨w.heap.size + 1, 4, none⟩ (.int .i64 0)).setCell ⟨w.heap.size + 1, 5, none⟩ (.int .i64 0)).setCell ⟨w.heap.size + 1, 6, none⟩ (.int .i64 0)).setCell ⟨w.heap.size + 1, 7, none⟩ (.int .i64 0)).setCell ⟨w.heap.size + 1, 8, none⟩ (.slice none 0 0)).setCell ⟨w.heap.size + 1, 9, none⟩ (.int .i64 0)).setCell ⟨w.heap.size + 1, 10, none⟩ (.slice none 0 0)).setCell ⟨w.heap.size + 1, 11, none⟩ (.slice none 0 0)).setCell ⟨w.heap.size + 1, 12, none⟩ (.slice none 0 0)) w.heap.size (.slice (some ⟨w.heap.size + 2, 0, none⟩) 0 0) []) := (rowsM13 (bs := w.heap.size + 2) (g := w.heap.size + 1) ⟨OM1.out, fun p hp => (by cases hp), List.Pairwise.nil⟩ (by omega) (.int .i64 0) (.int .i64 0) (.int .i64 0) (.int .i64 0) (.int .i64 0) (.int .i64 0) (.int .i64 0) (.int .i64 0) (.slice none 0 0) (.int .i64 0) (.slice none 0 0) (.slice none 0 0) (.slice none 0 0)).mono (by omega)
  go_wp2_with fail
  refine bodyPost_ret (v := .tuple #[.agg #[.int .i64 0, .int .i64 0, .int .i64 0, .int .i64 0, .int .i64 0, .int .i64 0, .int .i64 0, .int .i64 0, .slice none 0 0, .int .i64 0, .slice none 0 0, .slice none 0 0, .slice none 0 0], .slice (some ⟨w.heap.size + 2, 0, none⟩) 0 0]) (by simp [results, go_sem, z0, z1, z2, z3, z4, z5, z6, z7, z8, z9, z10, z11, z12]) rfl ⟨⟨_, _, rfl, ?_⟩, FB.out⟩
  rw [HE.out]
  exact ⟨_, _, _, _, [], rfl, ⟨.inl ⟨rfl, none, 0, rfl, fun _ => rfl⟩, Nums.nil _ _, Nums.nil _ _, Nums.nil _ _, fun g h => (by cases h), fun g h => (by cases h), fun g h => (by cases h)⟩, FM.out, rfl, fun q hq => (by cases hq)⟩
 have HOK : Hid (COk ⟨ci, cp, ct, cv, cr, cd, cb, cbt, lg, cc, ys, ns, ms⟩) := corOk_ok hc
 have HE1 := Hid.mk (HX1.out hc)
 clear hc HX0 HX1
 have y0 := K1.out.cell 0 _ rfl
 have y1 := K1.out.cell 1 _ rfl
 have y2 := K1.out.cell 2 _ rfl
 have y3 := K1.out.cell 3 _ rfl
 have y4 := K1.out.cell 4 _ rfl
 have y5 := K1.out.cell 5 _ rfl
 have y6 := K1.out.cell 6 _ rfl
 have y7 := K1.out.cell 7 _ rfl
 have y8 := K1.out.cell 8 _ rfl
 have y9 := K1.out.cell 9 _ rfl
 have y10 := K1.out.cell 10 _ rfl
 have y11 := K1.out.cell 11 _ rfl
 have y12 := K1.out.cell 12 _ rfl
 have hcp := copyCoSW ci cp ct cv cr cd cb cbt lg cc ys ns ms (.slice A0 An0 Ac0) (.slice A1 An1 Ac1) (.slice A2 An2 Ac2) (.slice A3 An3 Ac3) W1 W1.heap.size base0 (HR.out.on B1.out).l.lies (HR.out.on B1.out).y (HR.out.on B1.out).n (HR.out.on B1.out).m HS.out (Nat.le_refl _)
 go_wp2_with fail
 refine hcp.mono ?_
 rintro e W2 ⟨uu, rfl, hO, hb⟩
 obtain ⟨D0, Bn0, Bc0, D1, Bn1, Bc1, D2, Bn2, Bc2, D3, Bn3, Bc3, rfl, hO'⟩ := hO.1.sh
 have hOL := hO.2 _ _ _ _ rfl
 unfold vCo
 simp only
 have BW2 : Hid (Below w.heap.size w W2) := B1.out.trans (hb.mono B1.out.size)
 have K2 : Hid (Blk W2 w.heap.size #[.int .i64 ci, .int .i64 cp, .int .i64 ct, .int .i64 cv, .int .i64 cr, .int .i64 cd, .int .i64 cb, .int .i64 cbt, .slice A0 An0 Ac0, .int .i64 cc, .slice A1 An1 Ac1, .slice A2 An2 Ac2, .slice A3 An3 Ac3] 29) := K1.out.on hb K1.out.lt
 have R2 : Hid (Blk W2 (w.heap.size + 1) #[.int .i64 0, .int .i64 0, .int .i64 0, .int .i64 0, .int .i64 0, .int .i64 0, .int .i64 0, .int .i64 0, .slice none 0 0, .int .i64 0, .slice none 0 0, .slice none 0 0, .slice none 0 0] 29) := R1.out.on hb R1.out.lt
 have OM2 := Hid.mk (OM1.out.on hb)
 have HZ2 : Hid (w.heap.size + 3 ≤ W2.heap.size) := Nat.le_trans HZ1.out hb.size
 have O2 : Hid (CoRows W2 (w.heap.size + 3) ⟨ci, cp, ct, cv, cr, cd, cb, cbt, lg, cc, ys, ns, ms⟩ (.slice D0 Bn0 Bc0) (.slice D1 Bn1 Bc1) (.slice D2 Bn2 Bc2) (.slice D3 Bn3 Bc3)) := hO'.mono HZ1.out
 have OL2 : Hid (Owns W2 (w.heap.size + 3) 71 2 (.slice D0 Bn0 Bc0) (entR lg)) := hOL.mono HZ1.out
 clear hcp hb hO hO' hOL R1 HZ1 K1 B1 OM1 y0 y1 y2 y3 y4 y5 y6 y7 y8 y9 y10 y11 y12
 obtain ⟨⟨r0, g0⟩, ⟨r1, g1⟩, ⟨r2, g2⟩, ⟨r3, g3⟩, ⟨r4, g4⟩, ⟨r5, g5⟩, ⟨r6, g6⟩, ⟨r7, g7⟩, ⟨r8, g8⟩, ⟨r9, g9⟩, ⟨r10, g10⟩, ⟨r11, g11⟩, ⟨r12, g12⟩, z0, z1, z2, z3, z4, z5, z6, z7, z8, z9, z10, z11, z12⟩ := resC13 (x0 := .int .i64 ci) (x1 := .int .i64 cp) (x2 := .int .i64 ct) (x3 := .int .i64 cv) (x4 := .int .i64 cr) (x5 := .int .i64 cd) (x6 := .int .i64 cb) (x7 := .int .i64 cbt) (x8 := .slice D0 Bn0 Bc0) (x9 := .int .i64 cc) (x10 := .slice D1 Bn1 Bc1) (x11 := .slice D2 Bn2 Bc2) (x12 := .slice D3 Bn3 Bc3) K2.out
 obtain ⟨Y, hY⟩ : ∃ Y, Y = (((((((((((((W2.setCell ⟨w.heap.size, 0, none⟩ (.int .i64 ci)).setCell ⟨w.heap.size, 1, none⟩ (.int .i64 cp)).setCell ⟨w.heap.size, 2, none⟩ (.int .i64 ct)).setCell ⟨w.heap.size, 3, none⟩ (.int .i64 cv)).setCell ⟨w.heap.size, 4, none⟩ (.int .i64 cr)).setCell ⟨w.heap.size, 5, none⟩ (.int .i64 cd)).setCell ⟨w.heap.size, 6, none⟩ (.int .i64 cb)).setCell ⟨w.heap.size, 7, none⟩ (.int .i64 cbt)).setCell ⟨w.heap.size, 8, none⟩ (.slice D0 Bn0 Bc0)).setCell ⟨w.heap.size, 9, none⟩ (.int .i64 cc)).setCell ⟨w.heap.size, 10, none⟩ (.slice D1 Bn1 Bc1)).setCell ⟨w.heap.size, 11, none⟩ (.slice D2 Bn2 Bc2)).setCell ⟨w.heap.size, 12, none⟩ (.slice D3 Bn3 Bc3)) := ⟨_, rfl⟩
 have KY : Hid (Blk Y w.heap.size #[.int .i64 ci, .int .i64 cp, .int .i64 ct, .int .i64 cv, .int .i64 cr, .int .i64 cd, .int .i64 cb, .int .i64 cbt, .slice D0 Bn0 Bc0, .int .i64 cc, .slice D1 Bn1 Bc1, .slice D2 Bn2 Bc2, .slice D3 Bn3 Bc3] 29) := by unfold Hid; rw [hY]; exact blkC13 K2.out
 have RY : Hid (Blk Y (w.heap.size + 1) #[.int .i64 0, .int .i64 0, .int .i64 0, .int .i64 0, .int .i64 0, .int .i64 0, .int .i64 0, .int .i64 0, .slice none 0 0, .int .i64 0, .slice none 0 0, .slice none 0 0, .slice none 0 0] 29) := by unfold Hid; rw [hY]; exact otherC13 R2.out (by omega) (.int .i64 ci) (.int .i64 cp) (.int .i64 ct) (.int .i64 cv) (.int .i64 cr) (.int .i64 cd) (.int .i64 cb) (.int .i64 cbt) (.slice D0 Bn0 Bc0) (.int .i64 cc) (.slice D1 Bn1 Bc1) (.slice D2 Bn2 Bc2) (.slice D3 Bn3 Bc3)
 have OY : Hid (CoRows Y (w.heap.size + 3) ⟨ci, cp, ct, cv, cr, cd, cb, cbt, lg, cc, ys, ns, ms⟩ (.slice D0 Bn0 Bc0) (.slice D1 Bn1 Bc1) (.slice D2 Bn2 Bc2) (.slice D3 Bn3 Bc3)) := by unfold Hid; rw [hY]; exact rowsC13 O2.out (by omega) (.int .i64 ci) (.int .i64 cp) (.int .i64 ct) (.int .i64 cv) (.int .i64 cr) (.int .i64 cd) (.int .i64 cb) (.int .i64 cbt) (.slice D0 Bn0 Bc0) (.int .i64 cc) (.slice D1 Bn1 Bc1) (.slice D2 Bn2 Bc2) (.slice D3 Bn3 Bc3)
 have OLY : Hid (Owns Y (w.heap.size + 3) 71 2 (.slice D0 Bn0 Bc0) (entR lg)) := by unfold Hid; rw [hY]; exact ownsM13 OL2.out (by omega) (.int .i64 ci) (.int .i64 cp) (.int .i64 ct) (.int .i64 cv) (.int .i64 cr) (.int .i64 cd) (.int .i64 cb) (.int .i64 cbt) (.slice D0 Bn0 Bc0) (.int .i64 cc) (.slice D1 Bn1 Bc1) (.slice D2 Bn2 Bc2) (.slice D3 Bn3 Bc3)
 have OMY : Hid (Owns Y (w.heap.size + 2) 48 10 (.slice (some ⟨w.heap.size + 2, 0, none⟩) 0 0) (mgR [])) := by unfold Hid; rw [hY]; exact ownsM13 OM2.out (by omega) (.int .i64 ci) (.int .i64 cp) (.int .i64 ct) (.int .i64 cv) (.int .i64 cr) (.int .i64 cd) (.int .i64 cb) (.int .i64 cbt) (.slice D0 Bn0 Bc0) (.int .i64 cc) (.slice D1 Bn1 Bc1) (.slice D2 Bn2 Bc2) (.slice D3 Bn3 Bc3)
 have BY : Hid (Below w.heap.size w Y) := by unfold Hid; rw [hY]; exact belowC13 BW2.out (Nat.le_refl _) (.int .i64 ci) (.int .i64 cp) (.int .i64 ct) (.int .i64 cv) (.int .i64 cr) (.int .i64 cd) (.int .i64 cb) (.int .i64 cbt) (.slice D0 Bn0 Bc0) (.int .i64 cc) (.slice D1 Bn1 Bc1) (.slice D2 Bn2 Bc2) (.slice D3 Bn3 Bc3)
 have ZY : Hid (w.heap.size + 3 ≤ Y.heap.size) := by
  have := (OMY.out.lt (w.heap.size + 2) rfl).2
  unfold Hid
  omega
 clear K2 R2 O2 OL2 OM2 BW2 HZ2
 go_upto_region 5 with fail
 rw [← hY]
 clear hY r0 g0 z0 r1 g1 z1 r2 g2 z2 r3 g3 z3 r4 g4 z4 r5 g5 z5 r6 g6 z6 r7 g7 z7 r8 g8 z8 r9 g9 z9 r10 g10 z10 r11 g11 z11 r12 g12 z12
 obtain ⟨ww0, ww1, ww2, ww3, ww4, ww5, ww6⟩ := walOk_in HOK.out.1.w
 simp only [corW] at ww0 ww2 ww3 ww4 ww5
 have hpp : 1 ≤ cp ∧ cp ≤ 5 := HOK.out.1.p
 have hii : 0 ≤ ci ∧ ci ≤ cp - 1 := HOK.out.1.i
 have hcc : cb ≤ cc ∧ cc ≤ cb + (lg.length : Int) := HOK.out.1.c
 have hct : 0 ≤ ct ∧ ct ≤ 100000 := ww0
 have k4 := KY.out.cell 4 _ rfl
 have k2 := KY.out.cell 2 _ rfl
 by_cases hr3 : cr = 3
 ·have HE : Hid (electX ⟨ci, cp, ct, cv, cr, cd, cb, cbt, lg, cc, ys, ns, ms⟩ = (⟨ci, cp, ct, cv, cr, cd, cb, cbt, lg, cc, ys, ns, ms⟩, [])) := by unfold Hid; rw [HE1.out]; exact electR_no (x := ⟨ci, cp, ct, cv, cr, cd, cb, cbt, lg, cc, ys, ns, ms⟩) (.inl hr3)
  have z1 : (cr == 3) = true := beq_iff_eq.2 hr3
  clear HE1 HOK ww0 ww1 ww2 ww3 ww4 ww5 ww6 hpp hii hcc hct hr3
  have y0 := KY.out.cell 0 _ rfl
  have y1 := KY.out.cell 1 _ rfl
  have y2 := KY.out.cell 2 _ rfl
  have y3 := KY.out.cell 3 _ rfl
  have y4 := KY.out.cell 4 _ rfl
  have y5 := KY.out.cell 5 _ rfl
  have y6 := KY.out.cell 6 _ rfl
  have y7 := KY.out.cell 7 _ rfl
  have y8 := KY.out.cell 8 _ rfl
  have y9 := KY.out.cell 9 _ rfl
  have y10 := KY.out.cell 10 _ rfl
  have y11 := KY.out.cell 11 _ rfl
  have y12 := KY.out.cell 12 _ rfl
  obtain ⟨⟨r0, g0⟩, ⟨r1, g1⟩, ⟨r2, g2⟩, ⟨r3, g3⟩, ⟨r4, g4⟩, ⟨r5, g5⟩, ⟨r6, g6⟩, ⟨r7, g7⟩, ⟨r8, g8⟩, ⟨r9, g9⟩, ⟨r10, g10⟩, ⟨r11, g11⟩, ⟨r12, g12⟩, z0, z1, z2, z3, z4, z5, z6, z7, z8, z9, z10, z11, z12⟩ := resC13 (x0 := .int .i64 ci) (x1 := .int .i64 cp) (x2 := .int .i64 ct) (x3 := .int .i64 cv) (x4 := .int .i64 cr) (x5 := .int .i64 cd) (x6 := .int .i64 cb) (x7 := .int .i64 cbt) (x8 := .slice D0 Bn0 Bc0) (x9 := .int .i64 cc) (x10 := .slice D1 Bn1 Bc1) (x11 := .slice D2 Bn2 Bc2) (x12 := .slice D3 Bn3 Bc3) RY.out
  have FB := Hid.mk (belowC13 BY.out (show w.heap.size ≤ w.heap.size + 1 by omega) (.int .i64 ci) (.int .i64 cp) (.int .i64 ct) (.int .i64 cv) (.int .i64 cr) (.int .i64 cd) (.int .i64 cb) (.int .i64 cbt) (.slice D0 Bn0 Bc0) (.int .i64 cc) (.slice D1 Bn1 Bc1) (.slice D2 Bn2 Bc2) (.slice D3 Bn3 Bc3))
  have FM : Hid (MsO (((((((((((((Y.setCell ⟨w.heap.size + 1, 0, none⟩ (.int .i64 ci)).setCell ⟨w.heap.size + 1, 1, none⟩ (.int .i64 cp)).setCell ⟨w.heap.size + 1, 2, none⟩ (.int .i64 ct)).setCell ⟨w.heap.size + 1, 3, none⟩ (.int .i64 cv)).setCell ⟨w.heap.size + 1, 4, none⟩ (.int .i64 cr)).setCell ⟨w.heap.size + 1, 5, none⟩ (.int .i64 cd)).setCell ⟨w.heap.size + 1, 6, none⟩ (.int .i64 cb)).setCell ⟨w.heap.size + 1, 7, none⟩ (.int .i64 cbt)).setCell ⟨w.heap.size + 1, 8, none⟩ (.slice D0 Bn0 Bc0)).setCell ⟨w.heap.size + 1, 9, none⟩ (.int .i64 cc)).setCell ⟨w.heap.size + 1, 10, none⟩ (.slice D1 Bn1 Bc1)).setCell ⟨w.heap.size + 1, 11, none⟩ (.slice D2 Bn2 Bc2)).setCell ⟨w.heap.size + 1, 12, none⟩ (.slice D3 Bn3 Bc3)) w.heap.size (.slice (some ⟨w.heap.size + 2, 0, none⟩) 0 0) []) := (rowsM13 (bs := w.heap.size + 2) (g := w.heap.size + 1) ⟨OMY.out, fun p hp => (by cases hp), List.Pairwise.nil⟩ (by omega) (.int .i64 ci) (.int .i64 cp) (.int .i64 ct) (.int .i64 cv) (.int .i64 cr) (.int .i64 cd) (.int .i64 cb) (.int .i64 cbt) (.slice D0 Bn0 Bc0) (.int .i64 cc) (.slice D1 Bn1 Bc1) (.slice D2 Bn2 Bc2) (.slice D3 Bn3 Bc3)).mono (by omega)
  have FO := Hid.mk (rowsC13 OY.out (show w.heap.size + 1 < w.heap.size + 3 by omega) (.int .i64 ci) (.int .i64 cp) (.int .i64 ct) (.int .i64 cv) (.int .i64 cr) (.int .i64 cd) (.int .i64 cb) (.int .i64 cbt) (.slice D0 Bn0 Bc0) (.int .i64 cc) (.slice D1 Bn1 Bc1) (.slice D2 Bn2 Bc2) (.slice D3 Bn3 Bc3))
  go_wp2_with fail
  refine bodyPost_ret (v := .tuple #[.agg #[.int .i64 ci, .int .i64 cp, .int .i64 ct, .int .i64 cv, .int .i64 cr, .int .i64 cd, .int .i64 cb, .int .i64 cbt, .slice D0 Bn0 Bc0, .int .i64 cc, .slice D1 Bn1 Bc1, .slice D2 Bn2 Bc2, .slice D3 Bn3 Bc3], .slice (some ⟨w.heap.size + 2, 0, none⟩) 0 0]) (by simp [results, go_sem, z0, z1, z2, z3, z4, z5, z6, z7, z8, z9, z10, z11, z12]) rfl ⟨⟨_, _, rfl, ?_⟩, FB.out⟩
  rw [HE.out]
  exact ⟨_, _, _, _, [], rfl, FO.out.mono (by omega), FM.out, rfl, fun q hq => (by cases hq)⟩
 have z1 : (cr == 3) = false := beq_eq_false_iff_ne.2 hr3
 by_cases hm3 : ct = 100000
 ·have HE : Hid (electX ⟨ci, cp, ct, cv, cr, cd, cb, cbt, lg, cc, ys, ns, ms⟩ = (⟨ci, cp, ct, cv, cr, cd, cb, cbt, lg, cc, ys, ns, ms⟩, [])) := by unfold Hid; rw [HE1.out]; exact electR_no (x := ⟨ci, cp, ct, cv, cr, cd, cb, cbt, lg, cc, ys, ns, ms⟩) (.inr hm3)
  have z2 : decide ((100000 : Int) ≤ ct) = true := decide_eq_true (by omega)
  clear HE1 HOK ww0 ww1 ww2 ww3 ww4 ww5 ww6 hpp hii hcc hct hm3
  have y0 := KY.out.cell 0 _ rfl
  have y1 := KY.out.cell 1 _ rfl
  have y2 := KY.out.cell 2 _ rfl
  have y3 := KY.out.cell 3 _ rfl
  have y4 := KY.out.cell 4 _ rfl
  have y5 := KY.out.cell 5 _ rfl
  have y6 := KY.out.cell 6 _ rfl
  have y7 := KY.out.cell 7 _ rfl
  have y8 := KY.out.cell 8 _ rfl
  have y9 := KY.out.cell 9 _ rfl
  have y10 := KY.out.cell 10 _ rfl
  have y11 := KY.out.cell 11 _ rfl
  have y12 := KY.out.cell 12 _ rfl
  obtain ⟨⟨r0, g0⟩, ⟨r1, g1⟩, ⟨r2, g2⟩, ⟨r3, g3⟩, ⟨r4, g4⟩, ⟨r5, g5⟩, ⟨r6, g6⟩, ⟨r7, g7⟩, ⟨r8, g8⟩, ⟨r9, g9⟩, ⟨r10, g10⟩, ⟨r11, g11⟩, ⟨r12, g12⟩, z0, z1, z2, z3, z4, z5, z6, z7, z8, z9, z10, z11, z12⟩ := resC13 (x0 := .int .i64 ci) (x1 := .int .i64 cp) (x2 := .int .i64 ct) (x3 := .int .i64 cv) (x4 := .int .i64 cr) (x5 := .int .i64 cd) (x6 := .int .i64 cb) (x7 := .int .i64 cbt) (x8 := .slice D0 Bn0 Bc0) (x9 := .int .i64 cc) (x10 := .slice D1 Bn1 Bc1) (x11 := .slice D2 Bn2 Bc2) (x12 := .slice D3 Bn3 Bc3) RY.out
  have FB := Hid.mk (belowC13 BY.out (show w.heap.size ≤ w.heap.size + 1 by omega) (.int .i64 ci) (.int .i64 cp) (.int .i64 ct) (.int .i64 cv) (.int .i64 cr) (.int .i64 cd) (.int .i64 cb) (.int .i64 cbt) (.slice D0 Bn0 Bc0) (.int .i64 cc) (.slice D1 Bn1 Bc1) (.slice D2 Bn2 Bc2) (.slice D3 Bn3 Bc3))
  have FM : Hid (MsO (((((((((((((Y.setCell ⟨w.heap.size + 1, 0, none⟩ (.int .i64 ci)).setCell ⟨w.heap.size + 1, 1, none⟩ (.int .i64 cp)).setCell ⟨w.heap.size + 1, 2, none⟩ (.int .i64 ct)).setCell ⟨w.heap.size + 1, 3, none⟩ (.int .i64 cv)).setCell ⟨w.heap.size + 1, 4, none⟩ (.int .i64 cr)).setCell ⟨w.heap.size + 1, 5, none⟩ (.int .i64 cd)).setCell ⟨w.heap.size + 1, 6, none⟩ (.int .i64 cb)).setCell ⟨w.heap.size + 1, 7, none⟩ (.int .i64 cbt)).setCell ⟨w.heap.size + 1, 8, none⟩ (.slice D0 Bn0 Bc0)).setCell ⟨w.heap.size + 1, 9, none⟩ (.int .i64 cc)).setCell ⟨w.heap.size + 1, 10, none⟩ (.slice D1 Bn1 Bc1)).setCell ⟨w.heap.size + 1, 11, none⟩ (.slice D2 Bn2 Bc2)).setCell ⟨w.heap.size + 1, 12, none⟩ (.slice D3 Bn3 Bc3)) w.heap.size (.slice (some ⟨w.heap.size + 2, 0, none⟩) 0 0) []) := (rowsM13 (bs := w.heap.size + 2) (g := w.heap.size + 1) ⟨OMY.out, fun p hp => (by cases hp), List.Pairwise.nil⟩ (by omega) (.int .i64 ci) (.int .i64 cp) (.int .i64 ct) (.int .i64 cv) (.int .i64 cr) (.int .i64 cd) (.int .i64 cb) (.int .i64 cbt) (.slice D0 Bn0 Bc0) (.int .i64 cc) (.slice D1 Bn1 Bc1) (.slice D2 Bn2 Bc2) (.slice D3 Bn3 Bc3)).mono (by omega)
  have FO := Hid.mk (rowsC13 OY.out (show w.heap.size + 1 < w.heap.size + 3 by omega) (.int .i64 ci) (.int .i64 cp) (.int .i64 ct) (.int .i64 cv) (.int .i64 cr) (.int .i64 cd) (.int .i64 cb) (.int .i64 cbt) (.slice D0 Bn0 Bc0) (.int .i64 cc) (.slice D1 Bn1 Bc1) (.slice D2 Bn2 Bc2) (.slice D3 Bn3 Bc3))
  go_wp2_with fail
  refine bodyPost_ret (v := .tuple #[.agg #[.int .i64 ci, .int .i64 cp, .int .i64 ct, .int .i64 cv, .int .i64 cr, .int .i64 cd, .int .i64 cb, .int .i64 cbt, .slice D0 Bn0 Bc0, .int .i64 cc, .slice D1 Bn1 Bc1, .slice D2 Bn2 Bc2, .slice D3 Bn3 Bc3], .slice (some ⟨w.heap.size + 2, 0, none⟩) 0 0]) (by simp [results, go_sem, z0, z1, z2, z3, z4, z5, z6, z7, z8, z9, z10, z11, z12]) rfl ⟨⟨_, _, rfl, ?_⟩, FB.out⟩
  rw [HE.out]
  exact ⟨_, _, _, _, [], rfl, FO.out.mono (by omega), FM.out, rfl, fun q hq => (by cases hq)⟩
 have z2 : decide ((100000 : Int) ≤ ct) = false := decide_eq_false (by omega)
 have hno : ¬ (cr = 3 ∨ ct = 100000) := fun h => h.elim hr3 hm3
 have hnn : ns.length = 0 ∧ ms.length = 0 := by
  rcases HOK.out.2 with ⟨_, h⟩ | ⟨_, h⟩ | ⟨h, _⟩
  ·exact ⟨h.n, h.m⟩
  ·exact ⟨h.n, h.m⟩
  ·exact absurd h hr3
 obtain rfl : ns = [] := List.eq_nil_of_length_eq_zero hnn.1
 obtain rfl : ms = [] := List.eq_nil_of_length_eq_zero hnn.2
 have hss := HS.out
 have HLd : Hid (SendOk (leadC ⟨ci, cp, (ct + 1), ci, 2, -1, cb, cbt, lg, cc, [ci], [], []⟩)) := SendOk.led ⟨hss.n, hss.d, by simp, Nat.zero_le _, Nat.zero_le _⟩ ww2.1 ww2.2 ww4 hpp.1 hpp.2 hii.1 (show ci < cp by omega) hcc
 have HOn : Hid (cp = 1 → electX ⟨ci, cp, ct, cv, cr, cd, cb, cbt, lg, cc, ys, [], []⟩ = (putC (leadC ⟨ci, cp, (ct + 1), ci, 2, -1, cb, cbt, lg, cc, [ci], [], []⟩) ⟨#[]⟩, toAll (putC (leadC ⟨ci, cp, (ct + 1), ci, 2, -1, cb, cbt, lg, cc, [ci], [], []⟩) ⟨#[]⟩))) := fun h => by rw [HE1.out]; exact electR_one (x := ⟨ci, cp, ct, cv, cr, cd, cb, cbt, lg, cc, ys, [], []⟩) hno h
 have HAl : Hid (¬ cp = 1 → electX ⟨ci, cp, ct, cv, cr, cd, cb, cbt, lg, cc, ys, [], []⟩ = (⟨ci, cp, (ct + 1), ci, 2, -1, cb, cbt, lg, cc, [ci], [], []⟩, (othL ci cp.toNat).map (voteM ⟨ci, cp, (ct + 1), ci, 2, -1, cb, cbt, lg, cc, [ci], [], []⟩))) := fun h => by rw [HE1.out]; exact electR_all (x := ⟨ci, cp, ct, cv, cr, cd, cb, cbt, lg, cc, ys, [], []⟩) hno h
 have hln : Bn0 = lg.length := by
  obtain ⟨A', c', e⟩ := OY.out.l.shape
  rw [entR_length] at e
  cases e
  rfl
 have HL6 : Hid (lg.length ≤ 60) := ww4
 have HCb : Hid (0 ≤ cb ∧ cb ≤ 100000) := ww2
 have wt : IntKind.i64.wrap (ct + 1) = ct + 1 := by rw [IntKind.wrap_i64]; omega
 obtain ⟨n, hn⟩ : ∃ n : Nat, cp = (n : Int) := ⟨cp.toNat, by omega⟩
 subst hn
 have hn5 : n ≤ 5 := by omega
 have HGl : Hid (Bn0 = lg.length) := hln
 go_upto_region 7 with fail
 clear HE1 HOK HS HR hss hnn hno hr3 hm3 ww0 ww1 ww2 ww3 ww4 ww5 ww6 hpp hii hcc hct k4 k2 z1 z2 hln
 have y2 := KY.out.cell 2 _ rfl
 have f2 := KY.out.free 2
 have o2 := KY.out.cell 2 _ rfl
 obtain ⟨T1, hT1⟩ : ∃ W, W = Y.setCell ⟨w.heap.size, 2, none⟩ (.int .i64 (ct + 1)) := ⟨_, rfl⟩
 have KT1 : Hid (Blk T1 w.heap.size #[.int .i64 ci, .int .i64 (n : Int), .int .i64 (ct + 1), .int .i64 cv, .int .i64 cr, .int .i64 cd, .int .i64 cb, .int .i64 cbt, .slice D0 Bn0 Bc0, .int .i64 cc, .slice D1 Bn1 Bc1, .slice D2 Bn2 Bc2, .slice D3 Bn3 Bc3] 29) := by unfold Hid; rw [hT1]; exact KY.out.set 2 _
 have RT1 : Hid (Blk T1 (w.heap.size + 1) #[.int .i64 0, .int .i64 0, .int .i64 0, .int .i64 0, .int .i64 0, .int .i64 0, .int .i64 0, .int .i64 0, .slice none 0 0, .int .i64 0, .slice none 0 0, .slice none 0 0, .slice none 0 0] 29) := by unfold Hid; rw [hT1]; exact RY.out.other (by omega) 2 _
 have OT1 : Hid (CoRows T1 (w.heap.size + 3) ⟨ci, (n : Int), ct, cv, cr, cd, cb, cbt, lg, cc, ys, [], []⟩ (.slice D0 Bn0 Bc0) (.slice D1 Bn1 Bc1) (.slice D2 Bn2 Bc2) (.slice D3 Bn3 Bc3)) := by unfold Hid; rw [hT1]; exact OY.out.low (by omega)
 have OLT1 : Hid (Owns T1 (w.heap.size + 3) 71 2 (.slice D0 Bn0 Bc0) (entR lg)) := by unfold Hid; rw [hT1]; exact OLY.out.lowM (by omega)
 have OMT1 : Hid (Owns T1 (w.heap.size + 2) 48 10 (.slice (some ⟨w.heap.size + 2, 0, none⟩) 0 0) (mgR [])) := by unfold Hid; rw [hT1]; exact OMY.out.lowM (by omega)
 have BT1 : Hid (Below w.heap.size w T1) := by unfold Hid; rw [hT1]; exact BY.out.setCell (Nat.le_refl _) _
 go_upto_region 8 with fail
 rw [← hT1]
 clear hT1 f2 o2 KY RY OY OLY OMY BY y2
 have y0 := KT1.out.cell 0 _ rfl
 have f3 := KT1.out.free 3
 have o3 := KT1.out.cell 3 _ rfl
 obtain ⟨T2, hT2⟩ : ∃ W, W = T1.setCell ⟨w.heap.size, 3, none⟩ (.int .i64 ci) := ⟨_, rfl⟩
 have KT2 : Hid (Blk T2 w.heap.size #[.int .i64 ci, .int .i64 (n : Int), .int .i64 (ct + 1), .int .i64 ci, .int .i64 cr, .int .i64 cd, .int .i64 cb, .int .i64 cbt, .slice D0 Bn0 Bc0, .int .i64 cc, .slice D1 Bn1 Bc1, .slice D2 Bn2 Bc2, .slice D3 Bn3 Bc3] 29) := by unfold Hid; rw [hT2]; exact KT1.out.set 3 _
 have RT2 : Hid (Blk T2 (w.heap.size + 1) #[.int .i64 0, .int .i64 0, .int .i64 0, .int .i64 0, .int .i64 0, .int .i64 0, .int .i64 0, .int .i64 0, .slice none 0 0, .int .i64 0, .slice none 0 0, .slice none 0 0, .slice none 0 0] 29) := by unfold Hid; rw [hT2]; exact RT1.out.other (by omega) 3 _
 have OT2 : Hid (CoRows T2 (w.heap.size + 3) ⟨ci, (n : Int), ct, cv, cr, cd, cb, cbt, lg, cc, ys, [], []⟩ (.slice D0 Bn0 Bc0) (.slice D1 Bn1 Bc1) (.slice D2 Bn2 Bc2) (.slice D3 Bn3 Bc3)) := by unfold Hid; rw [hT2]; exact OT1.out.low (by omega)
 have OLT2 : Hid (Owns T2 (w.heap.size + 3) 71 2 (.slice D0 Bn0 Bc0) (entR lg)) := by unfold Hid; rw [hT2]; exact OLT1.out.lowM (by omega)
 have OMT2 : Hid (Owns T2 (w.heap.size + 2) 48 10 (.slice (some ⟨w.heap.size + 2, 0, none⟩) 0 0) (mgR [])) := by unfold Hid; rw [hT2]; exact OMT1.out.lowM (by omega)
 have BT2 : Hid (Below w.heap.size w T2) := by unfold Hid; rw [hT2]; exact BT1.out.setCell (Nat.le_refl _) _
 go_upto_region 9 with fail
 rw [← hT2]
 clear hT2 f3 o3 KT1 RT1 OT1 OLT1 OMT1 BT1 y0
 have f4 := KT2.out.free 4
 have o4 := KT2.out.cell 4 _ rfl
 obtain ⟨T3, hT3⟩ : ∃ W, W = T2.setCell ⟨w.heap.size, 4, none⟩ (.int .i64 2) := ⟨_, rfl⟩
 have KT3 : Hid (Blk T3 w.heap.size #[.int .i64 ci, .int .i64 (n : Int), .int .i64 (ct + 1), .int .i64 ci, .int .i64 2, .int .i64 cd, .int .i64 cb, .int .i64 cbt, .slice D0 Bn0 Bc0, .int .i64 cc, .slice D1 Bn1 Bc1, .slice D2 Bn2 Bc2, .slice D3 Bn3 Bc3] 29) := by unfold Hid; rw [hT3]; exact KT2.out.set 4 _
 have RT3 : Hid (Blk T3 (w.heap.size + 1) #[.int .i64 0, .int .i64 0, .int .i64 0, .int .i64 0, .int .i64 0, .int .i64 0, .int .i64 0, .int .i64 0, .slice none 0 0, .int .i64 0, .slice none 0 0, .slice none 0 0, .slice none 0 0] 29) := by unfold Hid; rw [hT3]; exact RT2.out.other (by omega) 4 _
 have OT3 : Hid (CoRows T3 (w.heap.size + 3) ⟨ci, (n : Int), ct, cv, cr, cd, cb, cbt, lg, cc, ys, [], []⟩ (.slice D0 Bn0 Bc0) (.slice D1 Bn1 Bc1) (.slice D2 Bn2 Bc2) (.slice D3 Bn3 Bc3)) := by unfold Hid; rw [hT3]; exact OT2.out.low (by omega)
 have OLT3 : Hid (Owns T3 (w.heap.size + 3) 71 2 (.slice D0 Bn0 Bc0) (entR lg)) := by unfold Hid; rw [hT3]; exact OLT2.out.lowM (by omega)
 have OMT3 : Hid (Owns T3 (w.heap.size + 2) 48 10 (.slice (some ⟨w.heap.size + 2, 0, none⟩) 0 0) (mgR [])) := by unfold Hid; rw [hT3]; exact OMT2.out.lowM (by omega)
 have BT3 : Hid (Below w.heap.size w T3) := by unfold Hid; rw [hT3]; exact BT2.out.setCell (Nat.le_refl _) _
 go_upto_region 10 with fail
 rw [← hT3]
 clear hT3 f4 o4 KT2 RT2 OT2 OLT2 OMT2 BT2 
 have f5 := KT3.out.free 5
 have o5 := KT3.out.cell 5 _ rfl
 obtain ⟨T4, hT4⟩ : ∃ W, W = T3.setCell ⟨w.heap.size, 5, none⟩ (.int .i64 (-1)) := ⟨_, rfl⟩
 have KT4 : Hid (Blk T4 w.heap.size #[.int .i64 ci, .int .i64 (n : Int), .int .i64 (ct + 1), .int .i64 ci, .int .i64 2, .int .i64 (-1), .int .i64 cb, .int .i64 cbt, .slice D0 Bn0 Bc0, .int .i64 cc, .slice D1 Bn1 Bc1, .slice D2 Bn2 Bc2, .slice D3 Bn3 Bc3] 29) := by unfold Hid; rw [hT4]; exact KT3.out.set 5 _
 have RT4 : Hid (Blk T4 (w.heap.size + 1) #[.int .i64 0, .int .i64 0, .int .i64 0, .int .i64 0, .int .i64 0, .int .i64 0, .int .i64 0, .int .i64 0, .slice none 0 0, .int .i64 0, .slice none 0 0, .slice none 0 0, .slice none 0 0] 29) := by unfold Hid; rw [hT4]; exact RT3.out.other (by omega) 5 _
 have OT4 : Hid (CoRows T4 (w.heap.size + 3) ⟨ci, (n : Int), ct, cv, cr, cd, cb, cbt, lg, cc, ys, [], []⟩ (.slice D0 Bn0 Bc0) (.slice D1 Bn1 Bc1) (.slice D2 Bn2 Bc2) (.slice D3 Bn3 Bc3)) := by unfold Hid; rw [hT4]; exact OT3.out.low (by omega)
 have OLT4 : Hid (Owns T4 (w.heap.size + 3) 71 2 (.slice D0 Bn0 Bc0) (entR lg)) := by unfold Hid; rw [hT4]; exact OLT3.out.lowM (by omega)
 have OMT4 : Hid (Owns T4 (w.heap.size + 2) 48 10 (.slice (some ⟨w.heap.size + 2, 0, none⟩) 0 0) (mgR [])) := by unfold Hid; rw [hT4]; exact OMT3.out.lowM (by omega)
 have BT4 : Hid (Below w.heap.size w T4) := by unfold Hid; rw [hT4]; exact BT3.out.setCell (Nat.le_refl _) _
 go_upto_region 11 with fail
 rw [← hT4]
 clear hT4 f5 o5 KT3 RT3 OT3 OLT3 OMT3 BT3 
 have y0 := KT4.out.cell 0 _ rfl
 have ZT4 : Hid (w.heap.size + 3 ≤ T4.heap.size) := by
  have := (OMT4.out.lt (w.heap.size + 2) rfl).2
  unfold Hid
  omega
 have bV : Below T4.heap.size T4 (T4.alloc (.cells #[.int .i64 ci] 3)) := (Below.refl _ _).alloc (Nat.le_refl _) _
 have KV := Hid.mk (KT4.out.on bV KT4.out.lt)
 have f10 := KV.out.free 10
 have o10 := KV.out.cell 10 _ rfl
 obtain ⟨gy, hgy⟩ : ∃ g, g = T4.heap.size := ⟨_, rfl⟩
 obtain ⟨T5, hT5⟩ : ∃ W, W = (T4.alloc (.cells #[.int .i64 ci] 3)).setCell ⟨w.heap.size, 10, none⟩ (.slice (some ⟨T4.heap.size, 0, none⟩) 1 1) := ⟨_, rfl⟩
 have E5 : Hid (Nums (T4.alloc (.cells #[.int .i64 ci] 3)) T4.heap.size (.slice (some ⟨gy, 0, none⟩) 1 1) [ci]) := by unfold Hid; rw [hgy]; exact Nums.one T4 _ ci (Nat.le_refl _)
 have KT5 : Hid (Blk T5 w.heap.size #[.int .i64 ci, .int .i64 (n : Int), .int .i64 (ct + 1), .int .i64 ci, .int .i64 2, .int .i64 (-1), .int .i64 cb, .int .i64 cbt, .slice D0 Bn0 Bc0, .int .i64 cc, .slice (some ⟨gy, 0, none⟩) 1 1, .slice D2 Bn2 Bc2, .slice D3 Bn3 Bc3] 29) := by unfold Hid; rw [hT5, hgy]; exact KV.out.set 10 _
 have RT5 : Hid (Blk T5 (w.heap.size + 1) #[.int .i64 0, .int .i64 0, .int .i64 0, .int .i64 0, .int .i64 0, .int .i64 0, .int .i64 0, .int .i64 0, .slice none 0 0, .int .i64 0, .slice none 0 0, .slice none 0 0, .slice none 0 0] 29) := by unfold Hid; rw [hT5]; exact (RT4.out.on bV RT4.out.lt).other (by omega) 10 _
 have NY5 : Hid (Nums T5 (w.heap.size + 3) (.slice (some ⟨gy, 0, none⟩) 1 1) [ci]) := by unfold Hid; rw [hT5]; exact (E5.out.mono ZT4.out).low (by omega)
 have O45 : Hid (CoRows T5 (w.heap.size + 3) ⟨ci, (n : Int), ct, cv, cr, cd, cb, cbt, lg, cc, ys, [], []⟩ (.slice D0 Bn0 Bc0) (.slice D1 Bn1 Bc1) (.slice D2 Bn2 Bc2) (.slice D3 Bn3 Bc3)) := by unfold Hid; rw [hT5]; exact (OT4.out.on bV).low (by omega)
 have OT5 : Hid (CoRows T5 (w.heap.size + 3) ⟨ci, (n : Int), (ct + 1), ci, 2, -1, cb, cbt, lg, cc, [ci], [], []⟩ (.slice D0 Bn0 Bc0) (.slice (some ⟨gy, 0, none⟩) 1 1) (.slice D2 Bn2 Bc2) (.slice D3 Bn3 Bc3)) := ⟨O45.out.l, NY5.out, O45.out.n, O45.out.m, (OT4.out.n.apart E5.out (Nat.le_refl _)).symm, (OT4.out.m.apart E5.out (Nat.le_refl _)).symm, O45.out.nm⟩
 have OLT5 : Hid (Owns T5 (w.heap.size + 3) 71 2 (.slice D0 Bn0 Bc0) (entR lg)) := by unfold Hid; rw [hT5]; exact (OLT4.out.on bV).lowM (by omega)
 have OMT5 : Hid (Owns T5 (w.heap.size + 2) 48 10 (.slice (some ⟨w.heap.size + 2, 0, none⟩) 0 0) (mgR [])) := by unfold Hid; rw [hT5]; exact (OMT4.out.on bV).lowM (by omega)
 have BT5 : Hid (Below w.heap.size w T5) := by unfold Hid; rw [hT5]; exact (BT4.out.trans (bV.mono BT4.out.size)).setCell (Nat.le_refl _) _
 have ZT5 : Hid (w.heap.size + 3 ≤ T5.heap.size) := by
  have := (OMT5.out.lt (w.heap.size + 2) rfl).2
  have h2 := (NY5.out.lt gy rfl)
  unfold Hid
  omega
 go_upto_region 12 with fail
 rw [← hT5]
 clear hT5 hgy bV KV f10 o10 E5 NY5 O45 KT4 RT4 OT4 OLT4 OMT4 BT4 ZT4 y0
 have y10 := KT5.out.cell 10 _ rfl
 have y1 := KT5.out.cell 1 _ rfl
 by_cases hp1 : n = 1
 ·have HE0 := Hid.mk (HOn.out (by omega))
  have z3 : decide ((n : Int) < 2) = true := decide_eq_true (by omega)
  have z4 : decide ((n : Int) < 2 * 1) = true := decide_eq_true (by omega)
  have z5 : decide (n < 2) = true := decide_eq_true (by omega)
  have z6 : n < 2 := by omega
  clear y10 y1
  have y0 := KT5.out.cell 0 _ rfl
  have y1 := KT5.out.cell 1 _ rfl
  have y2 := KT5.out.cell 2 _ rfl
  have y3 := KT5.out.cell 3 _ rfl
  have y4 := KT5.out.cell 4 _ rfl
  have y5 := KT5.out.cell 5 _ rfl
  have y6 := KT5.out.cell 6 _ rfl
  have y7 := KT5.out.cell 7 _ rfl
  have y8 := KT5.out.cell 8 _ rfl
  have y9 := KT5.out.cell 9 _ rfl
  have y10 := KT5.out.cell 10 _ rfl
  have y11 := KT5.out.cell 11 _ rfl
  have y12 := KT5.out.cell 12 _ rfl
  have cLd := leadS ci n (ct + 1) ci 2 (-1) cb cbt lg cc [ci] [] [] D0 Bn0 Bc0 (some ⟨gy, 0, none⟩) 1 1 D2 Bn2 Bc2 D3 Bn3 Bc3 T5 (w.heap.size + 3) OT5.out OLT5.out HLd.out ZT5.out
  clear HOn HAl HLd HL6 HCb HGl hp1 hn5
  go_wp2_with fail
  refine cLd.mono ?_
  rintro e Z1 ⟨⟨u, us, rfl, ul, uy, un, um, L, rfl, hO, hM, hLM, hAp⟩, hbz⟩
  have RZ := Hid.mk (RT5.out.on hbz (show w.heap.size + 1 < w.heap.size + 3 by omega))
  have BZ : Hid (Below w.heap.size w Z1) := BT5.out.trans (hbz.mono (by omega))
  clear hbz cLd KT5 RT5 OT5 OLT5 OMT5 BT5 ZT5 y0 y1 y2 y3 y4 y5 y6 y7 y8 y9 y10 y11 y12
  have HE : Hid (electX ⟨ci, (n : Int), ct, cv, cr, cd, cb, cbt, lg, cc, ys, [], []⟩ = (putC (leadC ⟨ci, (n : Int), (ct + 1), ci, 2, -1, cb, cbt, lg, cc, [ci], [], []⟩) ⟨#[]⟩, toAll (putC (leadC ⟨ci, (n : Int), (ct + 1), ci, 2, -1, cb, cbt, lg, cc, [ci], [], []⟩) ⟨#[]⟩))) := HE0.out
  clear HE0
  generalize putC (leadC ⟨ci, (n : Int), (ct + 1), ci, 2, -1, cb, cbt, lg, cc, [ci], [], []⟩) ⟨#[]⟩ = xc at *
  obtain ⟨G0, Gc0, G1, Gc1, G2, Gc2, G3, Gc3, rfl, rfl, rfl, rfl⟩ := hO.shape
  obtain ⟨e0, e1, e2, e3, e4, e5, e6, e7, el, e9, ey, en, em⟩ := xc
  simp only at hO hAp ⊢
  generalize el.length = Gn0 at *
  generalize ey.length = Gn1 at *
  generalize en.length = Gn2 at *
  generalize em.length = Gn3 at *
  obtain ⟨Ae, me, ce, rfl⟩ := hM.r.shape
  have HO := Hid.mk hO
  have HM := Hid.mk hM
  have HLM : Hid (L.map Prod.fst = toAll ⟨e0, e1, e2, e3, e4, e5, e6, e7, el, e9, ey, en, em⟩) := hLM
  have HAp := Hid.mk hAp
  clear hO hM hLM hAp
  unfold vCo
  simp only
  obtain ⟨Z2, hZ2⟩ : ∃ W, W = Z1.alloc (.cells #[.int .i64 e0, .int .i64 e1, .int .i64 e2, .int .i64 e3, .int .i64 e4, .int .i64 e5, .int .i64 e6, .int .i64 e7, .slice G0 Gn0 Gc0, .int .i64 e9, .slice G1 Gn1 Gc1, .slice G2 Gn2 Gc2, .slice G3 Gn3 Gc3] 29) := ⟨_, rfl⟩
  have b2 : Below Z1.heap.size Z1 Z2 := by rw [hZ2]; exact (Below.refl _ _).alloc (Nat.le_refl _) _
  have KZ2 : Hid (Blk Z2 Z1.heap.size #[.int .i64 e0, .int .i64 e1, .int .i64 e2, .int .i64 e3, .int .i64 e4, .int .i64 e5, .int .i64 e6, .int .i64 e7, .slice G0 Gn0 Gc0, .int .i64 e9, .slice G1 Gn1 Gc1, .slice G2 Gn2 Gc2, .slice G3 Gn3 Gc3] 29) := by unfold Hid; rw [hZ2]; exact Blk.new Z1 _ _
  have RZ2 := Hid.mk (RZ.out.on b2 RZ.out.lt)
  have BZ2 : Hid (Below w.heap.size w Z2) := BZ.out.trans (b2.mono BZ.out.size)
  have HO2 := Hid.mk (HO.out.on b2)
  have HM2 := Hid.mk (HM.out.on b2)
  clear b2 RZ BZ HO HM
  go_upto_region 14 with fail
  rw [← hZ2]
  clear hZ2
  have y0 := KZ2.out.cell 0 _ rfl
  have y1 := KZ2.out.cell 1 _ rfl
  have y2 := KZ2.out.cell 2 _ rfl
  have y3 := KZ2.out.cell 3 _ rfl
  have y4 := KZ2.out.cell 4 _ rfl
  have y5 := KZ2.out.cell 5 _ rfl
  have y6 := KZ2.out.cell 6 _ rfl
  have y7 := KZ2.out.cell 7 _ rfl
  have y8 := KZ2.out.cell 8 _ rfl
  have y9 := KZ2.out.cell 9 _ rfl
  have y10 := KZ2.out.cell 10 _ rfl
  have y11 := KZ2.out.cell 11 _ rfl
  have y12 := KZ2.out.cell 12 _ rfl
  obtain ⟨⟨r0, g0⟩, ⟨r1, g1⟩, ⟨r2, g2⟩, ⟨r3, g3⟩, ⟨r4, g4⟩, ⟨r5, g5⟩, ⟨r6, g6⟩, ⟨r7, g7⟩, ⟨r8, g8⟩, ⟨r9, g9⟩, ⟨r10, g10⟩, ⟨r11, g11⟩, ⟨r12, g12⟩, z0, z1, z2, z3, z4, z5, z6, z7, z8, z9, z10, z11, z12⟩ := resC13 (x0 := .int .i64 e0) (x1 := .int .i64 e1) (x2 := .int .i64 e2) (x3 := .int .i64 e3) (x4 := .int .i64 e4) (x5 := .int .i64 e5) (x6 := .int .i64 e6) (x7 := .int .i64 e7) (x8 := .slice G0 Gn0 Gc0) (x9 := .int .i64 e9) (x10 := .slice G1 Gn1 Gc1) (x11 := .slice G2 Gn2 Gc2) (x12 := .slice G3 Gn3 Gc3) RZ2.out
  have FB := Hid.mk (belowC13 BZ2.out (show w.heap.size ≤ w.heap.size + 1 by omega) (.int .i64 e0) (.int .i64 e1) (.int .i64 e2) (.int .i64 e3) (.int .i64 e4) (.int .i64 e5) (.int .i64 e6) (.int .i64 e7) (.slice G0 Gn0 Gc0) (.int .i64 e9) (.slice G1 Gn1 Gc1) (.slice G2 Gn2 Gc2) (.slice G3 Gn3 Gc3))
  have FO := Hid.mk (rowsC13 HO2.out (show w.heap.size + 1 < w.heap.size + 3 by omega) (.int .i64 e0) (.int .i64 e1) (.int .i64 e2) (.int .i64 e3) (.int .i64 e4) (.int .i64 e5) (.int .i64 e6) (.int .i64 e7) (.slice G0 Gn0 Gc0) (.int .i64 e9) (.slice G1 Gn1 Gc1) (.slice G2 Gn2 Gc2) (.slice G3 Gn3 Gc3))
  have FM := Hid.mk (rowsM13 HM2.out (show w.heap.size + 1 < w.heap.size + 3 by omega) (.int .i64 e0) (.int .i64 e1) (.int .i64 e2) (.int .i64 e3) (.int .i64 e4) (.int .i64 e5) (.int .i64 e6) (.int .i64 e7) (.slice G0 Gn0 Gc0) (.int .i64 e9) (.slice G1 Gn1 Gc1) (.slice G2 Gn2 Gc2) (.slice G3 Gn3 Gc3))
  go_wp2_with fail
  refine bodyPost_ret (v := .tuple #[.agg #[.int .i64 e0, .int .i64 e1, .int .i64 e2, .int .i64 e3, .int .i64 e4, .int .i64 e5, .int .i64 e6, .int .i64 e7, .slice G0 Gn0 Gc0, .int .i64 e9, .slice G1 Gn1 Gc1, .slice G2 Gn2 Gc2, .slice G3 Gn3 Gc3], .slice Ae me ce]) (by simp [results, go_sem, z0, z1, z2, z3, z4, z5, z6, z7, z8, z9, z10, z11, z12]) rfl ⟨⟨_, _, rfl, ?_⟩, FB.out⟩
  rw [HE.out]
  exact ⟨_, _, _, _, L, rfl, FO.out.mono (by omega), FM.out.mono (by omega), HLM.out, HAp.out⟩
 have HE0 : Hid (electX ⟨ci, (n : Int), ct, cv, cr, cd, cb, cbt, lg, cc, ys, [], []⟩ = (⟨ci, (n : Int), (ct + 1), ci, 2, -1, cb, cbt, lg, cc, [ci], [], []⟩, (othL ci n).map (voteM ⟨ci, (n : Int), (ct + 1), ci, 2, -1, cb, cbt, lg, cc, [ci], [], []⟩))) := by
  have := HAl.out (by omega)
  rw [Int.toNat_natCast] at this
  exact this
 have z3 : decide ((n : Int) < 2) = false := decide_eq_false (by have := HLd.out.p0; have h1 : 1 ≤ (n : Int) := this; omega)
 have z4 : decide ((n : Int) < 2 * 1) = false := decide_eq_false (by have := HLd.out.p0; have h1 : 1 ≤ (n : Int) := this; omega)
 have z5 : decide (n < 2) = false := decide_eq_false (by have := HLd.out.p0; have h1 : 1 ≤ (n : Int) := this; omega)
 have z6 : ¬ n < 2 := by have := HLd.out.p0; have h1 : 1 ≤ (n : Int) := this; omega
 have hb1 := HCb.out
 have hb2 := HL6.out
 rw [← HGl.out] at hb2
 have cLr := fun wx => lastS ci (n : Int) (ct + 1) ci 2 (-1) cb cbt cc D0 Bn0 Bc0 (.slice (some ⟨gy, 0, none⟩) 1 1) (.slice D2 Bn2 Bc2) (.slice D3 Bn3 Bc3) wx (by omega) (by omega) (by omega)
 have cTr := fun wx (h : Lies wx wx.heap.size 2 (.slice D0 Bn0 Bc0) (entR lg)) => termS ci (n : Int) (ct + 1) ci 2 (-1) cb cbt lg cc [ci] [] [] D0 Bn0 Bc0 (.slice (some ⟨gy, 0, none⟩) 1 1) (.slice D2 Bn2 Bc2) (.slice D3 Bn3 Bc3) (cb + (Bn0 : Int)) wx wx.heap.size h (by have := HL6.out; omega) (by omega) (by omega) (by omega) (by have := HGl.out; omega) (Nat.le_refl _)
 have HVm : Hid (∀ t, voteM ⟨ci, (n : Int), (ct + 1), ci, 2, -1, cb, cbt, lg, cc, [ci], [], []⟩ t = ⟨1, ci, t, (ct + 1), cb + (Bn0 : Int), termAt ⟨ci, (n : Int), (ct + 1), ci, 2, -1, cb, cbt, lg, cc, [ci], [], []⟩ (cb + (Bn0 : Int)), 0, false, [], ⟨#[]⟩⟩) := fun t => by unfold voteM cLast; simp only; rw [HGl.out]
 have HY : Hid (∀ k : Nat, (k : Int) = ci → othL ci (k + 1) = othL ci k) := fun k h => othL_yes h
 have HN : Hid (∀ k : Nat, ¬ (k : Int) = ci → othL ci (k + 1) = othL ci k ++ [(k : Int)]) := fun k h => othL_no h
 have HLo : Hid (∀ k, (othL ci k).length ≤ k) := fun k => othL_len ci k
 clear HAl HOn HLd HL6 HCb HGl hp1 hb1 hb2 wt OLT5
 generalize termAt ⟨ci, (n : Int), (ct + 1), ci, 2, -1, cb, cbt, lg, cc, [ci], [], []⟩ (cb + (Bn0 : Int)) = te at *
 have M5 : Hid (MsO T5 (w.heap.size + 2) (.slice (some ⟨w.heap.size + 2, 0, none⟩) 0 0) []) := ⟨OMT5.out, fun p hp => (by cases hp), List.Pairwise.nil⟩
 clear OMT5
 go_wp2_with fail
 go_loopw [4, 7] (fun v4 v7 wr => ∃ (k : Nat) (L : List (Mg × Value)), k ≤ n ∧ v7 = .int .i64 (k : Int) ∧ MsO wr (w.heap.size + 2) v4 L ∧ L.map Prod.fst = (othL ci k).map (voteM ⟨ci, (n : Int), (ct + 1), ci, 2, -1, cb, cbt, lg, cc, [ci], [], []⟩) ∧ (∀ q ∈ L, q.2 = .slice none 0 0) ∧ CoRows wr (w.heap.size + 3) ⟨ci, (n : Int), (ct + 1), ci, 2, -1, cb, cbt, lg, cc, [ci], [], []⟩ (.slice D0 Bn0 Bc0) (.slice (some ⟨gy, 0, none⟩) 1 1) (.slice D2 Bn2 Bc2) (.slice D3 Bn3 Bc3) ∧ Below (w.heap.size + 2) T5 wr) (fun _ v _ => n - (intOf v).toNat)
 case atStart => exact ⟨0, [], by omega, rfl, M5.out, rfl, fun q hq => (by cases hq), OT5.out, Below.refl _ _⟩
 case round =>
  obtain ⟨k, L, hk, rfl, hM, hLM, hNl, hR, hb⟩ := hrel
  have HNl := Hid.mk hNl
  clear hNl
  have HM := Hid.mk hM
  have HLM : Hid (L.map Prod.fst = (othL ci k).map (voteM ⟨ci, (n : Int), (ct + 1), ci, 2, -1, cb, cbt, lg, cc, [ci], [], []⟩)) := hLM
  have HRr := Hid.mk hR
  have BR := Hid.mk hb
  have KR := Hid.mk (KT5.out.on hb (show w.heap.size < w.heap.size + 2 by omega))
  have HBr : Hid (w.heap.size + 2 ≤ wr.heap.size) := by have := ZT5.out; have := hb.size; unfold Hid; omega
  obtain ⟨Av, av, cv', rfl⟩ := hM.r.shape
  have hLl : L.length ≤ n := by
   have := congrArg List.length hLM
   rw [List.length_map, List.length_map] at this
   have := HLo.out k
   omega
  have HLl : Hid ((mgR L).length ≤ 2097152) := by unfold Hid; rw [mgR_length]; omega
  clear hM hLM hR hb hLl
  by_cases hlt : k < n
  ·have q2 : (k : Int) < (n : Int) := by omega
   have y0 := KR.out.cell 0 _ rfl
   have y1 := KR.out.cell 1 _ rfl
   by_cases he : (k : Int) = ci
   ·have e1 : ((k : Int) != ci) = false := by rw [he]; exact bne_self_eq_false _
    have HE := Hid.mk (HY.out k he)
    clear he
    go_wp2_with fail
    go_roundw
    case rel => exact ⟨k + 1, L, by omega, by go_num, HM.out, by rw [HE.out]; exact HLM.out, HNl.out, HRr.out, BR.out⟩
    case measure => simp [intOf]; omega
   ·have e1 : ((k : Int) != ci) = true := bne_iff_ne.2 he
    have HE := Hid.mk (HN.out k he)
    have HVk := Hid.mk (HVm.out (k : Int))
    clear he HVm HY HN HLo M5
    go_wp2_with fail
    clear y0 y1
    refine wp_region_until (fun w' => w'.cell? ⟨w.heap.size, 0, none⟩ = some (.int .i64 ci) ∧ w'.cell? ⟨w.heap.size, 1, none⟩ = some (.int .i64 (n : Int)) ∧ w'.cell? ⟨w.heap.size, 2, none⟩ = some (.int .i64 (ct + 1)) ∧ w'.cell? ⟨w.heap.size, 3, none⟩ = some (.int .i64 ci) ∧ w'.cell? ⟨w.heap.size, 4, none⟩ = some (.int .i64 2) ∧ w'.cell? ⟨w.heap.size, 5, none⟩ = some (.int .i64 (-1)) ∧ w'.cell? ⟨w.heap.size, 6, none⟩ = some (.int .i64 cb) ∧ w'.cell? ⟨w.heap.size, 7, none⟩ = some (.int .i64 cbt) ∧ w'.cell? ⟨w.heap.size, 8, none⟩ = some (.slice D0 Bn0 Bc0) ∧ w'.cell? ⟨w.heap.size, 9, none⟩ = some (.int .i64 cc) ∧ w'.cell? ⟨w.heap.size, 10, none⟩ = some (.slice (some ⟨gy, 0, none⟩) 1 1) ∧ w'.cell? ⟨w.heap.size, 11, none⟩ = some (.slice D2 Bn2 Bc2) ∧ w'.cell? ⟨w.heap.size, 12, none⟩ = some (.slice D3 Bn3 Bc3)) (fun _ => false) 16 (by rfl) (by kernel_rfl) ?_
    have V0 : Hid (Below wr.heap.size wr wr.drew) := (Below.refl _ _).drew
    generalize wr.drew = Y0 at *
    have P0 := Hid.mk (KR.out.on V0.out KR.out.lt)
    have SS0 := Hid.mk (show (fun w' => w'.cell? ⟨w.heap.size, 0, none⟩ = some (.int .i64 ci) ∧ w'.cell? ⟨w.heap.size, 1, none⟩ = some (.int .i64 (n : Int)) ∧ w'.cell? ⟨w.heap.size, 2, none⟩ = some (.int .i64 (ct + 1)) ∧ w'.cell? ⟨w.heap.size, 3, none⟩ = some (.int .i64 ci) ∧ w'.cell? ⟨w.heap.size, 4, none⟩ = some (.int .i64 2) ∧ w'.cell? ⟨w.heap.size, 5, none⟩ = some (.int .i64 (-1)) ∧ w'.cell? ⟨w.heap.size, 6, none⟩ = some (.int .i64 cb) ∧ w'.cell? ⟨w.heap.size, 7, none⟩ = some (.int .i64 cbt) ∧ w'.cell? ⟨w.heap.size, 8, none⟩ = some (.slice D0 Bn0 Bc0) ∧ w'.cell? ⟨w.heap.size, 9, none⟩ = some (.int .i64 cc) ∧ w'.cell? ⟨w.heap.size, 10, none⟩ = some (.slice (some ⟨gy, 0, none⟩) 1 1) ∧ w'.cell? ⟨w.heap.size, 11, none⟩ = some (.slice D2 Bn2 Bc2) ∧ w'.cell? ⟨w.heap.size, 12, none⟩ = some (.slice D3 Bn3 Bc3)) Y0 from ⟨P0.out.cell 0 _ rfl, P0.out.cell 1 _ rfl, P0.out.cell 2 _ rfl, P0.out.cell 3 _ rfl, P0.out.cell 4 _ rfl, P0.out.cell 5 _ rfl, P0.out.cell 6 _ rfl, P0.out.cell 7 _ rfl, P0.out.cell 8 _ rfl, P0.out.cell 9 _ rfl, P0.out.cell 10 _ rfl, P0.out.cell 11 _ rfl, P0.out.cell 12 _ rfl⟩)
    refine pF 0 ?_
    refine pF 1 ?_
    refine tF 2 SS0.out ?_
    refine pF 3 ?_
    refine pF 4 ?_
    refine tF 5 SS0.out ?_
    refine tF 6 SS0.out ?_
    refine tF 8 SS0.out ?_
    refine tF 9 SS0.out ?_
    refine uNe 7 (fun K hK => ?_)
    go_simp
    refine (cLr Y0).mono ?_
    rintro e Y1 ⟨rfl, hb⟩
    have V1 : Hid (Below wr.heap.size wr Y1) := V0.out.trans (hb.mono V0.out.size)
    clear hb
    have P1 := Hid.mk (KR.out.on V1.out KR.out.lt)
    refine hK.out _ _ (fun _ _ => ⟨P1.out.cell 0 _ rfl, P1.out.cell 1 _ rfl, P1.out.cell 2 _ rfl, P1.out.cell 3 _ rfl, P1.out.cell 4 _ rfl, P1.out.cell 5 _ rfl, P1.out.cell 6 _ rfl, P1.out.cell 7 _ rfl, P1.out.cell 8 _ rfl, P1.out.cell 9 _ rfl, P1.out.cell 10 _ rfl, P1.out.cell 11 _ rfl, P1.out.cell 12 _ rfl⟩) ?_
    clear hK K
    try simp only [Act.put, zQ1, zQ2, zQ3]
    refine uNe 10 (fun K hK => ?_)
    go_simp
    refine (cLr Y1).mono ?_
    rintro e Y2 ⟨rfl, hb⟩
    have V2 : Hid (Below wr.heap.size wr Y2) := V1.out.trans (hb.mono V1.out.size)
    clear hb
    have P2 := Hid.mk (KR.out.on V2.out KR.out.lt)
    refine hK.out _ _ (fun _ _ => ⟨P2.out.cell 0 _ rfl, P2.out.cell 1 _ rfl, P2.out.cell 2 _ rfl, P2.out.cell 3 _ rfl, P2.out.cell 4 _ rfl, P2.out.cell 5 _ rfl, P2.out.cell 6 _ rfl, P2.out.cell 7 _ rfl, P2.out.cell 8 _ rfl, P2.out.cell 9 _ rfl, P2.out.cell 10 _ rfl, P2.out.cell 11 _ rfl, P2.out.cell 12 _ rfl⟩) ?_
    clear hK K
    try simp only [Act.put, zQ1, zQ2, zQ3]
    refine uNe 11 (fun K hK => ?_)
    go_simp
    refine (cTr Y2 (HRr.out.on V2.out).l.lies).mono ?_
    rintro e Y3 ⟨rfl, hb⟩
    have V3 : Hid (Below wr.heap.size wr Y3) := V2.out.trans (hb.mono V2.out.size)
    clear hb
    have P3 := Hid.mk (KR.out.on V3.out KR.out.lt)
    refine hK.out _ _ (fun _ _ => ⟨P3.out.cell 0 _ rfl, P3.out.cell 1 _ rfl, P3.out.cell 2 _ rfl, P3.out.cell 3 _ rfl, P3.out.cell 4 _ rfl, P3.out.cell 5 _ rfl, P3.out.cell 6 _ rfl, P3.out.cell 7 _ rfl, P3.out.cell 8 _ rfl, P3.out.cell 9 _ rfl, P3.out.cell 10 _ rfl, P3.out.cell 11 _ rfl, P3.out.cell 12 _ rfl⟩) ?_
    clear hK K
    try simp only [Act.put, zQ1, zQ2, zQ3]
    refine pF 12 ?_
    have bz : Below Y3.heap.size Y3 (Y3.alloc (.cells #[.int .i64 1, .int .i64 ci, .int .i64 (k : Int), .int .i64 (ct + 1), .int .i64 (cb + (Bn0 : Int)), .int .i64 te, .int .i64 0, .bool false, .slice none 0 0, .string ⟨#[]⟩] 48)) := (Below.refl _ _).alloc (Nat.le_refl _) _
    have M3 := Hid.mk (HM.out.on V3.out)
    have HB3 : Hid (w.heap.size + 2 ≤ Y3.heap.size) := Nat.le_trans HBr.out V3.out.size
    obtain ⟨nA, nm, nc, Yz, r5, hO5, hb5, hk5, -⟩ := run_append_row (P := Try.prog) Y3 30 30 48 (.agg #[.int .i64 0, .int .i64 0, .int .i64 0, .int .i64 0, .int .i64 0, .int .i64 0, .int .i64 0, .bool false, .slice none 0 0, .string ⟨#[]⟩]) 10 104 Try.underlying30 Try.infoMsg rfl (by omega) (w.heap.size + 2) (.slice Av av cv') (mgR L) M3.out.r [.int .i64 1, .int .i64 ci, .int .i64 (k : Int), .int .i64 (ct + 1), .int .i64 (cb + (Bn0 : Int)), .int .i64 te, .int .i64 0, .bool false, .slice none 0 0, .string ⟨#[]⟩] rfl (msg_one ((voteM ⟨ci, (n : Int), (ct + 1), ci, 2, -1, cb, cbt, lg, cc, [ci], [], []⟩ (k : Int)), .slice none 0 0) rfl |> fun h => by rw [HVk.out] at h; exact h) HLl.out (by omega) HB3.out
    refine uNe 13 (fun K hK => ?_)
    go_simp
    refine hK.out _ _ (fun _ _ => ⟨(P3.out.on bz P3.out.lt).cell 0 _ rfl, (P3.out.on bz P3.out.lt).cell 1 _ rfl, (P3.out.on bz P3.out.lt).cell 2 _ rfl, (P3.out.on bz P3.out.lt).cell 3 _ rfl, (P3.out.on bz P3.out.lt).cell 4 _ rfl, (P3.out.on bz P3.out.lt).cell 5 _ rfl, (P3.out.on bz P3.out.lt).cell 6 _ rfl, (P3.out.on bz P3.out.lt).cell 7 _ rfl, (P3.out.on bz P3.out.lt).cell 8 _ rfl, (P3.out.on bz P3.out.lt).cell 9 _ rfl, (P3.out.on bz P3.out.lt).cell 10 _ rfl, (P3.out.on bz P3.out.lt).cell 11 _ rfl, (P3.out.on bz P3.out.lt).cell 12 _ rfl⟩) ?_
    clear hK K bz
    try simp only [Act.put, zQ1, zQ2, zQ3]
    refine uNe 14 (fun K hK => ?_)
    refine step_append_run (by rfl) (.tmp 63) (.tmp 76) 30 (by rfl) _ _ _ _ (by rfl) (by rfl) r5 ?_
    have FM : Hid (MsO Yz (w.heap.size + 2) (.slice nA nm nc) (L ++ [((voteM ⟨ci, (n : Int), (ct + 1), ci, 2, -1, cb, cbt, lg, cc, [ci], [], []⟩ (k : Int)), .slice none 0 0)])) := HM.out.snoc V3.out (by rw [HVk.out]; exact Owns.nil _ _ _ _) HBr.out (by rw [HVk.out]; exact hO5) hk5
    have R3 := Hid.mk (HRr.out.on V3.out)
    have FR : Hid (CoRows Yz (w.heap.size + 3) ⟨ci, (n : Int), (ct + 1), ci, 2, -1, cb, cbt, lg, cc, [ci], [], []⟩ (.slice D0 Bn0 Bc0) (.slice (some ⟨gy, 0, none⟩) 1 1) (.slice D2 Bn2 Bc2) (.slice D3 Bn3 Bc3)) := ⟨R3.out.l.kept fun g hg e => hk5 g hg (fun e' => by obtain ⟨cs, fz, e1⟩ := M3.out.r.kind e'; exact R3.out.l.notBlk e1 (by decide) e), R3.out.y.kept fun g hg e => hk5 g hg (fun e' => by obtain ⟨cs, fz, e1⟩ := M3.out.r.kind e'; exact R3.out.y.notBlk e1 (by decide) e), R3.out.n.kept fun g hg e => hk5 g hg (fun e' => by obtain ⟨cs, fz, e1⟩ := M3.out.r.kind e'; exact R3.out.n.notBlk e1 (by decide) e), R3.out.m.kept fun g hg e => hk5 g hg (fun e' => by obtain ⟨cs, fz, e1⟩ := M3.out.r.kind e'; exact R3.out.m.notBlk e1 (by decide) e), R3.out.yn, R3.out.ym, R3.out.nm⟩
    have FB : Hid (Below (w.heap.size + 2) T5 Yz) := (BR.out.trans (V3.out.mono HBr.out)).trans hb5
    have PZ : Hid (Blk Yz w.heap.size #[.int .i64 ci, .int .i64 (n : Int), .int .i64 (ct + 1), .int .i64 ci, .int .i64 2, .int .i64 (-1), .int .i64 cb, .int .i64 cbt, .slice D0 Bn0 Bc0, .int .i64 cc, .slice (some ⟨gy, 0, none⟩) 1 1, .slice D2 Bn2 Bc2, .slice D3 Bn3 Bc3] 29) := KT5.out.on FB.out (by omega)
    refine hK.out _ _ (fun _ _ => ⟨PZ.out.cell 0 _ rfl, PZ.out.cell 1 _ rfl, PZ.out.cell 2 _ rfl, PZ.out.cell 3 _ rfl, PZ.out.cell 4 _ rfl, PZ.out.cell 5 _ rfl, PZ.out.cell 6 _ rfl, PZ.out.cell 7 _ rfl, PZ.out.cell 8 _ rfl, PZ.out.cell 9 _ rfl, PZ.out.cell 10 _ rfl, PZ.out.cell 11 _ rfl, PZ.out.cell 12 _ rfl⟩) ?_
    clear hK K r5 hO5 hb5 hk5 R3 M3 HB3
    try simp only [Act.put, zQ1, zQ2, zQ3]
    refine pF 15 ?_
    refine until_done (by kernel_rfl) ?_ _
    clear PZ KR
    try go_wp2_with fail
    go_roundw
    case rel => exact ⟨k + 1, _, by omega, by go_num, FM.out, by rw [HE.out, List.map_append, List.map_append, HLM.out]; rfl, fun q hq => (List.mem_append.1 hq).elim (HNl.out q) (fun h => by rw [List.mem_singleton.1 h]), FR.out, FB.out⟩
    case measure => simp [intOf]; omega
  ·have hkn : n = k := by omega
   subst hkn
   have RR := Hid.mk (RT5.out.on BR.out (show w.heap.size + 1 < w.heap.size + 2 by omega))
   have BW : Hid (Below w.heap.size w wr) := BT5.out.trans (BR.out.mono (by omega))
   have y0 := KR.out.cell 0 _ rfl
   have y1 := KR.out.cell 1 _ rfl
   have y2 := KR.out.cell 2 _ rfl
   have y3 := KR.out.cell 3 _ rfl
   have y4 := KR.out.cell 4 _ rfl
   have y5 := KR.out.cell 5 _ rfl
   have y6 := KR.out.cell 6 _ rfl
   have y7 := KR.out.cell 7 _ rfl
   have y8 := KR.out.cell 8 _ rfl
   have y9 := KR.out.cell 9 _ rfl
   have y10 := KR.out.cell 10 _ rfl
   have y11 := KR.out.cell 11 _ rfl
   have y12 := KR.out.cell 12 _ rfl
   obtain ⟨⟨r0, g0⟩, ⟨r1, g1⟩, ⟨r2, g2⟩, ⟨r3, g3⟩, ⟨r4, g4⟩, ⟨r5, g5⟩, ⟨r6, g6⟩, ⟨r7, g7⟩, ⟨r8, g8⟩, ⟨r9, g9⟩, ⟨r10, g10⟩, ⟨r11, g11⟩, ⟨r12, g12⟩, z0, z1, z2, z3, z4, z5, z6, z7, z8, z9, z10, z11, z12⟩ := resC13 (x0 := .int .i64 ci) (x1 := .int .i64 (n : Int)) (x2 := .int .i64 (ct + 1)) (x3 := .int .i64 ci) (x4 := .int .i64 2) (x5 := .int .i64 (-1)) (x6 := .int .i64 cb) (x7 := .int .i64 cbt) (x8 := .slice D0 Bn0 Bc0) (x9 := .int .i64 cc) (x10 := .slice (some ⟨gy, 0, none⟩) 1 1) (x11 := .slice D2 Bn2 Bc2) (x12 := .slice D3 Bn3 Bc3) RR.out
   have FB := Hid.mk (belowC13 BW.out (show w.heap.size ≤ w.heap.size + 1 by omega) (.int .i64 ci) (.int .i64 (n : Int)) (.int .i64 (ct + 1)) (.int .i64 ci) (.int .i64 2) (.int .i64 (-1)) (.int .i64 cb) (.int .i64 cbt) (.slice D0 Bn0 Bc0) (.int .i64 cc) (.slice (some ⟨gy, 0, none⟩) 1 1) (.slice D2 Bn2 Bc2) (.slice D3 Bn3 Bc3))
   have FO := Hid.mk (rowsC13 HRr.out (show w.heap.size + 1 < w.heap.size + 3 by omega) (.int .i64 ci) (.int .i64 (n : Int)) (.int .i64 (ct + 1)) (.int .i64 ci) (.int .i64 2) (.int .i64 (-1)) (.int .i64 cb) (.int .i64 cbt) (.slice D0 Bn0 Bc0) (.int .i64 cc) (.slice (some ⟨gy, 0, none⟩) 1 1) (.slice D2 Bn2 Bc2) (.slice D3 Bn3 Bc3))
   have FM := Hid.mk (rowsM13 HM.out (show w.heap.size + 1 < w.heap.size + 2 by omega) (.int .i64 ci) (.int .i64 (n : Int)) (.int .i64 (ct + 1)) (.int .i64 ci) (.int .i64 2) (.int .i64 (-1)) (.int .i64 cb) (.int .i64 cbt) (.slice D0 Bn0 Bc0) (.int .i64 cc) (.slice (some ⟨gy, 0, none⟩) 1 1) (.slice D2 Bn2 Bc2) (.slice D3 Bn3 Bc3))
   have HAp : Hid (∀ q ∈ L, ∀ k, q.2.ownBlock = some k → blkF (.slice D0 Bn0 Bc0) ≠ some k) := fun q hq g h1 h2 => by
    rw [HNl.out q hq] at h1
    cases h1
   go_wp2_with fail
   refine bodyPost_ret (v := .tuple #[.agg #[.int .i64 ci, .int .i64 (n : Int), .int .i64 (ct + 1), .int .i64 ci, .int .i64 2, .int .i64 (-1), .int .i64 cb, .int .i64 cbt, .slice D0 Bn0 Bc0, .int .i64 cc, .slice (some ⟨gy, 0, none⟩) 1 1, .slice D2 Bn2 Bc2, .slice D3 Bn3 Bc3], .slice Av av cv']) (by simp [results, go_sem, z0, z1, z2, z3, z4, z5, z6, z7, z8, z9, z10, z11, z12]) rfl ⟨⟨_, _, rfl, ?_⟩, FB.out⟩
   rw [HE0.out]
   exact ⟨_, _, _, _, L, rfl, FO.out.mono (by omega), FM.out.mono (by omega), HLM.out, HAp.out⟩
end Go.Proofs.Ytlhoonohpfpkbaa
