/- CoEl CoSw -/
import Derived.Test.YtlhoonohpfpkbaaRows
import Derived.Test.YtlhoonohpfpkbaaQz14
import Derived.Test.YtlhoonohpfpkbaaQz10
import Derived.Deep.Cut
import Derived.Handy
import Derived.Test.YtlhoonohpfpkbaaQz12
import Derived.Test.YtlhoonohpfpkbaaQp0
import Derived.Test.YtlhoonohpfpkbaaQp1
import Derived.Test.YtlhoonohpfpkbaaQp2
import Derived.Test.YtlhoonohpfpkbaaQp3
import Derived.Test.YtlhoonohpfpkbaaQp4
import Derived.Test.YtlhoonohpfpkbaaQp5
import Derived.Test.YtlhoonohpfpkbaaQp6
import Derived.Test.YtlhoonohpfpkbaaQp7
import Derived.Test.YtlhoonohpfpkbaaQp8
import Derived.Test.YtlhoonohpfpkbaaQp9
import Derived.Test.YtlhoonohpfpkbaaQp10
import Derived.Test.YtlhoonohpfpkbaaQp11
import Derived.Test.YtlhoonohpfpkbaaQp12
namespace Go.Proofs.Ytlhoonohpfpkbaa
open Go.ChangeShapes Go.WideShapes Go.ChangeAt Go.RowKit Go.PlainAid
set_option linter.unusedVariables false
noncomputable def electX (x : Cor) : Cor × List Mg := if corOk x = true then electR x else (⟨0, 0, 0, 0, 0, 0, 0, 0, [], 0, [], [], []⟩, [])
theorem electX_yes {x : Cor} (h : corOk x = true) : electX x = electR x := if_pos h
theorem electX_no {x : Cor} (h : corOk x = false) : electX x = (⟨0, 0, 0, 0, 0, 0, 0, 0, [], 0, [], [], []⟩, []) := by unfold electX; rw [if_neg (by rw [h]; exact Bool.false_ne_true)]
set_option maxRecDepth 20000 in
set_option maxHeartbeats 4000000 in
theorem electL (ci cp ct cv cr cd cb cbt : Int) (lg : List Ent) (cc : Int) (ys ns ms : List Int) (w : World) (base p : Nat) (hsp : SpkW w base p ⟨ci, cp, ct, cv, cr, cd, cb, cbt, lg, cc, ys, ns, ms⟩ []) (hok : COk ⟨ci, cp, ct, cv, cr, cd, cb, cbt, lg, cc, ys, ns, ms⟩) (hs : ShortC ⟨ci, cp, ct, cv, cr, cd, cb, cbt, lg, cc, ys, ns, ms⟩) (hbs : base ≤ w.heap.size) :
  Calls Try.prog 30 (#[.pointer (some ⟨p, 0, none⟩)] ++ #[]) w fun e w' => e = .returned (.tuple #[]) ∧ Spk w' base p (electR ⟨ci, cp, ct, cv, cr, cd, cb, cbt, lg, cc, ys, ns, ms⟩).1 (electR ⟨ci, cp, ct, cv, cr, cd, cb, cbt, lg, cc, ys, ns, ms⟩).2 ∧ Below base w w' := by
 have cB := electI ci cp ct cv cr cd cb cbt lg cc ys ns ms w base p hsp hok hs hbs
 clear hsp hok hs
 show Calls Try.prog 30 #[.pointer (some ⟨p, 0, none⟩)] w _
 go_enter Try.func30, Try.ntmps30
 go_wp2_with fail
 refine cB.mono ?_
 rintro e wz ⟨rfl, hS, hb⟩
 have FS := Hid.mk hS
 have FB := Hid.mk hb
 clear hS hb cB
 go_wp2_with fail
 exact bodyPost_end (v := .tuple #[]) (by simp [results, go_sem]) rfl ⟨rfl, FS.out, FB.out⟩
set_option maxRecDepth 20000 in
set_option maxHeartbeats 16000000 in
theorem implElect (ci cp ct cv cr cd cb cbt : Int) (lg : List Ent) (cc : Int) (ys ns ms : List Int) (u0 u1 u2 u3 : Value) (w : World) (base0 : Nat) (hr : CoRows w base0 ⟨ci, cp, ct, cv, cr, cd, cb, cbt, lg, cc, ys, ns, ms⟩ u0 u1 u2 u3) (hs : ShortC ⟨ci, cp, ct, cv, cr, cd, cb, cbt, lg, cc, ys, ns, ms⟩) :
  Calls Try.prog 9 #[.agg #[.int .i64 ci, .int .i64 cp, .int .i64 ct, .int .i64 cv, .int .i64 cr, .int .i64 cd, .int .i64 cb, .int .i64 cbt, u0, .int .i64 cc, u1, u2, u3]] w fun e w' => (∃ u us, e = .returned (.tuple #[u, us]) ∧ CoMs w' w.heap.size u us (electX ⟨ci, cp, ct, cv, cr, cd, cb, cbt, lg, cc, ys, ns, ms⟩).1 (electX ⟨ci, cp, ct, cv, cr, cd, cb, cbt, lg, cc, ys, ns, ms⟩).2) ∧ Below w.heap.size w w' := by
 have HR : Hid (CoRows w base0 ⟨ci, cp, ct, cv, cr, cd, cb, cbt, lg, cc, ys, ns, ms⟩ u0 u1 u2 u3) := hr
 have HS : Hid (ShortC ⟨ci, cp, ct, cv, cr, cd, cb, cbt, lg, cc, ys, ns, ms⟩) := hs
 obtain ⟨A0, Ac0, A1, Ac1, A2, Ac2, A3, Ac3, rfl, rfl, rfl, rfl⟩ := hr.shape
 simp only at HR ⊢
 generalize lg.length = An0 at HR ⊢
 generalize ys.length = An1 at HR ⊢
 generalize ns.length = An2 at HR ⊢
 generalize ms.length = An3 at HR ⊢
 clear hr hs
 have HX0 : Hid (corOk ⟨ci, cp, ct, cv, cr, cd, cb, cbt, lg, cc, ys, ns, ms⟩ = false → electX ⟨ci, cp, ct, cv, cr, cd, cb, cbt, lg, cc, ys, ns, ms⟩ = (⟨0, 0, 0, 0, 0, 0, 0, 0, [], 0, [], [], []⟩, [])) := electX_no
 have HX1 : Hid (corOk ⟨ci, cp, ct, cv, cr, cd, cb, cbt, lg, cc, ys, ns, ms⟩ = true → electX ⟨ci, cp, ct, cv, cr, cd, cb, cbt, lg, cc, ys, ns, ms⟩ = electR ⟨ci, cp, ct, cv, cr, cd, cb, cbt, lg, cc, ys, ns, ms⟩) := electX_yes
 obtain ⟨W0, hW0⟩ : ∃ W0, W0 = (w.alloc (.cells #[.int .i64 ci, .int .i64 cp, .int .i64 ct, .int .i64 cv, .int .i64 cr, .int .i64 cd, .int .i64 cb, .int .i64 cbt, .slice A0 An0 Ac0, .int .i64 cc, .slice A1 An1 Ac1, .slice A2 An2 Ac2, .slice A3 An3 Ac3] 29)).alloc (.cells #[.int .i64 0, .int .i64 0, .int .i64 0, .int .i64 0, .int .i64 0, .int .i64 0, .int .i64 0, .int .i64 0, .slice none 0 0, .int .i64 0, .slice none 0 0, .slice none 0 0, .slice none 0 0] 29) := ⟨_, rfl⟩
 have B0 : Hid (Below w.heap.size w W0) := by unfold Hid; rw [hW0]; exact ((Below.refl _ w).alloc (Nat.le_refl _) _).alloc (by simp) _
 have K0 : Hid (Blk W0 w.heap.size #[.int .i64 ci, .int .i64 cp, .int .i64 ct, .int .i64 cv, .int .i64 cr, .int .i64 cd, .int .i64 cb, .int .i64 cbt, .slice A0 An0 Ac0, .int .i64 cc, .slice A1 An1 Ac1, .slice A2 An2 Ac2, .slice A3 An3 Ac3] 29) := by unfold Hid; rw [hW0]; exact (Blk.new w _ _).alloc _
 have R0 : Hid (Blk W0 (w.heap.size + 1) #[.int .i64 0, .int .i64 0, .int .i64 0, .int .i64 0, .int .i64 0, .int .i64 0, .int .i64 0, .int .i64 0, .slice none 0 0, .int .i64 0, .slice none 0 0, .slice none 0 0, .slice none 0 0] 29) := by unfold Hid; rw [hW0]; have := Blk.new (w.alloc (.cells #[.int .i64 ci, .int .i64 cp, .int .i64 ct, .int .i64 cv, .int .i64 cr, .int .i64 cd, .int .i64 cb, .int .i64 cbt, .slice A0 An0 Ac0, .int .i64 cc, .slice A1 An1 Ac1, .slice A2 An2 Ac2, .slice A3 An3 Ac3] 29)) #[.int .i64 0, .int .i64 0, .int .i64 0, .int .i64 0, .int .i64 0, .int .i64 0, .int .i64 0, .int .i64 0, .slice none 0 0, .int .i64 0, .slice none 0 0, .slice none 0 0, .slice none 0 0] 29; simp only [World.size_alloc] at this; exact this
 have HZ0 : Hid (W0.heap.size = w.heap.size + 2) := by unfold Hid; rw [hW0]; simp
 have cA := coreAfterW ci cp ct cv cr cd cb cbt lg cc ys ns ms (.slice A0 An0 Ac0) (.slice A1 An1 Ac1) (.slice A2 An2 Ac2) (.slice A3 An3 Ac3) W0 base0 (HR.out.on B0.out) HS.out 30 #[] (electR ⟨ci, cp, ct, cv, cr, cd, cb, cbt, lg, cc, ys, ns, ms⟩).1 (electR ⟨ci, cp, ct, cv, cr, cd, cb, cbt, lg, cc, ys, ns, ms⟩).2 W0.heap.size (fun _ => True) (Nat.le_refl _) (enters_of Try.func30 (by kernel_rfl) rfl) (fun w1 p hok hb1 hz1 hsp => (electL ci cp ct cv cr cd cb cbt lg cc ys ns ms w1 (W0.heap.size + 2) p hsp hok HS.out hz1).mono (fun e w2 h => ⟨h.1, h.2.1, BelowX.of h.2.2, trivial⟩))
 have y0 := K0.out.cell 0 _ rfl
 have y1 := K0.out.cell 1 _ rfl
 have y2 := K0.out.cell 2 _ rfl
 have y3 := K0.out.cell 3 _ rfl
 have y4 := K0.out.cell 4 _ rfl
 have y5 := K0.out.cell 5 _ rfl
 have y6 := K0.out.cell 6 _ rfl
 have y7 := K0.out.cell 7 _ rfl
 have y8 := K0.out.cell 8 _ rfl
 have y9 := K0.out.cell 9 _ rfl
 have y10 := K0.out.cell 10 _ rfl
 have y11 := K0.out.cell 11 _ rfl
 have y12 := K0.out.cell 12 _ rfl
 rw [hW0] at y0 y1 y2 y3 y4 y5 y6 y7 y8 y9 y10 y11 y12
 go_enter Try.func9, Try.ntmps9
 go_wp2_with fail
 rw [← hW0]
 clear hW0 y0 y1 y2 y3 y4 y5 y6 y7 y8 y9 y10 y11 y12
 refine cA.mono ?_
 rintro e W1 HQ
 have HQ1 : Hid (∃ (u us : Value) (R : Cor) (M : List Mg), e = .returned (.tuple #[u, us]) ∧ CoMs W1 W0.heap.size u us R M ∧ electX ⟨ci, cp, ct, cv, cr, cd, cb, cbt, lg, cc, ys, ns, ms⟩ = (R, M) ∧ Below w.heap.size w W1 ∧ Blk W1 (w.heap.size + 1) #[.int .i64 0, .int .i64 0, .int .i64 0, .int .i64 0, .int .i64 0, .int .i64 0, .int .i64 0, .int .i64 0, .slice none 0 0, .int .i64 0, .slice none 0 0, .slice none 0 0, .slice none 0 0] 29) := by
  have hz := HZ0.out
  rcases HQ with ⟨h1, ⟨u, us, L, h2, ⟨ul, uy, un, um, rfl, h3⟩, h4, h5, h8⟩, h6, _⟩ | ⟨h1, h2, h6⟩
  ·have hb := h6.below (Nat.le_refl _)
   exact ⟨_, us, _, _, h2, ⟨ul, uy, un, um, L, rfl, h3, h4, h5, h8 ul uy un um rfl⟩, HX1.out h1, B0.out.trans (hb.mono (by omega)), R0.out.on hb (by omega)⟩
  ·exact ⟨_, _, _, _, h2, CoMs.zero _ _, HX0.out h1, B0.out.trans (h6.mono (by omega)), R0.out.on h6 (by omega)⟩
 clear HQ cA HX0 HX1 K0 R0 B0
 obtain ⟨u, us, R, M, rfl, hO, hE, hb1, hR1⟩ := HQ1.out
 clear HQ1
 obtain ⟨ul, uy, un, um, L, rfl, hO', hM, hLM, hAp⟩ := hO
 obtain ⟨G0, Gc0, G1, Gc1, G2, Gc2, G3, Gc3, rfl, rfl, rfl, rfl⟩ := hO'.shape
 obtain ⟨G4, Gn4, Gc4, rfl⟩ := hM.r.shape
 obtain ⟨e0, e1, e2, e3, e4, e5, e6, e7, el, e9, ey, en, em⟩ := R
 unfold vCo
 simp only at hO' hAp ⊢
 generalize el.length = Gn0 at *
 generalize ey.length = Gn1 at *
 generalize en.length = Gn2 at *
 generalize em.length = Gn3 at *
 have HE : Hid (electX ⟨ci, cp, ct, cv, cr, cd, cb, cbt, lg, cc, ys, ns, ms⟩ = (⟨e0, e1, e2, e3, e4, e5, e6, e7, el, e9, ey, en, em⟩, M)) := hE
 have O1 : Hid (CoRows W1 (w.heap.size + 2) ⟨e0, e1, e2, e3, e4, e5, e6, e7, el, e9, ey, en, em⟩ (.slice G0 Gn0 Gc0) (.slice G1 Gn1 Gc1) (.slice G2 Gn2 Gc2) (.slice G3 Gn3 Gc3)) := by rw [HZ0.out] at hO'; exact hO'
 have M1 : Hid (MsO W1 (w.heap.size + 2) (.slice G4 Gn4 Gc4) L) := by rw [HZ0.out] at hM; exact hM
 have HLM : Hid (L.map Prod.fst = M) := hLM
 have HAp : Hid (∀ q ∈ L, ∀ k, q.2.ownBlock = some k → blkF (.slice G0 Gn0 Gc0) ≠ some k) := hAp
 have B1 : Hid (Below w.heap.size w W1) := hb1
 clear hO' hM hLM hAp hE hb1 HZ0
 obtain ⟨⟨r0, g0⟩, ⟨r1, g1⟩, ⟨r2, g2⟩, ⟨r3, g3⟩, ⟨r4, g4⟩, ⟨r5, g5⟩, ⟨r6, g6⟩, ⟨r7, g7⟩, ⟨r8, g8⟩, ⟨r9, g9⟩, ⟨r10, g10⟩, ⟨r11, g11⟩, ⟨r12, g12⟩, z0, z1, z2, z3, z4, z5, z6, z7, z8, z9, z10, z11, z12⟩ := resC13 (x0 := .int .i64 e0) (x1 := .int .i64 e1) (x2 := .int .i64 e2) (x3 := .int .i64 e3) (x4 := .int .i64 e4) (x5 := .int .i64 e5) (x6 := .int .i64 e6) (x7 := .int .i64 e7) (x8 := .slice G0 Gn0 Gc0) (x9 := .int .i64 e9) (x10 := .slice G1 Gn1 Gc1) (x11 := .slice G2 Gn2 Gc2) (x12 := .slice G3 Gn3 Gc3) hR1
 have FO := Hid.mk (rowsC13 O1.out (show w.heap.size + 1 < w.heap.size + 2 by omega) (.int .i64 e0) (.int .i64 e1) (.int .i64 e2) (.int .i64 e3) (.int .i64 e4) (.int .i64 e5) (.int .i64 e6) (.int .i64 e7) (.slice G0 Gn0 Gc0) (.int .i64 e9) (.slice G1 Gn1 Gc1) (.slice G2 Gn2 Gc2) (.slice G3 Gn3 Gc3))
 have FM := Hid.mk (rowsM13 M1.out (show w.heap.size + 1 < w.heap.size + 2 by omega) (.int .i64 e0) (.int .i64 e1) (.int .i64 e2) (.int .i64 e3) (.int .i64 e4) (.int .i64 e5) (.int .i64 e6) (.int .i64 e7) (.slice G0 Gn0 Gc0) (.int .i64 e9) (.slice G1 Gn1 Gc1) (.slice G2 Gn2 Gc2) (.slice G3 Gn3 Gc3))
 have FB := Hid.mk (belowC13 B1.out (show w.heap.size ≤ w.heap.size + 1 by omega) (.int .i64 e0) (.int .i64 e1) (.int .i64 e2) (.int .i64 e3) (.int .i64 e4) (.int .i64 e5) (.int .i64 e6) (.int .i64 e7) (.slice G0 Gn0 Gc0) (.int .i64 e9) (.slice G1 Gn1 Gc1) (.slice G2 Gn2 Gc2) (.slice G3 Gn3 Gc3))
 have HWW : Hid (w.heap.size ≤ w.heap.size + 2) := by unfold Hid; omega
 clear O1 M1 B1 hR1
 go_wp2_with fail
 exact bodyPost_ret (v := .tuple #[.agg #[.int .i64 e0, .int .i64 e1, .int .i64 e2, .int .i64 e3, .int .i64 e4, .int .i64 e5, .int .i64 e6, .int .i64 e7, .slice G0 Gn0 Gc0, .int .i64 e9, .slice G1 Gn1 Gc1, .slice G2 Gn2 Gc2, .slice G3 Gn3 Gc3], .slice G4 Gn4 Gc4]) (by simp [results, go_sem, z0, z1, z2, z3, z4, z5, z6, z7, z8, z9, z10, z11, z12]) rfl ⟨⟨_, _, rfl, by rw [HE.out]; exact ⟨_, _, _, _, L, rfl, FO.out.mono HWW.out, FM.out.mono HWW.out, HLM.out, HAp.out⟩⟩, FB.out⟩
end Go.Proofs.Ytlhoonohpfpkbaa
namespace Go.Proofs.Ytlhoonohpfpkbaa
open Go.ChangeShapes Go.WideShapes Go.ChangeAt Go.RowKit Go.PlainAid
set_option linter.unusedVariables false
end Go.Proofs.Ytlhoonohpfpkbaa
