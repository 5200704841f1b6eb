/- MgReS MgTk MgShI -/
import Derived.Test.YtimfnbnffibgpaaGreatDoorRows
import Derived.Test.YtimfnbnffibgpaaGreatDoorQx16
import Derived.Test.YtimfnbnffibgpaaGreatDoorQx11
import Derived.Test.YtimfnbnffibgpaaGreatDoorQx12
import Derived.Test.YtimfnbnffibgpaaGreatDoorQx6
import Derived.Laws.StructEq
import Derived.Laws.DeepStrings4
import Derived.Deep.Cut
import Derived.Deep.CutRange
import Derived.Handy
import Derived.Test.YtimfnbnffibgpaaGreatDoorQx8
import Derived.Test.YtimfnbnffibgpaaGreatDoorQx4
import Derived.Test.YtimfnbnffibgpaaGreatDoorQx14
import Derived.Test.YtimfnbnffibgpaaGreatDoorQx0
import Derived.Test.YtimfnbnffibgpaaGreatDoorQx2
import Derived.Test.YtimfnbnffibgpaaGreatDoorQx5
open List (setIfInBounds_toArray set_cons_zero set_cons_succ)
namespace Go.Proofs.YtimfnbnffibgpaaGreatDoor
open Go.ChangeShapes Go.WideShapes Go.ChangeAt Go.RowKit Go.PlainAid
set_option linter.unusedVariables false
set_option maxRecDepth 20000 in
set_option maxHeartbeats 16000000 in
theorem specReadMsg (s : ByteArray) (w : World) (hs : s.size ≤ 1048576) :
  Calls Tryz.prog 13 #[.string s] w fun e w' => MgA s w.heap.size e w' ∧ Below w.heap.size w w' := by
 have HS : Hid (s.size ≤ 1048576) := hs
 have qs : (s.size : Int) ≤ 1048576 := by omega
 have D0 : Hid (Below w.heap.size w (w.alloc (.cells #[.int .i64 0, .int .i64 0, .int .i64 0, .int .i64 0, .int .i64 0, .int .i64 0, .int .i64 0, .bool false, .slice none 0 0, .string ⟨#[]⟩] 29))) := (Below.refl _ w).alloc (Nat.le_refl _) _
 have R0 := Hid.mkM (Blk.new w #[.int .i64 0, .int .i64 0, .int .i64 0, .int .i64 0, .int .i64 0, .int .i64 0, .int .i64 0, .bool false, .slice none 0 0, .string ⟨#[]⟩] 29)
 clear hs
 go_enter Tryz.func13, Tryz.ntmps13
 go_wp2_with fail
 generalize w.alloc (.cells #[.int .i64 0, .int .i64 0, .int .i64 0, .int .i64 0, .int .i64 0, .int .i64 0, .int .i64 0, .bool false, .slice none 0 0, .string ⟨#[]⟩] 29) = X0 at *
 refine (specVars s 4 9 X0 HS.out (by omega) (by omega)).mono ?_
 rintro e X1 ⟨hR, hb⟩
 have D1 : Hid (Below w.heap.size w X1) := D0.out.trans (hb.mono D0.out.size)
 have R1 := Hid.mkM (R0.out.on hb R0.out.lt)
 clear hb D0 R0
 rcases hR with ⟨l, n1, u, hR, rfl, hN⟩ | ⟨hno, u, rfl⟩
 rotate_left
 ·have HN : Hid (∀ x, ¬ MgRd s x) := noVars hno
  clear hno
  obtain ⟨⟨r0, f0⟩, ⟨r1, f1⟩, ⟨r2, f2⟩, ⟨r3, f3⟩, ⟨r4, f4⟩, ⟨r5, f5⟩, ⟨r6, f6⟩, ⟨r7, f7⟩, ⟨r8, f8⟩, ⟨r9, f9⟩, y0, y1, y2, y3, y4, y5, y6, y7, y8, y9⟩ := resC10 (x0 := .int .i64 0) (x1 := .int .i64 0) (x2 := .int .i64 0) (x3 := .int .i64 0) (x4 := .int .i64 0) (x5 := .int .i64 0) (x6 := .int .i64 0) (x7 := .bool false) (x8 := .slice none 0 0) (x9 := .string ⟨#[]⟩) R1.out
  have BE := Hid.mkM (belowC10 D1.out (Nat.le_refl _) (.int .i64 0) (.int .i64 0) (.int .i64 0) (.int .i64 0) (.int .i64 0) (.int .i64 0) (.int .i64 0) (.bool false) (.slice none 0 0) (.string ⟨#[]⟩))
  go_wp2_with fail
  exact bodyPost_ret (v := .tuple #[.agg #[.int .i64 0, .int .i64 0, .int .i64 0, .int .i64 0, .int .i64 0, .int .i64 0, .int .i64 0, .bool false, .slice none 0 0, .string ⟨#[]⟩], .bool false]) (by simp [results, go_sem, y0, y1, y2, y3, y4, y5, y6, y7, y8, y9]) rfl ⟨⟨_, _, _, .inr ⟨HN.out, rfl, rfl⟩, rfl, MgO.zero _ _⟩, BE.out⟩
 obtain ⟨z0, z1, z2, z3, z4, z5, z6, z7, z8, rfl⟩ := nine_of hR.length
 have HR1 := Hid.mkM hR
 have hns := hR.inS
 have hz7 := hR.bound z7 (by simp)
 have hz8 := hR.bound z8 (by simp)
 obtain ⟨yn, rfl⟩ : ∃ n : Nat, z7 = (n : Int) := ⟨_, (Int.toNat_of_nonneg hz7.1).symm⟩
 obtain ⟨kn, rfl⟩ : ∃ n : Nat, z8 = (n : Int) := ⟨_, (Int.toNat_of_nonneg hz8.1).symm⟩
 obtain ⟨gl, cap, rfl, hglt⟩ : ∃ g cap, u = .slice (some ⟨g, 0, none⟩) 9 cap ∧ g < X1.heap.size := by
  rcases hN.form with ⟨_, h⟩ | ⟨g, cap, h, _, _, h1, h2⟩
  ·cases h
  ·exact ⟨g, cap, h, h2⟩
 have e0 : X1.cell? ⟨gl, 0, none⟩ = some (.int .i64 z0) := hN.cell 0 (by simp)
 have e1 : X1.cell? ⟨gl, 1, none⟩ = some (.int .i64 z1) := hN.cell 1 (by simp)
 have e2 : X1.cell? ⟨gl, 2, none⟩ = some (.int .i64 z2) := hN.cell 2 (by simp)
 have e3 : X1.cell? ⟨gl, 3, none⟩ = some (.int .i64 z3) := hN.cell 3 (by simp)
 have e4 : X1.cell? ⟨gl, 4, none⟩ = some (.int .i64 z4) := hN.cell 4 (by simp)
 have e5 : X1.cell? ⟨gl, 5, none⟩ = some (.int .i64 z5) := hN.cell 5 (by simp)
 have e6 : X1.cell? ⟨gl, 6, none⟩ = some (.int .i64 z6) := hN.cell 6 (by simp)
 have e7 : X1.cell? ⟨gl, 7, none⟩ = some (.int .i64 (yn : Int)) := hN.cell 7 (by simp)
 have e8 : X1.cell? ⟨gl, 8, none⟩ = some (.int .i64 (kn : Int)) := hN.cell 8 (by simp)
 have q0 : ¬ (n1 : Int) < 0 := by omega
 have HN1 : Hid (n1 ≤ s.size) := hns.2
 have HGL : Hid (gl < X1.heap.size) := hglt
 clear hR hN hns hz7 hz8 hglt
 by_cases h4 : kn ≤ 4
 rotate_left
 ·have HN : Hid (∀ x, ¬ MgRd s x) := noMany (z := (kn : Int)) HR1.out rfl (by omega)
  have q8 : (4 : Int) < (kn : Int) := by omega
  clear h4
  obtain ⟨⟨r0, f0⟩, ⟨r1, f1⟩, ⟨r2, f2⟩, ⟨r3, f3⟩, ⟨r4, f4⟩, ⟨r5, f5⟩, ⟨r6, f6⟩, ⟨r7, f7⟩, ⟨r8, f8⟩, ⟨r9, f9⟩, y0, y1, y2, y3, y4, y5, y6, y7, y8, y9⟩ := resC10 (x0 := .int .i64 0) (x1 := .int .i64 0) (x2 := .int .i64 0) (x3 := .int .i64 0) (x4 := .int .i64 0) (x5 := .int .i64 0) (x6 := .int .i64 0) (x7 := .bool false) (x8 := .slice none 0 0) (x9 := .string ⟨#[]⟩) R1.out
  have BE := Hid.mkM (belowC10 D1.out (Nat.le_refl _) (.int .i64 0) (.int .i64 0) (.int .i64 0) (.int .i64 0) (.int .i64 0) (.int .i64 0) (.int .i64 0) (.bool false) (.slice none 0 0) (.string ⟨#[]⟩))
  go_wp2_with fail
  exact bodyPost_ret (v := .tuple #[.agg #[.int .i64 0, .int .i64 0, .int .i64 0, .int .i64 0, .int .i64 0, .int .i64 0, .int .i64 0, .bool false, .slice none 0 0, .string ⟨#[]⟩], .bool false]) (by simp [results, go_sem, y0, y1, y2, y3, y4, y5, y6, y7, y8, y9]) rfl ⟨⟨_, _, _, .inr ⟨HN.out, rfl, rfl⟩, rfl, MgO.zero _ _⟩, BE.out⟩
 have q8 : ¬ (4 : Int) < (kn : Int) := by omega
 have H4 : Hid (kn ≤ 4) := h4
 have HS1 : Hid (∀ wx, Below X1.heap.size X1 wx → wx.cell? ⟨gl, 0, none⟩ = some (.int .i64 z0) ∧ wx.cell? ⟨gl, 1, none⟩ = some (.int .i64 z1) ∧ wx.cell? ⟨gl, 2, none⟩ = some (.int .i64 z2) ∧ wx.cell? ⟨gl, 3, none⟩ = some (.int .i64 z3) ∧ wx.cell? ⟨gl, 4, none⟩ = some (.int .i64 z4) ∧ wx.cell? ⟨gl, 5, none⟩ = some (.int .i64 z5) ∧ wx.cell? ⟨gl, 6, none⟩ = some (.int .i64 z6) ∧ wx.cell? ⟨gl, 7, none⟩ = some (.int .i64 (yn : Int)) ∧ wx.cell? ⟨gl, 8, none⟩ = some (.int .i64 (kn : Int))) := fun wx hx => ⟨(hx.cell (p := ⟨gl, 0, none⟩) HGL.out).trans e0, (hx.cell (p := ⟨gl, 1, none⟩) HGL.out).trans e1, (hx.cell (p := ⟨gl, 2, none⟩) HGL.out).trans e2, (hx.cell (p := ⟨gl, 3, none⟩) HGL.out).trans e3, (hx.cell (p := ⟨gl, 4, none⟩) HGL.out).trans e4, (hx.cell (p := ⟨gl, 5, none⟩) HGL.out).trans e5, (hx.cell (p := ⟨gl, 6, none⟩) HGL.out).trans e6, (hx.cell (p := ⟨gl, 7, none⟩) HGL.out).trans e7, (hx.cell (p := ⟨gl, 8, none⟩) HGL.out).trans e8⟩
 go_wp2_with fail
 clear e0 e1 e2 e3 e4 e5 e6 e7 e8
 refine wp_region_until (fun w' => w'.cell? ⟨gl, 0, none⟩ = some (.int .i64 z0) ∧ w'.cell? ⟨gl, 1, none⟩ = some (.int .i64 z1) ∧ w'.cell? ⟨gl, 2, none⟩ = some (.int .i64 z2) ∧ w'.cell? ⟨gl, 3, none⟩ = some (.int .i64 z3) ∧ w'.cell? ⟨gl, 4, none⟩ = some (.int .i64 z4) ∧ w'.cell? ⟨gl, 5, none⟩ = some (.int .i64 z5) ∧ w'.cell? ⟨gl, 6, none⟩ = some (.int .i64 z6) ∧ w'.cell? ⟨gl, 7, none⟩ = some (.int .i64 (yn : Int)) ∧ w'.cell? ⟨gl, 8, none⟩ = some (.int .i64 (kn : Int))) (fun i => i == 27) 28 (by rfl) (by kernel_rfl) ?_
 have V0 : Hid (Below X1.heap.size X1 X1.drew) := (Below.refl _ _).drew
 generalize X1.drew = Y0 at *
 refine tF 0 (HS1.out _ V0.out) ?_
 refine tF 1 (HS1.out _ V0.out) ?_
 refine tF 2 (HS1.out _ V0.out) ?_
 refine tF 3 (HS1.out _ V0.out) ?_
 refine tF 4 (HS1.out _ V0.out) ?_
 refine tF 5 (HS1.out _ V0.out) ?_
 refine tF 6 (HS1.out _ V0.out) ?_
 refine tF 7 (HS1.out _ V0.out) ?_
 refine tF 8 (HS1.out _ V0.out) ?_
 refine tF 9 (HS1.out _ V0.out) ?_
 refine tF 10 (HS1.out _ V0.out) ?_
 refine tF 11 (HS1.out _ V0.out) ?_
 refine tF 12 (HS1.out _ V0.out) ?_
 refine tF 13 (HS1.out _ V0.out) ?_
 refine tF 14 (HS1.out _ V0.out) ?_
 refine tF 15 (HS1.out _ V0.out) ?_
 refine tF 16 (HS1.out _ V0.out) ?_
 refine tF 17 (HS1.out _ V0.out) ?_
 refine tF 18 (HS1.out _ V0.out) ?_
 refine tF 19 (HS1.out _ V0.out) ?_
 refine tF 20 (HS1.out _ V0.out) ?_
 refine tF 21 (HS1.out _ V0.out) ?_
 refine tF 22 (HS1.out _ V0.out) ?_
 refine tF 23 (HS1.out _ V0.out) ?_
 refine pF 24 ?_
 refine pF 25 ?_
 obtain ⟨yb, hyb⟩ : ∃ yb : Bool, yb = ((yn : Int) == 1) := ⟨_, rfl⟩
 have HYB : Hid (yb = decide (yn = 1)) := by
  unfold Hid
  rw [hyb]
  by_cases h : yn = 1
  ·rw [h]; rfl
  ·rw [decide_eq_false h]; exact beq_eq_false_iff_ne.2 (by omega)
 try rw [← hyb]
 clear hyb
 refine uNe 26 (fun K hK => ?_)
 have ha := (Below.refl Y0.heap.size Y0).alloc (Nat.le_refl _) (.cells #[.int .i64 0, .int .i64 0, .int .i64 0, .int .i64 0, .int .i64 0, .int .i64 0, .int .i64 0, .bool false, .slice none 0 0, .string ⟨#[]⟩] 29)
 have V1 : Hid (Below X1.heap.size X1 (Y0.alloc (.cells #[.int .i64 0, .int .i64 0, .int .i64 0, .int .i64 0, .int .i64 0, .int .i64 0, .int .i64 0, .bool false, .slice none 0 0, .string ⟨#[]⟩] 29))) := V0.out.trans (ha.mono V0.out.size)
 have KB := Hid.mkM (Blk.new Y0 #[.int .i64 0, .int .i64 0, .int .i64 0, .int .i64 0, .int .i64 0, .int .i64 0, .int .i64 0, .bool false, .slice none 0 0, .string ⟨#[]⟩] 29)
 clear ha
 go_simp
 refine hK.out _ _ (fun _ _ => HS1.out _ V1.out) ?_
 clear hK K
 try simp only [Act.put, zQ1, zQ2, zQ3]
 generalize hgx : Y0.heap.size = gx at *
 have HGX : Hid (X1.heap.size ≤ gx) := by rw [← hgx]; exact V0.out.size
 generalize Y0.alloc (.cells #[.int .i64 0, .int .i64 0, .int .i64 0, .int .i64 0, .int .i64 0, .int .i64 0, .int .i64 0, .bool false, .slice none 0 0, .string ⟨#[]⟩] 29) = Y1 at *
 clear hgx V0
 obtain ⟨⟨r0, f0⟩, ⟨r1, f1⟩, ⟨r2, f2⟩, ⟨r3, f3⟩, ⟨r4, f4⟩, ⟨r5, f5⟩, ⟨r6, f6⟩, ⟨r7, f7⟩, ⟨r8, f8⟩, ⟨r9, f9⟩, _⟩ := resC10 (x0 := .int .i64 z0) (x1 := .int .i64 z1) (x2 := .int .i64 z2) (x3 := .int .i64 z3) (x4 := .int .i64 z4) (x5 := .int .i64 z5) (x6 := .int .i64 z6) (x7 := .bool yb) (x8 := .slice none 0 0) (x9 := .string ⟨#[]⟩) KB.out
 have KB2 := Hid.mkM (blkC10 (x0 := .int .i64 z0) (x1 := .int .i64 z1) (x2 := .int .i64 z2) (x3 := .int .i64 z3) (x4 := .int .i64 z4) (x5 := .int .i64 z5) (x6 := .int .i64 z6) (x7 := .bool yb) (x8 := .slice none 0 0) (x9 := .string ⟨#[]⟩) KB.out)
 have V2 := Hid.mkM (belowC10 V1.out HGX.out (.int .i64 z0) (.int .i64 z1) (.int .i64 z2) (.int .i64 z3) (.int .i64 z4) (.int .i64 z5) (.int .i64 z6) (.bool yb) (.slice none 0 0) (.string ⟨#[]⟩))
 clear V1 KB
 refine uNe 27 (fun K hK => ?_)
 go_simp
 refine hK.out _ _ (fun h => by cases h) ?_
 clear hK K r0 f0 r1 f1 r2 f2 r3 f3 r4 f4 r5 f5 r6 f6 r7 f7 r8 f8 r9 f9
 try simp only [Act.put, zQ1, zQ2, zQ3]
 refine until_done (by kernel_rfl) ?_ _
 have hV := V2.out
 have hK2 := KB2.out
 revert hV hK2
 clear V2 KB2
 generalize ((((((((((Y1.setCell ⟨gx, 0, none⟩ (.int .i64 z0)).setCell ⟨gx, 1, none⟩ (.int .i64 z1)).setCell ⟨gx, 2, none⟩ (.int .i64 z2)).setCell ⟨gx, 3, none⟩ (.int .i64 z3)).setCell ⟨gx, 4, none⟩ (.int .i64 z4)).setCell ⟨gx, 5, none⟩ (.int .i64 z5)).setCell ⟨gx, 6, none⟩ (.int .i64 z6)).setCell ⟨gx, 7, none⟩ (.bool yb)).setCell ⟨gx, 8, none⟩ (.slice none 0 0)).setCell ⟨gx, 9, none⟩ (.string ⟨#[]⟩)) = X2 at *
 intro hV hK2
 have I2 : Hid (MgI X2 (gx + 1) gx (fun v => #[.int .i64 z0, .int .i64 z1, .int .i64 z2, .int .i64 z3, .int .i64 z4, .int .i64 z5, .int .i64 z6, .bool yb, v, .string ⟨#[]⟩]) (.slice none 0 0) []) := ⟨hK2, Nat.lt_succ_self _, Owns.nil _ _ _ _⟩
 have R2 := Hid.mkM (R1.out.on hV R1.out.lt)
 have D2 : Hid (Below w.heap.size w X2) := D1.out.trans (hV.mono D1.out.size)
 have e8 := (HS1.out _ hV).2.2.2.2.2.2.2.2
 have HWX : Hid (w.heap.size < gx) := Nat.lt_of_lt_of_le R1.out.lt HGX.out
 clear hV hK2 HS1 R1 D1
 go_wp2_with fail
 clear e8
 go_loopw [5, 7] (fun v5 v7 wr => ∃ (j n : Nat) (ve : Value) (es : List Ent), j ≤ kn ∧ v7 = .int .i64 ((kn - j : Nat) : Int) ∧ v5 = .int .i64 (n : Int) ∧ RdL (EnRd s) n1 j es n ∧ n ≤ s.size ∧ Below w.heap.size w wr ∧ Blk wr w.heap.size #[.int .i64 0, .int .i64 0, .int .i64 0, .int .i64 0, .int .i64 0, .int .i64 0, .int .i64 0, .bool false, .slice none 0 0, .string ⟨#[]⟩] 29 ∧ MgI wr (gx + 1) gx (fun v => #[.int .i64 z0, .int .i64 z1, .int .i64 z2, .int .i64 z3, .int .i64 z4, .int .i64 z5, .int .i64 z6, .bool yb, v, .string ⟨#[]⟩]) ve es) (fun _ v _ => (intOf v).toNat)
 case atStart => exact ⟨0, n1, _, [], Nat.zero_le _, rfl, rfl, ⟨rfl, rfl⟩, HN1.out, D2.out, R2.out, I2.out⟩
 case round =>
  obtain ⟨j, n, ve, es, hj, rfl, rfl, hrl, hn, hd, hr, hi⟩ := hrel
  obtain ⟨Ae, me, ce, rfl⟩ := hi.own.shape
  have HRL := Hid.mkM hrl
  have HNS : Hid (n ≤ s.size) := hn
  have D3 := Hid.mkM hd
  have R3 := Hid.mkM hr
  have I3 := Hid.mkM hi
  clear hrl hn hd hr hi D2 R2 I2
  by_cases hlt : j < kn
  ·have q5 : (0 : Int) < ((kn - j : Nat) : Int) := by omega
   have HE : Hid (IntKind.i64.wrap (((kn - j : Nat) : Int) - 1) = ((kn - (j + 1) : Nat) : Int)) := by unfold Hid; rw [IntKind.wrap_i64]; omega
   have qk : ((kn - j : Nat) : Int) ≤ 4 := by omega
   have HLT : Hid (j < kn) := hlt
   generalize hre : kn - j = rest at *
   have HRE : Hid (kn - j = rest) := hre
   clear hre
   go_wp2_with fail
   refine (specVars s n 1 wr HS.out (by have := HNS.out; have := HS.out; omega) (by omega)).mono ?_
   rintro e X4 ⟨hR, hb⟩
   have D4 : Hid (Below w.heap.size w X4) := D3.out.trans (hb.mono D3.out.size)
   have R4 := Hid.mkM (R3.out.on hb R3.out.lt)
   have I4 := Hid.mkM (I3.out.on hb)
   clear hb D3 R3 I3
   rcases hR with ⟨l, m2, u, hR, rfl, hN⟩ | ⟨hno, u, rfl⟩
   rotate_left
   ·have HN : Hid (∀ x, ¬ MgRd s x) := noEnts HR1.out rfl (RdL.no (EnRd.onep s) HRL.out HLT.out (fun y m hy => by obtain ⟨b, h1, _⟩ := hy; exact hno _ _ h1))
    clear hno
    obtain ⟨⟨r0, f0⟩, ⟨r1, f1⟩, ⟨r2, f2⟩, ⟨r3, f3⟩, ⟨r4, f4⟩, ⟨r5, f5⟩, ⟨r6, f6⟩, ⟨r7, f7⟩, ⟨r8, f8⟩, ⟨r9, f9⟩, y0, y1, y2, y3, y4, y5, y6, y7, y8, y9⟩ := resC10 (x0 := .int .i64 0) (x1 := .int .i64 0) (x2 := .int .i64 0) (x3 := .int .i64 0) (x4 := .int .i64 0) (x5 := .int .i64 0) (x6 := .int .i64 0) (x7 := .bool false) (x8 := .slice none 0 0) (x9 := .string ⟨#[]⟩) R4.out
    have BE := Hid.mkM (belowC10 D4.out (Nat.le_refl _) (.int .i64 0) (.int .i64 0) (.int .i64 0) (.int .i64 0) (.int .i64 0) (.int .i64 0) (.int .i64 0) (.bool false) (.slice none 0 0) (.string ⟨#[]⟩))
    go_wp2_with fail
    exact bodyPost_ret (v := .tuple #[.agg #[.int .i64 0, .int .i64 0, .int .i64 0, .int .i64 0, .int .i64 0, .int .i64 0, .int .i64 0, .bool false, .slice none 0 0, .string ⟨#[]⟩], .bool false]) (by simp [results, go_sem, y0, y1, y2, y3, y4, y5, y6, y7, y8, y9]) rfl ⟨⟨_, _, _, .inr ⟨HN.out, rfl, rfl⟩, rfl, MgO.zero _ _⟩, BE.out⟩
   obtain ⟨c0, rfl⟩ := one_of hR.length
   have hns := hR.inS
   have HC := Hid.mkM hR
   obtain ⟨gc, capc, rfl, hglt⟩ : ∃ g cap, u = .slice (some ⟨g, 0, none⟩) 1 cap ∧ g < X4.heap.size := by
    rcases hN.form with ⟨_, h⟩ | ⟨g, cap, h, _, _, h1, h2⟩
    ·cases h
    ·exact ⟨g, cap, h, h2⟩
   have EE : Hid (X4.cell? ⟨gc, 0, none⟩ = some (.int .i64 c0) ∧ gc < X4.heap.size) := ⟨hN.cell 0 (by simp), hglt⟩
   have q6 : ¬ (m2 : Int) < 0 := by omega
   have HM2 : Hid (m2 ≤ s.size) := hns.2
   clear hR hN hns hglt
   go_wp2_with fail
   refine (specPieceAt s m2 X4 HS.out (by have := HM2.out; have := HS.out; omega)).mono ?_
   rintro e X5 ⟨hR, hb⟩
   have D5 : Hid (Below w.heap.size w X5) := D4.out.trans (hb.mono D4.out.size)
   have R5 := Hid.mkM (R4.out.on hb R4.out.lt)
   have I5 := Hid.mkM (I4.out.on hb)
   have E5 : Hid (X5.cell? ⟨gc, 0, none⟩ = some (.int .i64 c0)) := (hb.cell (p := ⟨_, _, none⟩) EE.out.2).trans EE.out.1
   clear hb D4 R4 I4 EE
   rcases hR with ⟨tt, m3, hP, rfl⟩ | ⟨hno, rfl⟩
   rotate_left
   ·have HN : Hid (∀ x, ¬ MgRd s x) := noEnts HR1.out rfl (RdL.no (EnRd.onep s) HRL.out HLT.out (fun y m hy => by obtain ⟨b, h1, h2⟩ := hy; obtain ⟨_, rfl⟩ := h1.one HC.out; exact hno _ _ h2))
    clear hno
    obtain ⟨⟨r0, f0⟩, ⟨r1, f1⟩, ⟨r2, f2⟩, ⟨r3, f3⟩, ⟨r4, f4⟩, ⟨r5, f5⟩, ⟨r6, f6⟩, ⟨r7, f7⟩, ⟨r8, f8⟩, ⟨r9, f9⟩, y0, y1, y2, y3, y4, y5, y6, y7, y8, y9⟩ := resC10 (x0 := .int .i64 0) (x1 := .int .i64 0) (x2 := .int .i64 0) (x3 := .int .i64 0) (x4 := .int .i64 0) (x5 := .int .i64 0) (x6 := .int .i64 0) (x7 := .bool false) (x8 := .slice none 0 0) (x9 := .string ⟨#[]⟩) R5.out
    have BE := Hid.mkM (belowC10 D5.out (Nat.le_refl _) (.int .i64 0) (.int .i64 0) (.int .i64 0) (.int .i64 0) (.int .i64 0) (.int .i64 0) (.int .i64 0) (.bool false) (.slice none 0 0) (.string ⟨#[]⟩))
    go_wp2_with fail
    exact bodyPost_ret (v := .tuple #[.agg #[.int .i64 0, .int .i64 0, .int .i64 0, .int .i64 0, .int .i64 0, .int .i64 0, .int .i64 0, .bool false, .slice none 0 0, .string ⟨#[]⟩], .bool false]) (by simp [results, go_sem, y0, y1, y2, y3, y4, y5, y6, y7, y8, y9]) rfl ⟨⟨_, _, _, .inr ⟨HN.out, rfl, rfl⟩, rfl, MgO.zero _ _⟩, BE.out⟩
   have q7 : ¬ (m3 : Int) < 0 := by omega
   have HM3 : Hid (m3 ≤ s.size) := hP.text.2.2
   have HY : Hid (EnRd s n ⟨c0, tt⟩ m3) := ⟨m2, HC.out, hP⟩
   have HLS : Hid ((entR es).length ≤ 2097152) := by unfold Hid; rw [entR_length, HRL.out.length]; have := HLT.out; have := H4.out; omega
   clear hP
   go_wp2_with fail
   have S0 : Hid (X5.drew.cell? ⟨gx, 8, none⟩ = some (.slice Ae me ce) ∧ X5.drew.cell? ⟨gc, 0, none⟩ = some (.int .i64 c0)) := ⟨I5.out.box.cell 8 _ rfl, E5.out⟩
   have D6 : Hid (Below w.heap.size w X5.drew) := D5.out.drew
   have R6 : Hid (Blk X5.drew w.heap.size #[.int .i64 0, .int .i64 0, .int .i64 0, .int .i64 0, .int .i64 0, .int .i64 0, .int .i64 0, .bool false, .slice none 0 0, .string ⟨#[]⟩] 29) := R5.out
   have K6 : Hid (Blk X5.drew gx #[.int .i64 z0, .int .i64 z1, .int .i64 z2, .int .i64 z3, .int .i64 z4, .int .i64 z5, .int .i64 z6, .bool yb, .slice Ae me ce, .string ⟨#[]⟩] 29) := I5.out.box
   have O6 : Hid (Owns X5.drew (gx + 1) 57 2 (.slice Ae me ce) (entR es)) := I5.out.own.heap rfl
   have Z6 : Hid (gx + 1 ≤ X5.drew.heap.size) := I5.out.box.lt
   refine wp_region_until (fun w' => w'.cell? ⟨gx, 8, none⟩ = some (.slice Ae me ce) ∧ w'.cell? ⟨gc, 0, none⟩ = some (.int .i64 c0)) (fun i => i == 8 || i == 10) 11 (by rfl) (by kernel_rfl) ?_
   clear D5 R5 I5 E5
   generalize X5.drew = Y at *
   obtain ⟨nA, nm, nc, w5, r5, hO5, hb5, hk5, -⟩ := run_append_row (P := Tryz.prog) Y 27 27 57 (.agg #[.int .i64 0, .string ⟨#[]⟩]) 2 24 Tryz.underlying27 Tryz.infoEnt rfl (by omega) (gx + 1) (.slice Ae me ce) (entR es) O6.out [.int .i64 c0, .string tt] rfl (ent_cells _ _) HLS.out (by omega) Z6.out
   refine tF 0 S0.out ?_
   refine tF 1 S0.out ?_
   refine tF 2 S0.out ?_
   refine tF 3 S0.out ?_
   refine tF 4 S0.out ?_
   refine tF 5 S0.out ?_
   refine pF 6 ?_
   refine uNe 7 (fun K hK => ?_)
   go_simp
   refine hK.out _ _ (fun _ h => ⟨cell_alloc_keepM h.1 _, cell_alloc_keepM h.2 _⟩) ?_
   clear hK K
   try simp only [Act.put, zQ1, zQ2, zQ3]
   refine uNe 8 (fun K hK => ?_)
   refine step_append_run (by rfl) (.tmp 78) (.tmp 84) 27 (by rfl) _ _ _ _ (by rfl) (by rfl) r5 ?_
   refine hK.out _ _ (fun h => by cases h) ?_
   clear hK K
   try simp only [Act.put, zQ1, zQ2, zQ3]
   refine pF 9 ?_
   have kb : Blk w5 gx #[.int .i64 z0, .int .i64 z1, .int .i64 z2, .int .i64 z3, .int .i64 z4, .int .i64 z5, .int .i64 z6, .bool yb, .slice Ae me ce, .string ⟨#[]⟩] 29 := (hk5 _ K6.out.lt (O6.out.below (Nat.lt_succ_self _))).trans K6.out
   have bk := kb.cell 8 _ rfl
   have fk := kb.free 8
   have I6 : Hid (MgI (w5.setCell ⟨gx, 8, none⟩ (.slice nA nm nc)) (gx + 1) gx (fun v => #[.int .i64 z0, .int .i64 z1, .int .i64 z2, .int .i64 z3, .int .i64 z4, .int .i64 z5, .int .i64 z6, .bool yb, v, .string ⟨#[]⟩]) (.slice nA nm nc) (es ++ [⟨c0, tt⟩])) := ⟨kb.set 8 _, Nat.lt_succ_self _, by rw [entR_append]; exact hO5.other (hO5.below (Nat.lt_succ_self _)) 8 _⟩
   have hbx : Below w.heap.size w w5 := D6.out.trans (hb5.mono (by have := HWX.out; omega))
   have D7 : Hid (Below w.heap.size w (w5.setCell ⟨gx, 8, none⟩ (.slice nA nm nc))) := hbx.setCell (p := ⟨_, _, none⟩) (Nat.le_of_lt HWX.out) _
   have rk : Blk w5 w.heap.size #[.int .i64 0, .int .i64 0, .int .i64 0, .int .i64 0, .int .i64 0, .int .i64 0, .int .i64 0, .bool false, .slice none 0 0, .string ⟨#[]⟩] 29 := (hk5 _ R6.out.lt (O6.out.below (by have := HWX.out; omega))).trans R6.out
   have R7 := Hid.mkM (rk.other (show w.heap.size ≠ gx by have := HWX.out; omega) 8 (.slice nA nm nc))
   refine uNe 10 (fun K hK => ?_)
   go_simp
   refine hK.out _ _ (fun h => by cases h) ?_
   clear hK K kb bk fk
   try simp only [Act.put, zQ1, zQ2, zQ3]
   refine until_done (by kernel_rfl) ?_ _
   have HRL2 := Hid.mkM (HRL.out.snocM HY.out)
   have HE' := HE.out
   clear hO5 hb5 hk5 r5 D6 R6 K6 O6 S0 hbx rk
   go_wp2_with fail
   go_roundw
   case rel => exact ⟨j + 1, m3, _, _, by have := HLT.out; omega, by first | rfl | rw [HE.out], rfl, HRL2.out, HM3.out, D7.out, R7.out, I6.out⟩
   case measure => have := HRE.out; have := HLT.out; simp [intOf]; omega
  ·obtain rfl : j = kn := by omega
   have q5 : ¬ (0 : Int) < ((j - j : Nat) : Int) := by omega
   generalize ((j - j : Nat) : Int) = zz at *
   have q9 : (n : Int) ≤ (s.size : Int) := by have := HNS.out; omega
   have k9 := I3.out.box.cell 9 _ rfl
   have f9 := I3.out.box.free 9
   have HX : Hid (MgP s ⟨z0, z1, z2, z3, z4, z5, z6, yb, es, lf s n⟩ yn n1 n) := by
    have hl := HRL.out.length
    refine ⟨?_, ?_, ?_, rfl, HYB.out⟩
    ·show RdF s 4 9 [z0, z1, z2, z3, z4, z5, z6, (yn : Int), (es.length : Int)] n1
     rw [hl]; exact HR1.out
    ·show es.length ≤ 4
     rw [hl]; exact H4.out
    ·show RdL (EnRd s) n1 es.length es n
     rw [hl]; exact HRL.out
   obtain ⟨hw1, hf1⟩ := HX.out.short HS.out
   have HAS := Hid.mkM HX.out.asked
   have KS := Hid.mkM (I3.out.box.set 9 (.string (lf s n)))
   have OS := Hid.mkM (I3.out.own.other (I3.out.own.below I3.out.lt) 9 (.string (lf s n)))
   have DS : Hid (Below w.heap.size w (wr.setCell ⟨gx, 9, none⟩ (.string (lf s n)))) := D3.out.setCell (p := ⟨_, _, none⟩) (Nat.le_of_lt HWX.out) _
   have RS := Hid.mkM (R3.out.other (show w.heap.size ≠ gx by have := HWX.out; omega) 9 (.string (lf s n)))
   have cM := fun wx b (h : MgO wx b (vMg ⟨z0, z1, z2, z3, z4, z5, z6, yb, es, lf s n⟩ (.slice Ae me ce)) ⟨z0, z1, z2, z3, z4, z5, z6, yb, es, lf s n⟩) => specShowMsg ⟨z0, z1, z2, z3, z4, z5, z6, yb, es, lf s n⟩ (vMg ⟨z0, z1, z2, z3, z4, z5, z6, yb, es, lf s n⟩ (.slice Ae me ce)) wx wx.heap.size h.lies hf1 hw1 (Nat.le_refl _)
   have HMO : Hid (∀ wx b, Owns wx b 57 2 (.slice Ae me ce) (entR es) → MgO wx b (vMg ⟨z0, z1, z2, z3, z4, z5, z6, yb, es, lf s n⟩ (.slice Ae me ce)) ⟨z0, z1, z2, z3, z4, z5, z6, yb, es, lf s n⟩) := fun wx b h => ⟨_, rfl, h⟩
   have HLF : Hid (s.extract n s.size = lf s n) := rfl
   unfold vMg at cM HMO
   simp only at cM HMO
   generalize msgT ⟨z0, z1, z2, z3, z4, z5, z6, yb, es, lf s n⟩ = mt at *
   have HMR : Hid (mt = s → MgN s ⟨z0, z1, z2, z3, z4, z5, z6, yb, es, lf s n⟩ true) := fun h => .inl ⟨HAS.out.1 h, rfl⟩
   generalize (⟨z0, z1, z2, z3, z4, z5, z6, yb, es, lf s n⟩ : Mg) = xx at *
   clear I3 D3 R3 hw1 hf1 HX
   go_upto_region 17 with fail
   try rw [HLF.out]
   have hKS : Blk (wr.setCell ⟨gx, 9, none⟩ (.string (lf s n))) gx #[.int .i64 z0, .int .i64 z1, .int .i64 z2, .int .i64 z3, .int .i64 z4, .int .i64 z5, .int .i64 z6, .bool yb, .slice Ae me ce, .string (lf s n)] 29 := KS.out
   generalize lf s n = df at *
   clear k9 f9 KS
   generalize wr.setCell ⟨gx, 9, none⟩ (.string df) = Y at *
   have b0 := hKS.cell 0 _ rfl
   have b1 := hKS.cell 1 _ rfl
   have b2 := hKS.cell 2 _ rfl
   have b3 := hKS.cell 3 _ rfl
   have b4 := hKS.cell 4 _ rfl
   have b5 := hKS.cell 5 _ rfl
   have b6 := hKS.cell 6 _ rfl
   have b7 := hKS.cell 7 _ rfl
   have b8 := hKS.cell 8 _ rfl
   have b9 := hKS.cell 9 _ rfl
   go_wp2_with fail
   refine (cM _ _ (HMO.out _ _ OS.out)).mono ?_
   rintro e Y2 ⟨rfl, hb⟩
   have K7 := Hid.mkM (hKS.on hb hKS.lt)
   have O7 := Hid.mkM (OS.out.on hb)
   have D7 : Hid (Below w.heap.size w Y2) := DS.out.trans (hb.mono DS.out.size)
   have R7 := Hid.mkM (RS.out.on hb RS.out.lt)
   clear hb cM hKS OS DS RS b0 b1 b2 b3 b4 b5 b6 b7 b8 b9
   by_cases hms : mt = s
   rotate_left
   ·have HN : Hid (∀ x, ¬ MgRd s x) := HAS.out.2 hms
    obtain ⟨t0, t1, t2⟩ := text_neqC hms
    clear hms
    obtain ⟨⟨r0, f0⟩, ⟨r1, f1⟩, ⟨r2, f2⟩, ⟨r3, f3⟩, ⟨r4, f4⟩, ⟨r5, f5⟩, ⟨r6, f6⟩, ⟨r7, f7⟩, ⟨r8, f8⟩, ⟨r9, f9⟩, y0, y1, y2, y3, y4, y5, y6, y7, y8, y9⟩ := resC10 (x0 := .int .i64 0) (x1 := .int .i64 0) (x2 := .int .i64 0) (x3 := .int .i64 0) (x4 := .int .i64 0) (x5 := .int .i64 0) (x6 := .int .i64 0) (x7 := .bool false) (x8 := .slice none 0 0) (x9 := .string ⟨#[]⟩) R7.out
    have BE := Hid.mkM (belowC10 D7.out (Nat.le_refl _) (.int .i64 0) (.int .i64 0) (.int .i64 0) (.int .i64 0) (.int .i64 0) (.int .i64 0) (.int .i64 0) (.bool false) (.slice none 0 0) (.string ⟨#[]⟩))
    go_wp2_with fail
    exact bodyPost_ret (v := .tuple #[.agg #[.int .i64 0, .int .i64 0, .int .i64 0, .int .i64 0, .int .i64 0, .int .i64 0, .int .i64 0, .bool false, .slice none 0 0, .string ⟨#[]⟩], .bool false]) (by simp [results, go_sem, y0, y1, y2, y3, y4, y5, y6, y7, y8, y9]) rfl ⟨⟨_, _, _, .inr ⟨HN.out, rfl, rfl⟩, rfl, MgO.zero _ _⟩, BE.out⟩
   have HMN := Hid.mkM (HMR.out hms)
   have t1 : (mt.toList == s.toList) = true := by rw [hms]; simp
   have t2 : (mt.toList != s.toList) = false := by rw [hms]; simp
   clear hms
   have b0 := K7.out.cell 0 _ rfl
   have b1 := K7.out.cell 1 _ rfl
   have b2 := K7.out.cell 2 _ rfl
   have b3 := K7.out.cell 3 _ rfl
   have b4 := K7.out.cell 4 _ rfl
   have b5 := K7.out.cell 5 _ rfl
   have b6 := K7.out.cell 6 _ rfl
   have b7 := K7.out.cell 7 _ rfl
   have b8 := K7.out.cell 8 _ rfl
   have b9 := K7.out.cell 9 _ rfl
   obtain ⟨⟨r0, f0⟩, ⟨r1, f1⟩, ⟨r2, f2⟩, ⟨r3, f3⟩, ⟨r4, f4⟩, ⟨r5, f5⟩, ⟨r6, f6⟩, ⟨r7, f7⟩, ⟨r8, f8⟩, ⟨r9, f9⟩, y0, y1, y2, y3, y4, y5, y6, y7, y8, y9⟩ := resC10 (x0 := .int .i64 z0) (x1 := .int .i64 z1) (x2 := .int .i64 z2) (x3 := .int .i64 z3) (x4 := .int .i64 z4) (x5 := .int .i64 z5) (x6 := .int .i64 z6) (x7 := .bool yb) (x8 := .slice Ae me ce) (x9 := .string df) R7.out
   have BE := Hid.mkM (belowC10 D7.out (Nat.le_refl _) (.int .i64 z0) (.int .i64 z1) (.int .i64 z2) (.int .i64 z3) (.int .i64 z4) (.int .i64 z5) (.int .i64 z6) (.bool yb) (.slice Ae me ce) (.string df))
   have OE := Hid.mkM (ownsC10 O7.out (show w.heap.size < gx + 1 by have := HWX.out; omega) (.int .i64 z0) (.int .i64 z1) (.int .i64 z2) (.int .i64 z3) (.int .i64 z4) (.int .i64 z5) (.int .i64 z6) (.bool yb) (.slice Ae me ce) (.string df))
   go_wp2_with fail
   exact bodyPost_ret (v := .tuple #[.agg #[.int .i64 z0, .int .i64 z1, .int .i64 z2, .int .i64 z3, .int .i64 z4, .int .i64 z5, .int .i64 z6, .bool yb, .slice Ae me ce, .string df], .bool true]) (by simp [results, go_sem, y0, y1, y2, y3, y4, y5, y6, y7, y8, y9]) rfl ⟨⟨_, _, _, HMN.out, rfl, (HMO.out _ _ OE.out).mono (by have := HWX.out; omega)⟩, BE.out⟩
end Go.Proofs.YtimfnbnffibgpaaGreatDoor
namespace Go.Proofs.YtimfnbnffibgpaaGreatDoor
open Go.ChangeShapes Go.WideShapes Go.ChangeAt Go.RowKit Go.PlainAid
set_option linter.unusedVariables false
set_option maxHeartbeats 2000000 in
theorem takeYes (g : Nat) (s : ByteArray) (n : Nat) (w : World) (hp : Prt w g (lf s n)) (hs : s.size ≤ 1048576) :
  Calls Tryz.prog 68 #[.pointer (some ⟨g, 0, none⟩)] w fun e w' => ((∃ k, FindV (lf s n) k ∧ vvS (lf s n) 0 k ≤ 1 ∧ e = .returned (.bool (decide (vvS (lf s n) 0 k = 1))) ∧ Prt w' g (lf s (n + k))) ∨ ((∀ k, FindV (lf s n) k → 1 < vvS (lf s n) 0 k) ∧ e = .panicked lackP)) ∧ PKeep g w w' := by
 have c := takeVarF g s n w hp hs
 have HO : Hid (∀ k k', FindV (lf s n) k → FindV (lf s n) k' → k = k') := fun k k' h h' => h.one h'
 clear hp
 go_enter Tryz.func68, Tryz.ntmps68
 go_wp2_with fail
 refine c.mono ?_
 rintro e X1 ⟨hR, hk⟩
 have HK := Hid.mkM hk
 clear hk c
 rcases hR with ⟨k, hF, rfl, hp⟩ | ⟨hno, rfl⟩
 rotate_left
 ·have HN : Hid (∀ k, FindV (lf s n) k → 1 < vvS (lf s n) 0 k) := fun k h => absurd h (hno k)
  clear hno
  go_wp2_with fail
  exact ⟨rfl, .inr ⟨HN.out, rfl⟩, HK.out⟩
 have HP := Hid.mkM hp
 have HF := Hid.mkM hF
 clear hp hF
 generalize hv : vvS (lf s n) 0 k = v at *
 have HV := Hid.mkM hv
 clear hv
 by_cases h1 : v ≤ 1
 rotate_left
 ·have e1 : decide ((v : Int) ≤ 1) = false := decide_eq_false (by omega)
  have HN : Hid (∀ k, FindV (lf s n) k → 1 < vvS (lf s n) 0 k) := fun k' h => by
   obtain rfl := HO.out _ _ h HF.out
   rw [HV.out]
   omega
  go_wp2_with fail
  refine (need_no _).mono ?_
  rintro e X2 ⟨rfl, rfl⟩
  go_wp2_with fail
  exact ⟨rfl, .inr ⟨HN.out, rfl⟩, HK.out⟩
 have e1 : decide ((v : Int) ≤ 1) = true := decide_eq_true (by omega)
 have HB : Hid (((v : Int) == 1) = decide (v = 1)) := by
  unfold Hid
  by_cases h : v = 1
  ·rw [h]; rfl
  ·rw [decide_eq_false h]; exact beq_eq_false_iff_ne.2 (by omega)
 have H1 : Hid (v ≤ 1) := h1
 clear h1
 go_wp2_with fail
 refine (need_yes _).mono ?_
 rintro e X2 ⟨rfl, rfl⟩
 go_wp2_with fail
 go_ret
 exact ⟨.inl ⟨k, HF.out, by rw [HV.out]; exact H1.out, by rw [HV.out, ← HB.out]; rfl, HP.out⟩, HK.out⟩
set_option maxRecDepth 20000 in
set_option maxHeartbeats 8000000 in
theorem takeEntries (g : Nat) (s : ByteArray) (n : Nat) (w : World) (hp : Prt w g (lf s n)) (hs : s.size ≤ 1048576) :
  Calls Tryz.prog 69 #[.pointer (some ⟨g, 0, none⟩)] w fun e w' => ((∃ k es m u, FindV (lf s n) k ∧ vvS (lf s n) 0 k ≤ 4 ∧ RdL (EnRd s) (n + k) (vvS (lf s n) 0 k) es m ∧ m ≤ s.size ∧ e = .returned u ∧ Owns w' w.heap.size 57 2 u (entR es) ∧ Prt w' g (lf s m)) ∨ ((∀ k es m, FindV (lf s n) k → vvS (lf s n) 0 k ≤ 4 → ¬ RdL (EnRd s) (n + k) (vvS (lf s n) 0 k) es m) ∧ e = .panicked lackP)) ∧ PKeep g w w' := by
 have HS : Hid (s.size ≤ 1048576) := hs
 have HG : Hid (g < w.heap.size) := hp.lt
 have c := takeVarF g s n w hp hs
 have HO : Hid (∀ k k', FindV (lf s n) k → FindV (lf s n) k' → k = k') := fun k k' h h' => h.one h'
 clear hp hs
 go_enter Tryz.func69, Tryz.ntmps69
 go_wp2_with fail
 refine c.mono ?_
 rintro e X1 ⟨hR, hk⟩
 have HK := Hid.mkM hk
 clear hk c
 rcases hR with ⟨k, hF, rfl, hp⟩ | ⟨hno, rfl⟩
 rotate_left
 ·have HN : Hid (∀ k es m, FindV (lf s n) k → vvS (lf s n) 0 k ≤ 4 → ¬ RdL (EnRd s) (n + k) (vvS (lf s n) 0 k) es m) := fun k _ _ h => absurd h (hno k)
  clear hno
  go_wp2_with fail
  exact ⟨rfl, .inr ⟨HN.out, rfl⟩, HK.out⟩
 have HP := Hid.mkM hp
 have HF := Hid.mkM hF
 have HNS : Hid (n + k ≤ s.size) := by have h1 := hF.2.2.1; have h2 := hF.1; rw [lf_size] at h1; unfold Hid; omega
 clear hp hF
 generalize hv : vvS (lf s n) 0 k = kn at *
 have HV := Hid.mkM hv
 clear hv
 generalize hn1 : n + k = n1 at *
 have HN1 := Hid.mkM hn1
 clear hn1
 by_cases h4 : kn ≤ 4
 rotate_left
 ·have e1 : decide ((kn : Int) ≤ 4) = false := decide_eq_false (by omega)
  have HN : Hid (∀ k es m, FindV (lf s n) k → vvS (lf s n) 0 k ≤ 4 → ¬ RdL (EnRd s) (n + k) (vvS (lf s n) 0 k) es m) := fun k' es m h hle => by
   obtain rfl := HO.out _ _ h HF.out
   rw [HV.out] at hle
   omega
  go_wp2_with fail
  refine (need_no _).mono ?_
  rintro e X2 ⟨rfl, rfl⟩
  go_wp2_with fail
  exact ⟨rfl, .inr ⟨HN.out, rfl⟩, HK.out⟩
 have e1 : decide ((kn : Int) ≤ 4) = true := decide_eq_true (by omega)
 have H4 : Hid (kn ≤ 4) := h4
 have HNO : Hid ((∀ es m, ¬ RdL (EnRd s) n1 kn es m) → ∀ k es m, FindV (lf s n) k → vvS (lf s n) 0 k ≤ 4 → ¬ RdL (EnRd s) (n + k) (vvS (lf s n) 0 k) es m) := fun h k' es m hf _ hr => by
  obtain rfl := HO.out _ _ hf HF.out
  rw [HV.out, HN1.out] at hr
  exact h _ _ hr
 have HYES : Hid (∀ (X : World) (es : List Ent) (m : Nat) (u : Value), RdL (EnRd s) n1 kn es m → m ≤ s.size → Owns X w.heap.size 57 2 u (entR es) → Prt X g (lf s m) → ∃ k es m u', FindV (lf s n) k ∧ vvS (lf s n) 0 k ≤ 4 ∧ RdL (EnRd s) (n + k) (vvS (lf s n) 0 k) es m ∧ m ≤ s.size ∧ (Ending.returned u = .returned u') ∧ Owns X w.heap.size 57 2 u' (entR es) ∧ Prt X g (lf s m)) := fun X es m u h1 h2 h3 h4 => ⟨k, es, m, u, HF.out, by rw [HV.out]; exact H4.out, by rw [HV.out, HN1.out]; exact h1, h2, rfl, h3, h4⟩
 have qk : (kn : Int) ≤ 4 := by omega
 clear h4 HO HV HN1
 go_wp2_with fail
 refine (need_yes _).mono ?_
 rintro e X2 ⟨rfl, rfl⟩
 go_wp2_with fail
 go_loopw [4, 11] (fun v4 v11 wr => ∃ (j m : Nat) (es : List Ent), j ≤ kn ∧ v11 = .int .i64 (j : Int) ∧ RdL (EnRd s) n1 j es m ∧ m ≤ s.size ∧ Prt wr g (lf s m) ∧ Owns wr w.heap.size 57 2 v4 (entR es) ∧ PKeep g w wr) (fun _ v _ => kn - (intOf v).toNat)
 case atStart => exact ⟨0, n1, [], Nat.zero_le _, rfl, ⟨rfl, rfl⟩, HNS.out, HP.out, Owns.nil _ _ _ _, HK.out⟩
 case round =>
  obtain ⟨j, m, es, hj, rfl, hrl, hm, hp, ho, hk⟩ := hrel
  obtain ⟨Ae, me, ce, rfl⟩ := ho.shape
  have HRL := Hid.mkM hrl
  have HM : Hid (m ≤ s.size) := hm
  have P3 := Hid.mkM hp
  have O3 := Hid.mkM ho
  have K3 := Hid.mkM hk
  clear hrl hm hp ho hk HP HK
  by_cases hlt : j < kn
  ·have q5 : (j : Int) < (kn : Int) := by omega
   have HLT : Hid (j < kn) := hlt
   go_wp2_with fail
   refine (takeVarF g s m wr P3.out HS.out).mono ?_
   rintro e X4 ⟨hR, hk⟩
   have K4 := Hid.mkM (K3.out.trans hk)
   have O4 : Hid (Owns X4 w.heap.size 57 2 (.slice Ae me ce) (entR es)) := O3.out.kept fun b hb ho => hk.2 b (by have := (O3.out.lt b ho).1; have := HG.out; omega) hb
   clear hk K3 O3 P3
   rcases hR with ⟨k1, hF1, rfl, hp⟩ | ⟨hno, rfl⟩
   rotate_left
   ·have HN := Hid.mkM (HNO.out (RdL.no (EnRd.onep s) HRL.out HLT.out (fun y m2 hy => by obtain ⟨b, ⟨_, _, k', h0, h1, _⟩, _⟩ := hy; obtain ⟨rfl, rfl⟩ := h0; exact hno _ h1)))
    clear hno
    go_wp2_with fail
    exact ⟨rfl, .inr ⟨HN.out, rfl⟩, K4.out⟩
   have P4 := Hid.mkM hp
   have HR1 : Hid (RdF s m 1 [(vvS (lf s m) 0 k1 : Int)] (m + k1)) := ⟨[], m, k1, ⟨rfl, rfl⟩, hF1, rfl, rfl⟩
   clear hp hF1
   generalize (vvS (lf s m) 0 k1 : Int) = tz at *
   generalize m + k1 = m1 at *
   have HM1 : Hid (m1 ≤ s.size) := HR1.out.inS.2
   go_wp2_with fail
   refine (takeVarF g s m1 X4 P4.out HS.out).mono ?_
   rintro e X5 ⟨hR, hk⟩
   have K5 := Hid.mkM (K4.out.trans hk)
   have O5 : Hid (Owns X5 w.heap.size 57 2 (.slice Ae me ce) (entR es)) := O4.out.kept fun b hb ho => hk.2 b (by have := (O4.out.lt b ho).1; have := HG.out; omega) hb
   clear hk K4 O4 P4
   rcases hR with ⟨k2, hF2, rfl, hp⟩ | ⟨hno, rfl⟩
   rotate_left
   ·have HN := Hid.mkM (HNO.out (RdL.no (EnRd.onep s) HRL.out HLT.out (fun y m2 hy => by obtain ⟨b, h1, c, ⟨_, _, k', h0, h2, _⟩, _⟩ := hy; obtain ⟨_, rfl⟩ := h1.one HR1.out; obtain ⟨rfl, rfl⟩ := h0; exact hno _ h2)))
    clear hno
    go_wp2_with fail
    exact ⟨rfl, .inr ⟨HN.out, rfl⟩, K5.out⟩
   have P5 := Hid.mkM hp
   have HR2 : Hid (RdF s m1 1 [(vvS (lf s m1) 0 k2 : Int)] (m1 + k2)) := ⟨[], m1, k2, ⟨rfl, rfl⟩, hF2, rfl, rfl⟩
   clear hp hF2
   generalize vvS (lf s m1) 0 k2 = dn at *
   generalize m1 + k2 = m2 at *
   have HM2 : Hid (m2 ≤ s.size) := HR2.out.inS.2
   go_wp2_with fail
   refine (takeTextF g s m2 dn X5 P5.out HM2.out HS.out).mono ?_
   rintro e X6 ⟨hR, hk⟩
   have K6 := Hid.mkM (K5.out.trans hk)
   have O6 : Hid (Owns X6 w.heap.size 57 2 (.slice Ae me ce) (entR es)) := O5.out.kept fun b hb ho => hk.2 b (by have := (O5.out.lt b ho).1; have := HG.out; omega) hb
   clear hk K5 O5 P5
   rcases hR with ⟨hfit, rfl, hp⟩ | ⟨hno, rfl⟩
   rotate_left
   ·have HN := Hid.mkM (HNO.out (RdL.no (EnRd.onep s) HRL.out HLT.out (fun y m4 hy => by obtain ⟨b, h1, c, h2, h3, h4, h5⟩ := hy; obtain ⟨_, rfl⟩ := h1.one HR1.out; obtain ⟨e, rfl⟩ := h2.one HR2.out; simp only [List.cons.injEq, and_true] at e; omega)))
    clear hno
    go_wp2_with fail
    exact ⟨rfl, .inr ⟨HN.out, rfl⟩, K6.out⟩
   have P6 := Hid.mkM hp
   have HY : Hid (EnRd s m ⟨tz, s.extract m2 (m2 + dn)⟩ (m2 + dn)) := by
    have hsz : (s.extract m2 (m2 + dn)).size = dn := by rw [ByteArray.size_extract]; omega
    refine ⟨m1, HR1.out, m2, ?_, by rw [hsz], hfit, rfl⟩
    rw [hsz]
    exact HR2.out
   have HM3 : Hid (m2 + dn ≤ s.size) := hfit
   clear hp hfit
   generalize s.extract m2 (m2 + dn) = tt at *
   generalize m2 + dn = m3 at *
   have HLS : Hid ((entR es).length ≤ 2097152) := by unfold Hid; rw [entR_length, HRL.out.length]; have := HLT.out; have := H4.out; omega
   have HZ : Hid (w.heap.size ≤ X6.heap.size) := by have := K6.out.1.size; unfold Hid; omega
   go_wp2_with (at_builtin; refine wpList_append_row rfl (.tmp 13) (.tmp 21) 27 57 (.agg #[.int .i64 0, .string ⟨#[]⟩]) 2 24 rfl Tryz.underlying27 Tryz.infoEnt rfl (by omega) w.heap.size _ (entR es) rfl O6.out [.int .i64 tz, .string tt] rfl (ent_cells _ _) rfl HLS.out (by omega) HZ.out ?_; intro v' w2 hO2 hb2 hk2 hv2; obtain ⟨A2, n2, c2, rfl⟩ := hO2.shape; refine Shut.out ?_)
   unfold Shut
   have HRL2 := Hid.mkM (HRL.out.snocM HY.out)
   have O7 : Hid (Owns w2 w.heap.size 57 2 (.slice A2 n2 c2) (entR (es ++ [⟨tz, tt⟩]))) := by unfold Hid; rw [entR_append]; exact hO2
   have P7 : Hid (Prt w2 g (lf s m3)) := (hk2 g P6.out.lt (O6.out.below HG.out)).trans P6.out
   have K7 : Hid (PKeep g w w2) := ⟨K6.out.1.trans (hb2.mono (Nat.le_of_lt HG.out)), fun b hb hl => by rw [hb2.block b hl]; exact K6.out.2 b hb hl⟩
   clear hO2 hb2 hk2 hv2 O6 P6 K6
   try go_wp2_with fail
   go_roundw
   case rel => exact ⟨j + 1, m3, _, by omega, by go_num, HRL2.out, HM3.out, P7.out, O7.out, K7.out⟩
   case measure => simp [intOf]; omega
  ·obtain rfl : j = kn := by omega
   have HA := Hid.mkM (HYES.out wr es m _ HRL.out HM.out O3.out P3.out)
   go_wp2_with fail
   go_ret
   exact ⟨.inl HA.out, K3.out⟩
set_option maxRecDepth 20000 in
set_option maxHeartbeats 8000000 in
theorem copyEntriesV (l : List Ent) (v : Value) (w : World) (B : Nat) (hv : Lies w B 2 v (entR l)) (hn : l.length ≤ 1048576) (hd : ∀ y ∈ l, y.data.size ≤ 1048576) (hB : B ≤ w.heap.size) :
  Calls Tryz.prog 71 #[v] w fun e w' => (∃ u, e = .returned u ∧ Owns w' w.heap.size 57 2 u (entR l)) ∧ Below w.heap.size w w' := by
 obtain ⟨A, cap, rfl, hlk⟩ := ent_look hv
 have HL := Hid.mkM hlk
 have HB : Hid (B ≤ w.heap.size) := hB
 have HD : Hid (∀ i, i < l.length → (l.getD i default).data.size ≤ 1048576) := fun i hi => hd _ (getD_mem l i hi)
 have HT : Hid (∀ i, i < l.length → entR (l.take (i + 1)) = entR (l.take i) ++ [entC (l.getD i default)]) := fun i hi => entR_snoc l i hi
 have HTA : Hid (l.take l.length = l) := List.take_length
 have HLN : Hid (∀ i, (entR (l.take i)).length ≤ 2097152) := fun i => by rw [entR_length, List.length_take]; omega
 clear hv hlk hB hd
 generalize hN : l.length = n at *
 clear hN
 have qn : (n : Int) ≤ 1048576 := by omega
 go_enter Tryz.func71, Tryz.ntmps71
 go_wp2_with fail
 go_loopw [3, 8] (fun v3 v8 wr => ∃ i : Nat, i ≤ n ∧ v8 = .int .i64 (i : Int) ∧ Owns wr w.heap.size 57 2 v3 (entR (l.take i)) ∧ Below w.heap.size w wr) (fun _ v _ => n - (intOf v).toNat)
 case atStart => exact ⟨0, Nat.zero_le _, rfl, Owns.nil _ _ _ _, Below.refl _ _⟩
 case round =>
  obtain ⟨i, hi, rfl, ho, hd⟩ := hrel
  obtain ⟨Ae, me, ce, rfl⟩ := ho.shape
  have O3 := Hid.mkM ho
  have D3 := Hid.mkM hd
  clear ho hd
  by_cases hlt : i < n
  ·have q4 : (i : Int) < (n : Int) := by omega
   obtain ⟨g, off, rfl, hg, e0, e1⟩ := HL.out i hlt
   have hgw : g < w.heap.size := Nat.lt_of_lt_of_le hg HB.out
   rw [← D3.out.cell (p := ⟨_, _, none⟩) hgw] at e0 e1
   have hds := HD.out i hlt
   have HTi : Hid (entR (l.take (i + 1)) = entR (l.take i) ++ [entC (l.getD i default)]) := HT.out i hlt
   have HLi : Hid ((entR (l.take i)).length ≤ 2097152) := HLN.out i
   generalize l.getD i default = y at *
   obtain ⟨yt, yd⟩ := y
   simp only at e0 e1 hds
   have cC := fun wx => clone yd wx (by omega)
   have al := (Below.refl wr.heap.size wr).alloc (Nat.le_refl _) (.cells #[.int .i64 yt, .string yd] 57)
   have KE := Hid.mkM (Blk.new wr #[.int .i64 yt, .string yd] 57)
   have D4 : Hid (Below w.heap.size w (wr.alloc (.cells #[.int .i64 yt, .string yd] 57))) := D3.out.trans (al.mono D3.out.size)
   have O4 := Hid.mkM (O3.out.on al)
   clear al hds hgw hg
   go_wp2_with fail
   clear e0 e1 O3 D3
   generalize wr.heap.size = ge at *
   generalize wr.alloc (.cells #[.int .i64 yt, .string yd] 57) = Z at *
   have HS1 : Hid (∀ wx, Below Z.heap.size Z wx → wx.cell? ⟨ge, 0, none⟩ = some (.int .i64 yt) ∧ wx.cell? ⟨ge, 1, none⟩ = some (.string yd)) := fun wx hx => ⟨(KE.out.on hx KE.out.lt).cell 0 _ rfl, (KE.out.on hx KE.out.lt).cell 1 _ rfl⟩
   refine wp_region_until (fun w' => w'.cell? ⟨ge, 0, none⟩ = some (.int .i64 yt) ∧ w'.cell? ⟨ge, 1, none⟩ = some (.string yd)) (fun i => i == 8) 10 (by rfl) (by kernel_rfl) ?_
   have V0 : Hid (Below Z.heap.size Z Z.drew) := (Below.refl _ _).drew
   generalize Z.drew = Y0 at *
   refine tF 0 (HS1.out _ V0.out) ?_
   refine tF 1 (HS1.out _ V0.out) ?_
   refine tF 2 (HS1.out _ V0.out) ?_
   refine tF 3 (HS1.out _ V0.out) ?_
   refine tF 4 (HS1.out _ V0.out) ?_
   refine uNe 5 (fun K hK => ?_)
   go_simp
   refine (cC Y0).mono ?_
   rintro e Y1 ⟨rfl, hb⟩
   have V1 : Hid (Below Z.heap.size Z Y1) := V0.out.trans (hb.mono V0.out.size)
   clear hb V0 cC
   refine hK.out _ _ (fun _ _ => HS1.out _ V1.out) ?_
   clear hK K
   try simp only [Act.put, zQ1, zQ2, zQ3]
   refine pF 6 ?_
   have O5 := Hid.mkM (O4.out.on V1.out)
   have D5 : Hid (Below w.heap.size w Y1) := D4.out.trans (V1.out.mono D4.out.size)
   obtain ⟨nA, nm, nc, w5, r5, hO5, hb5, hk5, -⟩ := run_append_row (P := Tryz.prog) Y1 27 27 57 (.agg #[.int .i64 0, .string ⟨#[]⟩]) 2 24 Tryz.underlying27 Tryz.infoEnt rfl (by omega) w.heap.size (.slice Ae me ce) (entR (l.take i)) O5.out [.int .i64 yt, .string yd] rfl (ent_cells _ _) HLi.out (by omega) D5.out.size
   refine uNe 7 (fun K hK => ?_)
   go_simp
   refine hK.out _ _ (fun _ h => ⟨cell_alloc_keepM h.1 _, cell_alloc_keepM h.2 _⟩) ?_
   clear hK K
   try simp only [Act.put, zQ1, zQ2, zQ3]
   refine uNe 8 (fun K hK => ?_)
   refine step_append_run (by rfl) (.tmp 12) (.tmp 19) 27 (by rfl) _ _ _ _ (by rfl) (by rfl) r5 ?_
   have O6 : Hid (Owns w5 w.heap.size 57 2 (.slice nA nm nc) (entR (l.take (i + 1)))) := by unfold Hid; rw [HTi.out]; exact hO5
   have D6 : Hid (Below w.heap.size w w5) := D5.out.trans hb5
   clear hO5 hb5 hk5 r5 O5 D5 O4 D4 V1 KE HS1
   refine hK.out _ _ (fun h => by cases h) ?_
   clear hK K
   try simp only [Act.put, zQ1, zQ2, zQ3]
   refine pF 9 ?_
   refine until_done (by kernel_rfl) ?_ _
   try go_wp2_with fail
   go_roundw
   case rel => exact ⟨i + 1, by omega, by go_num, O6.out, D6.out⟩
   case measure => simp [intOf]; omega
  ·obtain rfl : i = n := by omega
   rw [HTA.out] at O3
   go_wp2_with fail
   go_ret
   exact ⟨⟨_, rfl, O3.out⟩, D3.out⟩
end Go.Proofs.YtimfnbnffibgpaaGreatDoor
namespace Go.Proofs.YtimfnbnffibgpaaGreatDoor
open Go.ChangeShapes Go.WideShapes Go.ChangeAt Go.RowKit Go.PlainAid
set_option linter.unusedVariables false
def BldM (gb : Nat) (t : ByteArray) (w : World) : Prop := Lib.IsBuilderF 63 5 gb gb (Lib.strCells t) w
theorem BldM.on {gb : Nat} {t : ByteArray} {w w' : World} (h : BldM gb t w) (hb : Below w.heap.size w w') : BldM gb t w' := bld_on h hb
theorem BldM.lt {gb : Nat} {t : ByteArray} {w : World} (h : BldM gb t w) : gb < w.heap.size := by
 rcases h with ⟨_, v, hh, _⟩ | ⟨_, v, hh, _⟩
 ·exact lt_of_block hh
 ·exact lt_of_block hh
theorem msgSumV (s : ByteArray) (w : World) (hs : s.size ≤ 2000000) (ht : SumTab w) : Calls Tryz.prog 39 #[.string s] w fun e w' => e = .returned (.string (fixed (crc s) 4)) ∧ Below w.heap.size w w' := by
 have hc := crc_lt s
 have cC := impl_crc s w (by omega) ht
 have cX := fun wx => impl_fixed (crc s) 4 wx (by omega) (by omega) (by omega)
 generalize fixed (crc s) 4 = fx at *
 generalize crc s = cb at *
 go_enter Tryz.func39, Tryz.ntmps39
 go_wp2_with fail
 refine cC.mono ?_
 rintro e w' ⟨rfl, rfl⟩
 go_wp2_with fail
 refine (cX _).mono ?_
 rintro e w' ⟨rfl, hb⟩
 have HB := Hid.mkM hb
 clear hb cX cC
 go_wp2_with fail
 go_ret
 exact ⟨rfl, HB.out⟩
end Go.Proofs.YtimfnbnffibgpaaGreatDoor
