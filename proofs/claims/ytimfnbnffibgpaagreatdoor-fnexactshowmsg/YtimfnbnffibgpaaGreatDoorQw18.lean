/- LawShowMsg -/
import Derived.Test.YtimfnbnffibgpaaGreatDoorRows
import Derived.Test.YtimfnbnffibgpaaGreatDoorQw2
import Derived.Test.YtimfnbnffibgpaaGreatDoorQw3
import Derived.Test.YtimfnbnffibgpaaGreatDoorQw17
open List (setIfInBounds_toArray set_cons_zero set_cons_succ)
namespace Go.Proofs.YtimfnbnffibgpaaGreatDoor
open Go.ChangeShapes Go.WideShapes Go.ChangeAt Go.RowKit Go.PlainAid
set_option linter.unusedVariables false
set_option maxRecDepth 20000 in
set_option maxHeartbeats 8000000 in
theorem law_fnExactShowMsg (x : Mg) (v : Value) (w : World) (hv : MgV w w.heap.size v x) (hf : FitsM x) (hi : IntsM x) (hst : SumTab w) (a0 a1 a2 : Addr) (he : Errs w a0 a1 a2) : Calls Tryz.prog 4 #[v] w fun e w' => e = .returned (.bool true) ∧ Below w.heap.size w w' := by
 have HV : Hid (MgV w w.heap.size v x) := hv
 have HF : Hid (FitsM x) := hf
 have ST : Hid (SumTab w) := hst
 have ER : Hid (Errs w a0 a1 a2) := he
 obtain ⟨u, rfl, h1⟩ := hv
 obtain ⟨A0, c0, rfl, _⟩ := ent_look h1
 have cS := fun wx hx hb => szMsg x (vMg x (.slice A0 x.ents.length c0)) wx w.heap.size 1048576 (by omega) (by omega) hx hf hb
 have cT := fun (hw : wtM x ≤ 1048576) wx hx hb => toMsg x (vMg x (.slice A0 x.ents.length c0)) wx w.heap.size hx hw hb
 have cP := fun (hw : wtM x ≤ 1048576) u wx hx => specShowMsg x u wx wx.heap.size hx hf hw (Nat.le_refl _)
 have cI := fun (hw : wtM x ≤ 1048576) u wx hx hs (he : Errs wx a0 a1 a2) => implShowMsg x u wx wx.heap.size hx hf (show x.data.size ≤ 1048576 by unfold wtM at hw; omega) (Nat.le_refl _) hs a0 a1 a2 he
 have cE := fun (hw : wtM x ≤ 1048576) ua ub wx ha hb => eqMsg x ua ub wx wx.heap.size ha hb (show x.ents.length ≤ 1048576 by unfold wtM at hw; omega) (Nat.le_refl _)
 have HOS : Hid (∀ wx b v, MgO wx b v x → ∃ A m c, v = vMg x (.slice A m c)) := fun wx b v h => by
  obtain ⟨z, rfl, q⟩ := h
  obtain ⟨A, m, c, rfl⟩ := q.shape
  exact ⟨A, m, c, rfl⟩
 have HVM : Hid (∀ q, vMg x q = .agg #[.int .i64 x.kind, .int .i64 x.frm, .int .i64 x.dst, .int .i64 x.term, .int .i64 x.index, .int .i64 x.iterm, .int .i64 x.commit, .bool x.yes, q, .string x.data]) := fun _ => rfl
 clear h1 hf hi hst he
 rw [HVM.out] at HV cS cT ⊢
 generalize x.ents.length = m0 at *
 have K0 := Hid.mkM (Blk.new w #[.int .i64 x.kind, .int .i64 x.frm, .int .i64 x.dst, .int .i64 x.term, .int .i64 x.index, .int .i64 x.iterm, .int .i64 x.commit, .bool x.yes, .slice A0 m0 c0, .string x.data] 24)
 have B0 : Hid (Below w.heap.size w (w.alloc (.cells #[.int .i64 x.kind, .int .i64 x.frm, .int .i64 x.dst, .int .i64 x.term, .int .i64 x.index, .int .i64 x.iterm, .int .i64 x.commit, .bool x.yes, .slice A0 m0 c0, .string x.data] 24))) := (Below.refl _ _).alloc (Nat.le_refl _) _
 have HPW : Hid (∀ wx : World, Below w.heap.size w wx → w.heap.size ≤ wx.heap.size) := fun _ h => h.size
 generalize x.kind = x0 at *
 generalize x.frm = x1 at *
 generalize x.dst = x2 at *
 generalize x.term = x3 at *
 generalize x.index = x4 at *
 generalize x.iterm = x5 at *
 generalize x.commit = x6 at *
 generalize x.yes = x7 at *
 generalize x.data = x9 at *
 go_enter Tryz.func4, Tryz.ntmps4
 go_wp2_with fail
 generalize w.alloc (.cells #[.int .i64 x0, .int .i64 x1, .int .i64 x2, .int .i64 x3, .int .i64 x4, .int .i64 x5, .int .i64 x6, .bool x7, .slice A0 m0 c0, .string x9] 24) = W at *
 refine (cS W (HV.out.on B0.out) B0.out.size).mono ?_
 rintro e w1 ⟨r, rfl, hr, hb1⟩
 have B1 : Hid (Below w.heap.size w w1) := B0.out.trans (hb1.mono B0.out.size)
 have K1 : Hid (Blk w1 w.heap.size #[.int .i64 x0, .int .i64 x1, .int .i64 x2, .int .i64 x3, .int .i64 x4, .int .i64 x5, .int .i64 x6, .bool x7, .slice A0 m0 c0, .string x9] 24) := K0.out.on hb1 K0.out.lt
 clear hb1 cS K0
 rcases hr with rfl | ⟨hr0, hr1⟩
 ·go_wp2_with fail
  go_ret
  exact ⟨rfl, B1.out⟩
 have HW : Hid (wtM x ≤ 1048576) := by unfold Hid; omega
 have hr2 : decide (r < 0) = false := decide_eq_false (by omega)
 clear hr1
 have y0 := K1.out.cell 0 _ rfl
 have y1 := K1.out.cell 1 _ rfl
 have y2 := K1.out.cell 2 _ rfl
 have y3 := K1.out.cell 3 _ rfl
 have y4 := K1.out.cell 4 _ rfl
 have y5 := K1.out.cell 5 _ rfl
 have y6 := K1.out.cell 6 _ rfl
 have y7 := K1.out.cell 7 _ rfl
 have y8 := K1.out.cell 8 _ rfl
 have y9 := K1.out.cell 9 _ rfl
 go_wp2_with fail
 refine (cT HW.out w1 (HV.out.on B1.out) B1.out.size).mono ?_
 rintro e w2 ⟨u1, rfl, hO, hb2⟩
 have B2 : Hid (Below w.heap.size w w2) := B1.out.trans (hb2.mono B1.out.size)
 have K2 : Hid (Blk w2 w.heap.size #[.int .i64 x0, .int .i64 x1, .int .i64 x2, .int .i64 x3, .int .i64 x4, .int .i64 x5, .int .i64 x6, .bool x7, .slice A0 m0 c0, .string x9] 24) := K1.out.on hb2 K1.out.lt
 have c1 := cP HW.out u1 w2 hO.lies
 clear y0 y1 y2 y3 y4 y5 y6 y7 y8 y9 hb2 hO K1 cP
 go_wp2_with fail
 refine c1.mono ?_
 rintro e w3 ⟨rfl, hb3⟩
 have B3 : Hid (Below w.heap.size w w3) := B2.out.trans (hb3.mono B2.out.size)
 have K3 : Hid (Blk w3 w.heap.size #[.int .i64 x0, .int .i64 x1, .int .i64 x2, .int .i64 x3, .int .i64 x4, .int .i64 x5, .int .i64 x6, .bool x7, .slice A0 m0 c0, .string x9] 24) := K2.out.on hb3 K2.out.lt
 clear c1 hb3 K2
 have y0 := K3.out.cell 0 _ rfl
 have y1 := K3.out.cell 1 _ rfl
 have y2 := K3.out.cell 2 _ rfl
 have y3 := K3.out.cell 3 _ rfl
 have y4 := K3.out.cell 4 _ rfl
 have y5 := K3.out.cell 5 _ rfl
 have y6 := K3.out.cell 6 _ rfl
 have y7 := K3.out.cell 7 _ rfl
 have y8 := K3.out.cell 8 _ rfl
 have y9 := K3.out.cell 9 _ rfl
 go_wp2_with fail
 refine (cT HW.out w3 (HV.out.on B3.out) B3.out.size).mono ?_
 rintro e w4 ⟨x8, rfl, hO4, hb4⟩
 have B4 : Hid (Below w.heap.size w w4) := B3.out.trans (hb4.mono B3.out.size)
 have K4 : Hid (Blk w4 w.heap.size #[.int .i64 x0, .int .i64 x1, .int .i64 x2, .int .i64 x3, .int .i64 x4, .int .i64 x5, .int .i64 x6, .bool x7, .slice A0 m0 c0, .string x9] 24) := K3.out.on hb4 K3.out.lt
 obtain ⟨A1, m1, c1, rfl⟩ := HOS.out _ _ _ hO4
 rw [HVM.out] at hO4 ⊢
 have O4 : Hid (MgO w4 w3.heap.size (.agg #[.int .i64 x0, .int .i64 x1, .int .i64 x2, .int .i64 x3, .int .i64 x4, .int .i64 x5, .int .i64 x6, .bool x7, .slice A1 m1 c1, .string x9]) x) := hO4
 clear y0 y1 y2 y3 y4 y5 y6 y7 y8 y9 hb4 K3 hO4
 obtain ⟨W5, hW5⟩ : ∃ W5, W5 = w4.alloc (.cells #[.int .i64 x0, .int .i64 x1, .int .i64 x2, .int .i64 x3, .int .i64 x4, .int .i64 x5, .int .i64 x6, .bool x7, .slice A1 m1 c1, .string x9] 29) := ⟨_, rfl⟩
 have hb5 : Below w4.heap.size w4 W5 := by rw [hW5]; exact (Below.refl _ _).alloc (Nat.le_refl _) _
 have X5 : Hid (Blk W5 w4.heap.size #[.int .i64 x0, .int .i64 x1, .int .i64 x2, .int .i64 x3, .int .i64 x4, .int .i64 x5, .int .i64 x6, .bool x7, .slice A1 m1 c1, .string x9] 29) := by unfold Hid; rw [hW5]; exact Blk.new w4 _ _
 have B5 : Hid (Below w.heap.size w W5) := B4.out.trans (hb5.mono B4.out.size)
 have K5 : Hid (Blk W5 w.heap.size #[.int .i64 x0, .int .i64 x1, .int .i64 x2, .int .i64 x3, .int .i64 x4, .int .i64 x5, .int .i64 x6, .bool x7, .slice A0 m0 c0, .string x9] 24) := K4.out.on hb5 K4.out.lt
 have O5 : Hid (MgO W5 w3.heap.size (.agg #[.int .i64 x0, .int .i64 x1, .int .i64 x2, .int .i64 x3, .int .i64 x4, .int .i64 x5, .int .i64 x6, .bool x7, .slice A1 m1 c1, .string x9]) x) := O4.out.on hb5
 clear hb5 K4 O4
 go_wp2_with fail
 rw [← hW5]
 clear hW5
 generalize w4.heap.size = px at *
 have cOk := cI HW.out (.agg #[.int .i64 x0, .int .i64 x1, .int .i64 x2, .int .i64 x3, .int .i64 x4, .int .i64 x5, .int .i64 x6, .bool x7, .slice A1 m1 c1, .string x9]) W5 O5.out.lies (ST.out.on B5.out) (ER.out.on B5.out)
 refine cOk.mono ?_
 rintro e w6 ⟨rfl, hb6⟩
 have Bw6 : Hid (Below w.heap.size w w6) := B5.out.trans (hb6.mono B5.out.size)
 have Kw6 : Hid (Blk w6 w.heap.size #[.int .i64 x0, .int .i64 x1, .int .i64 x2, .int .i64 x3, .int .i64 x4, .int .i64 x5, .int .i64 x6, .bool x7, .slice A0 m0 c0, .string x9] 24) := K5.out.on hb6 K5.out.lt
 have Ow6 : Hid (MgO w6 w3.heap.size (.agg #[.int .i64 x0, .int .i64 x1, .int .i64 x2, .int .i64 x3, .int .i64 x4, .int .i64 x5, .int .i64 x6, .bool x7, .slice A1 m1 c1, .string x9]) x) := O5.out.on hb6
 have Xw6 : Hid (Blk w6 px #[.int .i64 x0, .int .i64 x1, .int .i64 x2, .int .i64 x3, .int .i64 x4, .int .i64 x5, .int .i64 x6, .bool x7, .slice A1 m1 c1, .string x9] 29) := X5.out.on hb6 X5.out.lt
 clear cOk cI hb6 K5 O5 X5
 have n1 : ((msgT x).toList == (msgT x).toList) = true := by simp
 have n2 : ((msgT x).toList != (msgT x).toList) = false := by simp
 generalize msgT x = ok at *
 have S0 : Hid (w6.drew.cell? ⟨px, 0, none⟩ = some (.int .i64 x0) ∧ w6.drew.cell? ⟨px, 1, none⟩ = some (.int .i64 x1) ∧ w6.drew.cell? ⟨px, 2, none⟩ = some (.int .i64 x2) ∧ w6.drew.cell? ⟨px, 3, none⟩ = some (.int .i64 x3) ∧ w6.drew.cell? ⟨px, 4, none⟩ = some (.int .i64 x4) ∧ w6.drew.cell? ⟨px, 5, none⟩ = some (.int .i64 x5) ∧ w6.drew.cell? ⟨px, 6, none⟩ = some (.int .i64 x6) ∧ w6.drew.cell? ⟨px, 7, none⟩ = some (.bool x7) ∧ w6.drew.cell? ⟨px, 8, none⟩ = some (.slice A1 m1 c1) ∧ w6.drew.cell? ⟨px, 9, none⟩ = some (.string x9) ∧ w6.drew.cell? ⟨w.heap.size, 0, none⟩ = some (.int .i64 x0) ∧ w6.drew.cell? ⟨w.heap.size, 1, none⟩ = some (.int .i64 x1) ∧ w6.drew.cell? ⟨w.heap.size, 2, none⟩ = some (.int .i64 x2) ∧ w6.drew.cell? ⟨w.heap.size, 3, none⟩ = some (.int .i64 x3) ∧ w6.drew.cell? ⟨w.heap.size, 4, none⟩ = some (.int .i64 x4) ∧ w6.drew.cell? ⟨w.heap.size, 5, none⟩ = some (.int .i64 x5) ∧ w6.drew.cell? ⟨w.heap.size, 6, none⟩ = some (.int .i64 x6) ∧ w6.drew.cell? ⟨w.heap.size, 7, none⟩ = some (.bool x7) ∧ w6.drew.cell? ⟨w.heap.size, 8, none⟩ = some (.slice A0 m0 c0) ∧ w6.drew.cell? ⟨w.heap.size, 9, none⟩ = some (.string x9)) := ⟨Xw6.out.cell 0 _ rfl, Xw6.out.cell 1 _ rfl, Xw6.out.cell 2 _ rfl, Xw6.out.cell 3 _ rfl, Xw6.out.cell 4 _ rfl, Xw6.out.cell 5 _ rfl, Xw6.out.cell 6 _ rfl, Xw6.out.cell 7 _ rfl, Xw6.out.cell 8 _ rfl, Xw6.out.cell 9 _ rfl, Kw6.out.cell 0 _ rfl, Kw6.out.cell 1 _ rfl, Kw6.out.cell 2 _ rfl, Kw6.out.cell 3 _ rfl, Kw6.out.cell 4 _ rfl, Kw6.out.cell 5 _ rfl, Kw6.out.cell 6 _ rfl, Kw6.out.cell 7 _ rfl, Kw6.out.cell 8 _ rfl, Kw6.out.cell 9 _ rfl⟩
 go_wp2_with fail
 refine wp_region_until (fun w' => w'.cell? ⟨px, 0, none⟩ = some (.int .i64 x0) ∧ w'.cell? ⟨px, 1, none⟩ = some (.int .i64 x1) ∧ w'.cell? ⟨px, 2, none⟩ = some (.int .i64 x2) ∧ w'.cell? ⟨px, 3, none⟩ = some (.int .i64 x3) ∧ w'.cell? ⟨px, 4, none⟩ = some (.int .i64 x4) ∧ w'.cell? ⟨px, 5, none⟩ = some (.int .i64 x5) ∧ w'.cell? ⟨px, 6, none⟩ = some (.int .i64 x6) ∧ w'.cell? ⟨px, 7, none⟩ = some (.bool x7) ∧ w'.cell? ⟨px, 8, none⟩ = some (.slice A1 m1 c1) ∧ w'.cell? ⟨px, 9, none⟩ = some (.string x9) ∧ w'.cell? ⟨w.heap.size, 0, none⟩ = some (.int .i64 x0) ∧ w'.cell? ⟨w.heap.size, 1, none⟩ = some (.int .i64 x1) ∧ w'.cell? ⟨w.heap.size, 2, none⟩ = some (.int .i64 x2) ∧ w'.cell? ⟨w.heap.size, 3, none⟩ = some (.int .i64 x3) ∧ w'.cell? ⟨w.heap.size, 4, none⟩ = some (.int .i64 x4) ∧ w'.cell? ⟨w.heap.size, 5, none⟩ = some (.int .i64 x5) ∧ w'.cell? ⟨w.heap.size, 6, none⟩ = some (.int .i64 x6) ∧ w'.cell? ⟨w.heap.size, 7, none⟩ = some (.bool x7) ∧ w'.cell? ⟨w.heap.size, 8, none⟩ = some (.slice A0 m0 c0) ∧ w'.cell? ⟨w.heap.size, 9, none⟩ = some (.string x9)) (fun i => false) 5 (by rfl) (by kernel_rfl) ?_
 refine tF 0 S0.out ?_
 refine tF 1 S0.out ?_
 refine uNe 2 (fun K hK => ?_)
 go_simp
 refine (cT HW.out w6.drew (HV.out.on Bw6.out.drew) Bw6.out.size).mono ?_
 rintro e Q1 ⟨yr, rfl, hO7, hb7⟩
 have hb71 : Below w6.heap.size w6 Q1 := (Below.refl _ w6).drew.trans hb7
 have BQ1 : Hid (Below w.heap.size w Q1) := Bw6.out.trans (hb71.mono Bw6.out.size)
 have KQ1 := Hid.mkM (Kw6.out.on hb71 Kw6.out.lt)
 have XQ1 := Hid.mkM (Xw6.out.on hb71 Xw6.out.lt)
 have cE2 := cE HW.out (.agg #[.int .i64 x0, .int .i64 x1, .int .i64 x2, .int .i64 x3, .int .i64 x4, .int .i64 x5, .int .i64 x6, .bool x7, .slice A1 m1 c1, .string x9]) yr Q1 (Ow6.out.on hb71).lies hO7.lies
 have H71 := Hid.mkM hb71
 clear hb7 hO7 hb71 cE
 go_wp2_with fail
 refine hK.out _ _ (fun _ _ => ⟨XQ1.out.cell 0 _ rfl, XQ1.out.cell 1 _ rfl, XQ1.out.cell 2 _ rfl, XQ1.out.cell 3 _ rfl, XQ1.out.cell 4 _ rfl, XQ1.out.cell 5 _ rfl, XQ1.out.cell 6 _ rfl, XQ1.out.cell 7 _ rfl, XQ1.out.cell 8 _ rfl, XQ1.out.cell 9 _ rfl, KQ1.out.cell 0 _ rfl, KQ1.out.cell 1 _ rfl, KQ1.out.cell 2 _ rfl, KQ1.out.cell 3 _ rfl, KQ1.out.cell 4 _ rfl, KQ1.out.cell 5 _ rfl, KQ1.out.cell 6 _ rfl, KQ1.out.cell 7 _ rfl, KQ1.out.cell 8 _ rfl, KQ1.out.cell 9 _ rfl⟩) ?_
 clear hK K
 try simp only [Act.put, zQ1, zQ2, zQ3]
 refine uNe 3 (fun K hK => ?_)
 go_simp
 refine cE2.mono ?_
 rintro e w8 ⟨rfl, hb8⟩
 have Kw8 := Hid.mkM (KQ1.out.on hb8 KQ1.out.lt)
 have Xw8 := Hid.mkM (XQ1.out.on hb8 XQ1.out.lt)
 have Bw8 : Hid (Below w.heap.size w w8) := BQ1.out.trans (hb8.mono BQ1.out.size)
 clear hb8 cE2
 go_wp2_with fail
 refine hK.out _ _ (fun _ _ => ⟨Xw8.out.cell 0 _ rfl, Xw8.out.cell 1 _ rfl, Xw8.out.cell 2 _ rfl, Xw8.out.cell 3 _ rfl, Xw8.out.cell 4 _ rfl, Xw8.out.cell 5 _ rfl, Xw8.out.cell 6 _ rfl, Xw8.out.cell 7 _ rfl, Xw8.out.cell 8 _ rfl, Xw8.out.cell 9 _ rfl, Kw8.out.cell 0 _ rfl, Kw8.out.cell 1 _ rfl, Kw8.out.cell 2 _ rfl, Kw8.out.cell 3 _ rfl, Kw8.out.cell 4 _ rfl, Kw8.out.cell 5 _ rfl, Kw8.out.cell 6 _ rfl, Kw8.out.cell 7 _ rfl, Kw8.out.cell 8 _ rfl, Kw8.out.cell 9 _ rfl⟩) ?_
 clear hK K KQ1 XQ1 BQ1 S0
 try simp only [Act.put, zQ1, zQ2, zQ3]
 refine pF 4 ?_
 refine until_done (by kernel_rfl) ?_ _
 clear Kw8 Xw8
 go_wp2_with fail
 go_ret
 exact ⟨rfl, Bw8.out⟩
end Go.Proofs.YtimfnbnffibgpaaGreatDoor
