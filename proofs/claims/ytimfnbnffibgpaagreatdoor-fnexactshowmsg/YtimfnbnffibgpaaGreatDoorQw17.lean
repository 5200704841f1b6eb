/- MgShS MgShI -/
import Derived.Test.YtimfnbnffibgpaaGreatDoorRows
import Derived.Test.YtimfnbnffibgpaaGreatDoorQw15
import Derived.Test.YtimfnbnffibgpaaGreatDoorQw16
import Derived.Test.YtimfnbnffibgpaaGreatDoorQw3
import Derived.Test.YtimfnbnffibgpaaGreatDoorQw0
import Derived.Laws.StructEq
import Derived.Laws.DeepStrings4
import Derived.Deep.Cut
import Derived.Deep.CutRange
import Derived.Handy
import Derived.Test.YtimfnbnffibgpaaGreatDoorQw14
import Derived.Test.YtimfnbnffibgpaaGreatDoorQw6
import Derived.Test.YtimfnbnffibgpaaGreatDoorQw5
open List (setIfInBounds_toArray set_cons_zero set_cons_succ)
namespace Go.Proofs.YtimfnbnffibgpaaGreatDoor
open Go.ChangeShapes Go.WideShapes Go.ChangeAt Go.RowKit Go.PlainAid
set_option linter.unusedVariables false
theorem yesS (b : Bool) (w : World) : Calls Tryz.prog 33 #[.bool b] w fun e w' => e = .returned (.int .i64 ((yesN b : Nat) : Int)) ∧ w = w' := by
 cases b
 all_goals
  go_enter Tryz.func33, Tryz.ntmps33
  go_wp2_with fail
  go_ret
  exact ⟨rfl, rfl⟩
theorem msgT_no {x : Mg} (h : msgOk x = false) : msgT x = ⟨#[]⟩ := by unfold msgT; rw [h]; rfl
theorem msgT_yes {x : Mg} (h : msgOk x = true) : msgT x = fixed (crc (bodT x)) 4 ++ bodT x := by unfold msgT; rw [if_pos h]
theorem fixed_small (n : Nat) : (fixed n 4).size ≤ 4 := by
 unfold fixed
 split
 ·rw [txt_size]; simp [low]
 ·rw [txt_size]; simp
set_option maxRecDepth 20000 in
set_option maxHeartbeats 16000000 in
theorem specShowMsg (x : Mg) (v : Value) (w : World) (B : Nat) (hv : MgV w B v x) (hf : FitsM x) (hw : wtM x ≤ 1048576) (hB : B ≤ w.heap.size) : Calls Tryz.prog 11 #[v] w fun e w' => e = .returned (.string (msgT x)) ∧ Below w.heap.size w w' := by
 have HV := Hid.mkM hv
 obtain ⟨u, rfl, hl⟩ := hv
 obtain ⟨A, cap, rfl, hlk⟩ := ent_look hl
 have HB : Hid (B ≤ w.heap.size) := hB
 have HL := Hid.mkM hlk
 have c0 := fun wx (h : Below w.heap.size w wx) => specMsgOk x _ wx B (HV.out.on (h.mono HB.out)) hf hw (Nat.le_trans HB.out h.size)
 have HDS : Hid (x.data.size ≤ 1048576) := by unfold Hid; unfold wtM at hw; omega
 clear hl hlk hf hw hB HV
 unfold vMg at c0 ⊢
 generalize hN : x.ents.length = n at *
 have HNE : Hid (x.ents.length = n) := hN
 clear hN
 cases ho : msgOk x
 ·have HE : Hid (msgT x = ⟨#[]⟩) := msgT_no ho
  rw [ho] at c0
  clear ho
  have hb0 := (Below.refl w.heap.size w).alloc (Nat.le_refl _) (.cells #[.int .i64 x.kind, .int .i64 x.frm, .int .i64 x.dst, .int .i64 x.term, .int .i64 x.index, .int .i64 x.iterm, .int .i64 x.commit, .bool x.yes, .slice A n cap, .string x.data] 29)
  go_enter Tryz.func11, Tryz.ntmps11
  go_wp2_with fail
  refine (c0 _ hb0).mono ?_
  rintro e w1 ⟨rfl, hb1⟩
  have B1 : Hid (Below w.heap.size w w1) := hb0.trans (hb1.mono hb0.size)
  clear hb0 hb1 c0
  go_wp2_with fail
  go_ret
  exact ⟨by rw [HE.out]; rfl, B1.out⟩
 rw [ho] at c0
 have HE : Hid (msgT x = fixed (crc (bodT x)) 4 ++ bodT x) := msgT_yes ho
 obtain ⟨⟨a0, b0⟩, ⟨a1, b1⟩, ⟨a2, b2⟩, ⟨a3, b3⟩, ⟨a4, b4⟩, ⟨a5, b5⟩, ⟨a6, b6⟩, h8, h9⟩ := msgOk_in ho
 have HEN := Hid.mkM h9
 have qn4 : n ≤ 4 := by have := HNE.out; omega
 clear ho h8 h9
 obtain ⟨kn, hkn⟩ : ∃ n : Nat, x.kind = (n : Int) := ⟨x.kind.toNat, by omega⟩
 obtain ⟨fn, hfn⟩ : ∃ n : Nat, x.frm = (n : Int) := ⟨x.frm.toNat, by omega⟩
 obtain ⟨dn, hdn⟩ : ∃ n : Nat, x.dst = (n : Int) := ⟨x.dst.toNat, by omega⟩
 obtain ⟨tn, htn⟩ : ∃ n : Nat, x.term = (n : Int) := ⟨x.term.toNat, by omega⟩
 obtain ⟨xn, hxn⟩ : ∃ n : Nat, x.index = (n : Int) := ⟨x.index.toNat, by omega⟩
 obtain ⟨sn, hsn⟩ : ∃ n : Nat, x.iterm = (n : Int) := ⟨x.iterm.toNat, by omega⟩
 obtain ⟨cn, hcn⟩ : ∃ n : Nat, x.commit = (n : Int) := ⟨x.commit.toNat, by omega⟩
 have HH : Hid (hdT x = txt (vF 6 kn) ++ txt (vF 6 fn) ++ txt (vF 6 dn) ++ txt (vF 6 tn) ++ txt (vF 6 xn) ++ txt (vF 6 sn) ++ txt (vF 6 cn) ++ txt (vF 6 (yesN x.yes)) ++ txt (vF 6 n)) := by
  unfold Hid hdT
  rw [HNE.out, hkn, hfn, hdn, htn, hxn, hsn, hcn]
  simp only [Int.toNat_natCast]
 have HBO : Hid (bodT x = hdT x ++ catE x.ents ++ x.data) := rfl
 have HHS : Hid ((hdT x).size ≤ 63) := hdT_size x
 have HCS : Hid (∀ k, (catE (x.ents.take k)).size ≤ 3656) := catE_few x.ents (by have := HNE.out; omega) fun y hy => (HEN.out y hy).2.2
 have HTA : Hid (x.ents.take n = x.ents) := by unfold Hid; rw [← HNE.out, List.take_length]
 have HSN : Hid (∀ k, k < n → catE (x.ents.take (k + 1)) = catE (x.ents.take k) ++ entT (x.ents.getD k default)) := fun k hk => catE_snoc x.ents k (by have := HNE.out; omega)
 have HEE : Hid (∀ k, k < n → 1 ≤ (x.ents.getD k default).term ∧ (x.ents.getD k default).term ≤ 100000 ∧ (x.ents.getD k default).data.size ≤ 900) := fun k hk => HEN.out _ (getD_mem _ k (by have := HNE.out; omega))
 rw [hkn, hfn, hdn, htn, hxn, hsn, hcn] at c0 ⊢
 rw [hkn] at a0 b0
 rw [hfn] at a1 b1
 rw [hdn] at a2 b2
 rw [htn] at a3 b3
 rw [hxn] at a4 b4
 rw [hsn] at a5 b5
 rw [hcn] at a6 b6
 clear hkn hfn hdn htn hxn hsn hcn
 have cv0 := fun wx => spec_var kn wx (by omega)
 have cv1 := fun wx => spec_var fn wx (by omega)
 have cv2 := fun wx => spec_var dn wx (by omega)
 have cv3 := fun wx => spec_var tn wx (by omega)
 have cv4 := fun wx => spec_var xn wx (by omega)
 have cv5 := fun wx => spec_var sn wx (by omega)
 have cv6 := fun wx => spec_var cn wx (by omega)
 have cv7 := fun wx => spec_var (yesN x.yes) wx (by unfold yesN; split <;> omega)
 have cv8 := fun wx => spec_var n wx (by omega)
 have l0 := vT_small kn
 have l1 := vT_small fn
 have l2 := vT_small dn
 have l3 := vT_small tn
 have l4 := vT_small xn
 have l5 := vT_small sn
 have l6 := vT_small cn
 have l7 := vT_small (yesN x.yes)
 have l8 := vT_small n
 generalize txt (vF 6 kn) = t0 at *
 generalize txt (vF 6 fn) = t1 at *
 generalize txt (vF 6 dn) = t2 at *
 generalize txt (vF 6 tn) = t3 at *
 generalize txt (vF 6 xn) = t4 at *
 generalize txt (vF 6 sn) = t5 at *
 generalize txt (vF 6 cn) = t6 at *
 generalize txt (vF 6 (yesN x.yes)) = t7 at *
 generalize txt (vF 6 n) = t8 at *
 have p1 : ¬ 9223372036854775807 < t0.size + t1.size := by omega
 have p2 : ¬ 9223372036854775807 < t0.size + t1.size + t2.size := by omega
 have p3 : ¬ 9223372036854775807 < t0.size + t1.size + t2.size + t3.size := by omega
 have p4 : ¬ 9223372036854775807 < t0.size + t1.size + t2.size + t3.size + t4.size := by omega
 have p5 : ¬ 9223372036854775807 < t0.size + t1.size + t2.size + t3.size + t4.size + t5.size := by omega
 have p6 : ¬ 9223372036854775807 < t0.size + t1.size + t2.size + t3.size + t4.size + t5.size + t6.size := by omega
 have p7 : ¬ 9223372036854775807 < t0.size + t1.size + t2.size + t3.size + t4.size + t5.size + t6.size + t7.size := by omega
 have p8 : ¬ 9223372036854775807 < t0.size + t1.size + t2.size + t3.size + t4.size + t5.size + t6.size + t7.size + t8.size := by omega
 have cy := fun wx => yesS x.yes wx
 generalize yesN x.yes = yn at *
 generalize x.yes = yy at *
 generalize x.data = dd at *
 have hb0 := (Below.refl w.heap.size w).alloc (Nat.le_refl _) (.cells #[.int .i64 (kn : Int), .int .i64 (fn : Int), .int .i64 (dn : Int), .int .i64 (tn : Int), .int .i64 (xn : Int), .int .i64 (sn : Int), .int .i64 (cn : Int), .bool yy, .slice A n cap, .string dd] 29)
 have k0 := Blk.new w #[.int .i64 (kn : Int), .int .i64 (fn : Int), .int .i64 (dn : Int), .int .i64 (tn : Int), .int .i64 (xn : Int), .int .i64 (sn : Int), .int .i64 (cn : Int), .bool yy, .slice A n cap, .string dd] 29
 clear a0 b0 a1 b1 a2 b2 a3 b3 a4 b4 a5 b5 a6 b6 l0 l1 l2 l3 l4 l5 l6 l7 l8
 have qn : (n : Int) ≤ 4 := by omega
 go_enter Tryz.func11, Tryz.ntmps11
 go_wp2_with fail
 generalize w.alloc (.cells #[.int .i64 (kn : Int), .int .i64 (fn : Int), .int .i64 (dn : Int), .int .i64 (tn : Int), .int .i64 (xn : Int), .int .i64 (sn : Int), .int .i64 (cn : Int), .bool yy, .slice A n cap, .string dd] 29) = W at *
 refine (c0 _ hb0).mono ?_
 rintro e w1 ⟨rfl, hb1⟩
 have B1 : Hid (Below w.heap.size w w1) := hb0.trans (hb1.mono hb0.size)
 have K1 := Hid.mkM (k0.on hb1 k0.lt)
 clear hb0 hb1 c0 k0
 go_wp2_with fail
 have HS0 : Hid (∀ wx, Below w1.heap.size w1 wx → wx.cell? ⟨w.heap.size, 0, none⟩ = some (.int .i64 (kn : Int)) ∧ wx.cell? ⟨w.heap.size, 1, none⟩ = some (.int .i64 (fn : Int)) ∧ wx.cell? ⟨w.heap.size, 2, none⟩ = some (.int .i64 (dn : Int)) ∧ wx.cell? ⟨w.heap.size, 3, none⟩ = some (.int .i64 (tn : Int)) ∧ wx.cell? ⟨w.heap.size, 4, none⟩ = some (.int .i64 (xn : Int)) ∧ wx.cell? ⟨w.heap.size, 5, none⟩ = some (.int .i64 (sn : Int)) ∧ wx.cell? ⟨w.heap.size, 6, none⟩ = some (.int .i64 (cn : Int)) ∧ wx.cell? ⟨w.heap.size, 7, none⟩ = some (.bool yy) ∧ wx.cell? ⟨w.heap.size, 8, none⟩ = some (.slice A n cap)) := fun wx hx => ⟨(K1.out.on hx K1.out.lt).cell 0 _ rfl, (K1.out.on hx K1.out.lt).cell 1 _ rfl, (K1.out.on hx K1.out.lt).cell 2 _ rfl, (K1.out.on hx K1.out.lt).cell 3 _ rfl, (K1.out.on hx K1.out.lt).cell 4 _ rfl, (K1.out.on hx K1.out.lt).cell 5 _ rfl, (K1.out.on hx K1.out.lt).cell 6 _ rfl, (K1.out.on hx K1.out.lt).cell 7 _ rfl, (K1.out.on hx K1.out.lt).cell 8 _ rfl⟩
 refine wp_region_until (fun w' => w'.cell? ⟨w.heap.size, 0, none⟩ = some (.int .i64 (kn : Int)) ∧ w'.cell? ⟨w.heap.size, 1, none⟩ = some (.int .i64 (fn : Int)) ∧ w'.cell? ⟨w.heap.size, 2, none⟩ = some (.int .i64 (dn : Int)) ∧ w'.cell? ⟨w.heap.size, 3, none⟩ = some (.int .i64 (tn : Int)) ∧ w'.cell? ⟨w.heap.size, 4, none⟩ = some (.int .i64 (xn : Int)) ∧ w'.cell? ⟨w.heap.size, 5, none⟩ = some (.int .i64 (sn : Int)) ∧ w'.cell? ⟨w.heap.size, 6, none⟩ = some (.int .i64 (cn : Int)) ∧ w'.cell? ⟨w.heap.size, 7, none⟩ = some (.bool yy) ∧ w'.cell? ⟨w.heap.size, 8, none⟩ = some (.slice A n cap)) (fun _ => false) 38 (by rfl) (by kernel_rfl) ?_
 have V0 : Hid (Below w1.heap.size w1 w1.drew) := (Below.refl _ _).drew
 generalize w1.drew = Y0 at *
 refine tF 0 (HS0.out _ V0.out) ?_
 refine tF 1 (HS0.out _ V0.out) ?_
 refine tF 3 (HS0.out _ V0.out) ?_
 refine tF 4 (HS0.out _ V0.out) ?_
 refine tF 7 (HS0.out _ V0.out) ?_
 refine tF 8 (HS0.out _ V0.out) ?_
 refine tF 11 (HS0.out _ V0.out) ?_
 refine tF 12 (HS0.out _ V0.out) ?_
 refine tF 15 (HS0.out _ V0.out) ?_
 refine tF 16 (HS0.out _ V0.out) ?_
 refine tF 19 (HS0.out _ V0.out) ?_
 refine tF 20 (HS0.out _ V0.out) ?_
 refine tF 23 (HS0.out _ V0.out) ?_
 refine tF 24 (HS0.out _ V0.out) ?_
 refine tF 27 (HS0.out _ V0.out) ?_
 refine tF 28 (HS0.out _ V0.out) ?_
 refine tF 32 (HS0.out _ V0.out) ?_
 refine tF 33 (HS0.out _ V0.out) ?_
 refine tF 34 (HS0.out _ V0.out) ?_
 refine uNe 2 (fun K hK => ?_)
 go_simp
 refine (cv0 Y0).mono ?_
 rintro e Y1 ⟨rfl, hb⟩
 have V1 : Hid (Below w1.heap.size w1 Y1) := V0.out.trans (hb.mono V0.out.size)
 clear hb V0
 refine hK.out _ _ (fun _ _ => HS0.out _ V1.out) ?_
 clear hK K
 try simp only [Act.put, zQ1, zQ2, zQ3]
 refine uNe 5 (fun K hK => ?_)
 go_simp
 refine (cv1 Y1).mono ?_
 rintro e Y2 ⟨rfl, hb⟩
 have V2 : Hid (Below w1.heap.size w1 Y2) := V1.out.trans (hb.mono V1.out.size)
 clear hb V1
 refine hK.out _ _ (fun _ _ => HS0.out _ V2.out) ?_
 clear hK K
 try simp only [Act.put, zQ1, zQ2, zQ3]
 refine pF 6 ?_
 refine uNe 9 (fun K hK => ?_)
 go_simp
 refine (cv2 Y2).mono ?_
 rintro e Y3 ⟨rfl, hb⟩
 have V3 : Hid (Below w1.heap.size w1 Y3) := V2.out.trans (hb.mono V2.out.size)
 clear hb V2
 refine hK.out _ _ (fun _ _ => HS0.out _ V3.out) ?_
 clear hK K
 try simp only [Act.put, zQ1, zQ2, zQ3]
 refine pF 10 ?_
 refine uNe 13 (fun K hK => ?_)
 go_simp
 refine (cv3 Y3).mono ?_
 rintro e Y4 ⟨rfl, hb⟩
 have V4 : Hid (Below w1.heap.size w1 Y4) := V3.out.trans (hb.mono V3.out.size)
 clear hb V3
 refine hK.out _ _ (fun _ _ => HS0.out _ V4.out) ?_
 clear hK K
 try simp only [Act.put, zQ1, zQ2, zQ3]
 refine pF 14 ?_
 refine uNe 17 (fun K hK => ?_)
 go_simp
 refine (cv4 Y4).mono ?_
 rintro e Y5 ⟨rfl, hb⟩
 have V5 : Hid (Below w1.heap.size w1 Y5) := V4.out.trans (hb.mono V4.out.size)
 clear hb V4
 refine hK.out _ _ (fun _ _ => HS0.out _ V5.out) ?_
 clear hK K
 try simp only [Act.put, zQ1, zQ2, zQ3]
 refine pF 18 ?_
 refine uNe 21 (fun K hK => ?_)
 go_simp
 refine (cv5 Y5).mono ?_
 rintro e Y6 ⟨rfl, hb⟩
 have V6 : Hid (Below w1.heap.size w1 Y6) := V5.out.trans (hb.mono V5.out.size)
 clear hb V5
 refine hK.out _ _ (fun _ _ => HS0.out _ V6.out) ?_
 clear hK K
 try simp only [Act.put, zQ1, zQ2, zQ3]
 refine pF 22 ?_
 refine uNe 25 (fun K hK => ?_)
 go_simp
 refine (cv6 Y6).mono ?_
 rintro e Y7 ⟨rfl, hb⟩
 have V7 : Hid (Below w1.heap.size w1 Y7) := V6.out.trans (hb.mono V6.out.size)
 clear hb V6
 refine hK.out _ _ (fun _ _ => HS0.out _ V7.out) ?_
 clear hK K
 try simp only [Act.put, zQ1, zQ2, zQ3]
 refine pF 26 ?_
 refine uNe 29 (fun K hK => ?_)
 go_simp
 refine (cy Y7).mono ?_
 rintro e w' ⟨rfl, rfl⟩
 refine hK.out _ _ (fun _ _ => HS0.out _ V7.out) ?_
 clear hK K
 try simp only [Act.put, zQ1, zQ2, zQ3]
 refine uNe 30 (fun K hK => ?_)
 go_simp
 refine (cv7 Y7).mono ?_
 rintro e Y8 ⟨rfl, hb⟩
 have V8 : Hid (Below w1.heap.size w1 Y8) := V7.out.trans (hb.mono V7.out.size)
 clear hb V7
 refine hK.out _ _ (fun _ _ => HS0.out _ V8.out) ?_
 clear hK K
 try simp only [Act.put, zQ1, zQ2, zQ3]
 refine pF 31 ?_
 refine uNe 35 (fun K hK => ?_)
 go_simp
 refine (cv8 Y8).mono ?_
 rintro e Y9 ⟨rfl, hb⟩
 have V9 : Hid (Below w1.heap.size w1 Y9) := V8.out.trans (hb.mono V8.out.size)
 clear hb V8
 refine hK.out _ _ (fun _ _ => HS0.out _ V9.out) ?_
 clear hK K
 try simp only [Act.put, zQ1, zQ2, zQ3]
 refine pF 36 ?_
 refine pF 37 ?_
 refine until_done (by kernel_rfl) ?_ _
 rw [← HH.out]
 have D0 : Hid (Below w.heap.size w Y9) := B1.out.trans (V9.out.mono B1.out.size)
 have K2 := Hid.mkM (K1.out.on V9.out K1.out.lt)
 clear HS0 B1 K1 V9 cv0 cv1 cv2 cv3 cv4 cv5 cv6 cv7 cv8 cy p1 p2 p3 p4 p5 p6 p7 p8
 generalize Y9 = Z0 at *
 generalize hhd : hdT x = hd at *
 clear hhd HH
 go_wp2_with fail
 go_loopw [3, 4] (fun v3 v4 wr => ∃ i : Nat, i ≤ n ∧ v4 = .int .i64 (i : Int) ∧ v3 = .string (hd ++ catE (x.ents.take i)) ∧ Below w.heap.size w wr ∧ Blk wr w.heap.size #[.int .i64 (kn : Int), .int .i64 (fn : Int), .int .i64 (dn : Int), .int .i64 (tn : Int), .int .i64 (xn : Int), .int .i64 (sn : Int), .int .i64 (cn : Int), .bool yy, .slice A n cap, .string dd] 29) (fun _ v _ => n - (intOf v).toNat)
 case atStart => exact ⟨0, Nat.zero_le _, rfl, by simp [catE], D0.out, K2.out⟩
 case round =>
  obtain ⟨i, hi, rfl, rfl, hD, hK⟩ := hrel
  have D := Hid.mkM hD
  have K3 := Hid.mkM hK
  clear hD hK D0 K2
  have HC := HCS.out i
  have HHs := HHS.out
  by_cases hlt : i < n
  ·have q4 : (i : Int) < (n : Int) := by omega
   obtain ⟨g, off, rfl, hg, e0, e1⟩ := HL.out i hlt
   have hgw : g < w.heap.size := Nat.lt_of_lt_of_le hg HB.out
   have HSi : Hid (catE (x.ents.take (i + 1)) = catE (x.ents.take i) ++ entT (x.ents.getD i default)) := HSN.out i hlt
   obtain ⟨z1, z2, z3⟩ := HEE.out i hlt
   generalize x.ents.getD i default = y at *
   obtain ⟨yt, yd⟩ := y
   simp only at e0 e1 z1 z2 z3
   obtain ⟨yn2, rfl⟩ : ∃ m : Nat, yt = (m : Int) := ⟨yt.toNat, by omega⟩
   have HET : Hid (entT ⟨(yn2 : Int), yd⟩ = txt (vF 6 yn2) ++ txt (vF 6 yd.size) ++ yd) := by unfold Hid entT; simp only [Int.toNat_natCast]
   have cA := fun wx => spec_var yn2 wx (by omega)
   have cB := fun wx => spec_var yd.size wx (by omega)
   have m1 := vT_small yn2
   have m2 := vT_small yd.size
   have qd : (yd.size : Int) ≤ 900 := by omega
   have HS1 : Hid (∀ wx, Below wr.heap.size wr wx → wx.cell? ⟨w.heap.size, 8, none⟩ = some (.slice (some ⟨g, off, none⟩) n cap) ∧ wx.cell? ⟨g, off + i * 2, none⟩ = some (.int .i64 (yn2 : Int)) ∧ wx.cell? ⟨g, off + i * 2 + 1, none⟩ = some (.string yd)) := fun wx hx => ⟨(K3.out.on hx K3.out.lt).cell 8 _ rfl, ((D.out.trans (hx.mono D.out.size)).cell (p := ⟨g, off + i * 2, none⟩) hgw).trans e0, ((D.out.trans (hx.mono D.out.size)).cell (p := ⟨g, off + i * 2 + 1, none⟩) hgw).trans e1⟩
   have k8 := K3.out.cell 8 _ rfl
   generalize txt (vF 6 yn2) = ta at *
   generalize txt (vF 6 yd.size) = tb at *
   generalize catE (x.ents.take i) = ce at *
   have HN2 : Hid (hd ++ ce ++ ta ++ tb ++ yd = hd ++ catE (x.ents.take (i + 1))) := by unfold Hid; rw [HSi.out, HET.out]; simp only [ByteArray.append_assoc]
   have hs0 : (hd ++ ce).size = hd.size + ce.size := ByteArray.size_append
   have s1 : ¬ 9223372036854775807 < hd.size + ce.size + ta.size := by omega
   have s2 : ¬ 9223372036854775807 < hd.size + ce.size + ta.size + tb.size := by omega
   have s3 : ¬ 9223372036854775807 < hd.size + ce.size + ta.size + tb.size + yd.size := by omega
   clear hg hgw e0 e1 z1 z2 z3 m1 m2 HC HHs hs0
   go_wp2_with fail
   clear k8
   refine wp_region_until (fun w' => w'.cell? ⟨w.heap.size, 8, none⟩ = some (.slice (some ⟨g, off, none⟩) n cap) ∧ w'.cell? ⟨g, off + i * 2, none⟩ = some (.int .i64 (yn2 : Int)) ∧ w'.cell? ⟨g, off + i * 2 + 1, none⟩ = some (.string yd)) (fun _ => false) 26 (by rfl) (by kernel_rfl) ?_
   have V0 : Hid (Below wr.heap.size wr wr.drew) := (Below.refl _ _).drew
   generalize wr.drew = Y0 at *
   refine tF 0 (HS1.out _ V0.out) ?_
   refine tF 1 (HS1.out _ V0.out) ?_
   refine tF 2 (HS1.out _ V0.out) ?_
   refine tF 3 (HS1.out _ V0.out) ?_
   refine tF 4 (HS1.out _ V0.out) ?_
   refine tF 5 (HS1.out _ V0.out) ?_
   refine tF 6 (HS1.out _ V0.out) ?_
   refine tF 9 (HS1.out _ V0.out) ?_
   refine tF 10 (HS1.out _ V0.out) ?_
   refine tF 11 (HS1.out _ V0.out) ?_
   refine tF 12 (HS1.out _ V0.out) ?_
   refine tF 13 (HS1.out _ V0.out) ?_
   refine tF 14 (HS1.out _ V0.out) ?_
   refine tF 15 (HS1.out _ V0.out) ?_
   refine tF 18 (HS1.out _ V0.out) ?_
   refine tF 19 (HS1.out _ V0.out) ?_
   refine tF 20 (HS1.out _ V0.out) ?_
   refine tF 21 (HS1.out _ V0.out) ?_
   refine tF 22 (HS1.out _ V0.out) ?_
   refine tF 23 (HS1.out _ V0.out) ?_
   refine uNe 7 (fun K hK => ?_)
   go_simp
   refine (cA Y0).mono ?_
   rintro e Y1 ⟨rfl, hb⟩
   have V1 : Hid (Below wr.heap.size wr Y1) := V0.out.trans (hb.mono V0.out.size)
   clear hb V0
   refine hK.out _ _ (fun _ _ => HS1.out _ V1.out) ?_
   clear hK K
   try simp only [Act.put, zQ1, zQ2, zQ3]
   refine pF 8 ?_
   refine uNe 16 (fun K hK => ?_)
   go_simp
   refine (cB Y1).mono ?_
   rintro e Y2 ⟨rfl, hb⟩
   have V2 : Hid (Below wr.heap.size wr Y2) := V1.out.trans (hb.mono V1.out.size)
   clear hb V1
   refine hK.out _ _ (fun _ _ => HS1.out _ V2.out) ?_
   clear hK K
   try simp only [Act.put, zQ1, zQ2, zQ3]
   refine pF 17 ?_
   refine pF 24 ?_
   refine pF 25 ?_
   refine until_done (by kernel_rfl) ?_ _
   rw [HN2.out]
   have D1 : Hid (Below w.heap.size w Y2) := D.out.trans (V2.out.mono D.out.size)
   have K4 := Hid.mkM (K3.out.on V2.out K3.out.lt)
   clear D K3 V2 HS1
   try go_wp2_with fail
   go_roundw
   case rel => exact ⟨i + 1, by omega, by go_num, rfl, D1.out, K4.out⟩
   case measure => simp [intOf]; omega
  ·obtain rfl : i = n := by omega
   have HT : Hid (hd ++ catE (x.ents.take i) ++ dd = bodT x) := by unfold Hid; rw [HTA.out, HBO.out]
   have k8 := K3.out.cell 8 _ rfl
   have k9 := K3.out.cell 9 _ rfl
   have hds := HDS.out
   generalize catE (x.ents.take i) = ce at *
   have hs0 : (hd ++ ce).size = hd.size + ce.size := ByteArray.size_append
   have s1 : ¬ 9223372036854775807 < hd.size + ce.size + dd.size := by omega
   have hs1 : (bodT x).size ≤ 1060000 := by rw [← HT.out, ByteArray.size_append, hs0]; omega
   clear hs0 HC HHs hds
   go_upto_region 9 with fail
   rw [HT.out]
   generalize bodT x = bt at *
   have cC := fun wx => spec_crc bt wx (by omega)
   have hc := crc_lt bt
   have cX := fun wx => spec_fixed (crc bt) 4 wx (by omega) (by omega) (by omega)
   have hfx := fixed_small (crc bt)
   generalize fixed (crc bt) 4 = fx at *
   generalize crc bt = cb at *
   have s2 : ¬ 9223372036854775807 < fx.size + bt.size := by omega
   go_wp2_with fail
   refine (cC _).mono ?_
   rintro e w' ⟨rfl, rfl⟩
   go_wp2_with fail
   refine (cX _).mono ?_
   rintro e w' ⟨rfl, hb⟩
   have DE : Hid (Below w.heap.size w w') := D.out.trans (hb.mono D.out.size)
   clear hb cC cX
   go_wp2_with fail
   go_ret
   exact ⟨by rw [HE.out]; rfl, DE.out⟩
end Go.Proofs.YtimfnbnffibgpaaGreatDoor
namespace Go.Proofs.YtimfnbnffibgpaaGreatDoor
open Go.ChangeShapes Go.WideShapes Go.ChangeAt Go.RowKit Go.PlainAid
set_option linter.unusedVariables false
theorem strCells_appM (t s : ByteArray) : Lib.strCells (t ++ s) = Lib.strCells t ++ Lib.strCells s := by simp [Lib.strCells]
def BldM (gb : Nat) (t : ByteArray) (w : World) : Prop := Lib.IsBuilderF 63 5 gb gb (Lib.strCells t) w
theorem BldM.on {gb : Nat} {t : ByteArray} {w w' : World} (h : BldM gb t w) (hb : Below w.heap.size w w') : BldM gb t w' := bld_on h hb
theorem bldWriteM (gb : Nat) (t s : ByteArray) (w : World) (h : BldM gb t w) (hlen : t.size + s.size ≤ 100000000) (hBw : gb ≤ w.heap.size) :
  Calls Tryz.prog 36 #[.pointer (some ⟨gb, 0, none⟩), .string s] w fun e w' => e = .returned (.tuple #[.int .i64 s.size, .nilIface]) ∧ BldM gb (t ++ s) w' ∧ Below gb w w' := by
 refine (bldWrite gb gb _ s w h (by rw [Lib.strCells_length]; omega) hBw).mono ?_
 rintro e w' ⟨rfl, h1, h2, h3⟩
 refine ⟨rfl, ?_, h2⟩
 unfold BldM
 rw [strCells_appM]
 exact .inr h1
theorem bldStringM (gb : Nat) (t : ByteArray) (w : World) (h : BldM gb t w) (hBw : gb ≤ w.heap.size) :
  Calls Tryz.prog 40 #[.pointer (some ⟨gb, 0, none⟩)] w fun e w' => e = .returned (.string t) ∧ BldM gb t w' ∧ Below gb w w' := by
 have h' : Lib.IsBuilderF 63 5 gb gb (Lib.byteCells t.data.toList) w := h
 refine (bldString gb gb _ w h' hBw).mono ?_
 rintro e w' ⟨rfl, h1, h2, _⟩
 exact ⟨by simp, h1, h2⟩
theorem BldM.lt {gb : Nat} {t : ByteArray} {w : World} (h : BldM gb t w) : gb < w.heap.size := by
 rcases h with ⟨_, v, hh, _⟩ | ⟨_, v, hh, _⟩
 ·exact lt_of_block hh
 ·exact lt_of_block hh
theorem yesI (b : Bool) (w : World) : Calls Tryz.prog 38 #[.bool b] w fun e w' => e = .returned (.int .i64 ((yesN b : Nat) : Int)) ∧ w = w' := by
 cases b
 all_goals
  go_enter Tryz.func38, Tryz.ntmps38
  go_wp2_with fail
  go_ret
  exact ⟨rfl, rfl⟩
theorem msgSumV (s : ByteArray) (w : World) (hs : s.size ≤ 2000000) (ht : SumTab w) : Calls Tryz.prog 39 #[.string s] w fun e w' => e = .returned (.string (fixed (crc s) 4)) ∧ Below w.heap.size w w' := by
 have hc := crc_lt s
 have cC := impl_crc s w (by omega) ht
 have cX := fun wx => impl_fixed (crc s) 4 wx (by omega) (by omega) (by omega)
 generalize fixed (crc s) 4 = fx at *
 generalize crc s = cb at *
 go_enter Tryz.func39, Tryz.ntmps39
 go_wp2_with fail
 refine cC.mono ?_
 rintro e w' ⟨rfl, rfl⟩
 go_wp2_with fail
 refine (cX _).mono ?_
 rintro e w' ⟨rfl, hb⟩
 have HB := Hid.mkM hb
 clear hb cX cC
 go_wp2_with fail
 go_ret
 exact ⟨rfl, HB.out⟩
theorem varsT_snoc (l : List Int) (k : Nat) (h : k < l.length) : varsT (l.take (k + 1)) = varsT (l.take k) ++ txt (vF 6 (l.getD k 0).toNat) := by
 have e : l.take (k + 1) = l.take k ++ [l.getD k 0] := by
  rw [List.take_succ_eq_append_getElem h, List.getD_eq_getElem?_getD, List.getElem?_eq_getElem h]; rfl
 rw [e, varsT_append]
 simp [varsT]
theorem varsT_sizeM : ∀ (l : List Int), (varsT l).size ≤ 7 * l.length
 | [] => by simp [varsT]
 | z :: l => by
  have h1 := varsT_sizeM l
  have h2 := vT_small z.toNat
  rw [varsT, ByteArray.size_append, List.length_cons]
  omega
set_option maxHeartbeats 4000000 in
theorem showVarsV (l : List Int) (v : Value) (w : World) (B : Nat) (hv : NumsV w B v l) (hl : l.length ≤ 100) (hz : ∀ j, j < l.length → 0 ≤ l.getD j 0 ∧ l.getD j 0 ≤ 562949953421311) (hB : B ≤ w.heap.size) :
  Calls Tryz.prog 37 #[v] w fun e w' => e = .returned (.string (varsT l)) ∧ Below w.heap.size w w' := by
 obtain ⟨A, cap, rfl, _, _, hlk⟩ := hv
 have HL := Hid.mkM hlk
 have HZ := Hid.mkM hz
 have HB : Hid (B ≤ w.heap.size) := hB
 have HSN : Hid (∀ k, k < l.length → varsT (l.take (k + 1)) = varsT (l.take k) ++ txt (vF 6 (l.getD k 0).toNat)) := fun k hk => varsT_snoc l k hk
 have HSZ : Hid (∀ k, (varsT (l.take k)).size ≤ 700) := fun k => by
  have h1 := varsT_sizeM (l.take k)
  have h2 : (l.take k).length ≤ 100 := by rw [List.length_take]; omega
  unfold Hid at *
  omega
 have HTA : Hid (varsT (l.take l.length) = varsT l) := by unfold Hid; rw [List.take_length]
 clear hlk hz hB
 generalize hN : l.length = n at *
 clear hN
 have qn : (n : Int) ≤ 100 := by omega
 have al : Below w.heap.size w (w.alloc (.cells #[.pointer none, .slice none 0 0] 63)) := (Below.refl _ _).alloc (Nat.le_refl _) _
 have k3 := Blk.new w #[.pointer none, .slice none 0 0] 63
 have LB : Hid (BldM w.heap.size ByteArray.empty (w.alloc (.cells #[.pointer none, .slice none 0 0] 63))) := bld_new k3
 have B0 := Hid.mkM al
 clear al k3
 go_enter Tryz.func37, Tryz.ntmps37
 go_wp2_with fail
 generalize w.alloc (.cells #[.pointer none, .slice none 0 0] 63) = W at *
 go_loopw [8] (fun v8 wr => ∃ i : Nat, i ≤ n ∧ v8 = .int .i64 (i : Int) ∧ BldM w.heap.size (varsT (l.take i)) wr ∧ Below w.heap.size w wr) (fun v _ => n - (intOf v).toNat)
 case atStart => exact ⟨0, Nat.zero_le _, rfl, LB.out, B0.out⟩
 case round =>
  obtain ⟨i, hi, rfl, hL, hD⟩ := hrel
  have L := Hid.mkM hL
  have D := Hid.mkM hD
  clear hL hD LB B0
  by_cases hlt : i < n
  ·have q4 : (i : Int) < (n : Int) := by omega
   obtain ⟨g, off, rfl, hg, e0⟩ := HL.out i hlt
   rw [← D.out.cell (p := ⟨_, _, none⟩) (Nat.lt_of_lt_of_le hg HB.out)] at e0
   obtain ⟨z1, z2⟩ := HZ.out i hlt
   have HS2 : Hid (varsT (l.take (i + 1)) = varsT (l.take i) ++ txt (vF 6 (l.getD i 0).toNat)) := HSN.out i hlt
   have hsz := HSZ.out i
   generalize l.getD i 0 = z at *
   obtain ⟨zn, rfl⟩ : ∃ m : Nat, z = (m : Int) := ⟨z.toNat, by omega⟩
   rw [Int.toNat_natCast] at HS2
   have cV := fun wx => impl_var zn wx (by omega)
   have hv7 := vT_small zn
   generalize txt (vF 6 zn) = tz at *
   go_wp2_with fail
   refine (cV _).mono ?_
   rintro e Y ⟨rfl, hb⟩
   have L1 := Hid.mkM (L.out.on hb)
   have D1 : Hid (Below w.heap.size w Y) := D.out.trans (hb.mono D.out.size)
   clear hb cV e0 z1 z2 L D
   go_wp2_with fail
   refine (bldWriteM w.heap.size _ tz Y L1.out (by omega) D1.out.size).mono ?_
   rintro e Y2 ⟨rfl, hL2, hb2⟩
   have L2 : Hid (BldM w.heap.size (varsT (l.take (i + 1))) Y2) := by unfold Hid; rw [HS2.out]; exact hL2
   have D2 : Hid (Below w.heap.size w Y2) := D1.out.trans hb2
   clear hL2 hb2 L1 D1
   go_wp2_with fail
   go_roundw
   case rel => exact ⟨i + 1, by omega, by go_num, L2.out, D2.out⟩
   case measure => simp [intOf]; omega
  ·obtain rfl : i = n := by omega
   rw [HTA.out] at L
   go_wp2_with fail
   refine (bldStringM w.heap.size _ _ L.out D.out.size).mono ?_
   rintro e Y ⟨rfl, _, hb⟩
   have DE : Hid (Below w.heap.size w Y) := D.out.trans hb
   clear hb
   go_wp2_with fail
   go_ret
   exact ⟨rfl, DE.out⟩
set_option maxRecDepth 20000 in
set_option maxHeartbeats 16000000 in
theorem implShowMsg (x : Mg) (v : Value) (w : World) (B : Nat) (hv : MgV w B v x) (hf : FitsM x) (hs : x.data.size ≤ 1048576) (hB : B ≤ w.heap.size) (hst : SumTab w) (a0 a1 a2 : Addr) (he : Errs w a0 a1 a2) : Calls Tryz.prog 12 #[v] w fun e w' => e = .returned (.string (msgT x)) ∧ Below w.heap.size w w' := by
 have HV := Hid.mkM hv
 have ST := Hid.mkM hst
 obtain ⟨u, rfl, hl⟩ := hv
 obtain ⟨A, cap, rfl, hlk⟩ := ent_look hl
 have HB : Hid (B ≤ w.heap.size) := hB
 have HL := Hid.mkM hlk
 have c0 := fun wx (h : Below w.heap.size w wx) => implMsgOk x _ wx B (HV.out.on (h.mono HB.out)) hf hs (Nat.le_trans HB.out h.size) (hst.on h) a0 a1 a2 (he.on h)
 have HDS : Hid (x.data.size ≤ 1048576) := hs
 clear hl hlk hf hs hB HV hst he
 unfold vMg at c0 ⊢
 generalize hN : x.ents.length = n at *
 have HNE : Hid (x.ents.length = n) := hN
 clear hN
 cases ho : msgOk x
 ·have HE : Hid (msgT x = ⟨#[]⟩) := msgT_no ho
  rw [ho] at c0
  clear ho
  have hb0 := (Below.refl w.heap.size w).alloc (Nat.le_refl _) (.cells #[.int .i64 x.kind, .int .i64 x.frm, .int .i64 x.dst, .int .i64 x.term, .int .i64 x.index, .int .i64 x.iterm, .int .i64 x.commit, .bool x.yes, .slice A n cap, .string x.data] 29)
  go_enter Tryz.func12, Tryz.ntmps12
  go_wp2_with fail
  refine (c0 _ hb0).mono ?_
  rintro e w1 ⟨rfl, hb1⟩
  have B1 : Hid (Below w.heap.size w w1) := hb0.trans (hb1.mono hb0.size)
  clear hb0 hb1 c0
  go_wp2_with fail
  go_ret
  exact ⟨by rw [HE.out]; rfl, B1.out⟩
 rw [ho] at c0
 have HE : Hid (msgT x = fixed (crc (bodT x)) 4 ++ bodT x) := msgT_yes ho
 obtain ⟨⟨e0, b0⟩, ⟨e1, b1⟩, ⟨e2, b2⟩, ⟨e3, b3⟩, ⟨e4, b4⟩, ⟨e5, b5⟩, ⟨e6, b6⟩, h8, h9⟩ := msgOk_in ho
 have HEN := Hid.mkM h9
 have qn4 : n ≤ 4 := by have := HNE.out; omega
 clear ho h8 h9
 obtain ⟨kn, hkn⟩ : ∃ n : Nat, x.kind = (n : Int) := ⟨x.kind.toNat, by omega⟩
 obtain ⟨fn, hfn⟩ : ∃ n : Nat, x.frm = (n : Int) := ⟨x.frm.toNat, by omega⟩
 obtain ⟨dn, hdn⟩ : ∃ n : Nat, x.dst = (n : Int) := ⟨x.dst.toNat, by omega⟩
 obtain ⟨tn, htn⟩ : ∃ n : Nat, x.term = (n : Int) := ⟨x.term.toNat, by omega⟩
 obtain ⟨xn, hxn⟩ : ∃ n : Nat, x.index = (n : Int) := ⟨x.index.toNat, by omega⟩
 obtain ⟨sn, hsn⟩ : ∃ n : Nat, x.iterm = (n : Int) := ⟨x.iterm.toNat, by omega⟩
 obtain ⟨cn, hcn⟩ : ∃ n : Nat, x.commit = (n : Int) := ⟨x.commit.toNat, by omega⟩
 have HH : Hid (varsT [(kn : Int), (fn : Int), (dn : Int), (tn : Int), (xn : Int), (sn : Int), (cn : Int), ((yesN x.yes : Nat) : Int), (n : Int)] = hdT x) := by
  unfold Hid hdT
  rw [HNE.out, hkn, hfn, hdn, htn, hxn, hsn, hcn]
  simp [varsT, ByteArray.append_assoc]
 have hyn : yesN x.yes ≤ 1 := by unfold yesN; split <;> omega
 have HBO : Hid (bodT x = hdT x ++ catE x.ents ++ x.data) := rfl
 have HHS : Hid ((hdT x).size ≤ 63) := hdT_size x
 have HCS : Hid (∀ k, (catE (x.ents.take k)).size ≤ 3656) := catE_few x.ents (by have := HNE.out; omega) fun y hy => (HEN.out y hy).2.2
 have HTA : Hid (x.ents.take n = x.ents) := by unfold Hid; rw [← HNE.out, List.take_length]
 have HSN : Hid (∀ k, k < n → catE (x.ents.take (k + 1)) = catE (x.ents.take k) ++ entT (x.ents.getD k default)) := fun k hk => catE_snoc x.ents k (by have := HNE.out; omega)
 have HEE : Hid (∀ k, k < n → 1 ≤ (x.ents.getD k default).term ∧ (x.ents.getD k default).term ≤ 100000 ∧ (x.ents.getD k default).data.size ≤ 900) := fun k hk => HEN.out _ (getD_mem _ k (by have := HNE.out; omega))
 rw [hkn, hfn, hdn, htn, hxn, hsn, hcn] at c0 ⊢
 rw [hkn] at e0 b0
 rw [hfn] at e1 b1
 rw [hdn] at e2 b2
 rw [htn] at e3 b3
 rw [hxn] at e4 b4
 rw [hsn] at e5 b5
 rw [hcn] at e6 b6
 clear hkn hfn hdn htn hxn hsn hcn
 have cy := fun wx => yesI x.yes wx
 generalize yesN x.yes = yn at *
 generalize x.yes = yy at *
 generalize x.data = dd at *
 have cV : ∀ wx : World, Calls Tryz.prog 37 #[.slice (some ⟨wx.heap.size, 0, none⟩) 9 9] (wx.alloc (.cells #[.int .i64 (kn : Int), .int .i64 (fn : Int), .int .i64 (dn : Int), .int .i64 (tn : Int), .int .i64 (xn : Int), .int .i64 (sn : Int), .int .i64 (cn : Int), .int .i64 (yn : Int), .int .i64 (n : Int)] 3)) fun e w' => e = .returned (.string (hdT x)) ∧ Below (wx.alloc (.cells #[.int .i64 (kn : Int), .int .i64 (fn : Int), .int .i64 (dn : Int), .int .i64 (tn : Int), .int .i64 (xn : Int), .int .i64 (sn : Int), .int .i64 (cn : Int), .int .i64 (yn : Int), .int .i64 (n : Int)] 3)).heap.size (wx.alloc (.cells #[.int .i64 (kn : Int), .int .i64 (fn : Int), .int .i64 (dn : Int), .int .i64 (tn : Int), .int .i64 (xn : Int), .int .i64 (sn : Int), .int .i64 (cn : Int), .int .i64 (yn : Int), .int .i64 (n : Int)] 3)) w' := fun wx => by
  have hN : Nums (wx.alloc (.cells #[.int .i64 (kn : Int), .int .i64 (fn : Int), .int .i64 (dn : Int), .int .i64 (tn : Int), .int .i64 (xn : Int), .int .i64 (sn : Int), .int .i64 (cn : Int), .int .i64 (yn : Int), .int .i64 (n : Int)] 3)) 0 (.slice (some ⟨wx.heap.size, 0, none⟩) 9 9) [(kn : Int), (fn : Int), (dn : Int), (tn : Int), (xn : Int), (sn : Int), (cn : Int), ((yn : Nat) : Int), (n : Int)] := World.ownsRow_lit wx #[.int .i64 (kn : Int), .int .i64 (fn : Int), .int .i64 (dn : Int), .int .i64 (tn : Int), .int .i64 (xn : Int), .int .i64 (sn : Int), .int .i64 (cn : Int), .int .i64 (yn : Int), .int .i64 (n : Int)] 9 (Nat.zero_le _) (by unfold maxLen; omega) rfl
  rw [← HH.out]
  refine showVarsV [(kn : Int), (fn : Int), (dn : Int), (tn : Int), (xn : Int), (sn : Int), (cn : Int), ((yn : Nat) : Int), (n : Int)] _ _ _ hN.lies (by simp) (fun j hj => ?_) (Nat.le_refl _)
  have : j = 0 ∨ j = 1 ∨ j = 2 ∨ j = 3 ∨ j = 4 ∨ j = 5 ∨ j = 6 ∨ j = 7 ∨ j = 8 := by simp at hj; omega
  rcases this with rfl | rfl | rfl | rfl | rfl | rfl | rfl | rfl | rfl <;> simp <;> omega
 have hb0 := (Below.refl w.heap.size w).alloc (Nat.le_refl _) (.cells #[.int .i64 (kn : Int), .int .i64 (fn : Int), .int .i64 (dn : Int), .int .i64 (tn : Int), .int .i64 (xn : Int), .int .i64 (sn : Int), .int .i64 (cn : Int), .bool yy, .slice A n cap, .string dd] 29)
 have k0 := Blk.new w #[.int .i64 (kn : Int), .int .i64 (fn : Int), .int .i64 (dn : Int), .int .i64 (tn : Int), .int .i64 (xn : Int), .int .i64 (sn : Int), .int .i64 (cn : Int), .bool yy, .slice A n cap, .string dd] 29
 clear e0 b0 e1 b1 e2 b2 e3 b3 e4 b4 e5 b5 e6 b6 hyn
 have qn : (n : Int) ≤ 4 := by omega
 go_enter Tryz.func12, Tryz.ntmps12
 go_wp2_with fail
 generalize w.alloc (.cells #[.int .i64 (kn : Int), .int .i64 (fn : Int), .int .i64 (dn : Int), .int .i64 (tn : Int), .int .i64 (xn : Int), .int .i64 (sn : Int), .int .i64 (cn : Int), .bool yy, .slice A n cap, .string dd] 29) = W at *
 refine (c0 _ hb0).mono ?_
 rintro e w1 ⟨rfl, hb1⟩
 have B1 : Hid (Below w.heap.size w w1) := hb0.trans (hb1.mono hb0.size)
 have K1 := Hid.mkM (k0.on hb1 k0.lt)
 clear hb0 hb1 c0 k0
 have hal := (Below.refl w1.heap.size w1).alloc (Nat.le_refl _) (.cells #[.pointer none, .slice none 0 0] 63)
 have k3 := Blk.new w1 #[.pointer none, .slice none 0 0] 63
 have LB : Hid (BldM w1.heap.size ByteArray.empty (w1.alloc (.cells #[.pointer none, .slice none 0 0] 63))) := bld_new k3
 have B2 : Hid (Below w.heap.size w (w1.alloc (.cells #[.pointer none, .slice none 0 0] 63))) := B1.out.trans (hal.mono B1.out.size)
 have K2 := Hid.mkM (K1.out.on hal K1.out.lt)
 have HGB : Hid (w.heap.size < w1.heap.size) := K1.out.lt
 clear hal k3 B1 K1
 go_wp2_with fail
 generalize w1.alloc (.cells #[.pointer none, .slice none 0 0] 63) = w2 at *
 generalize w1.heap.size = gb at *
 have HS0 : Hid (∀ wx, Below gb w2 wx → wx.cell? ⟨w.heap.size, 0, none⟩ = some (.int .i64 (kn : Int)) ∧ wx.cell? ⟨w.heap.size, 1, none⟩ = some (.int .i64 (fn : Int)) ∧ wx.cell? ⟨w.heap.size, 2, none⟩ = some (.int .i64 (dn : Int)) ∧ wx.cell? ⟨w.heap.size, 3, none⟩ = some (.int .i64 (tn : Int)) ∧ wx.cell? ⟨w.heap.size, 4, none⟩ = some (.int .i64 (xn : Int)) ∧ wx.cell? ⟨w.heap.size, 5, none⟩ = some (.int .i64 (sn : Int)) ∧ wx.cell? ⟨w.heap.size, 6, none⟩ = some (.int .i64 (cn : Int)) ∧ wx.cell? ⟨w.heap.size, 7, none⟩ = some (.bool yy) ∧ wx.cell? ⟨w.heap.size, 8, none⟩ = some (.slice A n cap)) := fun wx hx => ⟨(hx.cell (p := ⟨w.heap.size, 0, none⟩) HGB.out).trans (K2.out.cell 0 _ rfl), (hx.cell (p := ⟨w.heap.size, 1, none⟩) HGB.out).trans (K2.out.cell 1 _ rfl), (hx.cell (p := ⟨w.heap.size, 2, none⟩) HGB.out).trans (K2.out.cell 2 _ rfl), (hx.cell (p := ⟨w.heap.size, 3, none⟩) HGB.out).trans (K2.out.cell 3 _ rfl), (hx.cell (p := ⟨w.heap.size, 4, none⟩) HGB.out).trans (K2.out.cell 4 _ rfl), (hx.cell (p := ⟨w.heap.size, 5, none⟩) HGB.out).trans (K2.out.cell 5 _ rfl), (hx.cell (p := ⟨w.heap.size, 6, none⟩) HGB.out).trans (K2.out.cell 6 _ rfl), (hx.cell (p := ⟨w.heap.size, 7, none⟩) HGB.out).trans (K2.out.cell 7 _ rfl), (hx.cell (p := ⟨w.heap.size, 8, none⟩) HGB.out).trans (K2.out.cell 8 _ rfl)⟩
 have HGW : Hid (gb ≤ w2.heap.size) := Nat.le_of_lt LB.out.lt
 refine wp_region_until (fun w' => w'.cell? ⟨w.heap.size, 0, none⟩ = some (.int .i64 (kn : Int)) ∧ w'.cell? ⟨w.heap.size, 1, none⟩ = some (.int .i64 (fn : Int)) ∧ w'.cell? ⟨w.heap.size, 2, none⟩ = some (.int .i64 (dn : Int)) ∧ w'.cell? ⟨w.heap.size, 3, none⟩ = some (.int .i64 (tn : Int)) ∧ w'.cell? ⟨w.heap.size, 4, none⟩ = some (.int .i64 (xn : Int)) ∧ w'.cell? ⟨w.heap.size, 5, none⟩ = some (.int .i64 (sn : Int)) ∧ w'.cell? ⟨w.heap.size, 6, none⟩ = some (.int .i64 (cn : Int)) ∧ w'.cell? ⟨w.heap.size, 7, none⟩ = some (.bool yy) ∧ w'.cell? ⟨w.heap.size, 8, none⟩ = some (.slice A n cap)) (fun _ => false) 23 (by rfl) (by kernel_rfl) ?_
 have V0 : Hid (Below gb w2 w2.drew) := (Below.refl _ _).drew
 have L0 : Hid (BldM gb ByteArray.empty w2.drew) := LB.out
 generalize w2.drew = Y0 at *
 refine tF 0 (HS0.out _ V0.out) ?_
 refine tF 1 (HS0.out _ V0.out) ?_
 refine tF 2 (HS0.out _ V0.out) ?_
 refine tF 3 (HS0.out _ V0.out) ?_
 refine tF 4 (HS0.out _ V0.out) ?_
 refine tF 5 (HS0.out _ V0.out) ?_
 refine tF 6 (HS0.out _ V0.out) ?_
 refine tF 7 (HS0.out _ V0.out) ?_
 refine tF 8 (HS0.out _ V0.out) ?_
 refine tF 9 (HS0.out _ V0.out) ?_
 refine tF 10 (HS0.out _ V0.out) ?_
 refine tF 11 (HS0.out _ V0.out) ?_
 refine tF 12 (HS0.out _ V0.out) ?_
 refine tF 13 (HS0.out _ V0.out) ?_
 refine tF 14 (HS0.out _ V0.out) ?_
 refine tF 15 (HS0.out _ V0.out) ?_
 refine tF 17 (HS0.out _ V0.out) ?_
 refine tF 18 (HS0.out _ V0.out) ?_
 refine tF 19 (HS0.out _ V0.out) ?_
 refine uNe 16 (fun K hK => ?_)
 go_simp
 refine (cy Y0).mono ?_
 rintro e w' ⟨rfl, rfl⟩
 refine hK.out _ _ (fun _ _ => HS0.out _ V0.out) ?_
 clear hK K
 try simp only [Act.put, zQ1, zQ2, zQ3]
 refine uNe 20 (fun K hK => ?_)
 have ha := (Below.refl Y0.heap.size Y0).alloc (Nat.le_refl _) (.cells #[.int .i64 (kn : Int), .int .i64 (fn : Int), .int .i64 (dn : Int), .int .i64 (tn : Int), .int .i64 (xn : Int), .int .i64 (sn : Int), .int .i64 (cn : Int), .int .i64 (yn : Int), .int .i64 (n : Int)] 3)
 have V1 : Hid (Below gb w2 (Y0.alloc (.cells #[.int .i64 (kn : Int), .int .i64 (fn : Int), .int .i64 (dn : Int), .int .i64 (tn : Int), .int .i64 (xn : Int), .int .i64 (sn : Int), .int .i64 (cn : Int), .int .i64 (yn : Int), .int .i64 (n : Int)] 3))) := V0.out.trans (ha.mono (Nat.le_trans HGW.out V0.out.size))
 have L1 := Hid.mkM (L0.out.on ha)
 have cV2 := cV Y0
 clear ha L0
 go_simp
 refine hK.out _ _ (fun _ _ => HS0.out _ V1.out) ?_
 clear hK K
 try simp only [Act.put, zQ1, zQ2, zQ3]
 generalize Y0.alloc (.cells #[.int .i64 (kn : Int), .int .i64 (fn : Int), .int .i64 (dn : Int), .int .i64 (tn : Int), .int .i64 (xn : Int), .int .i64 (sn : Int), .int .i64 (cn : Int), .int .i64 (yn : Int), .int .i64 (n : Int)] 3) = Y1 at *
 refine uNe 21 (fun K hK => ?_)
 go_simp
 refine cV2.mono ?_
 rintro e Y2 ⟨rfl, hb⟩
 have V2 : Hid (Below gb w2 Y2) := V1.out.trans (hb.mono (Nat.le_trans HGW.out V1.out.size))
 have L2 := Hid.mkM (L1.out.on hb)
 clear hb V1 L1 cV2 cV cy
 refine hK.out _ _ (fun _ _ => HS0.out _ V2.out) ?_
 clear hK K
 try simp only [Act.put, zQ1, zQ2, zQ3]
 refine uNe 22 (fun K hK => ?_)
 go_simp
 refine (bldWriteM gb _ (hdT x) Y2 L2.out (by have := HHS.out; have h0 : ByteArray.empty.size = 0 := rfl; omega) (Nat.le_of_lt L2.out.lt)).mono ?_
 rintro e Y3 ⟨rfl, hL3, hb⟩
 have V3 : Hid (Below gb w2 Y3) := V2.out.trans hb
 have L3 : Hid (BldM gb (hdT x) Y3) := by unfold Hid; rw [ByteArray.empty_append] at hL3; exact hL3
 clear hb hL3 V2 L2
 refine hK.out _ _ (fun _ _ => HS0.out _ V3.out) ?_
 clear hK K
 try simp only [Act.put, zQ1, zQ2, zQ3]
 refine until_done (by kernel_rfl) ?_ _
 have D0 : Hid (Below w.heap.size w Y3) := B2.out.trans (V3.out.mono (Nat.le_of_lt HGB.out))
 have K3 : Hid (Blk Y3 w.heap.size #[.int .i64 (kn : Int), .int .i64 (fn : Int), .int .i64 (dn : Int), .int .i64 (tn : Int), .int .i64 (xn : Int), .int .i64 (sn : Int), .int .i64 (cn : Int), .bool yy, .slice A n cap, .string dd] 29) := (V3.out.block _ HGB.out).trans K2.out
 clear HS0 V3 V0 B2 K2 LB
 have HHs := Hid.mkM HHS.out
 generalize hdT x = hd at *
 have k8 := K3.out.cell 8 _ rfl
 go_wp2_with fail
 clear k8
 go_loopw [35] (fun v wr => ∃ i : Nat, i ≤ n ∧ v = .int .i64 (i : Int) ∧ BldM gb (hd ++ catE (x.ents.take i)) wr ∧ Below w.heap.size w wr ∧ Blk wr w.heap.size #[.int .i64 (kn : Int), .int .i64 (fn : Int), .int .i64 (dn : Int), .int .i64 (tn : Int), .int .i64 (xn : Int), .int .i64 (sn : Int), .int .i64 (cn : Int), .bool yy, .slice A n cap, .string dd] 29) (fun v _ => n - (intOf v).toNat)
 case atStart => exact ⟨0, Nat.zero_le _, rfl, by simpa [catE] using L3.out, D0.out, K3.out⟩
 case round =>
  obtain ⟨i, hi, rfl, hL, hD, hK⟩ := hrel
  have L := Hid.mkM hL
  have D := Hid.mkM hD
  have K4 := Hid.mkM hK
  clear hL hD hK L3 D0 K3
  have HC := HCS.out i
  by_cases hlt : i < n
  ·have q4 : (i : Int) < (n : Int) := by omega
   obtain ⟨g, off, rfl, hg, e0, e1⟩ := HL.out i hlt
   have hgw : g < w.heap.size := Nat.lt_of_lt_of_le hg HB.out
   rw [← D.out.cell (p := ⟨_, _, none⟩) hgw] at e0 e1
   have HSi : Hid (catE (x.ents.take (i + 1)) = catE (x.ents.take i) ++ entT (x.ents.getD i default)) := HSN.out i hlt
   obtain ⟨z1, z2, z3⟩ := HEE.out i hlt
   generalize x.ents.getD i default = y at *
   obtain ⟨yt, yd⟩ := y
   simp only at e0 e1 z1 z2 z3
   obtain ⟨yn2, rfl⟩ : ∃ m : Nat, yt = (m : Int) := ⟨yt.toNat, by omega⟩
   have HET : Hid (varsT [(yn2 : Int), ((yd.size : Nat) : Int)] ++ yd = entT ⟨(yn2 : Int), yd⟩) := by unfold Hid entT; simp [varsT, ByteArray.append_assoc]
   have hv7 := varsT_sizeM [(yn2 : Int), ((yd.size : Nat) : Int)]
   have hv8 : (varsT [(yn2 : Int), ((yd.size : Nat) : Int)]).size ≤ 14 := hv7
   have qd : (yd.size : Int) ≤ 900 := by omega
   have cW : ∀ wx : World, Calls Tryz.prog 37 #[.slice (some ⟨wx.heap.size, 0, none⟩) 2 2] (wx.alloc (.cells #[.int .i64 (yn2 : Int), .int .i64 (yd.size : Int)] 3)) fun e w' => e = .returned (.string (varsT [(yn2 : Int), ((yd.size : Nat) : Int)])) ∧ Below (wx.alloc (.cells #[.int .i64 (yn2 : Int), .int .i64 (yd.size : Int)] 3)).heap.size (wx.alloc (.cells #[.int .i64 (yn2 : Int), .int .i64 (yd.size : Int)] 3)) w' := fun wx => by
    have hN : Nums (wx.alloc (.cells #[.int .i64 (yn2 : Int), .int .i64 (yd.size : Int)] 3)) 0 (.slice (some ⟨wx.heap.size, 0, none⟩) 2 2) [(yn2 : Int), ((yd.size : Nat) : Int)] := World.ownsRow_lit wx #[.int .i64 (yn2 : Int), .int .i64 (yd.size : Int)] 2 (Nat.zero_le _) (by unfold maxLen; omega) rfl
    refine showVarsV [(yn2 : Int), ((yd.size : Nat) : Int)] _ _ _ hN.lies (by simp) (fun j hj => ?_) (Nat.le_refl _)
    have : j = 0 ∨ j = 1 := by simp at hj; omega
    rcases this with rfl | rfl <;> simp <;> omega
   generalize varsT [(yn2 : Int), ((yd.size : Nat) : Int)] = tv at *
   have al := (Below.refl wr.heap.size wr).alloc (Nat.le_refl _) (.cells #[.int .i64 (yn2 : Int), .string yd] 57)
   have KE := Hid.mkM (Blk.new wr #[.int .i64 (yn2 : Int), .string yd] 57)
   have D1 : Hid (Below w.heap.size w (wr.alloc (.cells #[.int .i64 (yn2 : Int), .string yd] 57))) := D.out.trans (al.mono D.out.size)
   have L1 := Hid.mkM (L.out.on al)
   have K5 := Hid.mkM (K4.out.on al K4.out.lt)
   generalize catE (x.ents.take i) = ce at *
   have HN2 : Hid (hd ++ ce ++ (tv ++ yd) = hd ++ catE (x.ents.take (i + 1))) := by unfold Hid; rw [HSi.out, HET.out]; simp only [ByteArray.append_assoc]
   have hs0 : (hd ++ ce).size = hd.size + ce.size := ByteArray.size_append
   have hs2 : (tv ++ yd).size = tv.size + yd.size := ByteArray.size_append
   have hhs := HHs.out
   have s3 : ¬ 9223372036854775807 < tv.size + yd.size := by omega
   have HLN : Hid ((hd ++ ce).size + (tv ++ yd).size ≤ 100000000) := by unfold Hid; omega
   clear hg hgw z1 z2 z3 hv7 hv8 HC hs0 hs2 hhs al
   have k8 := K4.out.cell 8 _ rfl
   go_wp2_with fail
   clear k8 e0 e1 L D K4
   generalize hge : wr.heap.size = ge at *
   have HGE : Hid (ge < (wr.alloc (.cells #[.int .i64 (yn2 : Int), .string yd] 57)).heap.size) := KE.out.lt
   generalize wr.alloc (.cells #[.int .i64 (yn2 : Int), .string yd] 57) = Z at *
   have HS1 : Hid (∀ wx, Below Z.heap.size Z wx → wx.cell? ⟨ge, 0, none⟩ = some (.int .i64 (yn2 : Int)) ∧ wx.cell? ⟨ge, 1, none⟩ = some (.string yd)) := fun wx hx => ⟨(KE.out.on hx KE.out.lt).cell 0 _ rfl, (KE.out.on hx KE.out.lt).cell 1 _ rfl⟩
   refine wp_region_until (fun w' => w'.cell? ⟨ge, 0, none⟩ = some (.int .i64 (yn2 : Int)) ∧ w'.cell? ⟨ge, 1, none⟩ = some (.string yd)) (fun i => i == 10) 11 (by rfl) (by kernel_rfl) ?_
   have V0 : Hid (Below Z.heap.size Z Z.drew) := (Below.refl _ _).drew
   have L2 : Hid (BldM gb (hd ++ ce) Z.drew) := L1.out
   generalize Z.drew = Y0 at *
   refine tF 0 (HS1.out _ V0.out) ?_
   refine tF 1 (HS1.out _ V0.out) ?_
   refine tF 2 (HS1.out _ V0.out) ?_
   refine tF 3 (HS1.out _ V0.out) ?_
   refine tF 4 (HS1.out _ V0.out) ?_
   refine tF 7 (HS1.out _ V0.out) ?_
   refine tF 8 (HS1.out _ V0.out) ?_
   refine uNe 5 (fun K hK => ?_)
   have ha := (Below.refl Y0.heap.size Y0).alloc (Nat.le_refl _) (.cells #[.int .i64 (yn2 : Int), .int .i64 (yd.size : Int)] 3)
   have V1 : Hid (Below Z.heap.size Z (Y0.alloc (.cells #[.int .i64 (yn2 : Int), .int .i64 (yd.size : Int)] 3))) := V0.out.trans (ha.mono V0.out.size)
   have L3 := Hid.mkM (L2.out.on ha)
   have cW2 := cW Y0
   clear ha L2
   go_simp
   refine hK.out _ _ (fun _ _ => HS1.out _ V1.out) ?_
   clear hK K
   try simp only [Act.put, zQ1, zQ2, zQ3]
   generalize Y0.alloc (.cells #[.int .i64 (yn2 : Int), .int .i64 (yd.size : Int)] 3) = Y1 at *
   refine uNe 6 (fun K hK => ?_)
   go_simp
   refine cW2.mono ?_
   rintro e Y2 ⟨rfl, hb⟩
   have V2 : Hid (Below Z.heap.size Z Y2) := V1.out.trans (hb.mono V1.out.size)
   have L4 := Hid.mkM (L3.out.on hb)
   clear hb V1 L3 cW2 cW
   refine hK.out _ _ (fun _ _ => HS1.out _ V2.out) ?_
   clear hK K
   try simp only [Act.put, zQ1, zQ2, zQ3]
   refine pF 9 ?_
   refine uNe 10 (fun K hK => ?_)
   go_simp
   refine (bldWriteM gb _ (tv ++ yd) Y2 L4.out HLN.out (Nat.le_of_lt L4.out.lt)).mono ?_
   rintro e Y3 ⟨rfl, hL5, hb⟩
   have L5 : Hid (BldM gb (hd ++ catE (x.ents.take (i + 1))) Y3) := by unfold Hid; rw [← HN2.out]; exact hL5
   have D2 : Hid (Below w.heap.size w Y3) := (D1.out.trans (V2.out.mono D1.out.size)).trans (hb.mono (Nat.le_of_lt HGB.out))
   have K6 : Hid (Blk Y3 w.heap.size #[.int .i64 (kn : Int), .int .i64 (fn : Int), .int .i64 (dn : Int), .int .i64 (tn : Int), .int .i64 (xn : Int), .int .i64 (sn : Int), .int .i64 (cn : Int), .bool yy, .slice (some ⟨g, off, none⟩) n cap, .string dd] 29) := (hb.block _ HGB.out).trans (K5.out.on V2.out K5.out.lt)
   clear hb hL5 V2 V0 L4 L1 D1 K5 HS1
   refine hK.out _ _ (fun h => by cases h) ?_
   clear hK K
   try simp only [Act.put, zQ1, zQ2, zQ3]
   refine until_done (by kernel_rfl) ?_ _
   try go_wp2_with fail
   go_roundw
   case rel => exact ⟨i + 1, by omega, by go_num, L5.out, D2.out, K6.out⟩
   case measure => simp [intOf]; omega
  ·obtain rfl : i = n := by omega
   have HT : Hid (hd ++ catE (x.ents.take i) ++ dd = bodT x) := by unfold Hid; rw [HTA.out, HBO.out]
   have k9 := K4.out.cell 9 _ rfl
   have hds := HDS.out
   have hhs := HHs.out
   generalize catE (x.ents.take i) = ce at *
   have hs0 : (hd ++ ce).size = hd.size + ce.size := ByteArray.size_append
   have hs1 : (bodT x).size ≤ 1060000 := by rw [← HT.out, ByteArray.size_append, hs0]; omega
   have HLN : Hid ((hd ++ ce).size + dd.size ≤ 100000000) := by unfold Hid; omega
   clear hs0 HC hds hhs
   go_wp2_with fail
   refine (bldWriteM gb _ dd _ L.out HLN.out (Nat.le_of_lt L.out.lt)).mono ?_
   rintro e Y1 ⟨rfl, hL5, hb⟩
   have L5 : Hid (BldM gb (bodT x) Y1) := by unfold Hid; rw [← HT.out]; exact hL5
   have D1 : Hid (Below w.heap.size w Y1) := D.out.trans (hb.mono (Nat.le_of_lt HGB.out))
   clear hb hL5 k9 L D K4
   have hfx := fixed_small (crc (bodT x))
   generalize bodT x = bt at *
   go_wp2_with fail
   refine (bldStringM gb _ _ L5.out (Nat.le_of_lt L5.out.lt)).mono ?_
   rintro e Y2 ⟨rfl, hL6, hb⟩
   have L6 := Hid.mkM hL6
   have D2 : Hid (Below w.heap.size w Y2) := D1.out.trans (hb.mono (Nat.le_of_lt HGB.out))
   clear hb hL6 L5 D1
   have cM := msgSumV bt Y2 (by omega) (ST.out.on D2.out)
   generalize fixed (crc bt) 4 = fx at *
   have s2 : ¬ 9223372036854775807 < fx.size + bt.size := by omega
   go_wp2_with fail
   refine cM.mono ?_
   rintro e Y3 ⟨rfl, hb⟩
   have L7 := Hid.mkM (L6.out.on hb)
   have D3 : Hid (Below w.heap.size w Y3) := D2.out.trans (hb.mono D2.out.size)
   clear hb cM L6 D2
   go_wp2_with fail
   refine (bldStringM gb _ _ L7.out (Nat.le_of_lt L7.out.lt)).mono ?_
   rintro e Y4 ⟨rfl, _, hb⟩
   have D4 : Hid (Below w.heap.size w Y4) := D3.out.trans (hb.mono (Nat.le_of_lt HGB.out))
   clear hb L7 D3
   go_wp2_with fail
   go_ret
   exact ⟨by rw [HE.out]; rfl, D4.out⟩
end Go.Proofs.YtimfnbnffibgpaaGreatDoor
