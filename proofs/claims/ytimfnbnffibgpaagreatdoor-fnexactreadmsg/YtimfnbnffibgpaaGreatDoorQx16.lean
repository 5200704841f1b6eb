/- MgShS MgRd MgRes MgReA MgPc WkTo -/
import Derived.Test.YtimfnbnffibgpaaGreatDoorRows
import Derived.Test.YtimfnbnffibgpaaGreatDoorQx14
import Derived.Test.YtimfnbnffibgpaaGreatDoorQx15
import Derived.Test.YtimfnbnffibgpaaGreatDoorQx12
import Derived.Test.YtimfnbnffibgpaaGreatDoorQx0
import Derived.Test.YtimfnbnffibgpaaGreatDoorQx2
import Derived.Laws.StructEq
import Derived.Laws.DeepStrings4
import Derived.Deep.Cut
import Derived.Deep.CutRange
import Derived.Handy
import Derived.Test.YtimfnbnffibgpaaGreatDoorQx8
import Derived.Test.YtimfnbnffibgpaaGreatDoorQx1
import Derived.WalkKit
import Derived.ProofKit
import Derived.Below
import Derived.Test.YtimfnbnffibgpaaGreatDoorQx11
import Derived.WalkSmall
import Derived.Test.YtimfnbnffibgpaaGreatDoorQx4
open List (setIfInBounds_toArray set_cons_zero set_cons_succ)
namespace Go.Proofs.YtimfnbnffibgpaaGreatDoor
open Go.ChangeShapes Go.WideShapes Go.ChangeAt Go.RowKit Go.PlainAid
set_option linter.unusedVariables false
theorem yesS (b : Bool) (w : World) : Calls Tryz.prog 33 #[.bool b] w fun e w' => e = .returned (.int .i64 ((yesN b : Nat) : Int)) ∧ w = w' := by
 cases b
 all_goals
  go_enter Tryz.func33, Tryz.ntmps33
  go_wp2_with fail
  go_ret
  exact ⟨rfl, rfl⟩
theorem msgT_no {x : Mg} (h : msgOk x = false) : msgT x = ⟨#[]⟩ := by unfold msgT; rw [h]; rfl
theorem msgT_yes {x : Mg} (h : msgOk x = true) : msgT x = fixed (crc (bodT x)) 4 ++ bodT x := by unfold msgT; rw [if_pos h]
theorem fixed_small (n : Nat) : (fixed n 4).size ≤ 4 := by
 unfold fixed
 split
 ·rw [txt_size]; simp [low]
 ·rw [txt_size]; simp
set_option maxRecDepth 20000 in
set_option maxHeartbeats 16000000 in
theorem specShowMsg (x : Mg) (v : Value) (w : World) (B : Nat) (hv : MgV w B v x) (hf : FitsM x) (hw : wtM x ≤ 1048576) (hB : B ≤ w.heap.size) : Calls Tryz.prog 11 #[v] w fun e w' => e = .returned (.string (msgT x)) ∧ Below w.heap.size w w' := by
 have HV := Hid.mkM hv
 obtain ⟨u, rfl, hl⟩ := hv
 obtain ⟨A, cap, rfl, hlk⟩ := ent_look hl
 have HB : Hid (B ≤ w.heap.size) := hB
 have HL := Hid.mkM hlk
 have c0 := fun wx (h : Below w.heap.size w wx) => specMsgOk x _ wx B (HV.out.on (h.mono HB.out)) hf hw (Nat.le_trans HB.out h.size)
 have HDS : Hid (x.data.size ≤ 1048576) := by unfold Hid; unfold wtM at hw; omega
 clear hl hlk hf hw hB HV
 unfold vMg at c0 ⊢
 generalize hN : x.ents.length = n at *
 have HNE : Hid (x.ents.length = n) := hN
 clear hN
 cases ho : msgOk x
 ·have HE : Hid (msgT x = ⟨#[]⟩) := msgT_no ho
  rw [ho] at c0
  clear ho
  have hb0 := (Below.refl w.heap.size w).alloc (Nat.le_refl _) (.cells #[.int .i64 x.kind, .int .i64 x.frm, .int .i64 x.dst, .int .i64 x.term, .int .i64 x.index, .int .i64 x.iterm, .int .i64 x.commit, .bool x.yes, .slice A n cap, .string x.data] 29)
  go_enter Tryz.func11, Tryz.ntmps11
  go_wp2_with fail
  refine (c0 _ hb0).mono ?_
  rintro e w1 ⟨rfl, hb1⟩
  have B1 : Hid (Below w.heap.size w w1) := hb0.trans (hb1.mono hb0.size)
  clear hb0 hb1 c0
  go_wp2_with fail
  go_ret
  exact ⟨by rw [HE.out]; rfl, B1.out⟩
 rw [ho] at c0
 have HE : Hid (msgT x = fixed (crc (bodT x)) 4 ++ bodT x) := msgT_yes ho
 obtain ⟨⟨a0, b0⟩, ⟨a1, b1⟩, ⟨a2, b2⟩, ⟨a3, b3⟩, ⟨a4, b4⟩, ⟨a5, b5⟩, ⟨a6, b6⟩, h8, h9⟩ := msgOk_in ho
 have HEN := Hid.mkM h9
 have qn4 : n ≤ 4 := by have := HNE.out; omega
 clear ho h8 h9
 obtain ⟨kn, hkn⟩ : ∃ n : Nat, x.kind = (n : Int) := ⟨x.kind.toNat, by omega⟩
 obtain ⟨fn, hfn⟩ : ∃ n : Nat, x.frm = (n : Int) := ⟨x.frm.toNat, by omega⟩
 obtain ⟨dn, hdn⟩ : ∃ n : Nat, x.dst = (n : Int) := ⟨x.dst.toNat, by omega⟩
 obtain ⟨tn, htn⟩ : ∃ n : Nat, x.term = (n : Int) := ⟨x.term.toNat, by omega⟩
 obtain ⟨xn, hxn⟩ : ∃ n : Nat, x.index = (n : Int) := ⟨x.index.toNat, by omega⟩
 obtain ⟨sn, hsn⟩ : ∃ n : Nat, x.iterm = (n : Int) := ⟨x.iterm.toNat, by omega⟩
 obtain ⟨cn, hcn⟩ : ∃ n : Nat, x.commit = (n : Int) := ⟨x.commit.toNat, by omega⟩
 have HH : Hid (hdT x = txt (vF 6 kn) ++ txt (vF 6 fn) ++ txt (vF 6 dn) ++ txt (vF 6 tn) ++ txt (vF 6 xn) ++ txt (vF 6 sn) ++ txt (vF 6 cn) ++ txt (vF 6 (yesN x.yes)) ++ txt (vF 6 n)) := by
  unfold Hid hdT
  rw [HNE.out, hkn, hfn, hdn, htn, hxn, hsn, hcn]
  simp only [Int.toNat_natCast]
 have HBO : Hid (bodT x = hdT x ++ catE x.ents ++ x.data) := rfl
 have HHS : Hid ((hdT x).size ≤ 63) := hdT_size x
 have HCS : Hid (∀ k, (catE (x.ents.take k)).size ≤ 3656) := catE_few x.ents (by have := HNE.out; omega) fun y hy => (HEN.out y hy).2.2
 have HTA : Hid (x.ents.take n = x.ents) := by unfold Hid; rw [← HNE.out, List.take_length]
 have HSN : Hid (∀ k, k < n → catE (x.ents.take (k + 1)) = catE (x.ents.take k) ++ entT (x.ents.getD k default)) := fun k hk => catE_snoc x.ents k (by have := HNE.out; omega)
 have HEE : Hid (∀ k, k < n → 1 ≤ (x.ents.getD k default).term ∧ (x.ents.getD k default).term ≤ 100000 ∧ (x.ents.getD k default).data.size ≤ 900) := fun k hk => HEN.out _ (getD_mem _ k (by have := HNE.out; omega))
 rw [hkn, hfn, hdn, htn, hxn, hsn, hcn] at c0 ⊢
 rw [hkn] at a0 b0
 rw [hfn] at a1 b1
 rw [hdn] at a2 b2
 rw [htn] at a3 b3
 rw [hxn] at a4 b4
 rw [hsn] at a5 b5
 rw [hcn] at a6 b6
 clear hkn hfn hdn htn hxn hsn hcn
 have cv0 := fun wx => spec_var kn wx (by omega)
 have cv1 := fun wx => spec_var fn wx (by omega)
 have cv2 := fun wx => spec_var dn wx (by omega)
 have cv3 := fun wx => spec_var tn wx (by omega)
 have cv4 := fun wx => spec_var xn wx (by omega)
 have cv5 := fun wx => spec_var sn wx (by omega)
 have cv6 := fun wx => spec_var cn wx (by omega)
 have cv7 := fun wx => spec_var (yesN x.yes) wx (by unfold yesN; split <;> omega)
 have cv8 := fun wx => spec_var n wx (by omega)
 have l0 := vT_small kn
 have l1 := vT_small fn
 have l2 := vT_small dn
 have l3 := vT_small tn
 have l4 := vT_small xn
 have l5 := vT_small sn
 have l6 := vT_small cn
 have l7 := vT_small (yesN x.yes)
 have l8 := vT_small n
 generalize txt (vF 6 kn) = t0 at *
 generalize txt (vF 6 fn) = t1 at *
 generalize txt (vF 6 dn) = t2 at *
 generalize txt (vF 6 tn) = t3 at *
 generalize txt (vF 6 xn) = t4 at *
 generalize txt (vF 6 sn) = t5 at *
 generalize txt (vF 6 cn) = t6 at *
 generalize txt (vF 6 (yesN x.yes)) = t7 at *
 generalize txt (vF 6 n) = t8 at *
 have p1 : ¬ 9223372036854775807 < t0.size + t1.size := by omega
 have p2 : ¬ 9223372036854775807 < t0.size + t1.size + t2.size := by omega
 have p3 : ¬ 9223372036854775807 < t0.size + t1.size + t2.size + t3.size := by omega
 have p4 : ¬ 9223372036854775807 < t0.size + t1.size + t2.size + t3.size + t4.size := by omega
 have p5 : ¬ 9223372036854775807 < t0.size + t1.size + t2.size + t3.size + t4.size + t5.size := by omega
 have p6 : ¬ 9223372036854775807 < t0.size + t1.size + t2.size + t3.size + t4.size + t5.size + t6.size := by omega
 have p7 : ¬ 9223372036854775807 < t0.size + t1.size + t2.size + t3.size + t4.size + t5.size + t6.size + t7.size := by omega
 have p8 : ¬ 9223372036854775807 < t0.size + t1.size + t2.size + t3.size + t4.size + t5.size + t6.size + t7.size + t8.size := by omega
 have cy := fun wx => yesS x.yes wx
 generalize yesN x.yes = yn at *
 generalize x.yes = yy at *
 generalize x.data = dd at *
 have hb0 := (Below.refl w.heap.size w).alloc (Nat.le_refl _) (.cells #[.int .i64 (kn : Int), .int .i64 (fn : Int), .int .i64 (dn : Int), .int .i64 (tn : Int), .int .i64 (xn : Int), .int .i64 (sn : Int), .int .i64 (cn : Int), .bool yy, .slice A n cap, .string dd] 29)
 have k0 := Blk.new w #[.int .i64 (kn : Int), .int .i64 (fn : Int), .int .i64 (dn : Int), .int .i64 (tn : Int), .int .i64 (xn : Int), .int .i64 (sn : Int), .int .i64 (cn : Int), .bool yy, .slice A n cap, .string dd] 29
 clear a0 b0 a1 b1 a2 b2 a3 b3 a4 b4 a5 b5 a6 b6 l0 l1 l2 l3 l4 l5 l6 l7 l8
 have qn : (n : Int) ≤ 4 := by omega
 go_enter Tryz.func11, Tryz.ntmps11
 go_wp2_with fail
 generalize w.alloc (.cells #[.int .i64 (kn : Int), .int .i64 (fn : Int), .int .i64 (dn : Int), .int .i64 (tn : Int), .int .i64 (xn : Int), .int .i64 (sn : Int), .int .i64 (cn : Int), .bool yy, .slice A n cap, .string dd] 29) = W at *
 refine (c0 _ hb0).mono ?_
 rintro e w1 ⟨rfl, hb1⟩
 have B1 : Hid (Below w.heap.size w w1) := hb0.trans (hb1.mono hb0.size)
 have K1 := Hid.mkM (k0.on hb1 k0.lt)
 clear hb0 hb1 c0 k0
 go_wp2_with fail
 have HS0 : Hid (∀ wx, Below w1.heap.size w1 wx → wx.cell? ⟨w.heap.size, 0, none⟩ = some (.int .i64 (kn : Int)) ∧ wx.cell? ⟨w.heap.size, 1, none⟩ = some (.int .i64 (fn : Int)) ∧ wx.cell? ⟨w.heap.size, 2, none⟩ = some (.int .i64 (dn : Int)) ∧ wx.cell? ⟨w.heap.size, 3, none⟩ = some (.int .i64 (tn : Int)) ∧ wx.cell? ⟨w.heap.size, 4, none⟩ = some (.int .i64 (xn : Int)) ∧ wx.cell? ⟨w.heap.size, 5, none⟩ = some (.int .i64 (sn : Int)) ∧ wx.cell? ⟨w.heap.size, 6, none⟩ = some (.int .i64 (cn : Int)) ∧ wx.cell? ⟨w.heap.size, 7, none⟩ = some (.bool yy) ∧ wx.cell? ⟨w.heap.size, 8, none⟩ = some (.slice A n cap)) := fun wx hx => ⟨(K1.out.on hx K1.out.lt).cell 0 _ rfl, (K1.out.on hx K1.out.lt).cell 1 _ rfl, (K1.out.on hx K1.out.lt).cell 2 _ rfl, (K1.out.on hx K1.out.lt).cell 3 _ rfl, (K1.out.on hx K1.out.lt).cell 4 _ rfl, (K1.out.on hx K1.out.lt).cell 5 _ rfl, (K1.out.on hx K1.out.lt).cell 6 _ rfl, (K1.out.on hx K1.out.lt).cell 7 _ rfl, (K1.out.on hx K1.out.lt).cell 8 _ rfl⟩
 refine wp_region_until (fun w' => w'.cell? ⟨w.heap.size, 0, none⟩ = some (.int .i64 (kn : Int)) ∧ w'.cell? ⟨w.heap.size, 1, none⟩ = some (.int .i64 (fn : Int)) ∧ w'.cell? ⟨w.heap.size, 2, none⟩ = some (.int .i64 (dn : Int)) ∧ w'.cell? ⟨w.heap.size, 3, none⟩ = some (.int .i64 (tn : Int)) ∧ w'.cell? ⟨w.heap.size, 4, none⟩ = some (.int .i64 (xn : Int)) ∧ w'.cell? ⟨w.heap.size, 5, none⟩ = some (.int .i64 (sn : Int)) ∧ w'.cell? ⟨w.heap.size, 6, none⟩ = some (.int .i64 (cn : Int)) ∧ w'.cell? ⟨w.heap.size, 7, none⟩ = some (.bool yy) ∧ w'.cell? ⟨w.heap.size, 8, none⟩ = some (.slice A n cap)) (fun _ => false) 38 (by rfl) (by kernel_rfl) ?_
 have V0 : Hid (Below w1.heap.size w1 w1.drew) := (Below.refl _ _).drew
 generalize w1.drew = Y0 at *
 refine tF 0 (HS0.out _ V0.out) ?_
 refine tF 1 (HS0.out _ V0.out) ?_
 refine tF 3 (HS0.out _ V0.out) ?_
 refine tF 4 (HS0.out _ V0.out) ?_
 refine tF 7 (HS0.out _ V0.out) ?_
 refine tF 8 (HS0.out _ V0.out) ?_
 refine tF 11 (HS0.out _ V0.out) ?_
 refine tF 12 (HS0.out _ V0.out) ?_
 refine tF 15 (HS0.out _ V0.out) ?_
 refine tF 16 (HS0.out _ V0.out) ?_
 refine tF 19 (HS0.out _ V0.out) ?_
 refine tF 20 (HS0.out _ V0.out) ?_
 refine tF 23 (HS0.out _ V0.out) ?_
 refine tF 24 (HS0.out _ V0.out) ?_
 refine tF 27 (HS0.out _ V0.out) ?_
 refine tF 28 (HS0.out _ V0.out) ?_
 refine tF 32 (HS0.out _ V0.out) ?_
 refine tF 33 (HS0.out _ V0.out) ?_
 refine tF 34 (HS0.out _ V0.out) ?_
 refine uNe 2 (fun K hK => ?_)
 go_simp
 refine (cv0 Y0).mono ?_
 rintro e Y1 ⟨rfl, hb⟩
 have V1 : Hid (Below w1.heap.size w1 Y1) := V0.out.trans (hb.mono V0.out.size)
 clear hb V0
 refine hK.out _ _ (fun _ _ => HS0.out _ V1.out) ?_
 clear hK K
 try simp only [Act.put, zQ1, zQ2, zQ3]
 refine uNe 5 (fun K hK => ?_)
 go_simp
 refine (cv1 Y1).mono ?_
 rintro e Y2 ⟨rfl, hb⟩
 have V2 : Hid (Below w1.heap.size w1 Y2) := V1.out.trans (hb.mono V1.out.size)
 clear hb V1
 refine hK.out _ _ (fun _ _ => HS0.out _ V2.out) ?_
 clear hK K
 try simp only [Act.put, zQ1, zQ2, zQ3]
 refine pF 6 ?_
 refine uNe 9 (fun K hK => ?_)
 go_simp
 refine (cv2 Y2).mono ?_
 rintro e Y3 ⟨rfl, hb⟩
 have V3 : Hid (Below w1.heap.size w1 Y3) := V2.out.trans (hb.mono V2.out.size)
 clear hb V2
 refine hK.out _ _ (fun _ _ => HS0.out _ V3.out) ?_
 clear hK K
 try simp only [Act.put, zQ1, zQ2, zQ3]
 refine pF 10 ?_
 refine uNe 13 (fun K hK => ?_)
 go_simp
 refine (cv3 Y3).mono ?_
 rintro e Y4 ⟨rfl, hb⟩
 have V4 : Hid (Below w1.heap.size w1 Y4) := V3.out.trans (hb.mono V3.out.size)
 clear hb V3
 refine hK.out _ _ (fun _ _ => HS0.out _ V4.out) ?_
 clear hK K
 try simp only [Act.put, zQ1, zQ2, zQ3]
 refine pF 14 ?_
 refine uNe 17 (fun K hK => ?_)
 go_simp
 refine (cv4 Y4).mono ?_
 rintro e Y5 ⟨rfl, hb⟩
 have V5 : Hid (Below w1.heap.size w1 Y5) := V4.out.trans (hb.mono V4.out.size)
 clear hb V4
 refine hK.out _ _ (fun _ _ => HS0.out _ V5.out) ?_
 clear hK K
 try simp only [Act.put, zQ1, zQ2, zQ3]
 refine pF 18 ?_
 refine uNe 21 (fun K hK => ?_)
 go_simp
 refine (cv5 Y5).mono ?_
 rintro e Y6 ⟨rfl, hb⟩
 have V6 : Hid (Below w1.heap.size w1 Y6) := V5.out.trans (hb.mono V5.out.size)
 clear hb V5
 refine hK.out _ _ (fun _ _ => HS0.out _ V6.out) ?_
 clear hK K
 try simp only [Act.put, zQ1, zQ2, zQ3]
 refine pF 22 ?_
 refine uNe 25 (fun K hK => ?_)
 go_simp
 refine (cv6 Y6).mono ?_
 rintro e Y7 ⟨rfl, hb⟩
 have V7 : Hid (Below w1.heap.size w1 Y7) := V6.out.trans (hb.mono V6.out.size)
 clear hb V6
 refine hK.out _ _ (fun _ _ => HS0.out _ V7.out) ?_
 clear hK K
 try simp only [Act.put, zQ1, zQ2, zQ3]
 refine pF 26 ?_
 refine uNe 29 (fun K hK => ?_)
 go_simp
 refine (cy Y7).mono ?_
 rintro e w' ⟨rfl, rfl⟩
 refine hK.out _ _ (fun _ _ => HS0.out _ V7.out) ?_
 clear hK K
 try simp only [Act.put, zQ1, zQ2, zQ3]
 refine uNe 30 (fun K hK => ?_)
 go_simp
 refine (cv7 Y7).mono ?_
 rintro e Y8 ⟨rfl, hb⟩
 have V8 : Hid (Below w1.heap.size w1 Y8) := V7.out.trans (hb.mono V7.out.size)
 clear hb V7
 refine hK.out _ _ (fun _ _ => HS0.out _ V8.out) ?_
 clear hK K
 try simp only [Act.put, zQ1, zQ2, zQ3]
 refine pF 31 ?_
 refine uNe 35 (fun K hK => ?_)
 go_simp
 refine (cv8 Y8).mono ?_
 rintro e Y9 ⟨rfl, hb⟩
 have V9 : Hid (Below w1.heap.size w1 Y9) := V8.out.trans (hb.mono V8.out.size)
 clear hb V8
 refine hK.out _ _ (fun _ _ => HS0.out _ V9.out) ?_
 clear hK K
 try simp only [Act.put, zQ1, zQ2, zQ3]
 refine pF 36 ?_
 refine pF 37 ?_
 refine until_done (by kernel_rfl) ?_ _
 rw [← HH.out]
 have D0 : Hid (Below w.heap.size w Y9) := B1.out.trans (V9.out.mono B1.out.size)
 have K2 := Hid.mkM (K1.out.on V9.out K1.out.lt)
 clear HS0 B1 K1 V9 cv0 cv1 cv2 cv3 cv4 cv5 cv6 cv7 cv8 cy p1 p2 p3 p4 p5 p6 p7 p8
 generalize Y9 = Z0 at *
 generalize hhd : hdT x = hd at *
 clear hhd HH
 go_wp2_with fail
 go_loopw [3, 4] (fun v3 v4 wr => ∃ i : Nat, i ≤ n ∧ v4 = .int .i64 (i : Int) ∧ v3 = .string (hd ++ catE (x.ents.take i)) ∧ Below w.heap.size w wr ∧ Blk wr w.heap.size #[.int .i64 (kn : Int), .int .i64 (fn : Int), .int .i64 (dn : Int), .int .i64 (tn : Int), .int .i64 (xn : Int), .int .i64 (sn : Int), .int .i64 (cn : Int), .bool yy, .slice A n cap, .string dd] 29) (fun _ v _ => n - (intOf v).toNat)
 case atStart => exact ⟨0, Nat.zero_le _, rfl, by simp [catE], D0.out, K2.out⟩
 case round =>
  obtain ⟨i, hi, rfl, rfl, hD, hK⟩ := hrel
  have D := Hid.mkM hD
  have K3 := Hid.mkM hK
  clear hD hK D0 K2
  have HC := HCS.out i
  have HHs := HHS.out
  by_cases hlt : i < n
  ·have q4 : (i : Int) < (n : Int) := by omega
   obtain ⟨g, off, rfl, hg, e0, e1⟩ := HL.out i hlt
   have hgw : g < w.heap.size := Nat.lt_of_lt_of_le hg HB.out
   have HSi : Hid (catE (x.ents.take (i + 1)) = catE (x.ents.take i) ++ entT (x.ents.getD i default)) := HSN.out i hlt
   obtain ⟨z1, z2, z3⟩ := HEE.out i hlt
   generalize x.ents.getD i default = y at *
   obtain ⟨yt, yd⟩ := y
   simp only at e0 e1 z1 z2 z3
   obtain ⟨yn2, rfl⟩ : ∃ m : Nat, yt = (m : Int) := ⟨yt.toNat, by omega⟩
   have HET : Hid (entT ⟨(yn2 : Int), yd⟩ = txt (vF 6 yn2) ++ txt (vF 6 yd.size) ++ yd) := by unfold Hid entT; simp only [Int.toNat_natCast]
   have cA := fun wx => spec_var yn2 wx (by omega)
   have cB := fun wx => spec_var yd.size wx (by omega)
   have m1 := vT_small yn2
   have m2 := vT_small yd.size
   have qd : (yd.size : Int) ≤ 900 := by omega
   have HS1 : Hid (∀ wx, Below wr.heap.size wr wx → wx.cell? ⟨w.heap.size, 8, none⟩ = some (.slice (some ⟨g, off, none⟩) n cap) ∧ wx.cell? ⟨g, off + i * 2, none⟩ = some (.int .i64 (yn2 : Int)) ∧ wx.cell? ⟨g, off + i * 2 + 1, none⟩ = some (.string yd)) := fun wx hx => ⟨(K3.out.on hx K3.out.lt).cell 8 _ rfl, ((D.out.trans (hx.mono D.out.size)).cell (p := ⟨g, off + i * 2, none⟩) hgw).trans e0, ((D.out.trans (hx.mono D.out.size)).cell (p := ⟨g, off + i * 2 + 1, none⟩) hgw).trans e1⟩
   have k8 := K3.out.cell 8 _ rfl
   generalize txt (vF 6 yn2) = ta at *
   generalize txt (vF 6 yd.size) = tb at *
   generalize catE (x.ents.take i) = ce at *
   have HN2 : Hid (hd ++ ce ++ ta ++ tb ++ yd = hd ++ catE (x.ents.take (i + 1))) := by unfold Hid; rw [HSi.out, HET.out]; simp only [ByteArray.append_assoc]
   have hs0 : (hd ++ ce).size = hd.size + ce.size := ByteArray.size_append
   have s1 : ¬ 9223372036854775807 < hd.size + ce.size + ta.size := by omega
   have s2 : ¬ 9223372036854775807 < hd.size + ce.size + ta.size + tb.size := by omega
   have s3 : ¬ 9223372036854775807 < hd.size + ce.size + ta.size + tb.size + yd.size := by omega
   clear hg hgw e0 e1 z1 z2 z3 m1 m2 HC HHs hs0
   go_wp2_with fail
   clear k8
   refine wp_region_until (fun w' => w'.cell? ⟨w.heap.size, 8, none⟩ = some (.slice (some ⟨g, off, none⟩) n cap) ∧ w'.cell? ⟨g, off + i * 2, none⟩ = some (.int .i64 (yn2 : Int)) ∧ w'.cell? ⟨g, off + i * 2 + 1, none⟩ = some (.string yd)) (fun _ => false) 26 (by rfl) (by kernel_rfl) ?_
   have V0 : Hid (Below wr.heap.size wr wr.drew) := (Below.refl _ _).drew
   generalize wr.drew = Y0 at *
   refine tF 0 (HS1.out _ V0.out) ?_
   refine tF 1 (HS1.out _ V0.out) ?_
   refine tF 2 (HS1.out _ V0.out) ?_
   refine tF 3 (HS1.out _ V0.out) ?_
   refine tF 4 (HS1.out _ V0.out) ?_
   refine tF 5 (HS1.out _ V0.out) ?_
   refine tF 6 (HS1.out _ V0.out) ?_
   refine tF 9 (HS1.out _ V0.out) ?_
   refine tF 10 (HS1.out _ V0.out) ?_
   refine tF 11 (HS1.out _ V0.out) ?_
   refine tF 12 (HS1.out _ V0.out) ?_
   refine tF 13 (HS1.out _ V0.out) ?_
   refine tF 14 (HS1.out _ V0.out) ?_
   refine tF 15 (HS1.out _ V0.out) ?_
   refine tF 18 (HS1.out _ V0.out) ?_
   refine tF 19 (HS1.out _ V0.out) ?_
   refine tF 20 (HS1.out _ V0.out) ?_
   refine tF 21 (HS1.out _ V0.out) ?_
   refine tF 22 (HS1.out _ V0.out) ?_
   refine tF 23 (HS1.out _ V0.out) ?_
   refine uNe 7 (fun K hK => ?_)
   go_simp
   refine (cA Y0).mono ?_
   rintro e Y1 ⟨rfl, hb⟩
   have V1 : Hid (Below wr.heap.size wr Y1) := V0.out.trans (hb.mono V0.out.size)
   clear hb V0
   refine hK.out _ _ (fun _ _ => HS1.out _ V1.out) ?_
   clear hK K
   try simp only [Act.put, zQ1, zQ2, zQ3]
   refine pF 8 ?_
   refine uNe 16 (fun K hK => ?_)
   go_simp
   refine (cB Y1).mono ?_
   rintro e Y2 ⟨rfl, hb⟩
   have V2 : Hid (Below wr.heap.size wr Y2) := V1.out.trans (hb.mono V1.out.size)
   clear hb V1
   refine hK.out _ _ (fun _ _ => HS1.out _ V2.out) ?_
   clear hK K
   try simp only [Act.put, zQ1, zQ2, zQ3]
   refine pF 17 ?_
   refine pF 24 ?_
   refine pF 25 ?_
   refine until_done (by kernel_rfl) ?_ _
   rw [HN2.out]
   have D1 : Hid (Below w.heap.size w Y2) := D.out.trans (V2.out.mono D.out.size)
   have K4 := Hid.mkM (K3.out.on V2.out K3.out.lt)
   clear D K3 V2 HS1
   try go_wp2_with fail
   go_roundw
   case rel => exact ⟨i + 1, by omega, by go_num, rfl, D1.out, K4.out⟩
   case measure => simp [intOf]; omega
  ·obtain rfl : i = n := by omega
   have HT : Hid (hd ++ catE (x.ents.take i) ++ dd = bodT x) := by unfold Hid; rw [HTA.out, HBO.out]
   have k8 := K3.out.cell 8 _ rfl
   have k9 := K3.out.cell 9 _ rfl
   have hds := HDS.out
   generalize catE (x.ents.take i) = ce at *
   have hs0 : (hd ++ ce).size = hd.size + ce.size := ByteArray.size_append
   have s1 : ¬ 9223372036854775807 < hd.size + ce.size + dd.size := by omega
   have hs1 : (bodT x).size ≤ 1060000 := by rw [← HT.out, ByteArray.size_append, hs0]; omega
   clear hs0 HC HHs hds
   go_upto_region 9 with fail
   rw [HT.out]
   generalize bodT x = bt at *
   have cC := fun wx => spec_crc bt wx (by omega)
   have hc := crc_lt bt
   have cX := fun wx => spec_fixed (crc bt) 4 wx (by omega) (by omega) (by omega)
   have hfx := fixed_small (crc bt)
   generalize fixed (crc bt) 4 = fx at *
   generalize crc bt = cb at *
   have s2 : ¬ 9223372036854775807 < fx.size + bt.size := by omega
   go_wp2_with fail
   refine (cC _).mono ?_
   rintro e w' ⟨rfl, rfl⟩
   go_wp2_with fail
   refine (cX _).mono ?_
   rintro e w' ⟨rfl, hb⟩
   have DE : Hid (Below w.heap.size w w') := D.out.trans (hb.mono D.out.size)
   clear hb cC cX
   go_wp2_with fail
   go_ret
   exact ⟨by rw [HE.out]; rfl, DE.out⟩
end Go.Proofs.YtimfnbnffibgpaaGreatDoor
namespace Go.Proofs.YtimfnbnffibgpaaGreatDoor
open Go.ChangeShapes Go.WideShapes Go.ChangeAt Go.RowKit Go.PlainAid
set_option linter.unusedVariables false
def vT (z : Int) : ByteArray := txt (vF 6 z.toNat)
def pcT (s : ByteArray) : ByteArray := vT (s.size : Int) ++ s
def catT {α : Type} (f : α → ByteArray) : List α → ByteArray
 | [] => ByteArray.empty
 | x :: l => f x ++ catT f l
theorem catT_append {α : Type} (f : α → ByteArray) (l m : List α) : catT f (l ++ m) = catT f l ++ catT f m := by
 induction l with
 | nil => simp [catT]
 | cons x l ih => simp [catT, ih, ByteArray.append_assoc]
def RdL {α : Type} (P : Nat → α → Nat → Prop) (a : Nat) : Nat → List α → Nat → Prop
 | 0, l, n => l = [] ∧ n = a
 | k + 1, l, n => ∃ l' n' y, RdL P a k l' n' ∧ P n' y n ∧ l = l' ++ [y]
def OneP {α : Type} (P : Nat → α → Nat → Prop) : Prop := ∀ a y y' n n', P a y n → P a y' n' → y = y' ∧ n = n'
theorem RdL.one {α : Type} {P : Nat → α → Nat → Prop} (hP : OneP P) {a : Nat} : ∀ {k : Nat} {l l' : List α} {n n' : Nat}, RdL P a k l n → RdL P a k l' n' → l = l' ∧ n = n'
 | 0, _, _, _, _, h, h' => ⟨h.1.trans h'.1.symm, h.2.trans h'.2.symm⟩
 | k + 1, _, _, _, _, ⟨a, b, y, h1, h2, h3⟩, ⟨a', b', y', h1', h2', h3'⟩ => by
  obtain ⟨rfl, rfl⟩ := RdL.one hP h1 h1'
  obtain ⟨rfl, rfl⟩ := hP _ _ _ _ _ h2 h2'
  exact ⟨h3.trans h3'.symm, rfl⟩
theorem RdL.before {α : Type} {P : Nat → α → Nat → Prop} {a : Nat} : ∀ {k : Nat} {l : List α} {n : Nat}, RdL P a k l n → ∀ j, j < k → ∃ l' n' y n2, RdL P a j l' n' ∧ P n' y n2
 | 0, _, _, _, j, hj => by omega
 | k + 1, _, _, ⟨a, b, m, h1, h2, h3⟩, j, hj => by
  by_cases e : j = k
  ·subst e; exact ⟨a, b, m, _, h1, h2⟩
  ·exact RdL.before h1 j (by omega)
theorem RdL.no {α : Type} {P : Nat → α → Nat → Prop} (hP : OneP P) {a k j : Nat} {l : List α} {n : Nat} (h1 : RdL P a j l n) (hj : j < k) (h2 : ∀ y m, ¬ P n y m) : ∀ l' n', ¬ RdL P a k l' n' := by
 intro l' n' h
 obtain ⟨l2, n2, y, m, h3, h4⟩ := h.before j hj
 obtain ⟨rfl, rfl⟩ := h1.one hP h3
 exact h2 y m h4
theorem RdL.length {α : Type} {P : Nat → α → Nat → Prop} {a : Nat} : ∀ {k : Nat} {l : List α} {n : Nat}, RdL P a k l n → l.length = k
 | 0, _, _, h => by rw [h.1]; rfl
 | k + 1, _, _, ⟨a, b, m, h1, h2, h3⟩ => by rw [h3, List.length_append, RdL.length h1]; rfl
theorem ex_cat (s : ByteArray) (a b c : Nat) (h1 : a ≤ b) (h2 : b ≤ c) : s.extract a c = s.extract a b ++ s.extract b c := by
 rw [ByteArray.extract_append_extract]
 congr 1 <;> omega
theorem RdL.text {α : Type} {P : Nat → α → Nat → Prop} {T : α → ByteArray} {s : ByteArray} (hT : ∀ a y n, P a y n → s.extract a n = T y ∧ a ≤ n ∧ n ≤ s.size) {a : Nat} (ha : a ≤ s.size) : ∀ {k : Nat} {l : List α} {n : Nat}, RdL P a k l n → s.extract a n = catT T l ∧ a ≤ n ∧ n ≤ s.size
 | 0, _, _, h => by rw [h.1, h.2]; exact ⟨by apply ByteArray.ext; simp [catT], Nat.le_refl _, ha⟩
 | k + 1, _, _, ⟨l, b, y, h1, h2, h3⟩ => by
  obtain ⟨e1, e2, e3⟩ := RdL.text hT ha h1
  obtain ⟨f1, f2, f3⟩ := hT _ _ _ h2
  refine ⟨?_, by omega, f3⟩
  rw [ex_cat s a b _ e2 f2, e1, f1, h3, catT_append]
  simp [catT]
theorem RdF.inS {s : ByteArray} {a k n : Nat} {l : List Int} (h : RdF s a (k + 1) l n) : a ≤ n ∧ n ≤ s.size := ⟨by have := h.ge.1; omega, h.ge.2 (by omega)⟩
theorem RdF.text1 {s : ByteArray} {a n : Nat} {z : Int} (h : RdF s a 1 [z] n) : s.extract a n = vT z := by rw [h.text]; simp [varsT, vT]
def PcRd (s : ByteArray) (a : Nat) (t : ByteArray) (n : Nat) : Prop := ∃ n', RdF s a 1 [(t.size : Int)] n' ∧ n = n' + t.size ∧ n ≤ s.size ∧ t = s.extract n' n
theorem PcRd.onep (s : ByteArray) : OneP (PcRd s) := by
 rintro a y y' n n' ⟨b, h1, h2, h3, h4⟩ ⟨b', h1', h2', h3', h4'⟩
 obtain ⟨e, rfl⟩ := h1.one h1'
 simp only [List.cons.injEq, and_true] at e
 have e2 : y.size = y'.size := by omega
 have e3 : n = n' := by omega
 subst e3
 exact ⟨h4.trans h4'.symm, rfl⟩
theorem PcRd.text {s : ByteArray} {a n : Nat} {t : ByteArray} (h : PcRd s a t n) : s.extract a n = pcT t ∧ a ≤ n ∧ n ≤ s.size := by
 obtain ⟨b, h1, h2, h3, h4⟩ := h
 have h5 := h1.inS
 refine ⟨?_, by omega, h3⟩
 rw [ex_cat s a b n h5.1 (by omega), h1.text1, ← h4]
 rfl
def EnRd (s : ByteArray) (a : Nat) (e : Ent) (n : Nat) : Prop := ∃ b, RdF s a 1 [e.term] b ∧ PcRd s b e.data n
theorem EnRd.onep (s : ByteArray) : OneP (EnRd s) := by
 rintro a ⟨t, d⟩ ⟨t', d'⟩ n n' ⟨b, h1, h2⟩ ⟨b', h1', h2'⟩
 obtain ⟨e, rfl⟩ := RdF.one h1 h1'
 simp only [List.cons.injEq, and_true] at e
 obtain ⟨rfl, rfl⟩ := PcRd.onep s _ _ _ _ _ h2 h2'
 rw [e]
 exact ⟨rfl, rfl⟩
theorem EnRd.text {s : ByteArray} {a n : Nat} {e : Ent} (h : EnRd s a e n) : s.extract a n = entT e ∧ a ≤ n ∧ n ≤ s.size := by
 obtain ⟨b, h1, h2⟩ := h
 have h4 := h1.inS
 have h5 := h2.text
 refine ⟨?_, by omega, h5.2.2⟩
 rw [ex_cat s a b n h4.1 h5.2.1, h1.text1, h5.1]
 unfold entT vT pcT vT
 rw [Int.toNat_natCast, ByteArray.append_assoc]
theorem EnRd.wide {s : ByteArray} {a n : Nat} {e : Ent} (h : EnRd s a e n) : a + 2 + e.data.size ≤ n ∧ n ≤ s.size := by
 obtain ⟨b, h1, c, h2, h3, h4, _⟩ := h
 have := h1.ge
 have := h2.ge
 omega
theorem RdL.wide {s : ByteArray} {a : Nat} : ∀ {k : Nat} {l : List Ent} {n : Nat}, RdL (EnRd s) a k l n → a + 2 * k + wtE l ≤ n ∧ ∀ y ∈ l, y.data.size ≤ s.size
 | 0, _, _, h => by rw [h.1, h.2]; exact ⟨by simp [wtE], fun y hy => by cases hy⟩
 | k + 1, _, _, ⟨l, b, y, h1, h2, h3⟩ => by
  have h4 := RdL.wide h1
  have h5 := h2.wide
  have hl : l.length < (l ++ [y]).length := by simp
  have e1 := wtE_snoc (l ++ [y]) l.length hl
  have e2 : (l ++ [y]).take (l.length + 1) = l ++ [y] := by rw [List.take_of_length_le (by simp)]
  have e3 : (l ++ [y]).take l.length = l := by simp
  have e4 : (l ++ [y]).getD l.length default = y := by simp
  rw [e2, e3, e4] at e1
  rw [h3, e1]
  unfold wtE1
  refine ⟨by omega, fun z hz => ?_⟩
  rcases List.mem_append.1 hz with hz | hz
  ·exact h4.2 z hz
  ·simp at hz
   rw [hz]
   omega
theorem catE_catT : ∀ (l : List Ent), catE l = catT entT l
 | [] => by simp [catE, catT]
 | e :: l => by rw [catE, catE_catT l]; simp [catT]
def MgP (s : ByteArray) (x : Mg) (yn n1 n2 : Nat) : Prop := RdF s 4 9 [x.kind, x.frm, x.dst, x.term, x.index, x.iterm, x.commit, (yn : Int), (x.ents.length : Int)] n1 ∧ x.ents.length ≤ 4 ∧ RdL (EnRd s) n1 x.ents.length x.ents n2 ∧ x.data = lf s n2 ∧ x.yes = decide (yn = 1)
def sumOk (s : ByteArray) : Prop := fixed (crc (lf s 4)) 4 = s.extract 0 4
def MgRd (s : ByteArray) (x : Mg) : Prop := ∃ yn n1 n2, MgP s x yn n1 n2 ∧ yn ≤ 1 ∧ sumOk s ∧ msgOk x = true
theorem MgP.one {s : ByteArray} {x y : Mg} {a b c a' b' c' : Nat} (h : MgP s x a b c) (h' : MgP s y a' b' c') : x = y ∧ a = a' := by
 obtain ⟨h1, h2, h3, h4, h5⟩ := h
 obtain ⟨g1, g2, g3, g4, g5⟩ := h'
 obtain ⟨e, rfl⟩ := h1.one g1
 simp only [List.cons.injEq, and_true] at e
 obtain ⟨e0, e1, e2, e3, e4, e5, e6, e7, e8⟩ := e
 have el : x.ents.length = y.ents.length := by omega
 rw [el] at h3
 obtain ⟨ee, rfl⟩ := h3.one (EnRd.onep s) g3
 have ea : a = a' := by omega
 subst ea
 obtain ⟨k, f, d, t, i, it, c, y1, es, da⟩ := x
 obtain ⟨k', f', d', t', i', it', c', y1', es', da'⟩ := y
 simp only at e0 e1 e2 e3 e4 e5 e6 ee h4 g4 h5 g5
 subst e0 e1 e2 e3 e4 e5 e6 ee
 rw [h4, g4, h5, g5]
 exact ⟨rfl, rfl⟩
theorem MgRd.one {s : ByteArray} {x y : Mg} (h : MgRd s x) (h' : MgRd s y) : x = y := by
 obtain ⟨_, _, _, h1, _⟩ := h
 obtain ⟨_, _, _, g1, _⟩ := h'
 exact (h1.one g1).1
theorem MgP.inS {s : ByteArray} {x : Mg} {yn n1 n2 : Nat} (h : MgP s x yn n1 n2) : 13 ≤ n1 ∧ n1 ≤ n2 ∧ n2 ≤ s.size := by
 obtain ⟨h1, h2, h3, h4, h5⟩ := h
 have i1 := h1.ge
 obtain ⟨_, i3⟩ := h3.text (s := s) (T := entT) (fun a y n h => EnRd.text h) (i1.2 (by omega))
 omega
theorem MgP.text {s : ByteArray} {x : Mg} {yn n1 n2 : Nat} (h : MgP s x yn n1 n2) : lf s 4 = varsT [x.kind, x.frm, x.dst, x.term, x.index, x.iterm, x.commit, (yn : Int), (x.ents.length : Int)] ++ catE x.ents ++ x.data := by
 have hi := h.inS
 obtain ⟨h1, h2, h3, h4, h5⟩ := h
 have i1 := h1.ge
 obtain ⟨t3, i3⟩ := h3.text (s := s) (T := entT) (fun a y n h => EnRd.text h) (i1.2 (by omega))
 rw [← h1.text, catE_catT, ← t3, h4]
 unfold lf
 rw [← ex_cat s 4 n1 n2 (by omega) (by omega), ← ex_cat s 4 n2 s.size (by omega) (by omega)]
theorem hd_vars (x : Mg) (yn : Nat) (h : yn = yesN x.yes) : varsT [x.kind, x.frm, x.dst, x.term, x.index, x.iterm, x.commit, (yn : Int), (x.ents.length : Int)] = hdT x := by
 subst h
 unfold hdT
 simp [varsT, ByteArray.append_assoc]
theorem MgP.yes {s : ByteArray} {x : Mg} {yn n1 n2 : Nat} (h : MgP s x yn n1 n2) (hy : yn ≤ 1) : yn = yesN x.yes := by
 rw [h.2.2.2.2]
 unfold yesN
 by_cases e : yn = 1
 ·simp [e]
 ·simp [e]; omega
theorem MgP.body {s : ByteArray} {x : Mg} {yn n1 n2 : Nat} (h : MgP s x yn n1 n2) (hy : yn ≤ 1) : bodT x = lf s 4 := by
 rw [h.text, hd_vars x yn (h.yes hy)]
 rfl
theorem fixed_size4 (n : Nat) (h : n < 4294967296) : (fixed n 4).size = 4 := by
 rw [fixed, if_pos (by omega), txt_size]
 simp [low]
theorem vF_one {a b : Nat} (hb : b ≤ 1) (h : vF 6 a = vF 6 b) (ha : a ≤ 562949953421311) : a = b := by
 rw [vF_small 6 b (by omega)] at h
 by_cases h1 : a < 128
 ·rw [vF_small 6 a h1] at h
  simp only [List.cons.injEq, and_true] at h
  have := congrArg UInt8.toNat h
  rw [byt_toNat, byt_toNat] at this
  omega
 ·rw [vF, if_neg h1] at h
  have h2 := congrArg List.length h
  have h3 := vF_pos 5 (a / 128)
  simp only [List.length_cons, List.length_nil] at h2
  omega
theorem ba_cancel {A X Y C : ByteArray} (h : A ++ (X ++ C) = A ++ (Y ++ C)) : X = Y := by
 have h1 := congrArg (fun b : ByteArray => b.data.toList) h
 simp only [ByteArray.data_append, Array.toList_append] at h1
 have h2 := List.append_cancel_left h1
 have h3 := List.append_cancel_right h2
 exact ByteArray.ext (Array.toList_inj.1 h3)
theorem ba_inj {A B C D : ByteArray} (h : A ++ B = C ++ D) (hs : A.size = C.size) : A = C ∧ B = D := by
 have h1 := congrArg (fun b : ByteArray => b.data.toList) h
 simp only [ByteArray.data_append, Array.toList_append] at h1
 obtain ⟨h2, h3⟩ := List.append_inj h1 (by simpa using hs)
 exact ⟨ByteArray.ext (Array.toList_inj.1 h2), ByteArray.ext (Array.toList_inj.1 h3)⟩
theorem MgP.asked {s : ByteArray} {x : Mg} {yn n1 n2 : Nat} (h : MgP s x yn n1 n2) : (msgT x = s → MgRd s x) ∧ (¬ msgT x = s → ∀ y, ¬ MgRd s y) := by
 have hi := h.inS
 refine ⟨fun e => ?_, fun hn y hy => ?_⟩
 ·cases ho : msgOk x with
  | false =>
   rw [msgT_no ho] at e
   rw [← e] at hi
   have : (⟨#[]⟩ : ByteArray).size = 0 := rfl
   omega
  | true =>
   rw [msgT_yes ho] at e
   have hf := fixed_size4 (crc (bodT x)) (crc_lt _)
   have hx : (s.extract 0 4).size = 4 := by rw [ByteArray.size_extract]; omega
   obtain ⟨e2', e1'⟩ := ba_inj ((cut_in_two s 4 (by omega)).symm.trans e.symm) (by rw [hx, hf])
   have e1 : lf s 4 = bodT x := e1'
   have e2 : s.extract 0 4 = fixed (crc (bodT x)) 4 := e2'
   have hy : yn = yesN x.yes := by
    have t1 := h.text
    rw [e1] at t1
    unfold bodT at t1
    rw [← hd_vars x (yesN x.yes) rfl] at t1
    have hb := h.1.bound (yn : Int) (by simp)
    have hyy : yesN x.yes ≤ 1 := by unfold yesN; split <;> omega
    have t2 : varsT [x.kind, x.frm, x.dst, x.term, x.index, x.iterm, x.commit] ++ (txt (vF 6 (yesN x.yes)) ++ (varsT [(x.ents.length : Int)] ++ catE x.ents ++ x.data)) = varsT [x.kind, x.frm, x.dst, x.term, x.index, x.iterm, x.commit] ++ (txt (vF 6 yn) ++ (varsT [(x.ents.length : Int)] ++ catE x.ents ++ x.data)) := by
     have h1 : ∀ k : Nat, varsT [x.kind, x.frm, x.dst, x.term, x.index, x.iterm, x.commit, (k : Int), (x.ents.length : Int)] = varsT [x.kind, x.frm, x.dst, x.term, x.index, x.iterm, x.commit] ++ (txt (vF 6 k) ++ varsT [(x.ents.length : Int)]) := fun k => by simp [varsT, ByteArray.append_assoc]
     rw [h1, h1] at t1
     simpa only [ByteArray.append_assoc] using t1
    have t3 := ba_cancel t2
    exact (vF_one hyy (txt_inj _ _ t3).symm (by omega))
   have hy1 : yn ≤ 1 := by rw [hy]; unfold yesN; split <;> omega
   exact ⟨yn, n1, n2, h, hy1, by unfold sumOk; rw [e1, e2], ho⟩
 ·obtain ⟨a, b, c, g1, g2, g3, g4⟩ := hy
  obtain ⟨rfl, rfl⟩ := h.one g1
  apply hn
  rw [msgT_yes g4, g1.body g2, show fixed (crc (lf s 4)) 4 = s.extract 0 4 from g3]
  exact (cut_in_two s 4 (by omega)).symm
theorem MgP.short {s : ByteArray} {x : Mg} {yn n1 n2 : Nat} (h : MgP s x yn n1 n2) (hs : s.size ≤ 1048576) : wtM x ≤ 1048576 ∧ FitsM x := by
 have hi := h.inS
 obtain ⟨h1, h2, h3, h4, h5⟩ := h
 obtain ⟨w1, w2⟩ := h3.wide
 have hd : x.data.size = s.size - n2 := by rw [h4, lf_size]
 refine ⟨by unfold wtM; omega, ⟨by unfold maxLen; omega, fun y hy => by have := w2 y hy; unfold maxLen; omega, by unfold maxLen; omega⟩⟩
theorem noVars {s : ByteArray} (h : ∀ l n, ¬ RdF s 4 9 l n) : ∀ x, ¬ MgRd s x := by
 rintro x ⟨_, _, _, h1, _⟩
 exact h _ _ h1.1
theorem noMany {s : ByteArray} {l : List Int} {n1 : Nat} {z : Int} (h : RdF s 4 9 l n1) (hz : l.getD 8 0 = z) (h4 : 4 < z) : ∀ x, ¬ MgRd s x := by
 rintro x ⟨_, _, _, ⟨h1, h2, _⟩, _⟩
 obtain ⟨rfl, rfl⟩ := h.one h1
 simp at hz
 omega
theorem noEnts {s : ByteArray} {l : List Int} {n1 k : Nat} (h : RdF s 4 9 l n1) (hz : l.getD 8 0 = (k : Int)) (hn : ∀ es n, ¬ RdL (EnRd s) n1 k es n) : ∀ x, ¬ MgRd s x := by
 rintro x ⟨_, _, _, ⟨h1, h2, h3, _⟩, _⟩
 obtain ⟨rfl, rfl⟩ := h.one h1
 have : (x.ents.length : Int) = (k : Int) := by simpa using hz
 have : x.ents.length = k := by omega
 rw [this] at h3
 exact hn _ _ h3
end Go.Proofs.YtimfnbnffibgpaaGreatDoor
namespace Go.Proofs.YtimfnbnffibgpaaGreatDoor
open Go.ChangeShapes Go.WideShapes Go.ChangeAt Go.RowKit Go.PlainAid
set_option linter.unusedVariables false
theorem resC10 {w : World} {g : Nat} {a0 a1 a2 a3 a4 a5 a6 a7 a8 a9 x0 x1 x2 x3 x4 x5 x6 x7 x8 x9 : Value} {t : TypeId} (h : Blk w g #[a0, a1, a2, a3, a4, a5, a6, a7, a8, a9] t) :
  (w.cell? ⟨g, 0, none⟩ = some a0 ∧ w.frozen? ⟨g, 0, none⟩ = false) ∧ ((w.setCell ⟨g, 0, none⟩ x0).cell? ⟨g, 1, none⟩ = some a1 ∧ (w.setCell ⟨g, 0, none⟩ x0).frozen? ⟨g, 1, none⟩ = false) ∧ (((w.setCell ⟨g, 0, none⟩ x0).setCell ⟨g, 1, none⟩ x1).cell? ⟨g, 2, none⟩ = some a2 ∧ ((w.setCell ⟨g, 0, none⟩ x0).setCell ⟨g, 1, none⟩ x1).frozen? ⟨g, 2, none⟩ = false) ∧ ((((w.setCell ⟨g, 0, none⟩ x0).setCell ⟨g, 1, none⟩ x1).setCell ⟨g, 2, none⟩ x2).cell? ⟨g, 3, none⟩ = some a3 ∧ (((w.setCell ⟨g, 0, none⟩ x0).setCell ⟨g, 1, none⟩ x1).setCell ⟨g, 2, none⟩ x2).frozen? ⟨g, 3, none⟩ = false) ∧ (((((w.setCell ⟨g, 0, none⟩ x0).setCell ⟨g, 1, none⟩ x1).setCell ⟨g, 2, none⟩ x2).setCell ⟨g, 3, none⟩ x3).cell? ⟨g, 4, none⟩ = some a4 ∧ ((((w.setCell ⟨g, 0, none⟩ x0).setCell ⟨g, 1, none⟩ x1).setCell ⟨g, 2, none⟩ x2).setCell ⟨g, 3, none⟩ x3).frozen? ⟨g, 4, none⟩ = false) ∧ ((((((w.setCell ⟨g, 0, none⟩ x0).setCell ⟨g, 1, none⟩ x1).setCell ⟨g, 2, none⟩ x2).setCell ⟨g, 3, none⟩ x3).setCell ⟨g, 4, none⟩ x4).cell? ⟨g, 5, none⟩ = some a5 ∧ (((((w.setCell ⟨g, 0, none⟩ x0).setCell ⟨g, 1, none⟩ x1).setCell ⟨g, 2, none⟩ x2).setCell ⟨g, 3, none⟩ x3).setCell ⟨g, 4, none⟩ x4).frozen? ⟨g, 5, none⟩ = false) ∧ (((((((w.setCell ⟨g, 0, none⟩ x0).setCell ⟨g, 1, none⟩ x1).setCell ⟨g, 2, none⟩ x2).setCell ⟨g, 3, none⟩ x3).setCell ⟨g, 4, none⟩ x4).setCell ⟨g, 5, none⟩ x5).cell? ⟨g, 6, none⟩ = some a6 ∧ ((((((w.setCell ⟨g, 0, none⟩ x0).setCell ⟨g, 1, none⟩ x1).setCell ⟨g, 2, none⟩ x2).setCell ⟨g, 3, none⟩ x3).setCell ⟨g, 4, none⟩ x4).setCell ⟨g, 5, none⟩ x5).frozen? ⟨g, 6, none⟩ = false) ∧ ((((((((w.setCell ⟨g, 0, none⟩ x0).setCell ⟨g, 1, none⟩ x1).setCell ⟨g, 2, none⟩ x2).setCell ⟨g, 3, none⟩ x3).setCell ⟨g, 4, none⟩ x4).setCell ⟨g, 5, none⟩ x5).setCell ⟨g, 6, none⟩ x6).cell? ⟨g, 7, none⟩ = some a7 ∧ (((((((w.setCell ⟨g, 0, none⟩ x0).setCell ⟨g, 1, none⟩ x1).setCell ⟨g, 2, none⟩ x2).setCell ⟨g, 3, none⟩ x3).setCell ⟨g, 4, none⟩ x4).setCell ⟨g, 5, none⟩ x5).setCell ⟨g, 6, none⟩ x6).frozen? ⟨g, 7, none⟩ = false) ∧ (((((((((w.setCell ⟨g, 0, none⟩ x0).setCell ⟨g, 1, none⟩ x1).setCell ⟨g, 2, none⟩ x2).setCell ⟨g, 3, none⟩ x3).setCell ⟨g, 4, none⟩ x4).setCell ⟨g, 5, none⟩ x5).setCell ⟨g, 6, none⟩ x6).setCell ⟨g, 7, none⟩ x7).cell? ⟨g, 8, none⟩ = some a8 ∧ ((((((((w.setCell ⟨g, 0, none⟩ x0).setCell ⟨g, 1, none⟩ x1).setCell ⟨g, 2, none⟩ x2).setCell ⟨g, 3, none⟩ x3).setCell ⟨g, 4, none⟩ x4).setCell ⟨g, 5, none⟩ x5).setCell ⟨g, 6, none⟩ x6).setCell ⟨g, 7, none⟩ x7).frozen? ⟨g, 8, none⟩ = false) ∧ ((((((((((w.setCell ⟨g, 0, none⟩ x0).setCell ⟨g, 1, none⟩ x1).setCell ⟨g, 2, none⟩ x2).setCell ⟨g, 3, none⟩ x3).setCell ⟨g, 4, none⟩ x4).setCell ⟨g, 5, none⟩ x5).setCell ⟨g, 6, none⟩ x6).setCell ⟨g, 7, none⟩ x7).setCell ⟨g, 8, none⟩ x8).cell? ⟨g, 9, none⟩ = some a9 ∧ (((((((((w.setCell ⟨g, 0, none⟩ x0).setCell ⟨g, 1, none⟩ x1).setCell ⟨g, 2, none⟩ x2).setCell ⟨g, 3, none⟩ x3).setCell ⟨g, 4, none⟩ x4).setCell ⟨g, 5, none⟩ x5).setCell ⟨g, 6, none⟩ x6).setCell ⟨g, 7, none⟩ x7).setCell ⟨g, 8, none⟩ x8).frozen? ⟨g, 9, none⟩ = false) ∧
  ((((((((((w.setCell ⟨g, 0, none⟩ x0).setCell ⟨g, 1, none⟩ x1).setCell ⟨g, 2, none⟩ x2).setCell ⟨g, 3, none⟩ x3).setCell ⟨g, 4, none⟩ x4).setCell ⟨g, 5, none⟩ x5).setCell ⟨g, 6, none⟩ x6).setCell ⟨g, 7, none⟩ x7).setCell ⟨g, 8, none⟩ x8).setCell ⟨g, 9, none⟩ x9).cell? ⟨g, 0, none⟩ = some x0 ∧ ((((((((((w.setCell ⟨g, 0, none⟩ x0).setCell ⟨g, 1, none⟩ x1).setCell ⟨g, 2, none⟩ x2).setCell ⟨g, 3, none⟩ x3).setCell ⟨g, 4, none⟩ x4).setCell ⟨g, 5, none⟩ x5).setCell ⟨g, 6, none⟩ x6).setCell ⟨g, 7, none⟩ x7).setCell ⟨g, 8, none⟩ x8).setCell ⟨g, 9, none⟩ x9).cell? ⟨g, 1, none⟩ = some x1 ∧ ((((((((((w.setCell ⟨g, 0, none⟩ x0).setCell ⟨g, 1, none⟩ x1).setCell ⟨g, 2, none⟩ x2).setCell ⟨g, 3, none⟩ x3).setCell ⟨g, 4, none⟩ x4).setCell ⟨g, 5, none⟩ x5).setCell ⟨g, 6, none⟩ x6).setCell ⟨g, 7, none⟩ x7).setCell ⟨g, 8, none⟩ x8).setCell ⟨g, 9, none⟩ x9).cell? ⟨g, 2, none⟩ = some x2 ∧ ((((((((((w.setCell ⟨g, 0, none⟩ x0).setCell ⟨g, 1, none⟩ x1).setCell ⟨g, 2, none⟩ x2).setCell ⟨g, 3, none⟩ x3).setCell ⟨g, 4, none⟩ x4).setCell ⟨g, 5, none⟩ x5).setCell ⟨g, 6, none⟩ x6).setCell ⟨g, 7, none⟩ x7).setCell ⟨g, 8, none⟩ x8).setCell ⟨g, 9, none⟩ x9).cell? ⟨g, 3, none⟩ = some x3 ∧ ((((((((((w.setCell ⟨g, 0, none⟩ x0).setCell ⟨g, 1, none⟩ x1).setCell ⟨g, 2, none⟩ x2).setCell ⟨g, 3, none⟩ x3).setCell ⟨g, 4, none⟩ x4).setCell ⟨g, 5, none⟩ x5).setCell ⟨g, 6, none⟩ x6).setCell ⟨g, 7, none⟩ x7).setCell ⟨g, 8, none⟩ x8).setCell ⟨g, 9, none⟩ x9).cell? ⟨g, 4, none⟩ = some x4 ∧ ((((((((((w.setCell ⟨g, 0, none⟩ x0).setCell ⟨g, 1, none⟩ x1).setCell ⟨g, 2, none⟩ x2).setCell ⟨g, 3, none⟩ x3).setCell ⟨g, 4, none⟩ x4).setCell ⟨g, 5, none⟩ x5).setCell ⟨g, 6, none⟩ x6).setCell ⟨g, 7, none⟩ x7).setCell ⟨g, 8, none⟩ x8).setCell ⟨g, 9, none⟩ x9).cell? ⟨g, 5, none⟩ = some x5 ∧ ((((((((((w.setCell ⟨g, 0, none⟩ x0).setCell ⟨g, 1, none⟩ x1).setCell ⟨g, 2, none⟩ x2).setCell ⟨g, 3, none⟩ x3).setCell ⟨g, 4, none⟩ x4).setCell ⟨g, 5, none⟩ x5).setCell ⟨g, 6, none⟩ x6).setCell ⟨g, 7, none⟩ x7).setCell ⟨g, 8, none⟩ x8).setCell ⟨g, 9, none⟩ x9).cell? ⟨g, 6, none⟩ = some x6 ∧ ((((((((((w.setCell ⟨g, 0, none⟩ x0).setCell ⟨g, 1, none⟩ x1).setCell ⟨g, 2, none⟩ x2).setCell ⟨g, 3, none⟩ x3).setCell ⟨g, 4, none⟩ x4).setCell ⟨g, 5, none⟩ x5).setCell ⟨g, 6, none⟩ x6).setCell ⟨g, 7, none⟩ x7).setCell ⟨g, 8, none⟩ x8).setCell ⟨g, 9, none⟩ x9).cell? ⟨g, 7, none⟩ = some x7 ∧ ((((((((((w.setCell ⟨g, 0, none⟩ x0).setCell ⟨g, 1, none⟩ x1).setCell ⟨g, 2, none⟩ x2).setCell ⟨g, 3, none⟩ x3).setCell ⟨g, 4, none⟩ x4).setCell ⟨g, 5, none⟩ x5).setCell ⟨g, 6, none⟩ x6).setCell ⟨g, 7, none⟩ x7).setCell ⟨g, 8, none⟩ x8).setCell ⟨g, 9, none⟩ x9).cell? ⟨g, 8, none⟩ = some x8 ∧ ((((((((((w.setCell ⟨g, 0, none⟩ x0).setCell ⟨g, 1, none⟩ x1).setCell ⟨g, 2, none⟩ x2).setCell ⟨g, 3, none⟩ x3).setCell ⟨g, 4, none⟩ x4).setCell ⟨g, 5, none⟩ x5).setCell ⟨g, 6, none⟩ x6).setCell ⟨g, 7, none⟩ x7).setCell ⟨g, 8, none⟩ x8).setCell ⟨g, 9, none⟩ x9).cell? ⟨g, 9, none⟩ = some x9 := by
 have h1 : Blk (w.setCell ⟨g, 0, none⟩ x0) g #[x0, a1, a2, a3, a4, a5, a6, a7, a8, a9] t := h.set 0 x0
 have h2 : Blk ((w.setCell ⟨g, 0, none⟩ x0).setCell ⟨g, 1, none⟩ x1) g #[x0, x1, a2, a3, a4, a5, a6, a7, a8, a9] t := h1.set 1 x1
 have h3 : Blk (((w.setCell ⟨g, 0, none⟩ x0).setCell ⟨g, 1, none⟩ x1).setCell ⟨g, 2, none⟩ x2) g #[x0, x1, x2, a3, a4, a5, a6, a7, a8, a9] t := h2.set 2 x2
 have h4 : Blk ((((w.setCell ⟨g, 0, none⟩ x0).setCell ⟨g, 1, none⟩ x1).setCell ⟨g, 2, none⟩ x2).setCell ⟨g, 3, none⟩ x3) g #[x0, x1, x2, x3, a4, a5, a6, a7, a8, a9] t := h3.set 3 x3
 have h5 : Blk (((((w.setCell ⟨g, 0, none⟩ x0).setCell ⟨g, 1, none⟩ x1).setCell ⟨g, 2, none⟩ x2).setCell ⟨g, 3, none⟩ x3).setCell ⟨g, 4, none⟩ x4) g #[x0, x1, x2, x3, x4, a5, a6, a7, a8, a9] t := h4.set 4 x4
 have h6 : Blk ((((((w.setCell ⟨g, 0, none⟩ x0).setCell ⟨g, 1, none⟩ x1).setCell ⟨g, 2, none⟩ x2).setCell ⟨g, 3, none⟩ x3).setCell ⟨g, 4, none⟩ x4).setCell ⟨g, 5, none⟩ x5) g #[x0, x1, x2, x3, x4, x5, a6, a7, a8, a9] t := h5.set 5 x5
 have h7 : Blk (((((((w.setCell ⟨g, 0, none⟩ x0).setCell ⟨g, 1, none⟩ x1).setCell ⟨g, 2, none⟩ x2).setCell ⟨g, 3, none⟩ x3).setCell ⟨g, 4, none⟩ x4).setCell ⟨g, 5, none⟩ x5).setCell ⟨g, 6, none⟩ x6) g #[x0, x1, x2, x3, x4, x5, x6, a7, a8, a9] t := h6.set 6 x6
 have h8 : Blk ((((((((w.setCell ⟨g, 0, none⟩ x0).setCell ⟨g, 1, none⟩ x1).setCell ⟨g, 2, none⟩ x2).setCell ⟨g, 3, none⟩ x3).setCell ⟨g, 4, none⟩ x4).setCell ⟨g, 5, none⟩ x5).setCell ⟨g, 6, none⟩ x6).setCell ⟨g, 7, none⟩ x7) g #[x0, x1, x2, x3, x4, x5, x6, x7, a8, a9] t := h7.set 7 x7
 have h9 : Blk (((((((((w.setCell ⟨g, 0, none⟩ x0).setCell ⟨g, 1, none⟩ x1).setCell ⟨g, 2, none⟩ x2).setCell ⟨g, 3, none⟩ x3).setCell ⟨g, 4, none⟩ x4).setCell ⟨g, 5, none⟩ x5).setCell ⟨g, 6, none⟩ x6).setCell ⟨g, 7, none⟩ x7).setCell ⟨g, 8, none⟩ x8) g #[x0, x1, x2, x3, x4, x5, x6, x7, x8, a9] t := h8.set 8 x8
 have h10 : Blk ((((((((((w.setCell ⟨g, 0, none⟩ x0).setCell ⟨g, 1, none⟩ x1).setCell ⟨g, 2, none⟩ x2).setCell ⟨g, 3, none⟩ x3).setCell ⟨g, 4, none⟩ x4).setCell ⟨g, 5, none⟩ x5).setCell ⟨g, 6, none⟩ x6).setCell ⟨g, 7, none⟩ x7).setCell ⟨g, 8, none⟩ x8).setCell ⟨g, 9, none⟩ x9) g #[x0, x1, x2, x3, x4, x5, x6, x7, x8, x9] t := h9.set 9 x9
 exact ⟨⟨h.cell 0 _ rfl, h.free 0⟩, ⟨h1.cell 1 _ rfl, h1.free 1⟩, ⟨h2.cell 2 _ rfl, h2.free 2⟩, ⟨h3.cell 3 _ rfl, h3.free 3⟩, ⟨h4.cell 4 _ rfl, h4.free 4⟩, ⟨h5.cell 5 _ rfl, h5.free 5⟩, ⟨h6.cell 6 _ rfl, h6.free 6⟩, ⟨h7.cell 7 _ rfl, h7.free 7⟩, ⟨h8.cell 8 _ rfl, h8.free 8⟩, ⟨h9.cell 9 _ rfl, h9.free 9⟩, h10.cell 0 _ rfl, h10.cell 1 _ rfl, h10.cell 2 _ rfl, h10.cell 3 _ rfl, h10.cell 4 _ rfl, h10.cell 5 _ rfl, h10.cell 6 _ rfl, h10.cell 7 _ rfl, h10.cell 8 _ rfl, h10.cell 9 _ rfl⟩
theorem blkC10 {w : World} {g : Nat} {a0 a1 a2 a3 a4 a5 a6 a7 a8 a9 x0 x1 x2 x3 x4 x5 x6 x7 x8 x9 : Value} {t : TypeId} (h : Blk w g #[a0, a1, a2, a3, a4, a5, a6, a7, a8, a9] t) : Blk ((((((((((w.setCell ⟨g, 0, none⟩ x0).setCell ⟨g, 1, none⟩ x1).setCell ⟨g, 2, none⟩ x2).setCell ⟨g, 3, none⟩ x3).setCell ⟨g, 4, none⟩ x4).setCell ⟨g, 5, none⟩ x5).setCell ⟨g, 6, none⟩ x6).setCell ⟨g, 7, none⟩ x7).setCell ⟨g, 8, none⟩ x8).setCell ⟨g, 9, none⟩ x9) g #[x0, x1, x2, x3, x4, x5, x6, x7, x8, x9] t := by
 have h1 : Blk (w.setCell ⟨g, 0, none⟩ x0) g #[x0, a1, a2, a3, a4, a5, a6, a7, a8, a9] t := h.set 0 x0
 have h2 : Blk ((w.setCell ⟨g, 0, none⟩ x0).setCell ⟨g, 1, none⟩ x1) g #[x0, x1, a2, a3, a4, a5, a6, a7, a8, a9] t := h1.set 1 x1
 have h3 : Blk (((w.setCell ⟨g, 0, none⟩ x0).setCell ⟨g, 1, none⟩ x1).setCell ⟨g, 2, none⟩ x2) g #[x0, x1, x2, a3, a4, a5, a6, a7, a8, a9] t := h2.set 2 x2
 have h4 : Blk ((((w.setCell ⟨g, 0, none⟩ x0).setCell ⟨g, 1, none⟩ x1).setCell ⟨g, 2, none⟩ x2).setCell ⟨g, 3, none⟩ x3) g #[x0, x1, x2, x3, a4, a5, a6, a7, a8, a9] t := h3.set 3 x3
 have h5 : Blk (((((w.setCell ⟨g, 0, none⟩ x0).setCell ⟨g, 1, none⟩ x1).setCell ⟨g, 2, none⟩ x2).setCell ⟨g, 3, none⟩ x3).setCell ⟨g, 4, none⟩ x4) g #[x0, x1, x2, x3, x4, a5, a6, a7, a8, a9] t := h4.set 4 x4
 have h6 : Blk ((((((w.setCell ⟨g, 0, none⟩ x0).setCell ⟨g, 1, none⟩ x1).setCell ⟨g, 2, none⟩ x2).setCell ⟨g, 3, none⟩ x3).setCell ⟨g, 4, none⟩ x4).setCell ⟨g, 5, none⟩ x5) g #[x0, x1, x2, x3, x4, x5, a6, a7, a8, a9] t := h5.set 5 x5
 have h7 : Blk (((((((w.setCell ⟨g, 0, none⟩ x0).setCell ⟨g, 1, none⟩ x1).setCell ⟨g, 2, none⟩ x2).setCell ⟨g, 3, none⟩ x3).setCell ⟨g, 4, none⟩ x4).setCell ⟨g, 5, none⟩ x5).setCell ⟨g, 6, none⟩ x6) g #[x0, x1, x2, x3, x4, x5, x6, a7, a8, a9] t := h6.set 6 x6
 have h8 : Blk ((((((((w.setCell ⟨g, 0, none⟩ x0).setCell ⟨g, 1, none⟩ x1).setCell ⟨g, 2, none⟩ x2).setCell ⟨g, 3, none⟩ x3).setCell ⟨g, 4, none⟩ x4).setCell ⟨g, 5, none⟩ x5).setCell ⟨g, 6, none⟩ x6).setCell ⟨g, 7, none⟩ x7) g #[x0, x1, x2, x3, x4, x5, x6, x7, a8, a9] t := h7.set 7 x7
 have h9 : Blk (((((((((w.setCell ⟨g, 0, none⟩ x0).setCell ⟨g, 1, none⟩ x1).setCell ⟨g, 2, none⟩ x2).setCell ⟨g, 3, none⟩ x3).setCell ⟨g, 4, none⟩ x4).setCell ⟨g, 5, none⟩ x5).setCell ⟨g, 6, none⟩ x6).setCell ⟨g, 7, none⟩ x7).setCell ⟨g, 8, none⟩ x8) g #[x0, x1, x2, x3, x4, x5, x6, x7, x8, a9] t := h8.set 8 x8
 have h10 : Blk ((((((((((w.setCell ⟨g, 0, none⟩ x0).setCell ⟨g, 1, none⟩ x1).setCell ⟨g, 2, none⟩ x2).setCell ⟨g, 3, none⟩ x3).setCell ⟨g, 4, none⟩ x4).setCell ⟨g, 5, none⟩ x5).setCell ⟨g, 6, none⟩ x6).setCell ⟨g, 7, none⟩ x7).setCell ⟨g, 8, none⟩ x8).setCell ⟨g, 9, none⟩ x9) g #[x0, x1, x2, x3, x4, x5, x6, x7, x8, x9] t := h9.set 9 x9
 exact h10
theorem belowC10 {w w' : World} {B g : Nat} (h : Below B w w') (hg : B ≤ g) (x0 x1 x2 x3 x4 x5 x6 x7 x8 x9 : Value) : Below B w ((((((((((w'.setCell ⟨g, 0, none⟩ x0).setCell ⟨g, 1, none⟩ x1).setCell ⟨g, 2, none⟩ x2).setCell ⟨g, 3, none⟩ x3).setCell ⟨g, 4, none⟩ x4).setCell ⟨g, 5, none⟩ x5).setCell ⟨g, 6, none⟩ x6).setCell ⟨g, 7, none⟩ x7).setCell ⟨g, 8, none⟩ x8).setCell ⟨g, 9, none⟩ x9) := ((((((((((h.setCell hg _).setCell hg _).setCell hg _).setCell hg _).setCell hg _).setCell hg _).setCell hg _).setCell hg _).setCell hg _).setCell hg _)
theorem cellsC10 {w : World} {g : Nat} {a0 a1 a2 a3 a4 a5 a6 a7 a8 a9 : Value} {t : TypeId} (h : Blk w g #[a0, a1, a2, a3, a4, a5, a6, a7, a8, a9] t) : w.cell? ⟨g, 0, none⟩ = some a0 ∧ w.cell? ⟨g, 1, none⟩ = some a1 ∧ w.cell? ⟨g, 2, none⟩ = some a2 ∧ w.cell? ⟨g, 3, none⟩ = some a3 ∧ w.cell? ⟨g, 4, none⟩ = some a4 ∧ w.cell? ⟨g, 5, none⟩ = some a5 ∧ w.cell? ⟨g, 6, none⟩ = some a6 ∧ w.cell? ⟨g, 7, none⟩ = some a7 ∧ w.cell? ⟨g, 8, none⟩ = some a8 ∧ w.cell? ⟨g, 9, none⟩ = some a9 := ⟨h.cell 0 _ rfl, h.cell 1 _ rfl, h.cell 2 _ rfl, h.cell 3 _ rfl, h.cell 4 _ rfl, h.cell 5 _ rfl, h.cell 6 _ rfl, h.cell 7 _ rfl, h.cell 8 _ rfl, h.cell 9 _ rfl⟩
theorem Owns.lowM {X : World} {bs g j sz : Nat} {e : TypeId} {v u : Value} {r : List (List Value)} (h : Owns X bs e sz u r) (hl : g < bs) : Owns (X.setCell ⟨g, j, none⟩ v) bs e sz u r := h.other (h.below hl) j v
theorem ownsC10 {w : World} {bs g sz : Nat} {e : TypeId} {u : Value} {r : List (List Value)} (h : Owns w bs e sz u r) (hl : g < bs) (x0 x1 x2 x3 x4 x5 x6 x7 x8 x9 : Value) : Owns ((((((((((w.setCell ⟨g, 0, none⟩ x0).setCell ⟨g, 1, none⟩ x1).setCell ⟨g, 2, none⟩ x2).setCell ⟨g, 3, none⟩ x3).setCell ⟨g, 4, none⟩ x4).setCell ⟨g, 5, none⟩ x5).setCell ⟨g, 6, none⟩ x6).setCell ⟨g, 7, none⟩ x7).setCell ⟨g, 8, none⟩ x8).setCell ⟨g, 9, none⟩ x9) bs e sz u r := ((((((((((h.lowM hl).lowM hl).lowM hl).lowM hl).lowM hl).lowM hl).lowM hl).lowM hl).lowM hl).lowM hl)
end Go.Proofs.YtimfnbnffibgpaaGreatDoor
namespace Go.Proofs.YtimfnbnffibgpaaGreatDoor
open Go.ChangeShapes Go.WideShapes Go.ChangeAt Go.RowKit Go.PlainAid
set_option linter.unusedVariables false
def mg0 : Mg := ⟨0, 0, 0, 0, 0, 0, 0, false, [], ⟨#[]⟩⟩
def MgN (s : ByteArray) (x : Mg) (b : Bool) : Prop := (MgRd s x ∧ b = true) ∨ ((∀ x, ¬ MgRd s x) ∧ x = mg0 ∧ b = false)
def MgA (s : ByteArray) (base : Nat) (e : Ending) (w' : World) : Prop := ∃ x u b, MgN s x b ∧ e = .returned (.tuple #[u, .bool b]) ∧ MgO w' base u x
theorem MgN.one {s : ByteArray} {x y : Mg} {b c : Bool} (h : MgN s x b) (h' : MgN s y c) : x = y ∧ b = c := by
 rcases h with ⟨h1, rfl⟩ | ⟨h1, rfl, rfl⟩
 ·rcases h' with ⟨h2, rfl⟩ | ⟨h2, _, _⟩
  ·exact ⟨h1.one h2, rfl⟩
  ·exact absurd h1 (h2 _)
 ·rcases h' with ⟨h2, _⟩ | ⟨_, rfl, rfl⟩
  ·exact absurd h2 (h1 _)
  ·exact ⟨rfl, rfl⟩
theorem MgO.zero (w : World) (base : Nat) : MgO w base (.agg #[.int .i64 0, .int .i64 0, .int .i64 0, .int .i64 0, .int .i64 0, .int .i64 0, .int .i64 0, .bool false, .slice none 0 0, .string ⟨#[]⟩]) mg0 := ⟨_, rfl, Owns.nil _ _ _ _⟩
theorem MgN.few {s : ByteArray} {x : Mg} {b : Bool} (h : MgN s x b) : x.ents.length ≤ 4 := by
 rcases h with ⟨⟨_, _, _, h1, _⟩, _⟩ | ⟨_, rfl, _⟩
 ·exact h1.2.1
 ·decide
theorem RdL.snocM {α : Type} {P : Nat → α → Nat → Prop} {a k : Nat} {l : List α} {n m : Nat} {y : α} (h : RdL P a k l n) (hy : P n y m) : RdL P a (k + 1) (l ++ [y]) m := ⟨l, n, y, h, hy, rfl⟩
theorem cell_alloc_keepM {w : World} {p : Addr} {v : Value} (h : w.cell? p = some v) (o : Obj) : (w.alloc o).cell? p = some v := by
 have hl : p.block < w.heap.size := by
  rcases Nat.lt_or_ge p.block w.heap.size with h1 | h1
  ·exact h1
  ·simp [World.cell?, Array.getElem?_eq_none h1] at h
 exact (((Below.refl w.heap.size w).alloc (Nat.le_refl _) o).cell hl).trans h
structure MgI (X : World) (base gx : Nat) (cs : Value → Array Value) (ve : Value) (es : List Ent) : Prop where
 box : Blk X gx (cs ve) 29
 lt : gx < base
 own : Owns X base 57 2 ve (entR es)
theorem MgI.on {X Y : World} {base gx : Nat} {cs : Value → Array Value} {ve : Value} {es : List Ent} (i : MgI X base gx cs ve es) (hb : Below X.heap.size X Y) : MgI Y base gx cs ve es := ⟨i.box.on hb i.box.lt, i.lt, i.own.on hb⟩
theorem nine_of {l : List Int} (h : l.length = 9) : ∃ a b c d e f g i j, l = [a, b, c, d, e, f, g, i, j] := by
 match l, h with
 | [a, b, c, d, e, f, g, i, j], _ => exact ⟨a, b, c, d, e, f, g, i, j, rfl⟩
theorem ent_cells (t : Int) (d : ByteArray) : ∀ u ∈ ([.int .i64 t, .string d] : List Value), u.oneCell' = true := by
 intro u hu
 simp only [List.mem_cons, List.not_mem_nil, or_false] at hu
 rcases hu with rfl | rfl <;> rfl
end Go.Proofs.YtimfnbnffibgpaaGreatDoor
namespace Go.Proofs.YtimfnbnffibgpaaGreatDoor
open Go.ChangeShapes Go.WideShapes Go.ChangeAt Go.RowKit Go.PlainAid
set_option linter.unusedVariables false
theorem one_of {l : List Int} (h : l.length = 1) : ∃ a, l = [a] := by
 match l, h with
 | [a], _ => exact ⟨a, rfl⟩
def PcA (s : ByteArray) (a : Nat) (e : Ending) : Prop := (∃ t n, PcRd s a t n ∧ e = .returned (.tuple #[.string t, .int .i64 ((n : Nat) : Int)])) ∨ ((∀ t n, ¬ PcRd s a t n) ∧ e = .returned (.tuple #[.string ⟨#[]⟩, .int .i64 (-1)]))
set_option maxHeartbeats 2000000 in
theorem specPieceAt (s : ByteArray) (a : Nat) (w : World) (hs : s.size ≤ 1048576) (ha : a ≤ 2097152) :
  Calls Tryz.prog 42 #[.string s, .int .i64 (a : Int)] w fun e w' => PcA s a e ∧ Below w.heap.size w w' := by
 have c := fun wx => specVars s a 1 wx hs ha (by omega)
 have HS : Hid (s.size ≤ 1048576) := hs
 clear hs ha
 go_enter Tryz.func42, Tryz.ntmps42
 go_wp2_with fail
 refine (c _).mono ?_
 rintro e w1 ⟨hR, hb1⟩
 have B1 : Hid (Below w.heap.size w w1) := hb1
 clear hb1 c
 rcases hR with ⟨l, n, u, hR, rfl, hN⟩ | ⟨hno, u, rfl⟩
 rotate_left
 ·have HN : Hid (∀ t n, ¬ PcRd s a t n) := by
   rintro t n ⟨b, h1, _⟩
   exact hno _ _ h1
  clear hno
  go_wp2_with fail
  go_ret2
  exact ⟨.inr ⟨HN.out, rfl⟩, B1.out⟩
 obtain ⟨z, rfl⟩ := one_of hR.length
 have HR : Hid (RdF s a 1 [z] n) := hR
 have hns := hR.ge.2 (by omega)
 have hz := hR.bound z (by simp)
 obtain ⟨zn, rfl⟩ : ∃ zn : Nat, z = (zn : Int) := ⟨_, (Int.toNat_of_nonneg hz.1).symm⟩
 obtain ⟨g, cap, rfl⟩ : ∃ g cap, u = .slice (some ⟨g, 0, none⟩) 1 cap := by
  rcases hN.form with ⟨_, h⟩ | ⟨g, cap, h, _⟩
  ·cases h
  ·exact ⟨g, cap, h⟩
 have e0 : w1.cell? ⟨g, 0, none⟩ = some (.int .i64 (zn : Int)) := hN.cell 0 (by simp)
 have q0 : ¬ (n : Int) < 0 := by omega
 have q1 : (n : Int) ≤ (s.size : Int) := by omega
 have q2 : (s.size : Int) ≤ 1048576 := by have := HS.out; omega
 have e9 : IntKind.i64.wrap ((s.size : Int) - (n : Int)) = (s.size : Int) - (n : Int) := by rw [IntKind.wrap_i64]; omega
 have q4 : (zn : Int) ≤ 562949953421311 := hz.2
 have q5 : (0 : Int) ≤ (zn : Int) := by omega
 clear hR hN hz
 by_cases hzn : n + zn ≤ s.size
 rotate_left
 ·have HN : Hid (∀ t n, ¬ PcRd s a t n) := by
   rintro t m ⟨b, h1, h2, h3, h4⟩
   obtain ⟨e, rfl⟩ := h1.one HR.out
   simp only [List.cons.injEq, and_true] at e
   omega
  have q3 : (s.size : Int) - (n : Int) < (zn : Int) := by omega
  clear hzn hns
  go_wp2_with fail
  go_ret2
  exact ⟨.inr ⟨HN.out, rfl⟩, B1.out⟩
 have q3 : ¬ (s.size : Int) - (n : Int) < (zn : Int) := by omega
 have HP : Hid (PcRd s a (s.extract n (n + zn)) (n + zn)) := by
  have hsz : (s.extract n (n + zn)).size = zn := by rw [ByteArray.size_extract]; omega
  refine ⟨n, ?_, by rw [hsz], hzn, rfl⟩
  rw [hsz]
  exact HR.out
 have e8 : IntKind.i64.wrap ((n : Int) + (zn : Int)) = ((n + zn : Nat) : Int) := by rw [IntKind.wrap_i64]; omega
 have q6 : (n : Int) ≤ ((n + zn : Nat) : Int) := by omega
 have q7 : ((n + zn : Nat) : Int) ≤ (s.size : Int) := by omega
 generalize n + zn = m at *
 clear hzn hns
 go_wp2_with fail
 have S0 : Hid (w1.drew.cell? ⟨g, 0, none⟩ = some (.int .i64 (zn : Int))) := e0
 have B2 : Hid (Below w.heap.size w w1.drew) := B1.out.drew
 refine wp_region_until (fun w' => w'.cell? ⟨g, 0, none⟩ = some (.int .i64 (zn : Int))) (fun _ => false) 15 (by rfl) (by kernel_rfl) ?_
 clear e0 B1
 generalize w1.drew = Y at *
 refine tF 0 S0.out ?_
 refine tF 1 S0.out ?_
 refine tF 2 S0.out ?_
 refine tF 3 S0.out ?_
 refine tF 4 S0.out ?_
 refine tF 5 S0.out ?_
 refine tF 6 S0.out ?_
 refine tF 7 S0.out ?_
 refine tF 8 S0.out ?_
 refine tF 9 S0.out ?_
 refine tF 10 S0.out ?_
 refine tF 11 S0.out ?_
 refine tF 12 S0.out ?_
 refine pF 13 ?_
 refine pF 14 ?_
 refine until_done (by kernel_rfl) ?_ _
 go_wp2_with fail
 go_ret2
 exact ⟨.inl ⟨_, m, HP.out, rfl⟩, B2.out⟩
end Go.Proofs.YtimfnbnffibgpaaGreatDoor
namespace Go.Proofs.YtimfnbnffibgpaaGreatDoor
open Go.ChangeShapes Go.WideShapes Go.ChangeAt Go.RowKit Go.PlainAid
set_option linter.unusedVariables false
theorem Tryz.infoEnt : (Tryz.prog.info? 57).map (fun i => (i.zero, i.size, i.bytes)) = some (some (.agg #[.int .i64 0, .string ⟨#[]⟩]), 2, 24) := by kernel_rfl
end Go.Proofs.YtimfnbnffibgpaaGreatDoor
