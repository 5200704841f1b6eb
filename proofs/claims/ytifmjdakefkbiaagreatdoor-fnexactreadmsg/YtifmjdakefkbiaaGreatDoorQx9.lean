/- MgS2 MgShS -/
import Derived.Test.YtifmjdakefkbiaaGreatDoorRows
import Derived.Laws.StructEq
import Derived.Laws.DeepStrings4
import Derived.Deep.Cut
import Derived.Deep.CutRange
import Derived.Handy
import Derived.Test.YtifmjdakefkbiaaGreatDoorQx0
import Derived.Test.YtifmjdakefkbiaaGreatDoorQt0
import Derived.Test.YtifmjdakefkbiaaGreatDoorQt1
import Derived.Test.YtifmjdakefkbiaaGreatDoorQt2
import Derived.Test.YtifmjdakefkbiaaGreatDoorQt3
import Derived.Test.YtifmjdakefkbiaaGreatDoorQt4
import Derived.Test.YtifmjdakefkbiaaGreatDoorQt5
import Derived.Test.YtifmjdakefkbiaaGreatDoorQt6
import Derived.Test.YtifmjdakefkbiaaGreatDoorQt7
import Derived.Test.YtifmjdakefkbiaaGreatDoorQt8
import Derived.Test.YtifmjdakefkbiaaGreatDoorQt9
import Derived.Test.YtifmjdakefkbiaaGreatDoorQt10
import Derived.Test.YtifmjdakefkbiaaGreatDoorQt11
import Derived.Test.YtifmjdakefkbiaaGreatDoorQt12
import Derived.Test.YtifmjdakefkbiaaGreatDoorQt13
open List (setIfInBounds_toArray set_cons_zero set_cons_succ)
namespace Go.Proofs.YtifmjdakefkbiaaGreatDoor
open Go.ChangeShapes Go.WideShapes Go.ChangeAt Go.RowKit Go.PlainAid
set_option linter.unusedVariables false
end Go.Proofs.YtifmjdakefkbiaaGreatDoor
namespace Go.Proofs.YtifmjdakefkbiaaGreatDoor
open Go.ChangeShapes Go.WideShapes Go.ChangeAt Go.RowKit Go.PlainAid
set_option linter.unusedVariables false
theorem yesS (b : Bool) (w : World) : Calls Tryz.prog 104 #[.bool b] w fun e w' => e = .returned (.int .i64 ((yesN b : Nat) : Int)) ∧ w = w' := by
 cases b
 all_goals
  go_enter Tryz.func104, Tryz.ntmps104
  go_wp2_with fail
  go_ret
  exact ⟨rfl, rfl⟩
set_option maxRecDepth 20000 in
set_option maxHeartbeats 16000000 in
theorem specShowMsg (x : Mg) (v : Value) (w : World) (B : Nat) (hv : MgV w B v x) (hf : FitsM x) (hw : wtM x ≤ 1048576) (hB : B ≤ w.heap.size) : Calls Tryz.prog 61 #[v] w fun e w' => e = .returned (.string (msgT x)) ∧ Below w.heap.size w w' := by
 have HV := Hid.mkM hv
 obtain ⟨u, rfl, hl⟩ := hv
 obtain ⟨A, cap, rfl, hlk⟩ := ent_look hl
 have HB : Hid (B ≤ w.heap.size) := hB
 have HL := Hid.mkM hlk
 have c0 := fun wx (h : Below w.heap.size w wx) => specMsgOk x _ wx B (HV.out.on (h.mono HB.out)) hf hw (Nat.le_trans HB.out h.size)
 have HDS : Hid (x.data.size ≤ 1048576) := by unfold Hid; unfold wtM at hw; omega
 clear hl hlk hf hw hB HV
 unfold vMg at c0 ⊢
 generalize hN : x.ents.length = n at *
 have HNE : Hid (x.ents.length = n) := hN
 clear hN
 cases ho : msgOk x
 ·have HE : Hid (msgT x = ⟨#[]⟩) := msgT_no ho
  rw [ho] at c0
  clear ho
  have hb0 := (Below.refl w.heap.size w).alloc (Nat.le_refl _) (.cells #[.int .i64 x.kind, .int .i64 x.frm, .int .i64 x.dst, .int .i64 x.term, .int .i64 x.index, .int .i64 x.iterm, .int .i64 x.commit, .bool x.yes, .slice A n cap, .string x.data] 31)
  go_enter Tryz.func61, Tryz.ntmps61
  go_wp2_with fail
  refine (c0 _ hb0).mono ?_
  rintro e w1 ⟨rfl, hb1⟩
  have B1 : Hid (Below w.heap.size w w1) := hb0.trans (hb1.mono hb0.size)
  clear hb0 hb1 c0
  go_wp2_with fail
  go_ret
  exact ⟨by rw [HE.out]; rfl, B1.out⟩
 rw [ho] at c0
 have HE : Hid (msgT x = fixed (crc (bodT x)) 4 ++ bodT x) := msgT_yes ho
 obtain ⟨⟨a0, b0⟩, ⟨a1, b1⟩, ⟨a2, b2⟩, ⟨a3, b3⟩, ⟨a4, b4⟩, ⟨a5, b5⟩, ⟨a6, b6⟩, h8, h9⟩ := msgOk_in ho
 have HEN := Hid.mkM h9
 have qn4 : n ≤ 4 := by have := HNE.out; omega
 clear ho h8 h9
 obtain ⟨kn, hkn⟩ : ∃ n : Nat, x.kind = (n : Int) := ⟨x.kind.toNat, by omega⟩
 obtain ⟨fn, hfn⟩ : ∃ n : Nat, x.frm = (n : Int) := ⟨x.frm.toNat, by omega⟩
 obtain ⟨dn, hdn⟩ : ∃ n : Nat, x.dst = (n : Int) := ⟨x.dst.toNat, by omega⟩
 obtain ⟨tn, htn⟩ : ∃ n : Nat, x.term = (n : Int) := ⟨x.term.toNat, by omega⟩
 obtain ⟨xn, hxn⟩ : ∃ n : Nat, x.index = (n : Int) := ⟨x.index.toNat, by omega⟩
 obtain ⟨sn, hsn⟩ : ∃ n : Nat, x.iterm = (n : Int) := ⟨x.iterm.toNat, by omega⟩
 obtain ⟨cn, hcn⟩ : ∃ n : Nat, x.commit = (n : Int) := ⟨x.commit.toNat, by omega⟩
 have HH : Hid (hdT x = txt (vF 6 kn) ++ txt (vF 6 fn) ++ txt (vF 6 dn) ++ txt (vF 6 tn) ++ txt (vF 6 xn) ++ txt (vF 6 sn) ++ txt (vF 6 cn) ++ txt (vF 6 (yesN x.yes)) ++ txt (vF 6 n)) := by
  unfold Hid hdT
  rw [HNE.out, hkn, hfn, hdn, htn, hxn, hsn, hcn]
  simp only [Int.toNat_natCast]
 have HBO : Hid (bodT x = hdT x ++ catE x.ents ++ x.data) := rfl
 have HHS : Hid ((hdT x).size ≤ 63) := hdT_size x
 have HCS : Hid (∀ k, (catE (x.ents.take k)).size ≤ 3656) := catE_few x.ents (by have := HNE.out; omega) fun y hy => (HEN.out y hy).2.2
 have HTA : Hid (x.ents.take n = x.ents) := by unfold Hid; rw [← HNE.out, List.take_length]
 have HSN : Hid (∀ k, k < n → catE (x.ents.take (k + 1)) = catE (x.ents.take k) ++ entT (x.ents.getD k default)) := fun k hk => catE_snoc x.ents k (by have := HNE.out; omega)
 have HEE : Hid (∀ k, k < n → 1 ≤ (x.ents.getD k default).term ∧ (x.ents.getD k default).term ≤ 100000 ∧ (x.ents.getD k default).data.size ≤ 900) := fun k hk => HEN.out _ (getD_mem _ k (by have := HNE.out; omega))
 rw [hkn, hfn, hdn, htn, hxn, hsn, hcn] at c0 ⊢
 rw [hkn] at a0 b0
 rw [hfn] at a1 b1
 rw [hdn] at a2 b2
 rw [htn] at a3 b3
 rw [hxn] at a4 b4
 rw [hsn] at a5 b5
 rw [hcn] at a6 b6
 clear hkn hfn hdn htn hxn hsn hcn
 have cv0 := fun wx => spec_var kn wx (by omega)
 have cv1 := fun wx => spec_var fn wx (by omega)
 have cv2 := fun wx => spec_var dn wx (by omega)
 have cv3 := fun wx => spec_var tn wx (by omega)
 have cv4 := fun wx => spec_var xn wx (by omega)
 have cv5 := fun wx => spec_var sn wx (by omega)
 have cv6 := fun wx => spec_var cn wx (by omega)
 have cv7 := fun wx => spec_var (yesN x.yes) wx (by unfold yesN; split <;> omega)
 have cv8 := fun wx => spec_var n wx (by omega)
 have l0 := vT_small kn
 have l1 := vT_small fn
 have l2 := vT_small dn
 have l3 := vT_small tn
 have l4 := vT_small xn
 have l5 := vT_small sn
 have l6 := vT_small cn
 have l7 := vT_small (yesN x.yes)
 have l8 := vT_small n
 generalize txt (vF 6 kn) = t0 at *
 generalize txt (vF 6 fn) = t1 at *
 generalize txt (vF 6 dn) = t2 at *
 generalize txt (vF 6 tn) = t3 at *
 generalize txt (vF 6 xn) = t4 at *
 generalize txt (vF 6 sn) = t5 at *
 generalize txt (vF 6 cn) = t6 at *
 generalize txt (vF 6 (yesN x.yes)) = t7 at *
 generalize txt (vF 6 n) = t8 at *
 have p1 : ¬ 9223372036854775807 < t0.size + t1.size := by omega
 have p2 : ¬ 9223372036854775807 < t0.size + t1.size + t2.size := by omega
 have p3 : ¬ 9223372036854775807 < t0.size + t1.size + t2.size + t3.size := by omega
 have p4 : ¬ 9223372036854775807 < t0.size + t1.size + t2.size + t3.size + t4.size := by omega
 have p5 : ¬ 9223372036854775807 < t0.size + t1.size + t2.size + t3.size + t4.size + t5.size := by omega
 have p6 : ¬ 9223372036854775807 < t0.size + t1.size + t2.size + t3.size + t4.size + t5.size + t6.size := by omega
 have p7 : ¬ 9223372036854775807 < t0.size + t1.size + t2.size + t3.size + t4.size + t5.size + t6.size + t7.size := by omega
 have p8 : ¬ 9223372036854775807 < t0.size + t1.size + t2.size + t3.size + t4.size + t5.size + t6.size + t7.size + t8.size := by omega
 have cy := fun wx => yesS x.yes wx
 generalize yesN x.yes = yn at *
 generalize x.yes = yy at *
 generalize x.data = dd at *
 have hb0 := (Below.refl w.heap.size w).alloc (Nat.le_refl _) (.cells #[.int .i64 (kn : Int), .int .i64 (fn : Int), .int .i64 (dn : Int), .int .i64 (tn : Int), .int .i64 (xn : Int), .int .i64 (sn : Int), .int .i64 (cn : Int), .bool yy, .slice A n cap, .string dd] 31)
 have k0 := Blk.new w #[.int .i64 (kn : Int), .int .i64 (fn : Int), .int .i64 (dn : Int), .int .i64 (tn : Int), .int .i64 (xn : Int), .int .i64 (sn : Int), .int .i64 (cn : Int), .bool yy, .slice A n cap, .string dd] 31
 clear a0 b0 a1 b1 a2 b2 a3 b3 a4 b4 a5 b5 a6 b6 l0 l1 l2 l3 l4 l5 l6 l7 l8
 have qn : (n : Int) ≤ 4 := by omega
 go_enter Tryz.func61, Tryz.ntmps61
 go_wp2_with fail
 generalize w.alloc (.cells #[.int .i64 (kn : Int), .int .i64 (fn : Int), .int .i64 (dn : Int), .int .i64 (tn : Int), .int .i64 (xn : Int), .int .i64 (sn : Int), .int .i64 (cn : Int), .bool yy, .slice A n cap, .string dd] 31) = W at *
 refine (c0 _ hb0).mono ?_
 rintro e w1 ⟨rfl, hb1⟩
 have B1 : Hid (Below w.heap.size w w1) := hb0.trans (hb1.mono hb0.size)
 have K1 := Hid.mkM (k0.on hb1 k0.lt)
 clear hb0 hb1 c0 k0
 go_wp2_with fail
 have HS0 : Hid (∀ wx, Below w1.heap.size w1 wx → wx.cell? ⟨w.heap.size, 0, none⟩ = some (.int .i64 (kn : Int)) ∧ wx.cell? ⟨w.heap.size, 1, none⟩ = some (.int .i64 (fn : Int)) ∧ wx.cell? ⟨w.heap.size, 2, none⟩ = some (.int .i64 (dn : Int)) ∧ wx.cell? ⟨w.heap.size, 3, none⟩ = some (.int .i64 (tn : Int)) ∧ wx.cell? ⟨w.heap.size, 4, none⟩ = some (.int .i64 (xn : Int)) ∧ wx.cell? ⟨w.heap.size, 5, none⟩ = some (.int .i64 (sn : Int)) ∧ wx.cell? ⟨w.heap.size, 6, none⟩ = some (.int .i64 (cn : Int)) ∧ wx.cell? ⟨w.heap.size, 7, none⟩ = some (.bool yy) ∧ wx.cell? ⟨w.heap.size, 8, none⟩ = some (.slice A n cap)) := fun wx hx => ⟨(K1.out.on hx K1.out.lt).cell 0 _ rfl, (K1.out.on hx K1.out.lt).cell 1 _ rfl, (K1.out.on hx K1.out.lt).cell 2 _ rfl, (K1.out.on hx K1.out.lt).cell 3 _ rfl, (K1.out.on hx K1.out.lt).cell 4 _ rfl, (K1.out.on hx K1.out.lt).cell 5 _ rfl, (K1.out.on hx K1.out.lt).cell 6 _ rfl, (K1.out.on hx K1.out.lt).cell 7 _ rfl, (K1.out.on hx K1.out.lt).cell 8 _ rfl⟩
 refine wp_region_until (fun w' => w'.cell? ⟨w.heap.size, 0, none⟩ = some (.int .i64 (kn : Int)) ∧ w'.cell? ⟨w.heap.size, 1, none⟩ = some (.int .i64 (fn : Int)) ∧ w'.cell? ⟨w.heap.size, 2, none⟩ = some (.int .i64 (dn : Int)) ∧ w'.cell? ⟨w.heap.size, 3, none⟩ = some (.int .i64 (tn : Int)) ∧ w'.cell? ⟨w.heap.size, 4, none⟩ = some (.int .i64 (xn : Int)) ∧ w'.cell? ⟨w.heap.size, 5, none⟩ = some (.int .i64 (sn : Int)) ∧ w'.cell? ⟨w.heap.size, 6, none⟩ = some (.int .i64 (cn : Int)) ∧ w'.cell? ⟨w.heap.size, 7, none⟩ = some (.bool yy) ∧ w'.cell? ⟨w.heap.size, 8, none⟩ = some (.slice A n cap)) (fun _ => false) 38 (by rfl) (by kernel_rfl) ?_
 have V0 : Hid (Below w1.heap.size w1 w1.drew) := (Below.refl _ _).drew
 generalize w1.drew = Y0 at *
 refine tF 0 (HS0.out _ V0.out) ?_
 refine tF 1 (HS0.out _ V0.out) ?_
 refine tF 3 (HS0.out _ V0.out) ?_
 refine tF 4 (HS0.out _ V0.out) ?_
 refine tF 7 (HS0.out _ V0.out) ?_
 refine tF 8 (HS0.out _ V0.out) ?_
 refine tF 11 (HS0.out _ V0.out) ?_
 refine tF 12 (HS0.out _ V0.out) ?_
 refine tF 15 (HS0.out _ V0.out) ?_
 refine tF 16 (HS0.out _ V0.out) ?_
 refine tF 19 (HS0.out _ V0.out) ?_
 refine tF 20 (HS0.out _ V0.out) ?_
 refine tF 23 (HS0.out _ V0.out) ?_
 refine tF 24 (HS0.out _ V0.out) ?_
 refine tF 27 (HS0.out _ V0.out) ?_
 refine tF 28 (HS0.out _ V0.out) ?_
 refine tF 32 (HS0.out _ V0.out) ?_
 refine tF 33 (HS0.out _ V0.out) ?_
 refine tF 34 (HS0.out _ V0.out) ?_
 refine uNe 2 (fun K hK => ?_)
 go_simp
 refine (cv0 Y0).mono ?_
 rintro e Y1 ⟨rfl, hb⟩
 have V1 : Hid (Below w1.heap.size w1 Y1) := V0.out.trans (hb.mono V0.out.size)
 clear hb V0
 refine hK.out _ _ (fun _ _ => HS0.out _ V1.out) ?_
 clear hK K
 try simp only [Act.put, zQ1, zQ2, zQ3]
 refine uNe 5 (fun K hK => ?_)
 go_simp
 refine (cv1 Y1).mono ?_
 rintro e Y2 ⟨rfl, hb⟩
 have V2 : Hid (Below w1.heap.size w1 Y2) := V1.out.trans (hb.mono V1.out.size)
 clear hb V1
 refine hK.out _ _ (fun _ _ => HS0.out _ V2.out) ?_
 clear hK K
 try simp only [Act.put, zQ1, zQ2, zQ3]
 refine pF 6 ?_
 refine uNe 9 (fun K hK => ?_)
 go_simp
 refine (cv2 Y2).mono ?_
 rintro e Y3 ⟨rfl, hb⟩
 have V3 : Hid (Below w1.heap.size w1 Y3) := V2.out.trans (hb.mono V2.out.size)
 clear hb V2
 refine hK.out _ _ (fun _ _ => HS0.out _ V3.out) ?_
 clear hK K
 try simp only [Act.put, zQ1, zQ2, zQ3]
 refine pF 10 ?_
 refine uNe 13 (fun K hK => ?_)
 go_simp
 refine (cv3 Y3).mono ?_
 rintro e Y4 ⟨rfl, hb⟩
 have V4 : Hid (Below w1.heap.size w1 Y4) := V3.out.trans (hb.mono V3.out.size)
 clear hb V3
 refine hK.out _ _ (fun _ _ => HS0.out _ V4.out) ?_
 clear hK K
 try simp only [Act.put, zQ1, zQ2, zQ3]
 refine pF 14 ?_
 refine uNe 17 (fun K hK => ?_)
 go_simp
 refine (cv4 Y4).mono ?_
 rintro e Y5 ⟨rfl, hb⟩
 have V5 : Hid (Below w1.heap.size w1 Y5) := V4.out.trans (hb.mono V4.out.size)
 clear hb V4
 refine hK.out _ _ (fun _ _ => HS0.out _ V5.out) ?_
 clear hK K
 try simp only [Act.put, zQ1, zQ2, zQ3]
 refine pF 18 ?_
 refine uNe 21 (fun K hK => ?_)
 go_simp
 refine (cv5 Y5).mono ?_
 rintro e Y6 ⟨rfl, hb⟩
 have V6 : Hid (Below w1.heap.size w1 Y6) := V5.out.trans (hb.mono V5.out.size)
 clear hb V5
 refine hK.out _ _ (fun _ _ => HS0.out _ V6.out) ?_
 clear hK K
 try simp only [Act.put, zQ1, zQ2, zQ3]
 refine pF 22 ?_
 refine uNe 25 (fun K hK => ?_)
 go_simp
 refine (cv6 Y6).mono ?_
 rintro e Y7 ⟨rfl, hb⟩
 have V7 : Hid (Below w1.heap.size w1 Y7) := V6.out.trans (hb.mono V6.out.size)
 clear hb V6
 refine hK.out _ _ (fun _ _ => HS0.out _ V7.out) ?_
 clear hK K
 try simp only [Act.put, zQ1, zQ2, zQ3]
 refine pF 26 ?_
 refine uNe 29 (fun K hK => ?_)
 go_simp
 refine (cy Y7).mono ?_
 rintro e w' ⟨rfl, rfl⟩
 refine hK.out _ _ (fun _ _ => HS0.out _ V7.out) ?_
 clear hK K
 try simp only [Act.put, zQ1, zQ2, zQ3]
 refine uNe 30 (fun K hK => ?_)
 go_simp
 refine (cv7 Y7).mono ?_
 rintro e Y8 ⟨rfl, hb⟩
 have V8 : Hid (Below w1.heap.size w1 Y8) := V7.out.trans (hb.mono V7.out.size)
 clear hb V7
 refine hK.out _ _ (fun _ _ => HS0.out _ V8.out) ?_
 clear hK K
 try simp only [Act.put, zQ1, zQ2, zQ3]
 refine pF 31 ?_
 refine uNe 35 (fun K hK => ?_)
 go_simp
 refine (cv8 Y8).mono ?_
 rintro e Y9 ⟨rfl, hb⟩
 have V9 : Hid (Below w1.heap.size w1 Y9) := V8.out.trans (hb.mono V8.out.size)
 clear hb V8
 refine hK.out _ _ (fun _ _ => HS0.out _ V9.out) ?_
 clear hK K
 try simp only [Act.put, zQ1, zQ2, zQ3]
 refine pF 36 ?_
 refine pF 37 ?_
 refine until_done (by kernel_rfl) ?_ _
 rw [← HH.out]
 have D0 : Hid (Below w.heap.size w Y9) := B1.out.trans (V9.out.mono B1.out.size)
 have K2 := Hid.mkM (K1.out.on V9.out K1.out.lt)
 clear HS0 B1 K1 V9 cv0 cv1 cv2 cv3 cv4 cv5 cv6 cv7 cv8 cy p1 p2 p3 p4 p5 p6 p7 p8
 generalize Y9 = Z0 at *
 generalize hhd : hdT x = hd at *
 clear hhd HH
 go_wp2_with fail
 go_loopw [3, 4] (fun v3 v4 wr => ∃ i : Nat, i ≤ n ∧ v4 = .int .i64 (i : Int) ∧ v3 = .string (hd ++ catE (x.ents.take i)) ∧ Below w.heap.size w wr ∧ Blk wr w.heap.size #[.int .i64 (kn : Int), .int .i64 (fn : Int), .int .i64 (dn : Int), .int .i64 (tn : Int), .int .i64 (xn : Int), .int .i64 (sn : Int), .int .i64 (cn : Int), .bool yy, .slice A n cap, .string dd] 31) (fun _ v _ => n - (intOf v).toNat)
 case atStart => exact ⟨0, Nat.zero_le _, rfl, by simp [catE], D0.out, K2.out⟩
 case round =>
  obtain ⟨i, hi, rfl, rfl, hD, hK⟩ := hrel
  have D := Hid.mkM hD
  have K3 := Hid.mkM hK
  clear hD hK D0 K2
  have HC := HCS.out i
  have HHs := HHS.out
  by_cases hlt : i < n
  ·have q4 : (i : Int) < (n : Int) := by omega
   obtain ⟨g, off, rfl, hg, e0, e1⟩ := HL.out i hlt
   have hgw : g < w.heap.size := Nat.lt_of_lt_of_le hg HB.out
   have HSi : Hid (catE (x.ents.take (i + 1)) = catE (x.ents.take i) ++ entT (x.ents.getD i default)) := HSN.out i hlt
   obtain ⟨z1, z2, z3⟩ := HEE.out i hlt
   generalize x.ents.getD i default = y at *
   obtain ⟨yt, yd⟩ := y
   simp only at e0 e1 z1 z2 z3
   obtain ⟨yn2, rfl⟩ : ∃ m : Nat, yt = (m : Int) := ⟨yt.toNat, by omega⟩
   have HET : Hid (entT ⟨(yn2 : Int), yd⟩ = txt (vF 6 yn2) ++ txt (vF 6 yd.size) ++ yd) := by unfold Hid entT; simp only [Int.toNat_natCast]
   have cA := fun wx => spec_var yn2 wx (by omega)
   have cB := fun wx => spec_var yd.size wx (by omega)
   have m1 := vT_small yn2
   have m2 := vT_small yd.size
   have qd : (yd.size : Int) ≤ 900 := by omega
   have HS1 : Hid (∀ wx, Below wr.heap.size wr wx → wx.cell? ⟨w.heap.size, 8, none⟩ = some (.slice (some ⟨g, off, none⟩) n cap) ∧ wx.cell? ⟨g, off + i * 2, none⟩ = some (.int .i64 (yn2 : Int)) ∧ wx.cell? ⟨g, off + i * 2 + 1, none⟩ = some (.string yd)) := fun wx hx => ⟨(K3.out.on hx K3.out.lt).cell 8 _ rfl, ((D.out.trans (hx.mono D.out.size)).cell (p := ⟨g, off + i * 2, none⟩) hgw).trans e0, ((D.out.trans (hx.mono D.out.size)).cell (p := ⟨g, off + i * 2 + 1, none⟩) hgw).trans e1⟩
   have k8 := K3.out.cell 8 _ rfl
   generalize txt (vF 6 yn2) = ta at *
   generalize txt (vF 6 yd.size) = tb at *
   generalize catE (x.ents.take i) = ce at *
   have HN2 : Hid (hd ++ ce ++ ta ++ tb ++ yd = hd ++ catE (x.ents.take (i + 1))) := by unfold Hid; rw [HSi.out, HET.out]; simp only [ByteArray.append_assoc]
   have hs0 : (hd ++ ce).size = hd.size + ce.size := ByteArray.size_append
   have s1 : ¬ 9223372036854775807 < hd.size + ce.size + ta.size := by omega
   have s2 : ¬ 9223372036854775807 < hd.size + ce.size + ta.size + tb.size := by omega
   have s3 : ¬ 9223372036854775807 < hd.size + ce.size + ta.size + tb.size + yd.size := by omega
   clear hg hgw e0 e1 z1 z2 z3 m1 m2 HC HHs hs0
   go_wp2_with fail
   clear k8
   refine wp_region_until (fun w' => w'.cell? ⟨w.heap.size, 8, none⟩ = some (.slice (some ⟨g, off, none⟩) n cap) ∧ w'.cell? ⟨g, off + i * 2, none⟩ = some (.int .i64 (yn2 : Int)) ∧ w'.cell? ⟨g, off + i * 2 + 1, none⟩ = some (.string yd)) (fun _ => false) 26 (by rfl) (by kernel_rfl) ?_
   have V0 : Hid (Below wr.heap.size wr wr.drew) := (Below.refl _ _).drew
   generalize wr.drew = Y0 at *
   refine tF 0 (HS1.out _ V0.out) ?_
   refine tF 1 (HS1.out _ V0.out) ?_
   refine tF 2 (HS1.out _ V0.out) ?_
   refine tF 3 (HS1.out _ V0.out) ?_
   refine tF 4 (HS1.out _ V0.out) ?_
   refine tF 5 (HS1.out _ V0.out) ?_
   refine tF 6 (HS1.out _ V0.out) ?_
   refine tF 9 (HS1.out _ V0.out) ?_
   refine tF 10 (HS1.out _ V0.out) ?_
   refine tF 11 (HS1.out _ V0.out) ?_
   refine tF 12 (HS1.out _ V0.out) ?_
   refine tF 13 (HS1.out _ V0.out) ?_
   refine tF 14 (HS1.out _ V0.out) ?_
   refine tF 15 (HS1.out _ V0.out) ?_
   refine tF 18 (HS1.out _ V0.out) ?_
   refine tF 19 (HS1.out _ V0.out) ?_
   refine tF 20 (HS1.out _ V0.out) ?_
   refine tF 21 (HS1.out _ V0.out) ?_
   refine tF 22 (HS1.out _ V0.out) ?_
   refine tF 23 (HS1.out _ V0.out) ?_
   refine uNe 7 (fun K hK => ?_)
   go_simp
   refine (cA Y0).mono ?_
   rintro e Y1 ⟨rfl, hb⟩
   have V1 : Hid (Below wr.heap.size wr Y1) := V0.out.trans (hb.mono V0.out.size)
   clear hb V0
   refine hK.out _ _ (fun _ _ => HS1.out _ V1.out) ?_
   clear hK K
   try simp only [Act.put, zQ1, zQ2, zQ3]
   refine pF 8 ?_
   refine uNe 16 (fun K hK => ?_)
   go_simp
   refine (cB Y1).mono ?_
   rintro e Y2 ⟨rfl, hb⟩
   have V2 : Hid (Below wr.heap.size wr Y2) := V1.out.trans (hb.mono V1.out.size)
   clear hb V1
   refine hK.out _ _ (fun _ _ => HS1.out _ V2.out) ?_
   clear hK K
   try simp only [Act.put, zQ1, zQ2, zQ3]
   refine pF 17 ?_
   refine pF 24 ?_
   refine pF 25 ?_
   refine until_done (by kernel_rfl) ?_ _
   rw [HN2.out]
   have D1 : Hid (Below w.heap.size w Y2) := D.out.trans (V2.out.mono D.out.size)
   have K4 := Hid.mkM (K3.out.on V2.out K3.out.lt)
   clear D K3 V2 HS1
   try go_wp2_with fail
   go_roundw
   case rel => exact ⟨i + 1, by omega, by go_num, rfl, D1.out, K4.out⟩
   case measure => simp [intOf]; omega
  ·obtain rfl : i = n := by omega
   have HT : Hid (hd ++ catE (x.ents.take i) ++ dd = bodT x) := by unfold Hid; rw [HTA.out, HBO.out]
   have k8 := K3.out.cell 8 _ rfl
   have k9 := K3.out.cell 9 _ rfl
   have hds := HDS.out
   generalize catE (x.ents.take i) = ce at *
   have hs0 : (hd ++ ce).size = hd.size + ce.size := ByteArray.size_append
   have s1 : ¬ 9223372036854775807 < hd.size + ce.size + dd.size := by omega
   have hs1 : (bodT x).size ≤ 1060000 := by rw [← HT.out, ByteArray.size_append, hs0]; omega
   clear hs0 HC HHs hds
   go_upto_region 9 with fail
   rw [HT.out]
   generalize bodT x = bt at *
   have cC := fun wx => spec_crc bt wx (by omega)
   have hc := crc_lt bt
   have cX := fun wx => spec_fixed (crc bt) 4 wx (by omega) (by omega) (by omega)
   have hfx := fixed_small (crc bt)
   generalize fixed (crc bt) 4 = fx at *
   generalize crc bt = cb at *
   have s2 : ¬ 9223372036854775807 < fx.size + bt.size := by omega
   go_wp2_with fail
   refine (cC _).mono ?_
   rintro e w' ⟨rfl, rfl⟩
   go_wp2_with fail
   refine (cX _).mono ?_
   rintro e w' ⟨rfl, hb⟩
   have DE : Hid (Below w.heap.size w w') := D.out.trans (hb.mono D.out.size)
   clear hb cC cX
   go_wp2_with fail
   go_ret
   exact ⟨by rw [HE.out]; rfl, DE.out⟩
end Go.Proofs.YtifmjdakefkbiaaGreatDoor
