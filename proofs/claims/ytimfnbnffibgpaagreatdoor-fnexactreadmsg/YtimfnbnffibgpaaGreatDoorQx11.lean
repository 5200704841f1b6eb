/- CmOpS CmVars -/
import Derived.Test.YtimfnbnffibgpaaGreatDoorRows
import Derived.Test.YtimfnbnffibgpaaGreatDoorQx8
import Derived.Test.YtimfnbnffibgpaaGreatDoorQx10
import Derived.Test.YtimfnbnffibgpaaGreatDoorQx3
import Derived.Test.YtimfnbnffibgpaaGreatDoorQx0
import Derived.Test.YtimfnbnffibgpaaGreatDoorQx2
open List (setIfInBounds_toArray set_cons_zero set_cons_succ)
namespace Go.Proofs.YtimfnbnffibgpaaGreatDoor
open Go.ChangeShapes Go.WideShapes Go.ChangeAt Go.RowKit Go.PlainAid
set_option linter.unusedVariables false
theorem conv_oneC (kn g cap : Nat) (w : World) (h : w.cell? ⟨g, 0, none⟩ = some (.int .u8 (kn : Int))) (hk : kn < 256) : (convert 61 9 (.slice (some ⟨g, 0, none⟩) 1 cap)).run Tryz.prog w = .ok (.string (txt [byt kn])) w := by
 refine run_convert_bytes_back (P := Tryz.prog) w 61 9 5 ⟨g, 0, none⟩ cap [byt kn] Tryz.underlying61 Tryz.underlying5 Tryz.underlying9 ?_
 intro j hj
 obtain rfl : j = 0 := by simp at hj; omega
 show w.cell? ⟨g, 0, none⟩ = _
 rw [h]
 have : (byt kn).toNat = kn := by rw [byt_toNat]; omega
 simp [this]
theorem byt_oneC (n : Nat) (h : n < 256) : IntKind.u8.wrap (n : Int) = (n : Int) := by rw [IntKind.wrap_u8']; omega
set_option maxHeartbeats 4000000 in
theorem specShowOp (x : Opx) (w : World) (hk : x.key.size ≤ maxLen) (hd : x.data.size ≤ 1048576) : Calls Tryz.prog 48 #[vOp x] w fun e w' => e = .returned (.string (opT x)) ∧ Below w.heap.size w w' := by
 have c0 := fun wx => specOpOk x wx hk hd
 have hb0 := below_c1 w (.cells #[.int .i64 x.kind, .string x.key, .int .i64 x.frm, .int .i64 x.til, .string x.data] 44)
 have k0 := Blk.new w #[.int .i64 x.kind, .string x.key, .int .i64 x.frm, .int .i64 x.til, .string x.data] 44
 clear hk
 cases ho : opOk x
 ·have HE : Hid (opT x = ⟨#[]⟩) := by unfold Hid opT; rw [ho]; rfl
  rw [ho] at c0
  unfold vOp at *
  clear ho hd k0
  go_enter Tryz.func48, Tryz.ntmps48
  go_wp2_with fail
  generalize w.alloc (.cells #[.int .i64 x.kind, .string x.key, .int .i64 x.frm, .int .i64 x.til, .string x.data] 44) = W at *
  refine (c0 _).mono ?_
  rintro e w1 ⟨rfl, hb1⟩
  have B1 : Hid (Below w.heap.size w w1) := hb0.trans (hb1.mono hb0.size)
  clear hb0 hb1 c0
  go_wp2_with fail
  go_ret
  exact ⟨by rw [HE.out]; rfl, B1.out⟩
 obtain ⟨⟨a1, a2⟩, a3, ⟨a4, a5⟩, ⟨a6, a7⟩⟩ := opOk_in ho
 have HE : Hid (opT x = txt [byt x.kind.toNat] ++ txt (vF 6 x.key.size) ++ x.key ++ txt (vF 6 x.frm.toNat) ++ txt (vF 6 x.til.toNat) ++ x.data) := by unfold Hid opT; rw [if_pos ho]
 rw [ho] at c0
 clear ho
 obtain ⟨k, key, f, t, d⟩ := x
 simp only at *
 obtain ⟨kn, rfl⟩ : ∃ n : Nat, k = (n : Int) := ⟨k.toNat, by omega⟩
 obtain ⟨fn, rfl⟩ : ∃ n : Nat, f = (n : Int) := ⟨f.toNat, by omega⟩
 obtain ⟨tn, rfl⟩ : ∃ n : Nat, t = (n : Int) := ⟨t.toNat, by omega⟩
 simp only [Int.toNat_natCast] at HE
 have hu8 := byt_oneC kn (by omega)
 have hmod : (kn : Int) % 256 = (kn : Int) := by omega
 have hknI : (kn : Int) < 256 := by omega
 have cC : ∀ g wx, wx.cell? ⟨g, 0, none⟩ = some (.int .u8 (kn : Int)) → (convert 61 9 (.slice (some ⟨g, 0, none⟩) 1 1)).run Tryz.prog wx = .ok (.string (txt [byt kn])) wx := fun g wx h => conv_oneC kn g 1 wx h (by omega)
 have cN := fun wx => spec_var key.size wx (by omega)
 have cA := fun wx => spec_var fn wx (by omega)
 have cB := fun wx => spec_var tn wx (by omega)
 have l0 : (txt [byt kn]).size = 1 := by rw [txt_size]; rfl
 have l1 : (txt (vF 6 key.size)).size ≤ 7 := by rw [txt_size]; exact vF_length 6 _
 have l2 : (txt (vF 6 fn)).size ≤ 7 := by rw [txt_size]; exact vF_length 6 fn
 have l3 : (txt (vF 6 tn)).size ≤ 7 := by rw [txt_size]; exact vF_length 6 tn
 generalize txt [byt kn] = t0 at *
 generalize txt (vF 6 key.size) = t1 at *
 generalize txt (vF 6 fn) = t2 at *
 generalize txt (vF 6 tn) = t3 at *
 have p1 : ¬ 9223372036854775807 < t0.size + t1.size := by omega
 have p2 : ¬ 9223372036854775807 < t0.size + t1.size + key.size := by omega
 have p3 : ¬ 9223372036854775807 < t0.size + t1.size + key.size + t2.size := by omega
 have p4 : ¬ 9223372036854775807 < t0.size + t1.size + key.size + t2.size + t3.size := by omega
 have p5 : ¬ 9223372036854775807 < t0.size + t1.size + key.size + t2.size + t3.size + d.size := by omega
 have hks : (key.size : Int) ≤ 9223372036854775807 := by omega
 clear a1 a2 a3 a4 a5 a6 a7 l0 l1 l2 l3 hd
 unfold vOp at *
 simp only at *
 go_enter Tryz.func48, Tryz.ntmps48
 go_wp2_with fail
 generalize w.alloc (.cells #[.int .i64 (kn : Int), .string key, .int .i64 (fn : Int), .int .i64 (tn : Int), .string d] 44) = W at *
 refine (c0 _).mono ?_
 rintro e y1 ⟨rfl, hb1⟩
 have D0 : Hid (Below w.heap.size w y1.drew) := (hb0.trans (hb1.mono hb0.size)).drew
 have K0 : Hid (Blk y1.drew w.heap.size #[.int .i64 (kn : Int), .string key, .int .i64 (fn : Int), .int .i64 (tn : Int), .string d] 44) := k0.on hb1.drew k0.lt
 clear hb0 hb1 c0 k0
 have S0 : Hid (y1.drew.cell? ⟨w.heap.size, 0, none⟩ = some (.int .i64 (kn : Int)) ∧ y1.drew.cell? ⟨w.heap.size, 1, none⟩ = some (.string key) ∧ y1.drew.cell? ⟨w.heap.size, 2, none⟩ = some (.int .i64 (fn : Int)) ∧ y1.drew.cell? ⟨w.heap.size, 3, none⟩ = some (.int .i64 (tn : Int)) ∧ y1.drew.cell? ⟨w.heap.size, 4, none⟩ = some (.string d)) := ⟨K0.out.cell 0 _ rfl, K0.out.cell 1 _ rfl, K0.out.cell 2 _ rfl, K0.out.cell 3 _ rfl, K0.out.cell 4 _ rfl⟩
 go_wp2_with fail
 refine wp_region_until (fun w' => w'.cell? ⟨w.heap.size, 0, none⟩ = some (.int .i64 (kn : Int)) ∧ w'.cell? ⟨w.heap.size, 1, none⟩ = some (.string key) ∧ w'.cell? ⟨w.heap.size, 2, none⟩ = some (.int .i64 (fn : Int)) ∧ w'.cell? ⟨w.heap.size, 3, none⟩ = some (.int .i64 (tn : Int)) ∧ w'.cell? ⟨w.heap.size, 4, none⟩ = some (.string d)) (fun i => false) 25 (by rfl) (by kernel_rfl) ?_
 generalize y1.drew = X at *
 refine tKf 0 S0.out ?_
 refine tKf 1 S0.out ?_
 refine pUf 2 ?_
 refine tKf 5 S0.out ?_
 refine tKf 6 S0.out ?_
 refine pUf 7 ?_
 refine tKf 10 S0.out ?_
 refine tKf 11 S0.out ?_
 refine tKf 13 S0.out ?_
 refine tKf 14 S0.out ?_
 refine tKf 17 S0.out ?_
 refine tKf 18 S0.out ?_
 refine tKf 21 S0.out ?_
 refine tKf 22 S0.out ?_
 refine until_two 3 8 (by rfl) (by rfl) (by kernel_rfl) (fun K hK => ?_) (fun K hK => ?_)
 ·go_simp
  have G1 : Hid (Blk (X.alloc (.cells #[.int .u8 (kn : Int)] 5)) X.heap.size #[.int .u8 (kn : Int)] 5) := Blk.new _ _ _
  have KY1 : Hid (Blk (X.alloc (.cells #[.int .u8 (kn : Int)] 5)) w.heap.size #[.int .i64 (kn : Int), .string key, .int .i64 (fn : Int), .int .i64 (tn : Int), .string d] 44) := K0.out.alloc _
  have DY1 : Hid (Below w.heap.size w (X.alloc (.cells #[.int .u8 (kn : Int)] 5))) := D0.out.alloc D0.out.size _
  refine hK.out _ _ (fun _ _ => ⟨KY1.out.cell 0 _ rfl, KY1.out.cell 1 _ rfl, KY1.out.cell 2 _ rfl, KY1.out.cell 3 _ rfl, KY1.out.cell 4 _ rfl⟩) ?_
  clear hK K
  generalize hg1 : X.heap.size = gb1 at *
  generalize X.alloc (.cells #[.int .u8 (kn : Int)] 5) = Y1 at *
  try simp only [Act.put, zQ1, zQ2, zQ3]
  refine until_two 4 8 (by rfl) (by rfl) (by kernel_rfl) (fun K hK => ?_) (fun K hK => ?_)
  ·have hcv := cC gb1 Y1 (G1.out.cell 0 _ rfl)
   go_simp
   clear hcv
   refine hK.out _ _ (fun _ h => h) ?_
   clear hK K
   try simp only [Act.put, zQ1, zQ2, zQ3]
   refine uNe 8 (fun K hK => ?_)
   go_simp
   refine (cN _).mono ?_
   rintro e Y3 ⟨rfl, hb3⟩
   have KY3 : Hid (Blk Y3 w.heap.size #[.int .i64 (kn : Int), .string key, .int .i64 (fn : Int), .int .i64 (tn : Int), .string d] 44) := KY1.out.on hb3 KY1.out.lt
   have DY3 : Hid (Below w.heap.size w Y3) := DY1.out.trans (hb3.mono DY1.out.size)
   clear hb3
   go_wp2_with fail
   refine hK.out _ _ (fun _ _ => ⟨KY3.out.cell 0 _ rfl, KY3.out.cell 1 _ rfl, KY3.out.cell 2 _ rfl, KY3.out.cell 3 _ rfl, KY3.out.cell 4 _ rfl⟩) ?_
   clear hK K
   try simp only [Act.put, zQ1, zQ2, zQ3]
   refine pUf 9 ?_
   refine pUf 12 ?_
   refine uNe 15 (fun K hK => ?_)
   go_simp
   refine (cA _).mono ?_
   rintro e Y4 ⟨rfl, hb4⟩
   have KY4 : Hid (Blk Y4 w.heap.size #[.int .i64 (kn : Int), .string key, .int .i64 (fn : Int), .int .i64 (tn : Int), .string d] 44) := KY3.out.on hb4 KY3.out.lt
   have DY4 : Hid (Below w.heap.size w Y4) := DY3.out.trans (hb4.mono DY3.out.size)
   clear hb4
   go_wp2_with fail
   refine hK.out _ _ (fun _ _ => ⟨KY4.out.cell 0 _ rfl, KY4.out.cell 1 _ rfl, KY4.out.cell 2 _ rfl, KY4.out.cell 3 _ rfl, KY4.out.cell 4 _ rfl⟩) ?_
   clear hK K
   try simp only [Act.put, zQ1, zQ2, zQ3]
   refine pUf 16 ?_
   refine uNe 19 (fun K hK => ?_)
   go_simp
   refine (cB _).mono ?_
   rintro e Y5 ⟨rfl, hb5⟩
   have KY5 : Hid (Blk Y5 w.heap.size #[.int .i64 (kn : Int), .string key, .int .i64 (fn : Int), .int .i64 (tn : Int), .string d] 44) := KY4.out.on hb5 KY4.out.lt
   have DY5 : Hid (Below w.heap.size w Y5) := DY4.out.trans (hb5.mono DY4.out.size)
   clear hb5
   go_wp2_with fail
   refine hK.out _ _ (fun _ _ => ⟨KY5.out.cell 0 _ rfl, KY5.out.cell 1 _ rfl, KY5.out.cell 2 _ rfl, KY5.out.cell 3 _ rfl, KY5.out.cell 4 _ rfl⟩) ?_
   clear hK K
   try simp only [Act.put, zQ1, zQ2, zQ3]
   refine pUf 20 ?_
   refine pUf 23 ?_
   refine pUf 24 ?_
   refine until_done (by kernel_rfl) ?_ _
   go_wp2_with fail
   go_ret
   exact ⟨by rw [HE.out]; rfl, DY5.out⟩
  ·go_simp
   refine (cN _).mono ?_
   rintro e Y6 ⟨rfl, hb6⟩
   have KY6 : Hid (Blk Y6 w.heap.size #[.int .i64 (kn : Int), .string key, .int .i64 (fn : Int), .int .i64 (tn : Int), .string d] 44) := KY1.out.on hb6 KY1.out.lt
   have DY6 : Hid (Below w.heap.size w Y6) := DY1.out.trans (hb6.mono DY1.out.size)
   have G6 : Hid (Blk Y6 gb1 #[.int .u8 (kn : Int)] 5) := G1.out.on hb6 G1.out.lt
   clear hb6
   go_wp2_with fail
   refine hK.out _ _ (fun _ _ => ⟨KY6.out.cell 0 _ rfl, KY6.out.cell 1 _ rfl, KY6.out.cell 2 _ rfl, KY6.out.cell 3 _ rfl, KY6.out.cell 4 _ rfl⟩) ?_
   clear hK K
   try simp only [Act.put, zQ1, zQ2, zQ3]
   refine until_two 4 15 (by rfl) (by rfl) (by kernel_rfl) (fun K hK => ?_) (fun K hK => ?_)
   ·have hcv := cC gb1 Y6 (G6.out.cell 0 _ rfl)
    go_simp
    clear hcv
    refine hK.out _ _ (fun _ h => h) ?_
    clear hK K
    try simp only [Act.put, zQ1, zQ2, zQ3]
    refine pUf 9 ?_
    refine pUf 12 ?_
    refine uNe 15 (fun K hK => ?_)
    go_simp
    refine (cA _).mono ?_
    rintro e Y8 ⟨rfl, hb8⟩
    have KY8 : Hid (Blk Y8 w.heap.size #[.int .i64 (kn : Int), .string key, .int .i64 (fn : Int), .int .i64 (tn : Int), .string d] 44) := KY6.out.on hb8 KY6.out.lt
    have DY8 : Hid (Below w.heap.size w Y8) := DY6.out.trans (hb8.mono DY6.out.size)
    clear hb8
    go_wp2_with fail
    refine hK.out _ _ (fun _ _ => ⟨KY8.out.cell 0 _ rfl, KY8.out.cell 1 _ rfl, KY8.out.cell 2 _ rfl, KY8.out.cell 3 _ rfl, KY8.out.cell 4 _ rfl⟩) ?_
    clear hK K
    try simp only [Act.put, zQ1, zQ2, zQ3]
    refine pUf 16 ?_
    refine uNe 19 (fun K hK => ?_)
    go_simp
    refine (cB _).mono ?_
    rintro e Y9 ⟨rfl, hb9⟩
    have KY9 : Hid (Blk Y9 w.heap.size #[.int .i64 (kn : Int), .string key, .int .i64 (fn : Int), .int .i64 (tn : Int), .string d] 44) := KY8.out.on hb9 KY8.out.lt
    have DY9 : Hid (Below w.heap.size w Y9) := DY8.out.trans (hb9.mono DY8.out.size)
    clear hb9
    go_wp2_with fail
    refine hK.out _ _ (fun _ _ => ⟨KY9.out.cell 0 _ rfl, KY9.out.cell 1 _ rfl, KY9.out.cell 2 _ rfl, KY9.out.cell 3 _ rfl, KY9.out.cell 4 _ rfl⟩) ?_
    clear hK K
    try simp only [Act.put, zQ1, zQ2, zQ3]
    refine pUf 20 ?_
    refine pUf 23 ?_
    refine pUf 24 ?_
    refine until_done (by kernel_rfl) ?_ _
    go_wp2_with fail
    go_ret
    exact ⟨by rw [HE.out]; rfl, DY9.out⟩
   ·go_simp
    refine (cA _).mono ?_
    rintro e Y10 ⟨rfl, hb10⟩
    have KY10 : Hid (Blk Y10 w.heap.size #[.int .i64 (kn : Int), .string key, .int .i64 (fn : Int), .int .i64 (tn : Int), .string d] 44) := KY6.out.on hb10 KY6.out.lt
    have DY10 : Hid (Below w.heap.size w Y10) := DY6.out.trans (hb10.mono DY6.out.size)
    have G10 : Hid (Blk Y10 gb1 #[.int .u8 (kn : Int)] 5) := G6.out.on hb10 G6.out.lt
    clear hb10
    go_wp2_with fail
    refine hK.out _ _ (fun _ _ => ⟨KY10.out.cell 0 _ rfl, KY10.out.cell 1 _ rfl, KY10.out.cell 2 _ rfl, KY10.out.cell 3 _ rfl, KY10.out.cell 4 _ rfl⟩) ?_
    clear hK K
    try simp only [Act.put, zQ1, zQ2, zQ3]
    refine until_two 4 19 (by rfl) (by rfl) (by kernel_rfl) (fun K hK => ?_) (fun K hK => ?_)
    ·have hcv := cC gb1 Y10 (G10.out.cell 0 _ rfl)
     go_simp
     clear hcv
     refine hK.out _ _ (fun _ h => h) ?_
     clear hK K
     try simp only [Act.put, zQ1, zQ2, zQ3]
     refine pUf 9 ?_
     refine pUf 12 ?_
     refine pUf 16 ?_
     refine uNe 19 (fun K hK => ?_)
     go_simp
     refine (cB _).mono ?_
     rintro e Y12 ⟨rfl, hb12⟩
     have KY12 : Hid (Blk Y12 w.heap.size #[.int .i64 (kn : Int), .string key, .int .i64 (fn : Int), .int .i64 (tn : Int), .string d] 44) := KY10.out.on hb12 KY10.out.lt
     have DY12 : Hid (Below w.heap.size w Y12) := DY10.out.trans (hb12.mono DY10.out.size)
     clear hb12
     go_wp2_with fail
     refine hK.out _ _ (fun _ _ => ⟨KY12.out.cell 0 _ rfl, KY12.out.cell 1 _ rfl, KY12.out.cell 2 _ rfl, KY12.out.cell 3 _ rfl, KY12.out.cell 4 _ rfl⟩) ?_
     clear hK K
     try simp only [Act.put, zQ1, zQ2, zQ3]
     refine pUf 20 ?_
     refine pUf 23 ?_
     refine pUf 24 ?_
     refine until_done (by kernel_rfl) ?_ _
     go_wp2_with fail
     go_ret
     exact ⟨by rw [HE.out]; rfl, DY12.out⟩
    ·go_simp
     refine (cB _).mono ?_
     rintro e Y13 ⟨rfl, hb13⟩
     have KY13 : Hid (Blk Y13 w.heap.size #[.int .i64 (kn : Int), .string key, .int .i64 (fn : Int), .int .i64 (tn : Int), .string d] 44) := KY10.out.on hb13 KY10.out.lt
     have DY13 : Hid (Below w.heap.size w Y13) := DY10.out.trans (hb13.mono DY10.out.size)
     have G13 : Hid (Blk Y13 gb1 #[.int .u8 (kn : Int)] 5) := G10.out.on hb13 G10.out.lt
     clear hb13
     go_wp2_with fail
     refine hK.out _ _ (fun _ _ => ⟨KY13.out.cell 0 _ rfl, KY13.out.cell 1 _ rfl, KY13.out.cell 2 _ rfl, KY13.out.cell 3 _ rfl, KY13.out.cell 4 _ rfl⟩) ?_
     clear hK K
     try simp only [Act.put, zQ1, zQ2, zQ3]
     refine uNe 4 (fun K hK => ?_)
     have hcv := cC gb1 Y13 (G13.out.cell 0 _ rfl)
     go_simp
     clear hcv
     refine hK.out _ _ (fun _ h => h) ?_
     clear hK K
     try simp only [Act.put, zQ1, zQ2, zQ3]
     refine pUf 9 ?_
     refine pUf 12 ?_
     refine pUf 16 ?_
     refine pUf 20 ?_
     refine pUf 23 ?_
     refine pUf 24 ?_
     refine until_done (by kernel_rfl) ?_ _
     go_wp2_with fail
     go_ret
     exact ⟨by rw [HE.out]; rfl, DY13.out⟩
 ·go_simp
  refine (cN _).mono ?_
  rintro e Y15 ⟨rfl, hb15⟩
  have KY15 : Hid (Blk Y15 w.heap.size #[.int .i64 (kn : Int), .string key, .int .i64 (fn : Int), .int .i64 (tn : Int), .string d] 44) := K0.out.on hb15 K0.out.lt
  have DY15 : Hid (Below w.heap.size w Y15) := D0.out.trans (hb15.mono D0.out.size)
  clear hb15
  go_wp2_with fail
  refine hK.out _ _ (fun _ _ => ⟨KY15.out.cell 0 _ rfl, KY15.out.cell 1 _ rfl, KY15.out.cell 2 _ rfl, KY15.out.cell 3 _ rfl, KY15.out.cell 4 _ rfl⟩) ?_
  clear hK K
  try simp only [Act.put, zQ1, zQ2, zQ3]
  refine until_two 3 15 (by rfl) (by rfl) (by kernel_rfl) (fun K hK => ?_) (fun K hK => ?_)
  ·go_simp
   have G16 : Hid (Blk (Y15.alloc (.cells #[.int .u8 (kn : Int)] 5)) Y15.heap.size #[.int .u8 (kn : Int)] 5) := Blk.new _ _ _
   have KY16 : Hid (Blk (Y15.alloc (.cells #[.int .u8 (kn : Int)] 5)) w.heap.size #[.int .i64 (kn : Int), .string key, .int .i64 (fn : Int), .int .i64 (tn : Int), .string d] 44) := KY15.out.alloc _
   have DY16 : Hid (Below w.heap.size w (Y15.alloc (.cells #[.int .u8 (kn : Int)] 5))) := DY15.out.alloc DY15.out.size _
   refine hK.out _ _ (fun _ _ => ⟨KY16.out.cell 0 _ rfl, KY16.out.cell 1 _ rfl, KY16.out.cell 2 _ rfl, KY16.out.cell 3 _ rfl, KY16.out.cell 4 _ rfl⟩) ?_
   clear hK K
   generalize hg16 : Y15.heap.size = gb16 at *
   generalize Y15.alloc (.cells #[.int .u8 (kn : Int)] 5) = Y16 at *
   try simp only [Act.put, zQ1, zQ2, zQ3]
   refine until_two 4 15 (by rfl) (by rfl) (by kernel_rfl) (fun K hK => ?_) (fun K hK => ?_)
   ·have hcv := cC gb16 Y16 (G16.out.cell 0 _ rfl)
    go_simp
    clear hcv
    refine hK.out _ _ (fun _ h => h) ?_
    clear hK K
    try simp only [Act.put, zQ1, zQ2, zQ3]
    refine pUf 9 ?_
    refine pUf 12 ?_
    refine uNe 15 (fun K hK => ?_)
    go_simp
    refine (cA _).mono ?_
    rintro e Y18 ⟨rfl, hb18⟩
    have KY18 : Hid (Blk Y18 w.heap.size #[.int .i64 (kn : Int), .string key, .int .i64 (fn : Int), .int .i64 (tn : Int), .string d] 44) := KY16.out.on hb18 KY16.out.lt
    have DY18 : Hid (Below w.heap.size w Y18) := DY16.out.trans (hb18.mono DY16.out.size)
    clear hb18
    go_wp2_with fail
    refine hK.out _ _ (fun _ _ => ⟨KY18.out.cell 0 _ rfl, KY18.out.cell 1 _ rfl, KY18.out.cell 2 _ rfl, KY18.out.cell 3 _ rfl, KY18.out.cell 4 _ rfl⟩) ?_
    clear hK K
    try simp only [Act.put, zQ1, zQ2, zQ3]
    refine pUf 16 ?_
    refine uNe 19 (fun K hK => ?_)
    go_simp
    refine (cB _).mono ?_
    rintro e Y19 ⟨rfl, hb19⟩
    have KY19 : Hid (Blk Y19 w.heap.size #[.int .i64 (kn : Int), .string key, .int .i64 (fn : Int), .int .i64 (tn : Int), .string d] 44) := KY18.out.on hb19 KY18.out.lt
    have DY19 : Hid (Below w.heap.size w Y19) := DY18.out.trans (hb19.mono DY18.out.size)
    clear hb19
    go_wp2_with fail
    refine hK.out _ _ (fun _ _ => ⟨KY19.out.cell 0 _ rfl, KY19.out.cell 1 _ rfl, KY19.out.cell 2 _ rfl, KY19.out.cell 3 _ rfl, KY19.out.cell 4 _ rfl⟩) ?_
    clear hK K
    try simp only [Act.put, zQ1, zQ2, zQ3]
    refine pUf 20 ?_
    refine pUf 23 ?_
    refine pUf 24 ?_
    refine until_done (by kernel_rfl) ?_ _
    go_wp2_with fail
    go_ret
    exact ⟨by rw [HE.out]; rfl, DY19.out⟩
   ·go_simp
    refine (cA _).mono ?_
    rintro e Y20 ⟨rfl, hb20⟩
    have KY20 : Hid (Blk Y20 w.heap.size #[.int .i64 (kn : Int), .string key, .int .i64 (fn : Int), .int .i64 (tn : Int), .string d] 44) := KY16.out.on hb20 KY16.out.lt
    have DY20 : Hid (Below w.heap.size w Y20) := DY16.out.trans (hb20.mono DY16.out.size)
    have G20 : Hid (Blk Y20 gb16 #[.int .u8 (kn : Int)] 5) := G16.out.on hb20 G16.out.lt
    clear hb20
    go_wp2_with fail
    refine hK.out _ _ (fun _ _ => ⟨KY20.out.cell 0 _ rfl, KY20.out.cell 1 _ rfl, KY20.out.cell 2 _ rfl, KY20.out.cell 3 _ rfl, KY20.out.cell 4 _ rfl⟩) ?_
    clear hK K
    try simp only [Act.put, zQ1, zQ2, zQ3]
    refine until_two 4 19 (by rfl) (by rfl) (by kernel_rfl) (fun K hK => ?_) (fun K hK => ?_)
    ·have hcv := cC gb16 Y20 (G20.out.cell 0 _ rfl)
     go_simp
     clear hcv
     refine hK.out _ _ (fun _ h => h) ?_
     clear hK K
     try simp only [Act.put, zQ1, zQ2, zQ3]
     refine pUf 9 ?_
     refine pUf 12 ?_
     refine pUf 16 ?_
     refine uNe 19 (fun K hK => ?_)
     go_simp
     refine (cB _).mono ?_
     rintro e Y22 ⟨rfl, hb22⟩
     have KY22 : Hid (Blk Y22 w.heap.size #[.int .i64 (kn : Int), .string key, .int .i64 (fn : Int), .int .i64 (tn : Int), .string d] 44) := KY20.out.on hb22 KY20.out.lt
     have DY22 : Hid (Below w.heap.size w Y22) := DY20.out.trans (hb22.mono DY20.out.size)
     clear hb22
     go_wp2_with fail
     refine hK.out _ _ (fun _ _ => ⟨KY22.out.cell 0 _ rfl, KY22.out.cell 1 _ rfl, KY22.out.cell 2 _ rfl, KY22.out.cell 3 _ rfl, KY22.out.cell 4 _ rfl⟩) ?_
     clear hK K
     try simp only [Act.put, zQ1, zQ2, zQ3]
     refine pUf 20 ?_
     refine pUf 23 ?_
     refine pUf 24 ?_
     refine until_done (by kernel_rfl) ?_ _
     go_wp2_with fail
     go_ret
     exact ⟨by rw [HE.out]; rfl, DY22.out⟩
    ·go_simp
     refine (cB _).mono ?_
     rintro e Y23 ⟨rfl, hb23⟩
     have KY23 : Hid (Blk Y23 w.heap.size #[.int .i64 (kn : Int), .string key, .int .i64 (fn : Int), .int .i64 (tn : Int), .string d] 44) := KY20.out.on hb23 KY20.out.lt
     have DY23 : Hid (Below w.heap.size w Y23) := DY20.out.trans (hb23.mono DY20.out.size)
     have G23 : Hid (Blk Y23 gb16 #[.int .u8 (kn : Int)] 5) := G20.out.on hb23 G20.out.lt
     clear hb23
     go_wp2_with fail
     refine hK.out _ _ (fun _ _ => ⟨KY23.out.cell 0 _ rfl, KY23.out.cell 1 _ rfl, KY23.out.cell 2 _ rfl, KY23.out.cell 3 _ rfl, KY23.out.cell 4 _ rfl⟩) ?_
     clear hK K
     try simp only [Act.put, zQ1, zQ2, zQ3]
     refine uNe 4 (fun K hK => ?_)
     have hcv := cC gb16 Y23 (G23.out.cell 0 _ rfl)
     go_simp
     clear hcv
     refine hK.out _ _ (fun _ h => h) ?_
     clear hK K
     try simp only [Act.put, zQ1, zQ2, zQ3]
     refine pUf 9 ?_
     refine pUf 12 ?_
     refine pUf 16 ?_
     refine pUf 20 ?_
     refine pUf 23 ?_
     refine pUf 24 ?_
     refine until_done (by kernel_rfl) ?_ _
     go_wp2_with fail
     go_ret
     exact ⟨by rw [HE.out]; rfl, DY23.out⟩
  ·go_simp
   refine (cA _).mono ?_
   rintro e Y25 ⟨rfl, hb25⟩
   have KY25 : Hid (Blk Y25 w.heap.size #[.int .i64 (kn : Int), .string key, .int .i64 (fn : Int), .int .i64 (tn : Int), .string d] 44) := KY15.out.on hb25 KY15.out.lt
   have DY25 : Hid (Below w.heap.size w Y25) := DY15.out.trans (hb25.mono DY15.out.size)
   clear hb25
   go_wp2_with fail
   refine hK.out _ _ (fun _ _ => ⟨KY25.out.cell 0 _ rfl, KY25.out.cell 1 _ rfl, KY25.out.cell 2 _ rfl, KY25.out.cell 3 _ rfl, KY25.out.cell 4 _ rfl⟩) ?_
   clear hK K
   try simp only [Act.put, zQ1, zQ2, zQ3]
   refine until_two 3 19 (by rfl) (by rfl) (by kernel_rfl) (fun K hK => ?_) (fun K hK => ?_)
   ·go_simp
    have G26 : Hid (Blk (Y25.alloc (.cells #[.int .u8 (kn : Int)] 5)) Y25.heap.size #[.int .u8 (kn : Int)] 5) := Blk.new _ _ _
    have KY26 : Hid (Blk (Y25.alloc (.cells #[.int .u8 (kn : Int)] 5)) w.heap.size #[.int .i64 (kn : Int), .string key, .int .i64 (fn : Int), .int .i64 (tn : Int), .string d] 44) := KY25.out.alloc _
    have DY26 : Hid (Below w.heap.size w (Y25.alloc (.cells #[.int .u8 (kn : Int)] 5))) := DY25.out.alloc DY25.out.size _
    refine hK.out _ _ (fun _ _ => ⟨KY26.out.cell 0 _ rfl, KY26.out.cell 1 _ rfl, KY26.out.cell 2 _ rfl, KY26.out.cell 3 _ rfl, KY26.out.cell 4 _ rfl⟩) ?_
    clear hK K
    generalize hg26 : Y25.heap.size = gb26 at *
    generalize Y25.alloc (.cells #[.int .u8 (kn : Int)] 5) = Y26 at *
    try simp only [Act.put, zQ1, zQ2, zQ3]
    refine until_two 4 19 (by rfl) (by rfl) (by kernel_rfl) (fun K hK => ?_) (fun K hK => ?_)
    ·have hcv := cC gb26 Y26 (G26.out.cell 0 _ rfl)
     go_simp
     clear hcv
     refine hK.out _ _ (fun _ h => h) ?_
     clear hK K
     try simp only [Act.put, zQ1, zQ2, zQ3]
     refine pUf 9 ?_
     refine pUf 12 ?_
     refine pUf 16 ?_
     refine uNe 19 (fun K hK => ?_)
     go_simp
     refine (cB _).mono ?_
     rintro e Y28 ⟨rfl, hb28⟩
     have KY28 : Hid (Blk Y28 w.heap.size #[.int .i64 (kn : Int), .string key, .int .i64 (fn : Int), .int .i64 (tn : Int), .string d] 44) := KY26.out.on hb28 KY26.out.lt
     have DY28 : Hid (Below w.heap.size w Y28) := DY26.out.trans (hb28.mono DY26.out.size)
     clear hb28
     go_wp2_with fail
     refine hK.out _ _ (fun _ _ => ⟨KY28.out.cell 0 _ rfl, KY28.out.cell 1 _ rfl, KY28.out.cell 2 _ rfl, KY28.out.cell 3 _ rfl, KY28.out.cell 4 _ rfl⟩) ?_
     clear hK K
     try simp only [Act.put, zQ1, zQ2, zQ3]
     refine pUf 20 ?_
     refine pUf 23 ?_
     refine pUf 24 ?_
     refine until_done (by kernel_rfl) ?_ _
     go_wp2_with fail
     go_ret
     exact ⟨by rw [HE.out]; rfl, DY28.out⟩
    ·go_simp
     refine (cB _).mono ?_
     rintro e Y29 ⟨rfl, hb29⟩
     have KY29 : Hid (Blk Y29 w.heap.size #[.int .i64 (kn : Int), .string key, .int .i64 (fn : Int), .int .i64 (tn : Int), .string d] 44) := KY26.out.on hb29 KY26.out.lt
     have DY29 : Hid (Below w.heap.size w Y29) := DY26.out.trans (hb29.mono DY26.out.size)
     have G29 : Hid (Blk Y29 gb26 #[.int .u8 (kn : Int)] 5) := G26.out.on hb29 G26.out.lt
     clear hb29
     go_wp2_with fail
     refine hK.out _ _ (fun _ _ => ⟨KY29.out.cell 0 _ rfl, KY29.out.cell 1 _ rfl, KY29.out.cell 2 _ rfl, KY29.out.cell 3 _ rfl, KY29.out.cell 4 _ rfl⟩) ?_
     clear hK K
     try simp only [Act.put, zQ1, zQ2, zQ3]
     refine uNe 4 (fun K hK => ?_)
     have hcv := cC gb26 Y29 (G29.out.cell 0 _ rfl)
     go_simp
     clear hcv
     refine hK.out _ _ (fun _ h => h) ?_
     clear hK K
     try simp only [Act.put, zQ1, zQ2, zQ3]
     refine pUf 9 ?_
     refine pUf 12 ?_
     refine pUf 16 ?_
     refine pUf 20 ?_
     refine pUf 23 ?_
     refine pUf 24 ?_
     refine until_done (by kernel_rfl) ?_ _
     go_wp2_with fail
     go_ret
     exact ⟨by rw [HE.out]; rfl, DY29.out⟩
   ·go_simp
    refine (cB _).mono ?_
    rintro e Y31 ⟨rfl, hb31⟩
    have KY31 : Hid (Blk Y31 w.heap.size #[.int .i64 (kn : Int), .string key, .int .i64 (fn : Int), .int .i64 (tn : Int), .string d] 44) := KY25.out.on hb31 KY25.out.lt
    have DY31 : Hid (Below w.heap.size w Y31) := DY25.out.trans (hb31.mono DY25.out.size)
    clear hb31
    go_wp2_with fail
    refine hK.out _ _ (fun _ _ => ⟨KY31.out.cell 0 _ rfl, KY31.out.cell 1 _ rfl, KY31.out.cell 2 _ rfl, KY31.out.cell 3 _ rfl, KY31.out.cell 4 _ rfl⟩) ?_
    clear hK K
    try simp only [Act.put, zQ1, zQ2, zQ3]
    refine uNe 3 (fun K hK => ?_)
    go_simp
    have G32 : Hid (Blk (Y31.alloc (.cells #[.int .u8 (kn : Int)] 5)) Y31.heap.size #[.int .u8 (kn : Int)] 5) := Blk.new _ _ _
    have KY32 : Hid (Blk (Y31.alloc (.cells #[.int .u8 (kn : Int)] 5)) w.heap.size #[.int .i64 (kn : Int), .string key, .int .i64 (fn : Int), .int .i64 (tn : Int), .string d] 44) := KY31.out.alloc _
    have DY32 : Hid (Below w.heap.size w (Y31.alloc (.cells #[.int .u8 (kn : Int)] 5))) := DY31.out.alloc DY31.out.size _
    refine hK.out _ _ (fun _ _ => ⟨KY32.out.cell 0 _ rfl, KY32.out.cell 1 _ rfl, KY32.out.cell 2 _ rfl, KY32.out.cell 3 _ rfl, KY32.out.cell 4 _ rfl⟩) ?_
    clear hK K
    generalize hg32 : Y31.heap.size = gb32 at *
    generalize Y31.alloc (.cells #[.int .u8 (kn : Int)] 5) = Y32 at *
    try simp only [Act.put, zQ1, zQ2, zQ3]
    refine uNe 4 (fun K hK => ?_)
    have hcv := cC gb32 Y32 (G32.out.cell 0 _ rfl)
    go_simp
    clear hcv
    refine hK.out _ _ (fun _ h => h) ?_
    clear hK K
    try simp only [Act.put, zQ1, zQ2, zQ3]
    refine pUf 9 ?_
    refine pUf 12 ?_
    refine pUf 16 ?_
    refine pUf 20 ?_
    refine pUf 23 ?_
    refine pUf 24 ?_
    refine until_done (by kernel_rfl) ?_ _
    go_wp2_with fail
    go_ret
    exact ⟨by rw [HE.out]; rfl, DY32.out⟩
end Go.Proofs.YtimfnbnffibgpaaGreatDoor
namespace Go.Proofs.YtimfnbnffibgpaaGreatDoor
open Go.ChangeShapes Go.WideShapes Go.ChangeAt Go.RowKit Go.PlainAid
set_option linter.unusedVariables false
set_option maxHeartbeats 1000000 in
theorem specVars (s : ByteArray) (a k0 : Nat) (w : World) (hs : s.size ≤ 1048576) (ha : a ≤ 2097152) (h2 : k0 ≤ 60) :
  Calls Tryz.prog 41 #[.string s, .int .i64 (a : Int), .int .i64 (k0 : Int)] w fun e w' => ((∃ l n u, RdF s a k0 l n ∧ e = .returned (.tuple #[u, .int .i64 (n : Int)]) ∧ Nums w' w.heap.size u l) ∨ ((∀ l n, ¬ RdF s a k0 l n) ∧ ∃ u, e = .returned (.tuple #[u, .int .i64 (-1)]))) ∧ Below w.heap.size w w' := by
 have q2 : (k0 : Int) ≤ 60 := by omega
 have HS : Hid (s.size ≤ 1048576) := hs
 have HA : Hid (a ≤ 2097152) := ha
 have q3 : (s.size : Int) ≤ 1048576 := by omega
 clear hs ha
 go_enter Tryz.func41, Tryz.ntmps41
 go_wp2_with fail
 go_loopw [1, 8, 9] (fun v1 v8 v9 wr => ∃ (k n : Nat) (l : List Int), k ≤ k0 ∧ v9 = .int .i64 (k : Int) ∧ v1 = .int .i64 (n : Int) ∧ Hid (RdF s a k l n) ∧ Nums wr w.heap.size v8 l ∧ Below w.heap.size w wr) (fun _ _ i _ => k0 - (intOf i).toNat)
 case atStart => exact ⟨0, a, [], by omega, rfl, rfl, ⟨rfl, rfl⟩, Nums.empty _ _ (Nat.le_refl _), (Below.refl _ _).alloc (Nat.le_refl _) _⟩
 case round =>
  obtain ⟨k, n, l, hk, rfl, rfl, HR, hN, hb⟩ := hrel
  have HN : Hid (Nums wr w.heap.size _ l) := hN
  obtain ⟨A, c, rfl, _, _⟩ := hN.shape
  have HB : Hid (Below w.heap.size w wr) := hb
  have hln := HR.out.length
  have HLN : Hid (l.length ≤ 2097152) := by unfold Hid; omega
  clear hN hb
  by_cases hlt : k < k0
  ·have q4 : (k : Int) < (k0 : Int) := by omega
   have hnb : (n : Int) ≤ 4194304 := by have := HR.out.le; have := HA.out; omega
   by_cases hns : n ≤ s.size
   ·have q5 : (n : Int) ≤ (s.size : Int) := by omega
    have q5' : decide ((s.size : Int) < (n : Int)) = false := decide_eq_false (by omega)
    have hsx : (lf s n).size ≤ 1048576 := by rw [lf_size]; have := HS.out; omega
    have c := fun wx => spec_readVar (lf s n) wx hsx
    have HX : Hid (∀ m, FindV (lf s n) m → m ≤ s.size - n) := fun m hm => by have := hm.2.2.1; rw [lf_size] at this; omega
    have HSX0 : Hid (s.extract n s.size = lf s n) := rfl
    unfold lf at c
    clear hsx hln
    go_wp2_with fail
    refine (c _).mono ?_
    rw [HSX0.out]
    clear c HSX0
    generalize hsx' : lf s n = sx at *
    have HSX : Hid (lf s n = sx) := hsx'
    clear hsx'
    rintro e w1 ⟨hR, hb1⟩
    have HB1 : Hid (Below w.heap.size w w1) := HB.out.trans (hb1.mono HB.out.size)
    have HN1 : Hid (Nums w1 w.heap.size (.slice A l.length _) l) := HN.out.on hb1
    clear hb1
    rcases hR with ⟨m, hm, rfl⟩ | ⟨hno, rfl⟩
    ·have hmx := HX.out m hm
     have hm1 := hm.1
     have hm7 := hm.2.1
     have q6 : (m : Int) ≤ 7 := by omega
     have q7 : (1 : Int) ≤ (m : Int) := by omega
     have q8 : ¬ (m : Int) = 0 := by omega
     have q9 : ¬ m = 0 := by omega
     have HM : Hid (FindV sx m) := hm
     have HZ : Hid (w.heap.size ≤ w1.heap.size) := HB1.out.size
     generalize hz : (vvS sx 0 m : Int) = z at *
     have HR2 : Hid (RdF s a (k + 1) (l ++ [z]) (n + m)) := by
      refine ⟨l, n, m, HR.out, ?_, ?_, rfl⟩
      ·rw [HSX.out]; exact HM.out
      ·rw [HSX.out, hz]
     clear hz hm
     go_wp2_with (at_builtin; refine wpList_append_num rfl (.tmp 33) (.tmp 35) 71 rfl Tryz.underlying71 Tryz.infoInt w.heap.size _ l rfl HN1.out z rfl HLN.out HZ.out ?_; intro v' w2 hN2 hb2 hk2)
     go_roundw
     case rel => exact ⟨k + 1, n + m, l ++ [z], by omega, by go_num, by go_num, HR2, hN2, HB1.out.trans hb2⟩
     case measure => simp [intOf]; omega
    ·have HNO : Hid (∀ l n, ¬ RdF s a k0 l n) := HR.out.no hlt (by rw [HSX.out]; exact hno)
     clear hno
     go_wp2_with fail
     go_ret2
     exact ⟨.inr ⟨HNO.out, _, rfl⟩, HB1.out⟩
   ·have q5 : decide ((s.size : Int) < (n : Int)) = true := decide_eq_true (by omega)
    have HNO : Hid (∀ l n, ¬ RdF s a k0 l n) := HR.out.no hlt (fun m hm => by have h3 := hm.2.2.1; have h1 := hm.1; rw [lf_size] at h3; omega)
    clear hln
    go_wp2_with fail
    go_ret2
    exact ⟨.inr ⟨HNO.out, _, rfl⟩, HB.out⟩
  ·obtain rfl : k = k0 := by omega
   go_wp2_with fail
   go_ret2
   exact ⟨.inl ⟨l, n, _, HR.out, rfl, HN.out⟩, HB.out⟩
end Go.Proofs.YtimfnbnffibgpaaGreatDoor
