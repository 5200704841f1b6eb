/- FlTextS FlReadS EgS4 EgS5 -/
import Derived.Test.YthhamlahdjokkaaGreatDoorQe12
import Derived.Test.YthhamlahdjokkaaGreatDoorQe11
open List (setIfInBounds_toArray set_cons_zero set_cons_succ)
namespace Go.Proofs.YthhamlahdjokkaaGreatDoor
open Go.ChangeShapes Go.WideShapes Go.ChangeAt Go.RowKit Go.PlainAid
set_option linter.unusedVariables false
theorem idx_succ (l : List Ser) (k : Nat) : txt (idxB l k) ++ txt (vF 6 (sAt l k).key.size) ++ (sAt l k).key ++ txt (vF 6 (atB l k)) ++ txt (vF 6 (showB (sAt l k).pts).size) ++ txt (vF 6 (fT l k)) ++ txt (vF 6 (lT l k)) = txt (idxB l (k + 1)) := by
 conv => lhs; arg 1; arg 1; arg 1; arg 1; arg 2; rw [← txt_bl (sAt l k).key]
 simp only [txt_cat]
 congr 1
 unfold idxB
 rw [cat_succ]
 unfold spB blkB
 rw [bl_length]
 simp only [List.append_assoc]
theorem idx_size {l : List Ser} (h : SOk l) (k : Nat) (hk : k ≤ l.length) : (txt (idxB l k)).size ≤ 215 := by
 have h2 := idxB_length h k hk
 have := h.1
 rw [txt_size]
 omega
set_option maxHeartbeats 4000000 in
theorem specFileText (l : List Ser) (v : Value) (w : World) (B : Nat) (hv : SerV w B v l) (hn : SShort l) (hf : ∀ x ∈ l,x.key.size ≤ maxLen) (hB : B ≤ w.heap.size) : Calls Tryz.prog 37 #[v] w fun e w' => e = .returned (.string (fileT l)) ∧ Below w.heap.size w w' := by
 have c1 := specSeriesOk l v w B hv hn hf hB
 obtain ⟨A,cap,rfl,hl⟩ := hv.look
 have HV0 : Hid (SerV w B (.slice A l.length cap) l) := hv
 have HL : Hid (∀ j,j < l.length → ∃ g off u,A = some ⟨g,off,none⟩ ∧ g < B ∧ w.cell? ⟨g,off + j * 2,none⟩ = some (.string (sAt l j).key) ∧ w.cell? ⟨g,off + j * 2 + 1,none⟩ = some u ∧ Lies w B 2 u (ptR (sAt l j).pts)) := hl
 have HB : Hid (B ≤ w.heap.size) := hB
 have q0 : (l.length : Int) ≤ 1048576 := by have := hn.1; omega
 clear hl hn hv hB hf
 by_cases hok : ¬ SOk l
 ·have HE : Hid (fileT l = ⟨#[]⟩) := fileT_no (fun hh => hok hh.2)
  rw [decide_eq_false hok] at c1
  clear hok
  go_enter Tryz.func37,Tryz.ntmps37
  go_wp2_with fail
  refine c1.mono ?_
  rintro e w1 ⟨rfl,hL⟩
  have hb1 := hL.below
  clear hL
  go_wp2_with fail
  go_ret
  exact ⟨by rw [HE.out]; rfl,hb1⟩
 have HK : Hid (SOk l) := (Decidable.not_not (p := SOk l)).1 hok
 rw [decide_eq_true HK.out] at c1
 by_cases h0 : l.length = 0
 ·have HE : Hid (fileT l = ⟨#[]⟩) := fileT_no (fun hh => by omega)
  rw [h0] at c1 ⊢
  clear hok h0 q0 HV0
  go_enter Tryz.func37,Tryz.ntmps37
  go_wp2_with fail
  refine c1.mono ?_
  rintro e w1 ⟨rfl,hL⟩
  have hb1 := hL.below
  clear hL
  go_wp2_with fail
  go_ret
  exact ⟨by rw [HE.out]; rfl,hb1⟩
 have d0 : ((l.length : Int) == 0) = false := by rw [beq_eq_false_iff_ne]; omega
 have d1 : decide ((l.length : Int) = 0) = false := decide_eq_false (by omega)
 have HE : Hid (fileT l = txt (fileB l)) := fileT_yes ⟨by omega,HK.out⟩
 have q1 : (l.length : Int) ≤ 5 := by have := HK.out.1; omega
 clear hok h0
 generalize hN : l.length = n at *
 have HN : Hid (l.length = n) := hN
 clear hN
 go_enter Tryz.func37,Tryz.ntmps37
 go_wp2_with fail
 refine c1.mono ?_
 rintro e w1 ⟨rfl,hL⟩
 have B1 : Hid (Below w.heap.size w w1) := hL.below
 clear hL c1
 go_wp2_with fail
 go_loopw [3,4,5] (fun v3 v4 v5 wr => ∃ k : Nat,k ≤ n ∧ v5 = .int .i64 (k : Int) ∧ v3 = .string (txt (upB l k)) ∧ v4 = .string (txt (idxB l k)) ∧ Below w.heap.size w wr) (fun _ _ i _ => n - (intOf i).toNat)
 case atStart => exact ⟨0,by omega,rfl,rfl,rfl,B1.out⟩
 case round =>
  obtain ⟨k,hk,rfl,rfl,rfl,hb⟩ := hrel
  have HB1 := hQz hb
  clear hb
  by_cases hlt : k < n
  ·have q4 : (k : Int) < (n : Int) := by omega
   obtain ⟨gs,off,us,rfl,hg,f1,f2,hu⟩ := HL.out k hlt
   have hgw : gs < w.heap.size := Nat.lt_of_lt_of_le hg HB.out
   obtain ⟨A',cap',rfl,hpl⟩ := pt_look hu
   have hsk := HK.out.2 k (by have := HN.out; omega)
   obtain ⟨gp,offp,rfl,hgp,hf0,_⟩ := hpl 0 (by have := hsk.2.1; omega)
   obtain ⟨gp',offp',e',_,hf1,_⟩ := hpl ((sAt l k).pts.length - 1) (by have := hsk.2.1; omega)
   cases e'
   rw [show offp + 0 * 2 = offp by omega] at hf0
   have HGW : Hid (gs < w.heap.size ∧ gp < w.heap.size) := ⟨hgw,Nat.lt_of_lt_of_le hgp HB.out⟩
   have htm := HK.out.times k (by have := HN.out; omega)
   have e0' : tAt (sAt l k).pts 0 = (fT l k : Int) := by unfold fT; omega
   have e1' : tAt (sAt l k).pts ((sAt l k).pts.length - 1) = (lT l k : Int) := by unfold lT; omega
   change w.cell? ⟨gp,offp,none⟩ = some (.int .i64 (tAt (sAt l k).pts 0)) at hf0
   change w.cell? ⟨gp,offp + ((sAt l k).pts.length - 1) * 2,none⟩ = some (.int .i64 (tAt (sAt l k).pts ((sAt l k).pts.length - 1))) at hf1
   rw [e0'] at hf0
   rw [e1'] at hf1
   have HU := hQz hu
   have g2 := (HB1.out.cell (p := ⟨gs,off + k * 2 + 1,none⟩) hgw).trans f2
   obtain ⟨n1,n2,n3,n4,n5⟩ := nums_le HK.out k (by have := HN.out; omega)
   have hz : ∀ n,(txt (vF 6 n)).size ≤ 7 := fun n => by rw [txt_size]; exact vF_length 6 n
   have z1 := hz (sAt l k).key.size
   have z2 := hz (atB l k)
   have z3 := hz (showB (sAt l k).pts).size
   have z4 := hz (fT l k)
   have z5 := hz (lT l k)
   have z6 := idx_size HK.out k (by have := HN.out; omega)
   have z7 := (HK.out.key k (by have := HN.out; omega)).2
   have z8 := showB_size (sAt l k).pts
   have z9 := atB_le HK.out k (by have := HN.out; omega)
   have s1 := upB_size l k
   have HI : Hid (txt (idxB l k) ++ txt (vF 6 (sAt l k).key.size) ++ (sAt l k).key ++ txt (vF 6 (atB l k)) ++ txt (vF 6 (showB (sAt l k).pts).size) ++ txt (vF 6 (fT l k)) ++ txt (vF 6 (lT l k)) = txt (idxB l (k + 1))) := idx_succ l k
   have HSu : Hid (txt (upB l k) ++ showB (sAt l k).pts = txt (upB l (k + 1))) := upB_succ l k
   have c1 := fun wx => spec_var (sAt l k).key.size wx n1
   have c2 := fun wx => spec_var (atB l k) wx n2
   have c3 := fun wx => spec_var (showB (sAt l k).pts).size wx (by omega)
   have c4 := fun wx => spec_var (fT l k) wx n4
   have c5 := fun wx => spec_var (lT l k) wx n5
   have HPn : Hid ((sAt l k).pts.length ≤ 60 ∧ 1 ≤ (sAt l k).pts.length) := ⟨hsk.2.2.1,hsk.2.1⟩
   clear hu hpl hsk htm e0' e1' hz n1 n2 n3 n4 n5 hgw hg hgp f2
   generalize fT l k = t0 at *
   generalize lT l k = t1 at *
   generalize hx : sAt l k = x at *
   clear hx
   obtain ⟨xk,xp⟩ := x
   simp only at *
   have SW : Hid (w.cell? ⟨gs,off + k * 2,none⟩ = some (.string xk) ∧ w.cell? ⟨gp,offp,none⟩ = some (.int .i64 (t0 : Int)) ∧ w.cell? ⟨gp,offp + (xp.length - 1) * 2,none⟩ = some (.int .i64 (t1 : Int))) := ⟨f1,hf0,hf1⟩
   clear f1 hf0 hf1
   have cs := specShowBlock xp (.slice (some ⟨gp,offp,none⟩) xp.length cap') wr B (HU.out.on (HB1.out.mono HB.out)) (by have := HPn.out; omega) (Nat.le_trans HB.out HB1.out.size)
   generalize hpn : xp.length = pn at *
   clear hpn
   generalize hsb : showB xp = sb at *
   generalize hw0 : txt (idxB l k) = ix at *
   generalize hw1 : txt (vF 6 xk.size) = y1 at *
   generalize hw3 : txt (vF 6 sb.size) = y3 at *
   generalize hw4 : txt (vF 6 t0) = y4 at *
   generalize hw5 : txt (vF 6 t1) = y5 at *
   generalize hw6 : txt (upB l k) = up at *
   rw [← s1] at c2 z2 HI z9
   clear s1
   generalize hw2 : txt (vF 6 up.size) = y2 at *
   clear hw0 hw1 hw2 hw3 hw4 hw5 hw6 hsb
   go_wp2_with fail
   refine cs.mono ?_
   rintro e Y0 ⟨rfl,hb0⟩
   have D0 : Hid (Below w.heap.size w Y0.drew) := (HB1.out.trans (hb0.mono HB1.out.size)).drew
   clear hb0 g2 cs
   have S0 : Hid (Y0.drew.cell? ⟨gs,off + k * 2,none⟩ = some (.string xk) ∧ Y0.drew.cell? ⟨gp,offp,none⟩ = some (.int .i64 (t0 : Int)) ∧ Y0.drew.cell? ⟨gp,offp + (pn - 1) * 2,none⟩ = some (.int .i64 (t1 : Int))) := ⟨(D0.out.cell (p := ⟨_,_,none⟩) HGW.out.1).trans SW.out.1,(D0.out.cell (p := ⟨_,_,none⟩) HGW.out.2).trans SW.out.2.1,(D0.out.cell (p := ⟨_,_,none⟩) HGW.out.2).trans SW.out.2.2⟩
   have q3 : (1 : Int) ≤ (pn : Int) := by have := HPn.out; omega
   have q7 : (pn : Int) ≤ 60 := by have := HPn.out; omega
   have e3 : ((pn : Int) - 1).toNat = pn - 1 := by omega
   have e9 : IntKind.i64.wrap ((pn : Int) - 1) = (pn : Int) - 1 := by rw [IntKind.wrap_i64]; omega
   have e5 : (pn : Int) - 1 < (pn : Int) := by omega
   have q6 : (0 : Int) < (pn : Int) := by omega
   have q8 : 0 < pn := by omega
   have a1 : ¬ 9223372036854775807 < ix.size + y1.size := by omega
   have a2 : ¬ 9223372036854775807 < ix.size + y1.size + xk.size := by omega
   have a3 : ¬ 9223372036854775807 < ix.size + y1.size + xk.size + y2.size := by omega
   have a4 : ¬ 9223372036854775807 < ix.size + y1.size + xk.size + y2.size + y3.size := by omega
   have a5 : ¬ 9223372036854775807 < ix.size + y1.size + xk.size + y2.size + y3.size + y4.size := by omega
   have a6 : ¬ 9223372036854775807 < ix.size + y1.size + xk.size + y2.size + y3.size + y4.size + y5.size := by omega
   have a7 : (up.size : Int) + (sb.size : Int) ≤ 9223372036854775807 := by omega
   have a8 : ¬ 9223372036854775807 < up.size + sb.size := by omega
   go_wp2_with fail
   refine wp_region_until (fun w' => w'.cell? ⟨gs,off + k * 2,none⟩ = some (.string xk) ∧ w'.cell? ⟨gp,offp,none⟩ = some (.int .i64 (t0 : Int)) ∧ w'.cell? ⟨gp,offp + (pn - 1) * 2,none⟩ = some (.int .i64 (t1 : Int))) (fun _ => false) 39 (by rfl) (by kernel_rfl) ?_
   refine tKf 0 S0.out ?_
   refine tKf 1 S0.out ?_
   refine tKf 2 S0.out ?_
   refine tKf 3 S0.out ?_
   refine tKf 4 S0.out ?_
   refine tKf 5 S0.out ?_
   refine tKf 6 S0.out ?_
   refine tKf 9 S0.out ?_
   refine tKf 10 S0.out ?_
   refine tKf 11 S0.out ?_
   refine tKf 12 S0.out ?_
   refine tKf 13 S0.out ?_
   refine tKf 15 S0.out ?_
   refine tKf 16 S0.out ?_
   refine tKf 19 S0.out ?_
   refine tKf 20 S0.out ?_
   refine tKf 23 S0.out ?_
   refine tKf 24 S0.out ?_
   refine tKf 25 S0.out ?_
   refine tKf 26 S0.out ?_
   refine tKf 29 S0.out ?_
   refine tKf 30 S0.out ?_
   refine tKf 31 S0.out ?_
   refine tKe 32 (v := .int .i64 ((pn : Int) - 1)) S0.out ?_ ?_
   ·intro w hSw
    try dsimp only at hSw
    go_simp
    try rw [e9]
   try simp only [Act.put,zQ1,zQ2,zQ3]
   refine tKf 33 S0.out ?_
   refine tKf 34 S0.out ?_
   refine tKf 35 S0.out ?_
   refine uNe 7 (fun K hK => ?_)
   go_simp
   refine (c1 _).mono ?_
   rintro e Y1 ⟨rfl,hb1⟩
   have D1 := hQz (D0.out.trans (hb1.mono D0.out.size))
   have S1 : Hid (Y1.cell? ⟨gs,off + k * 2,none⟩ = some (.string xk) ∧ Y1.cell? ⟨gp,offp,none⟩ = some (.int .i64 (t0 : Int)) ∧ Y1.cell? ⟨gp,offp + (pn - 1) * 2,none⟩ = some (.int .i64 (t1 : Int))) := ⟨(D1.out.cell (p := ⟨_,_,none⟩) HGW.out.1).trans SW.out.1,(D1.out.cell (p := ⟨_,_,none⟩) HGW.out.2).trans SW.out.2.1,(D1.out.cell (p := ⟨_,_,none⟩) HGW.out.2).trans SW.out.2.2⟩
   clear hb1
   go_wp2_with fail
   refine hK.out _ _ (fun _ _ => S1.out) ?_
   clear hK K
   try simp only [Act.put,zQ1,zQ2,zQ3]
   refine pUf 8 ?_
   refine pUf 14 ?_
   refine uNe 17 (fun K hK => ?_)
   go_simp
   refine (c2 _).mono ?_
   rintro e Y2 ⟨rfl,hb2⟩
   have D2 := hQz (D1.out.trans (hb2.mono D1.out.size))
   have S2 : Hid (Y2.cell? ⟨gs,off + k * 2,none⟩ = some (.string xk) ∧ Y2.cell? ⟨gp,offp,none⟩ = some (.int .i64 (t0 : Int)) ∧ Y2.cell? ⟨gp,offp + (pn - 1) * 2,none⟩ = some (.int .i64 (t1 : Int))) := ⟨(D2.out.cell (p := ⟨_,_,none⟩) HGW.out.1).trans SW.out.1,(D2.out.cell (p := ⟨_,_,none⟩) HGW.out.2).trans SW.out.2.1,(D2.out.cell (p := ⟨_,_,none⟩) HGW.out.2).trans SW.out.2.2⟩
   clear hb2
   go_wp2_with fail
   refine hK.out _ _ (fun _ _ => S2.out) ?_
   clear hK K
   try simp only [Act.put,zQ1,zQ2,zQ3]
   refine pUf 18 ?_
   refine uNe 21 (fun K hK => ?_)
   go_simp
   refine (c3 _).mono ?_
   rintro e Y3 ⟨rfl,hb3⟩
   have D3 := hQz (D2.out.trans (hb3.mono D2.out.size))
   have S3 : Hid (Y3.cell? ⟨gs,off + k * 2,none⟩ = some (.string xk) ∧ Y3.cell? ⟨gp,offp,none⟩ = some (.int .i64 (t0 : Int)) ∧ Y3.cell? ⟨gp,offp + (pn - 1) * 2,none⟩ = some (.int .i64 (t1 : Int))) := ⟨(D3.out.cell (p := ⟨_,_,none⟩) HGW.out.1).trans SW.out.1,(D3.out.cell (p := ⟨_,_,none⟩) HGW.out.2).trans SW.out.2.1,(D3.out.cell (p := ⟨_,_,none⟩) HGW.out.2).trans SW.out.2.2⟩
   clear hb3
   go_wp2_with fail
   refine hK.out _ _ (fun _ _ => S3.out) ?_
   clear hK K
   try simp only [Act.put,zQ1,zQ2,zQ3]
   refine pUf 22 ?_
   refine uNe 27 (fun K hK => ?_)
   go_simp
   refine (c4 _).mono ?_
   rintro e Y4 ⟨rfl,hb4⟩
   have D4 := hQz (D3.out.trans (hb4.mono D3.out.size))
   have S4 : Hid (Y4.cell? ⟨gs,off + k * 2,none⟩ = some (.string xk) ∧ Y4.cell? ⟨gp,offp,none⟩ = some (.int .i64 (t0 : Int)) ∧ Y4.cell? ⟨gp,offp + (pn - 1) * 2,none⟩ = some (.int .i64 (t1 : Int))) := ⟨(D4.out.cell (p := ⟨_,_,none⟩) HGW.out.1).trans SW.out.1,(D4.out.cell (p := ⟨_,_,none⟩) HGW.out.2).trans SW.out.2.1,(D4.out.cell (p := ⟨_,_,none⟩) HGW.out.2).trans SW.out.2.2⟩
   clear hb4
   go_wp2_with fail
   refine hK.out _ _ (fun _ _ => S4.out) ?_
   clear hK K
   try simp only [Act.put,zQ1,zQ2,zQ3]
   refine pUf 28 ?_
   refine uNe 36 (fun K hK => ?_)
   go_simp
   refine (c5 _).mono ?_
   rintro e Y5 ⟨rfl,hb5⟩
   have D5 := hQz (D4.out.trans (hb5.mono D4.out.size))
   have S5 : Hid (Y5.cell? ⟨gs,off + k * 2,none⟩ = some (.string xk) ∧ Y5.cell? ⟨gp,offp,none⟩ = some (.int .i64 (t0 : Int)) ∧ Y5.cell? ⟨gp,offp + (pn - 1) * 2,none⟩ = some (.int .i64 (t1 : Int))) := ⟨(D5.out.cell (p := ⟨_,_,none⟩) HGW.out.1).trans SW.out.1,(D5.out.cell (p := ⟨_,_,none⟩) HGW.out.2).trans SW.out.2.1,(D5.out.cell (p := ⟨_,_,none⟩) HGW.out.2).trans SW.out.2.2⟩
   clear hb5
   go_wp2_with fail
   refine hK.out _ _ (fun _ _ => S5.out) ?_
   clear hK K
   try simp only [Act.put,zQ1,zQ2,zQ3]
   refine pUf 37 ?_
   refine pUf 38 ?_
   refine until_done (by kernel_rfl) ?_ _
   go_wp2_with fail
   go_roundw
   case rel => exact ⟨k + 1,by omega,by go_num,by rw [HSu.out],by rw [HI.out],D5.out⟩
   case measure => simp [intOf]; omega
  ·obtain rfl : k = n := by omega
   have HF4 : Hid (txt (upB l k) ++ txt (idxB l k) ++ fixed (txt (upB l k)).size 4 = txt (bodyF l)) := by
    have := body_four HK.out
    rw [HN.out] at this
    unfold Hid
    rw [← this,upB_size,txt_cat]
    unfold upB upI
    rw [List.append_assoc,HN.out]
   have HF8 : Hid (txt (bodyF l) ++ fixed (crc (txt (bodyF l))) 4 = txt (fileB l)) := file_four l
   have s1 := upB_size l k
   have s2 := idx_size HK.out k (by have := HN.out; omega)
   have s3 := atB_le HK.out k (by have := HN.out; omega)
   have s4 := bodyF_size HK.out
   have HC32 := crc_lt (txt (bodyF l))
   have z4 := four_small (txt (upB l k)).size
   have z8 := four_small (crc (txt (bodyF l)))
   have f4 := fun wx => spec_fixed (txt (upB l k)).size 4 wx (by omega) (by omega) (by omega)
   have f8 := fun wx => spec_fixed (crc (txt (bodyF l))) 4 wx (by omega) (by omega) (by omega)
   have cc := fun wx => spec_crc (txt (bodyF l)) wx (by omega)
   have hup : (txt (upB l k)).size ≤ 4504 := by rw [s1]; exact s3
   clear s1
   generalize hw6 : txt (upB l k) = up at *
   generalize hw0 : txt (idxB l k) = ix at *
   generalize hw1 : fixed up.size 4 = y1 at *
   generalize hb : txt (bodyF l) = bo at *
   generalize hw2 : fixed (crc bo) 4 = y2 at *
   generalize crc bo = cb at *
   clear hw6 hw0 hw1 hw2 hb
   have a1 : (up.size : Int) + (ix.size : Int) ≤ 9223372036854775807 := by omega
   have a2 : (up.size : Int) + (ix.size : Int) + (y1.size : Int) ≤ 9223372036854775807 := by omega
   have a3 : (bo.size : Int) + (y2.size : Int) ≤ 9223372036854775807 := by omega
   have HF4' := HF4.out
   go_wp2_with fail
   refine (f4 _).mono ?_
   rintro e Y1 ⟨rfl,hb1⟩
   have BY1 := hQz (HB1.out.trans (hb1.mono HB1.out.size))
   clear hb1
   go_wp2_with fail
   try rw [HF4']
   refine (cc _).mono ?_
   rintro e w' ⟨rfl,rfl⟩
   go_wp2_with fail
   refine (f8 _).mono ?_
   rintro e Y3 ⟨rfl,hb3⟩
   have BY3 := hQz (BY1.out.trans (hb3.mono BY1.out.size))
   clear hb3
   go_wp2_with fail
   go_ret
   refine ⟨?_,BY3.out⟩
   rw [HE.out,← HF8.out]
   first | rfl | (rw [← HF4.out]; rfl)
theorem LKey.short {s : ByteArray} {L : List (Ser × Value)} (h : LKey s L) : SShort (L.map Prod.fst) := by
 refine ⟨by rw [List.length_map]; have := h.1; omega,fun x hx => ?_⟩
 obtain ⟨q,hq,rfl⟩ := List.mem_map.1 hx
 have := (h.2 q hq).1
 omega
theorem LKey.keys {s : ByteArray} {L : List (Ser × Value)} (h : LKey s L) (hs : s.size ≤ 1048576) : ∀ x ∈ L.map Prod.fst,x.key.size ≤ maxLen := by
 intro x hx
 obtain ⟨q,hq,rfl⟩ := List.mem_map.1 hx
 have := (h.2 q hq).2
 unfold maxLen
 omega
theorem rfs_no {s : ByteArray} {l : List Ser} (h : ∀ m,GoodF s m → l = m) (hne : fileT l ≠ s) : RfAns s [] false := .inr ⟨rfl,rfl,fun m hm => hne (by rw [h m hm]; exact hm.2.2)⟩
theorem rfs_yes {s : ByteArray} {l : List Ser} (h12 : 12 ≤ s.size) (he : fileT l = s) : RfAns s l true := by
 refine .inl ⟨rfl,GoodF.of ?_ (by omega) he⟩
 rcases Nat.eq_zero_or_pos l.length with h | h
 ·exfalso
  rw [fileT,if_neg (fun hh => by omega)] at he
  rw [← he,txt_size] at h12
  simp at h12
 ·exact h
set_option maxHeartbeats 2000000 in
theorem specReadFile (s : ByteArray) (w : World) (hs : s.size ≤ 1048576) : Calls Tryz.prog 88 #[.string s] w fun e w' => (∃ u L ok,RfAns s (L.map Prod.fst) ok ∧ e = .returned (.tuple #[u,.bool ok]) ∧ SerO w' w.heap.size u L) ∧ Below w.heap.size w w' := by
 have HS : Hid (s.size ≤ 1048576) := hs
 have c1 := specIndex s w hs
 clear hs
 go_enter Tryz.func88,Tryz.ntmps88
 go_wp2_with fail
 refine c1.mono ?_
 rintro e X1 ⟨⟨u,L,ok,rfl,hO,hK,hG,h12⟩,hb⟩
 have HO := hQz hO
 have HK : Hid (LKey s L) := hK
 have HG : Hid (∀ m,GoodF s m → ok = true ∧ L.map Prod.fst = m) := hG
 have H12 : Hid (s.size < 12 → ok = false) := h12
 have B1 := hQz hb
 have BE : Hid (Below w.heap.size w (X1.alloc (.cells #[] 101))) := hb.alloc hb.size _
 have OE : Hid (SerO (X1.alloc (.cells #[] 101)) w.heap.size (.slice (some ⟨X1.heap.size,0,none⟩) 0 0) []) := ⟨Owns.empty X1 w.heap.size 101 2 hb.size,fun p hp => (by cases hp),List.Pairwise.nil⟩
 clear hO hK hG h12 hb c1
 cases ok with
 | false =>
  have HN : Hid (RfAns s [] false) := .inr ⟨rfl,rfl,fun m hm => by have := (HG.out m hm).1; cases this⟩
  go_wp2_with fail
  refine bodyPost_ret (results_tmp2 rfl _ _ _) rfl ?_
  exact ⟨⟨_,[],false,HN.out,rfl,OE.out⟩,BE.out⟩
 | true =>
 have cF := specFileText (L.map Prod.fst) u X1 X1.heap.size HO.out.view HK.out.short (HK.out.keys HS.out) (Nat.le_refl _)
 have h12 : 12 ≤ s.size := by
  rcases Nat.lt_or_ge s.size 12 with h | h
  ·have := H12.out h
   cases this
  ·exact h
 have HH : Hid (12 ≤ s.size) := h12
 clear h12 BE OE
 by_cases hEq : fileT (L.map Prod.fst) = s
 ·have HY := hQz (rfs_yes HH.out hEq)
  rw [hEq] at cF
  clear hEq
  go_wp2_with fail
  refine cF.mono ?_
  rintro e Y ⟨rfl,hbY⟩
  have BY := hQz (B1.out.trans (hbY.mono B1.out.size))
  have OY := hQz (HO.out.on hbY)
  clear hbY cF
  go_wp2_with fail
  refine bodyPost_ret (results_tmp2 rfl _ _ _) rfl ?_
  exact ⟨⟨_,L,true,HY.out,rfl,OY.out⟩,BY.out⟩
 ·have HN : Hid (RfAns s [] false) := rfs_no (fun m hm => (HG.out m hm).2) hEq
  have hne := bytes_ne hEq
  clear hEq
  go_wp2_with fail
  refine cF.mono ?_
  rintro e Y ⟨rfl,hbY⟩
  have BE : Hid (Below w.heap.size w (Y.alloc (.cells #[] 101))) := (B1.out.trans (hbY.mono B1.out.size)).alloc (Nat.le_trans B1.out.size hbY.size) _
  have OE : Hid (SerO (Y.alloc (.cells #[] 101)) w.heap.size (.slice (some ⟨Y.heap.size,0,none⟩) 0 0) []) := ⟨Owns.empty Y w.heap.size 101 2 (Nat.le_trans B1.out.size hbY.size),fun p hp => (by cases hp),List.Pairwise.nil⟩
  clear hbY cF
  go_wp2_with fail
  refine bodyPost_ret (results_tmp2 rfl _ _ _) rfl ?_
  exact ⟨⟨_,[],false,HN.out,rfl,OE.out⟩,BE.out⟩
def LOk (ls : List (List Ser)) : Prop := LFew ls ∧ LRis ls ∧ ∀ l ∈ ls,∀ x ∈ l,∀ p ∈ x.pts,inB p
theorem LOk.filter {ls : List (List Ser)} (h : LOk ls) (f : Int) (k : ByteArray) : (hasAll ls k).filter (inP f 1099511627777) = has ls f k := by
 unfold has fromF
 refine List.filter_congr fun p hp => ?_
 rcases mem_hasAll h.2.1 hp with h1 | ⟨l,hl,h1⟩
 ·cases h1
 ·rcases ptsAt_some (k := k) (l := l) with e | ⟨x,hx,_,e⟩
  ·rw [e] at h1; cases h1
  ·rw [e] at h1
   have := (h.2.2 l hl x hx p h1).1.2
   unfold inP
   rw [decide_eq_true (show p.t < 1099511627777 by omega),Bool.and_true]
theorem LOk.has_len {ls : List (List Ser)} (h : LOk ls) (f : Int) (k : ByteArray) : (has ls f k).length ≤ 2000 := by
 have h1 := h.1.has k ls.length
 rw [List.take_length] at h1
 exact Nat.le_trans (List.length_filter_le _ _) h1
theorem LFew.keys {ls : List (List Ser)} (h : LFew ls) : (keysL ls).length ≤ 200 := by
 have := preK_len ls (fun l hl => (h.2 l hl).1) h.1 ls.length 0 (Nat.le_refl _)
 rw [preK_all] at this
 exact this
theorem plainK_no {ls : List (List Ser)} {f : Int} (ks : List ByteArray) (i : Nat) (hi : i < ks.length) (h : has ls f (ks.getD i default) = []) : plainK ls f (ks.take (i + 1)) = plainK ls f (ks.take i) := by
 unfold plainK
 rw [take_getD ks i hi,List.filterMap_append]
 generalize ks.getD i default = k at *
 rw [List.filterMap_cons,serK,if_pos h]
 simp
theorem plainK_yes {ls : List (List Ser)} {f : Int} (ks : List ByteArray) (i : Nat) (hi : i < ks.length) (h : has ls f (ks.getD i default) ≠ []) : plainK ls f (ks.take (i + 1)) = plainK ls f (ks.take i) ++ [⟨ks.getD i default,has ls f (ks.getD i default)⟩] := by
 unfold plainK
 rw [take_getD ks i hi,List.filterMap_append]
 generalize ks.getD i default = k at *
 rw [List.filterMap_cons,serK,if_neg h]
 rfl
theorem plainK_len (ls : List (List Ser)) (f : Int) (ks : List ByteArray) : (plainK ls f ks).length ≤ ks.length := List.length_filterMap_le _ _
theorem sr_cells (k : ByteArray) {u : Value} (h : u.oneCell' = true) : ∀ y ∈ ([.string k,u] : List Value),y.oneCell' = true := by
 intro y hy
 simp only [List.mem_cons,List.not_mem_nil,or_false] at hy
 rcases hy with rfl | rfl
 ·rfl
 ·exact h
set_option maxHeartbeats 4000000 in
theorem specPlainL (ls : List (List Ser)) (f : Int) (v : Value) (w : World) (B : Nat) (hv : LayV w B v ls) (hf : LOk ls) (hB : B ≤ w.heap.size) :
  Calls Tryz.prog 61 #[v,.int .i64 f] w fun e w' => (∃ u L,e = .returned u ∧ L.map Prod.fst = plainR ls f ∧ SerO w' w.heap.size u L) ∧ Below w.heap.size w w' := by
 have HV : Hid (LayV w B v ls) := hv
 have HF : Hid (LOk ls) := hf
 have HB : Hid (B ≤ w.heap.size) := hB
 obtain ⟨A,cap,rfl,_⟩ := hv.look
 have BE : Hid (Below w.heap.size w (w.alloc (.cells #[] 101))) := (Below.refl _ w).alloc (Nat.le_refl _) _
 have OE : Hid (SerO (w.alloc (.cells #[] 101)) w.heap.size (.slice (some ⟨w.heap.size,0,none⟩) 0 0) []) := ⟨Owns.empty w w.heap.size 101 2 (Nat.le_refl _),fun p hp => (by cases hp),List.Pairwise.nil⟩
 have cK := specKeys ls _ (w.alloc (.cells #[] 101)) B (HV.out.on (BE.out.mono HB.out)) hf.1.1 (fun l hl => (hf.1.2 l hl).1) (Nat.le_trans hB BE.out.size)
 clear hv hf hB
 go_enter Tryz.func61,Tryz.ntmps61
 go_wp2_with fail
 refine cK.mono ?_
 rintro e w1 ⟨⟨u6,rfl,hO6⟩,hb6⟩
 have O6 := hQz (hO6.mono BE.out.size)
 have B1 := hQz (BE.out.trans (hb6.mono BE.out.size))
 have S1 := hQz (OE.out.on hb6)
 obtain ⟨A6,c6,rfl,_⟩ := st_look hO6.lies
 have HKl : Hid ((keysL ls).length ≤ 200) := HF.out.1.keys
 clear hO6 hb6 cK BE OE
 generalize hks : keysL ls = ks at *
 have HKS : Hid (keysL ls = ks) := hks
 clear hks
 generalize hN : ks.length = n at *
 have HN : Hid (ks.length = n) := hN
 clear hN
 have q1 : (n : Int) ≤ 200 := by have := HKl.out; omega
 go_wp2_with fail
 go_loopw [5,7] (fun v5 v7 wr => ∃ (i : Nat) (L : List (Ser × Value)),i ≤ n ∧ v7 = .int .i64 (i : Int) ∧ L.map Prod.fst = plainK ls f (ks.take i) ∧ SerO wr w.heap.size v5 L ∧ Owns wr w.heap.size 9 1 (.slice A6 n c6) (stR ks) ∧ Below w.heap.size w wr) (fun _ i _ => n - (intOf i).toNat)
 case atStart => exact ⟨0,[],by omega,rfl,rfl,S1.out,O6.out,B1.out⟩
 case round =>
  obtain ⟨i,L,hi,rfl,hL,hS,hO,hb⟩ := hrel
  have HL : Hid (L.map Prod.fst = plainK ls f (ks.take i)) := hL
  have HS := hQz hS
  have HO := hQz hO
  have HBr := hQz hb
  obtain ⟨A5,n5,c5,rfl⟩ := hS.1.shape
  have HLn : Hid (L.length ≤ 200) := by
   have h1 := congrArg List.length hL
   have h2 := plainK_len ls f (ks.take i)
   rw [List.length_map] at h1
   rw [List.length_take] at h2
   have := HKl.out
   unfold Hid
   omega
  clear hL hS hO hb
  by_cases hlt : i < n
  ·have q4 : (i : Int) < (n : Int) := by omega
   obtain ⟨g,off,rfl,hg,e1⟩ := st_cells HO.out.lies i (by rw [HN.out]; exact hlt)
   have HLi : Hid (∀ wx,Owns wx w.heap.size 9 1 (.slice (some ⟨g,off,none⟩) n c6) (stR ks) → wx.cell? ⟨g,off + i,none⟩ = some (.string (ks.getD i default))) := fun wx h => by
    obtain ⟨g1,off1,e3,_,h3⟩ := st_cells h.lies i (by rw [HN.out]; exact hlt)
    cases e3
    exact h3
   have c1 := specHas ls f (ks.getD i default) _ wr B (HV.out.on (HBr.out.mono HB.out)) HF.out.1 (Nat.le_trans HB.out HBr.out.size)
   rw [HF.out.filter] at c1
   have HNo : Hid (has ls f (ks.getD i default) = [] → plainK ls f (ks.take (i + 1)) = plainK ls f (ks.take i)) := fun h => plainK_no ks i (by rw [HN.out]; exact hlt) h
   have HYes : Hid (has ls f (ks.getD i default) ≠ [] → plainK ls f (ks.take (i + 1)) = plainK ls f (ks.take i) ++ [⟨ks.getD i default,has ls f (ks.getD i default)⟩]) := fun h => plainK_yes ks i (by rw [HN.out]; exact hlt) h
   have HHl : Hid ((has ls f (ks.getD i default)).length ≤ 2000) := HF.out.has_len f _
   clear hg
   generalize ks.getD i default = key at *
   generalize hh : has ls f key = hp at *
   clear hh
   go_wp2_with fail
   refine c1.mono ?_
   rintro e w2 ⟨⟨u,rfl,hO2⟩,hb2⟩
   have OP := hQz hO2
   have HS2 := hQz (HS.out.on hb2)
   have HO2 := hQz (HO.out.on hb2)
   have B2 := hQz (HBr.out.trans (hb2.mono HBr.out.size))
   have AP : Hid (∀ q ∈ L,Apart q.2 u) := fun q hq gg h1 h2 => by
    have := ((HS.out.2.1 q hq).lt gg h1).2
    have := (hO2.lt gg h2).1
    omega
   obtain ⟨Au,cu,rfl,_⟩ := pt_look hO2.lies
   have e2 := HLi.out w2 HO2.out
   have Z := hQz (HBr.out.size)
   clear hO2 hb2 c1 e1
   by_cases h0 : hp = []
   ·have HE := hQz (HNo.out h0)
    subst h0
    go_wp2_with fail
    go_roundw
    case rel => exact ⟨i + 1,L,by omega,by go_num,by rw [HE.out]; exact HL.out,HS2.out,HO2.out,B2.out⟩
    case measure => simp [intOf]; omega
   ·have HE := hQz (HYes.out h0)
    have q6 : 0 < hp.length := len_pos h0
    have q7 : (hp.length : Int) ≤ 2000 := by have := HHl.out; omega
    have q8 : (0 : Int) < (hp.length : Int) := by omega
    have HPL : Hid (hp.length = hp.length) := rfl
    clear h0
    generalize hpl : hp.length = pl at *
    clear hpl
    have Z2 : w.heap.size ≤ w2.heap.size := B2.out.size
    have L2 : Hid ((srR L).length ≤ 2097152) := by have := HLn.out; unfold Hid; rw [srR_length]; omega
    go_wp2_with (at_builtin; refine wpList_append_row rfl (.tmp 28) (.tmp 35) 33 101 (.agg #[.string ⟨#[]⟩,.slice none 0 0]) 2 40 rfl Tryz.underlying33 Tryz.infoSr rfl (by omega) w.heap.size _ (srR L) rfl HS2.out.1 [.string key,.slice Au pl cu] rfl (sr_cells key rfl) rfl L2.out (by omega) Z2 ?_; intro v' w5 hO5 hb5 hk5 hw5; obtain ⟨A7,n7,c7,rfl⟩ := hO5.shape; refine Shut.out ?_)
    unfold Shut
    have hne5 : ∀ (v : Value) (b : Nat) (e : TypeId) (sz : Nat) (r : List (List Value)),Owns w2 b e sz v r → e ≠ 101 → Owns w5 b e sz v r := fun v b e sz r ho hne => ho.kept fun gg hg hv => hk5 gg hg (fun hu => ho.apartT HS2.out.1 hne gg hv hu)
    have S5 : Hid (SerO w5 w.heap.size (.slice A7 n7 c7) (L ++ [(⟨key,hp⟩,.slice Au pl cu)])) := SerO.snoc (w1 := w2) (v := .slice A5 n5 c5) hO5 (fun q hq => hne5 _ _ _ _ _ (HS2.out.2.1 q hq) (by decide)) HS2.out.2.2 (hne5 _ _ _ _ _ (OP.out.mono Z.out) (by decide)) AP.out
    have O5 : Hid (Owns w5 w.heap.size 9 1 (.slice (some ⟨g,off,none⟩) n c6) (stR ks)) := hne5 _ _ _ _ _ HO2.out (by decide)
    have B5 := hQz (B2.out.trans hb5)
    have HL5 : Hid ((L ++ [((⟨key,hp⟩ : Ser),Value.slice Au pl cu)]).map Prod.fst = plainK ls f (ks.take (i + 1))) := by unfold Hid; rw [HE.out,List.map_append,HL.out]; rfl
    clear hO5 hb5 hk5 hw5 hne5 e2
    go_wp2_with fail
    go_roundw
    case rel => exact ⟨i + 1,_,by omega,by go_num,HL5.out,S5.out,O5.out,B5.out⟩
    case measure => simp [intOf]; omega
  ·obtain rfl : i = n := by omega
   have HE : Hid (plainK ls f (ks.take i) = plainR ls f) := by unfold Hid plainR; rw [HKS.out,← HN.out,List.take_length]
   go_wp2_with fail
   go_ret
   exact ⟨⟨_,L,rfl,HL.out.trans HE.out,HS.out⟩,HBr.out⟩
theorem infoLay : (Tryz.prog.info? 33).map (fun i => (i.zero,i.size,i.bytes)) = some (some (.slice none 0 0),1,24) := by kernel_rfl
def LayO (w : World) (base : Nat) (us : List Value) (ls : List (List Ser)) : Prop := us.length = ls.length ∧ ∀ j,j < ls.length → ∃ L,L.map Prod.fst = ls.getD j [] ∧ SerO w base (us.getD j default) L
theorem LayO.nil (w : World) (base : Nat) : LayO w base [] [] := ⟨rfl,fun j hj => by simp at hj⟩
theorem LayO.on {w w' : World} {base : Nat} {us : List Value} {ls : List (List Ser)} (h : LayO w base us ls) (hb : Below w.heap.size w w') : LayO w' base us ls := ⟨h.1,fun j hj => by obtain ⟨L,h1,h2⟩ := h.2 j hj; exact ⟨L,h1,h2.on hb⟩⟩
theorem LayO.lays {w : World} {base : Nat} {us : List Value} {ls : List (List Ser)} (h : LayO w base us ls) : LayL w w.heap.size us ls := ⟨h.1,fun j hj => by obtain ⟨L,h1,h2⟩ := h.2 j hj; rw [← h1]; exact h2.view⟩
theorem LayO.kept {w w' : World} {base : Nat} {us : List Value} {ls : List (List Ser)} (h : LayO w base us ls) (hk : ∀ (v : Value) (b : Nat) (e : TypeId) (sz : Nat) (r : List (List Value)),Owns w b e sz v r → e ≠ 33 → Owns w' b e sz v r) : LayO w' base us ls :=
 ⟨h.1,fun j hj => by obtain ⟨L,h1,h2,h3,h4⟩ := h.2 j hj; exact ⟨L,h1,hk _ _ _ _ _ h2 (by decide),fun p hp => hk _ _ _ _ _ (h3 p hp) (by decide),h4⟩⟩
theorem LayO.snoc {w : World} {base : Nat} {us : List Value} {ls : List (List Ser)} (h : LayO w base us ls) {u : Value} {L : List (Ser × Value)} (hu : SerO w base u L) : LayO w base (us ++ [u]) (ls ++ [L.map Prod.fst]) := by
 refine ⟨by simp [h.1],fun j hj => ?_⟩
 rw [List.length_append,List.length_singleton] at hj
 by_cases e : j < ls.length
 ·rw [List.getD_eq_getElem?_getD,List.getD_eq_getElem?_getD,List.getElem?_append_left e,List.getElem?_append_left (by rw [h.1]; exact e),← List.getD_eq_getElem?_getD,← List.getD_eq_getElem?_getD]
  exact h.2 j e
 ·obtain rfl : j = ls.length := by omega
  rw [List.getD_eq_getElem?_getD,List.getD_eq_getElem?_getD,List.getElem?_append_right (Nat.le_refl _),List.getElem?_append_right (by rw [h.1]; exact Nat.le_refl _),h.1,Nat.sub_self]
  exact ⟨L,rfl,hu⟩
def LyAns (e : Eng) (w' : World) (b : Ending) : Prop := ∃ u ok,b = .returned (.tuple #[u,.bool ok]) ∧ ((ok = true ∧ (∀ s ∈ e.files,isF s) ∧ LayV w' w'.heap.size u (lays e)) ∨ (ok = false ∧ ∃ s ∈ e.files,¬ isF s))
theorem la_cell (u : Value) (h : u.oneCell' = true) : ∀ y ∈ ([u] : List Value),y.oneCell' = true := by
 intro y hy
 rw [List.mem_singleton.1 hy]; exact h
theorem rf_yes' {s : ByteArray} {l : List Ser} (h : RfAns s l true) : isF s ∧ fileM s = l := by
 rcases h with ⟨_,h⟩ | ⟨h,_⟩
 ·exact ⟨⟨l,h⟩,fileM_is h⟩
 ·cases h
theorem rf_no' {s : ByteArray} {l : List Ser} (h : RfAns s l false) : ¬ isF s := by
 rcases h with ⟨h,_⟩ | ⟨_,_,h⟩
 ·cases h
 ·rintro ⟨m,hm⟩; exact h m hm
set_option maxHeartbeats 4000000 in
theorem specLayers (e : Eng) (v : Value) (w : World) (B : Nat) (hv : EngV w B v e) (hn : e.files.length ≤ 10) (hs : ∀ s ∈ e.files,s.size ≤ 1048576) (hB : B ≤ w.heap.size) :
  Calls Tryz.prog 60 #[v] w fun b w' => LyAns e w' b ∧ Below w.heap.size w w' := by
 obtain ⟨vc,vf,rfl,hc,hl⟩ := hv
 unfold vE
 obtain ⟨Ac,cc,rfl,_⟩ := hc.look
 obtain ⟨A,cap,rfl,hll⟩ := st_look hl
 have HC : Hid (SerV w B (.slice Ac e.cache.length cc) e.cache) := hc
 have HL : Hid (∀ j,j < e.files.length → ∃ g off,A = some ⟨g,off,none⟩ ∧ g < B ∧ w.cell? ⟨g,off + j,none⟩ = some (.string (e.files.getD j default))) := hll
 have HB : Hid (B ≤ w.heap.size) := hB
 have HSz : Hid (∀ j,j < e.files.length → (e.files.getD j default).size ≤ 1048576) := fun j hj => hs _ (getD_mem _ j hj)
 have HTk : Hid (∀ i,i < e.files.length → e.files.take (i + 1) = e.files.take i ++ [e.files.getD i default]) := fun i hi => take_getD _ i hi
 have HM : Hid (∀ i,i < e.files.length → e.files.getD i default ∈ e.files) := fun i hi => getD_mem _ i hi
 have HTn : Hid (e.files.take e.files.length = e.files) := List.take_length
 have q1 : (e.files.length : Int) ≤ 10 := by omega
 clear hc hl hll hB hs hn
 have HLys : Hid (lays e = laysF e.files ++ [e.cache]) := rfl
 generalize hN : e.files.length = n at *
 have HN : Hid (e.files.length = n) := hN
 clear hN
 generalize e.cache.length = nc at *
 generalize e.floor = f at *
 obtain ⟨X0,hX0⟩ : ∃ X0,X0 = w.alloc (.cells #[.int .i64 f,.slice Ac nc cc,.slice A n cap] 35) := ⟨_,rfl⟩
 have BX : Hid (Below w.heap.size w X0) := by unfold Hid; rw [hX0]; exact (Below.refl _ w).alloc (Nat.le_refl _) _
 have KX : Hid (Blk X0 w.heap.size #[.int .i64 f,.slice Ac nc cc,.slice A n cap] 35) := by unfold Hid; rw [hX0]; exact Blk.new w _ _
 have OE : Hid (Owns (X0.alloc (.cells #[] 33)) X0.heap.size 33 1 (.slice (some ⟨w.heap.size + 1,0,none⟩) 0 0) (laR [])) := by
  have hs : X0.heap.size = w.heap.size + 1 := by rw [hX0,World.size_alloc]
  unfold Hid
  rw [← hs]
  exact Owns.empty X0 X0.heap.size 33 1 (Nat.le_refl _)
 have BE : Hid (Below X0.heap.size X0 (X0.alloc (.cells #[] 33))) := (Below.refl _ X0).alloc (Nat.le_refl _) _
 go_enter Tryz.func60,Tryz.ntmps60
 go_wp2_with fail
 rw [← hX0]
 clear hX0
 go_loopw [4,5,6,7,16,22,23,24] (fun v4 v5 _ _ _ _ _ _ wr => ∃ (i : Nat) (us : List Value),i ≤ n ∧ v5 = .int .i64 (i : Int) ∧ Owns wr X0.heap.size 33 1 v4 (laR us) ∧ LayO wr X0.heap.size us (laysF (e.files.take i)) ∧ us.length = i ∧ Hid (∀ s ∈ e.files.take i,isF s) ∧ Below X0.heap.size X0 wr) (fun _ i _ _ _ _ _ _ _ => n - (intOf i).toNat)
 case atStart => exact ⟨0,[],by omega,rfl,OE.out,LayO.nil _ _,rfl,fun s hs => (by simp at hs),BE.out⟩
 case round =>
  obtain ⟨i,us,hi,rfl,hO,hLy,hul,HI,hb⟩ := hrel
  have HO := hQz hO
  have HLy : Hid (LayO wr X0.heap.size us (laysF (e.files.take i))) := hLy
  have HUl : Hid (us.length = i) := hul
  have HBr := hQz hb
  obtain ⟨A4,n4,c4,rfl⟩ := hO.shape
  have BW := hQz (BX.out.trans (hb.mono BX.out.size))
  have KR := hQz (KX.out.on hb KX.out.lt)
  have k1 := KR.out.cell 1 _ rfl
  have k2 := KR.out.cell 2 _ rfl
  clear hO hLy hul hb
  by_cases hlt : i < n
  ·have q4 : (i : Int) < (n : Int) := by omega
   obtain ⟨g,off,rfl,hg,e1⟩ := HL.out i hlt
   have hgw : g < w.heap.size := Nat.lt_of_lt_of_le hg HB.out
   rw [← BW.out.cell (p := ⟨_,_,none⟩) hgw] at e1
   have c1 := specReadFile (e.files.getD i default) wr (HSz.out i hlt)
   have HTi := hQz (HTk.out i hlt)
   have HMi := hQz (HM.out i hlt)
   generalize e.files.getD i default = s at *
   go_wp2_with fail
   refine c1.mono ?_
   rintro b w2 ⟨⟨u,L,ok,hR,rfl,hS⟩,hb2⟩
   have HR : Hid (RfAns s (L.map Prod.fst) ok) := hR
   have HS := hQz hS
   have B2 := hQz (HBr.out.trans (hb2.mono HBr.out.size))
   have BW2 := hQz (BX.out.trans (B2.out.mono BX.out.size))
   have O2 := hQz (HO.out.on hb2)
   have L2 := hQz (HLy.out.on hb2)
   have Z := hQz (HBr.out.size)
   obtain ⟨Au,nu,cu,rfl⟩ := hS.1.shape
   clear hR hS hb2 c1 e1 k1 k2
   cases ok with
   | false =>
    have HNo := hQz (rf_no' HR.out)
    go_wp2_with fail
    refine bodyPost_ret (results_tmp2 rfl _ _ _) rfl ?_
    exact ⟨⟨_,false,rfl,.inr ⟨rfl,s,HMi.out,HNo.out⟩⟩,BW2.out⟩
   | true =>
    obtain ⟨hF,hFM⟩ := rf_yes' HR.out
    have HF : Hid (isF s) := hF
    have HFM : Hid (fileM s = L.map Prod.fst) := hFM
    have Z2 : X0.heap.size ≤ w2.heap.size := B2.out.size
    have L3 : Hid ((laR us).length ≤ 2097152) := by have := HUl.out; unfold Hid; rw [laR_length]; omega
    clear hF hFM
    go_wp2_with (at_builtin; refine wpList_append_row rfl (.tmp 28) (.tmp 30) 102 33 (.slice none 0 0) 1 24 rfl Tryz.underlying102 infoLay rfl (by omega) X0.heap.size _ (laR us) rfl O2.out [.slice Au nu cu] rfl (la_cell _ rfl) rfl L3.out (by omega) Z2 ?_; intro v' w5 hO5 hb5 hk5 hw5; obtain ⟨A7,n7,c7,rfl⟩ := hO5.shape; refine Shut.out ?_)
    unfold Shut
    have hne5 : ∀ (v : Value) (b : Nat) (e : TypeId) (sz : Nat) (r : List (List Value)),Owns w2 b e sz v r → e ≠ 33 → Owns w5 b e sz v r := fun v b e sz r ho hne => ho.kept fun gg hg hv => hk5 gg hg (fun hu => ho.apartT O2.out hne gg hv hu)
    have O5 : Hid (Owns w5 X0.heap.size 33 1 (.slice A7 n7 c7) (laR (us ++ [.slice Au nu cu]))) := by unfold Hid; rw [laR_append]; exact hO5
    have L5 : Hid (LayO w5 X0.heap.size (us ++ [.slice Au nu cu]) (laysF (e.files.take (i + 1)))) := by
     unfold Hid
     rw [HTi.out,laysF_snoc,HFM.out]
     have h2 := HS.out.mono Z.out
     exact (L2.out.kept hne5).snoc ⟨hne5 _ _ _ _ _ h2.1 (by decide),fun p hp => hne5 _ _ _ _ _ (h2.2.1 p hp) (by decide),h2.2.2⟩
    have B5 := hQz (B2.out.trans hb5)
    have HI5 : Hid (∀ s ∈ e.files.take (i + 1),isF s) := fun x hx => by
     rw [HTi.out] at hx
     rcases List.mem_append.1 hx with h | h
     ·exact HI.out x h
     ·rw [List.mem_singleton.1 h]; exact HF.out
    have HU5 : Hid ((us ++ [Value.slice Au nu cu]).length = i + 1) := by unfold Hid; rw [List.length_append,HUl.out]; rfl
    clear hO5 hb5 hk5 hw5 hne5
    go_wp2_with fail
    go_roundw
    case rel => exact ⟨i + 1,_,by omega,by go_num,O5.out,L5.out,HU5.out,HI5,B5.out⟩
    case measure => simp [intOf]; omega
  ·obtain rfl : i = n := by omega
   have Z2 : X0.heap.size ≤ wr.heap.size := HBr.out.size
   have L3 : Hid ((laR us).length ≤ 2097152) := by have := HUl.out; unfold Hid; rw [laR_length]; omega
   have HCr := hQz (HC.out.on (BW.out.mono HB.out))
   go_wp2_with (at_builtin; refine wpList_append_row rfl (.tmp 32) (.tmp 35) 102 33 (.slice none 0 0) 1 24 rfl Tryz.underlying102 infoLay rfl (by omega) X0.heap.size _ (laR us) rfl HO.out [.slice Ac nc cc] rfl (la_cell _ rfl) rfl L3.out (by omega) Z2 ?_; intro v' w5 hO5 hb5 hk5 hw5; obtain ⟨A7,n7,c7,rfl⟩ := hO5.shape; refine Shut.out ?_)
   unfold Shut
   have hne5 : ∀ (v : Value) (b : Nat) (e : TypeId) (sz : Nat) (r : List (List Value)),Owns wr b e sz v r → e ≠ 33 → Owns w5 b e sz v r := fun v b e sz r ho hne => ho.kept fun gg hg hv => hk5 gg hg (fun hu => ho.apartT HO.out hne gg hv hu)
   have B5 := hQz (HBr.out.trans hb5)
   have BW5 := hQz (BX.out.trans (B5.out.mono BX.out.size))
   have HAns : Hid (LayV w5 w5.heap.size (.slice A7 n7 c7) (lays e)) := by
    unfold Hid
    rw [HLys.out]
    refine ⟨us ++ [.slice Ac nc cc],by rw [laR_append]; exact hO5.lies,?_⟩
    have h1 := (HLy.out.kept hne5).lays
    rw [HTn.out] at h1
    exact h1.snoc ((HC.out.on (BW5.out.mono HB.out)).mono (Nat.le_trans HB.out BW5.out.size))
   have HIa : Hid (∀ s ∈ e.files,isF s) := by have := HI.out; rw [HTn.out] at this; exact this
   clear hO5 hb5 hk5 hw5 hne5
   go_wp2_with fail
   refine bodyPost_ret (results_tmp2 rfl _ _ _) rfl ?_
   exact ⟨⟨_,true,rfl,.inl ⟨rfl,HIa.out,HAns.out⟩⟩,BW5.out⟩
noncomputable instance (e : Eng) : Decidable (EOk e) := Classical.propDecidable _
def COk (c : List Ser) : Prop := c.length ≤ 10 ∧ ∀ x ∈ c,x.pts.length ≤ 200 ∧ Rising x.pts ∧ (∀ p ∈ x.pts,inB p) ∧ x.key.size ≤ 1000
theorem SOk.col {c : List Ser} (h : SOk c) : COk c := by
 obtain ⟨h1,_,h3⟩ := (SOk_iff c).1 h
 refine ⟨by omega,fun x hx => ?_⟩
 obtain ⟨h4,h5,h6⟩ := (POk_iff _).1 (h3 x hx).2.2
 exact ⟨by omega,h5,h6,by have := (h3 x hx).1.2.1; omega⟩
theorem lays_col {e : Eng} (hc : COk e.cache) (hF : ∀ s ∈ e.files,isF s) : ∀ l ∈ lays e,COk l := fun l hl => by
 rcases List.mem_append.1 hl with h | h
 ·obtain ⟨s,hs,rfl⟩ := List.mem_map.1 h
  exact ((hF s hs).good).2.1.col
 ·rw [List.mem_singleton.1 h]; exact hc
theorem plain_keys {ls : List (List Ser)} {f : Int} (h : ∀ l ∈ ls,COk l) : ∀ x ∈ plainR ls f,x.key.size ≤ maxLen := fun x hx => by
 obtain ⟨l,hl,y,hy,e⟩ := mem_keysL.1 (mem_plainK hx).1
 rw [← e]
 have := ((h l hl).2 y hy).2.2.2
 unfold maxLen
 omega
theorem lays_ok {e : Eng} (hn : e.files.length ≤ 9) (hc : COk e.cache) (hF : ∀ s ∈ e.files,isF s) : LOk (lays e) := by
 have hall := lays_col hc hF
 refine ⟨⟨?_,fun l hl => ⟨(hall l hl).1,fun x hx => ((hall l hl).2 x hx).1⟩⟩,fun l hl x hx => ((hall l hl).2 x hx).2.1,fun l hl x hx => ((hall l hl).2 x hx).2.2.1⟩
 unfold lays laysF
 rw [List.length_append,List.length_map,List.length_singleton]
 omega
theorem plainE_short {e : Eng} (h : LOk (lays e)) : SShort (plainE e) := by
 refine ⟨?_,fun x hx => ?_⟩
 ·have h1 := plainK_len (lays e) e.floor (keysL (lays e))
  have h2 := h.1.keys
  unfold plainE plainR
  omega
 ·rw [(mem_plainK hx).2.1]
  have := h.has_len e.floor x.key
  omega
theorem first_at {x : Ser} (h : 1 ≤ x.pts.length) {w : World} {B n c : Nat} {A : Option Addr} (hu : Lies w B 2 (.slice A n c) (ptR x.pts)) : ∃ g off,A = some ⟨g,off,none⟩ ∧ g < B ∧ n = x.pts.length ∧ w.cell? ⟨g,off,none⟩ = some (.int .i64 (tAt x.pts 0)) := by
 obtain ⟨A',c',e,hl⟩ := pt_look hu
 cases e
 obtain ⟨g,off,e,hg,h1,_⟩ := hl 0 (by omega)
 refine ⟨g,off,e,hg,rfl,?_⟩
 rw [Nat.zero_mul,Nat.add_zero] at h1
 exact h1
def InOk (e : Eng) : Prop := (0 ≤ e.floor ∧ e.floor ≤ 1099511627776) ∧ SOk e.cache ∧ cntS e.cache ≤ 40 ∧ e.files.length ≤ 4
theorem EOk.inOk {e : Eng} (h : EOk e) : InOk e := ⟨h.1.1,h.1.2.2.1,h.1.2.2.2.1,h.1.2.1⟩
set_option maxHeartbeats 4000000 in
theorem specEngineOk_no (e : Eng) (v : Value) (w : World) (B : Nat) (hv : EngV w B v e) (hs : EShort e) (hB : B ≤ w.heap.size) (hno : ¬ InOk e) :
  Calls Tryz.prog 25 #[v] w fun b w' => b = .returned (.bool false) ∧ Below w.heap.size w w' := by
 obtain ⟨vc,vf,rfl,hc,hl⟩ := hv
 unfold vE
 obtain ⟨Ac,cc,rfl,_⟩ := hc.look
 obtain ⟨A,cap,rfl,_⟩ := st_look hl
 have HV : Hid (EngV w B (vE e.floor (.slice Ac e.cache.length cc) (.slice A e.files.length cap)) e) := ⟨_,_,rfl,hc,hl⟩
 have HC : Hid (SerV w B (.slice Ac e.cache.length cc) e.cache) := hc
 have HB : Hid (B ≤ w.heap.size) := hB
 have HSh : Hid (EShort e) := hs
 obtain ⟨X0,hX0⟩ : ∃ X0,X0 = w.alloc (.cells #[.int .i64 e.floor,.slice Ac e.cache.length cc,.slice A e.files.length cap] 35) := ⟨_,rfl⟩
 have BX : Hid (Below w.heap.size w X0) := by unfold Hid; rw [hX0]; exact (Below.refl _ w).alloc (Nat.le_refl _) _
 have KX : Hid (Blk X0 w.heap.size #[.int .i64 e.floor,.slice Ac e.cache.length cc,.slice A e.files.length cap] 35) := by unfold Hid; rw [hX0]; exact Blk.new w _ _
 have ZB := hQz (Nat.le_trans hB BX.out.size)
 by_cases hf : 0 ≤ e.floor ∧ e.floor ≤ 1099511627776
 ·have c0 := in_yes e.floor 0 1099511627776 X0 hf.1 hf.2
  have c1 := specSeriesOk e.cache _ X0 B (HC.out.on (BX.out.mono hB)) hs.1 hs.2.1 ZB.out
  by_cases hso : SOk e.cache
  ·rw [decide_eq_true hso] at c1
   have hco := hso.col
   have c2 := fun wx hx => specCount e.cache (.slice Ac e.cache.length cc) wx B hx (by have := hco.1; omega) (fun x hx => by have := (hco.2 x hx).1; omega)
   have qC := cntS_le e.cache (fun x hx => by have := (hco.2 x hx).1; omega) e.cache.length (Nat.le_refl _)
   rw [List.take_length] at qC
   have hcl := hco.1
   have hfl := hs.2.2.1
   have HN : Hid (¬ (cntS e.cache ≤ 40 ∧ e.files.length ≤ 4)) := fun h => hno ⟨hf,hso,h.1,h.2⟩
   clear hno hso hco hs hc hl hB hf
   have k0 := KX.out.cell 0 _ rfl
   have k1 := KX.out.cell 1 _ rfl
   have k2 := KX.out.cell 2 _ rfl
   have q1 : (e.cache.length : Int) ≤ 10 := by omega
   have q2 : (e.files.length : Int) ≤ 1048576 := by omega
   have q3 : (cntS e.cache : Int) ≤ 10000 := by omega
   go_enter Tryz.func25,Tryz.ntmps25
   go_wp2_with fail
   rw [← hX0]
   clear hX0
   refine c0.mono ?_
   rintro b X1 ⟨rfl,rfl⟩
   go_wp2_with fail
   refine c1.mono ?_
   rintro b X1 ⟨rfl,hlk⟩
   have K1 := KX.out.on hlk.below KX.out.lt
   have m1 := K1.cell 1 _ rfl
   have m2 := K1.cell 2 _ rfl
   have B1 : Hid (Below w.heap.size w X1) := BX.out.trans (hlk.below.mono BX.out.size)
   have c3 := c2 X1 (HC.out.on (B1.out.mono HB.out))
   clear hlk c2 c1 K1 k0 k1 k2
   go_wp2_with fail
   refine c3.mono ?_
   rintro b X2 ⟨rfl,rfl⟩
   clear c3
   generalize cntS e.cache = cn at *
   generalize e.files.length = fn at *
   by_cases h4 : 40 < cn
   ·have q5 : (40 : Int) < (cn : Int) := by omega
    go_wp2_with fail
    go_ret
    exact ⟨rfl,B1.out⟩
   ·have q5 : ¬ (40 : Int) < (cn : Int) := by omega
    have q6 : (4 : Int) < (fn : Int) := by have := HN.out; omega
    clear h4
    go_wp2_with fail
    go_ret
    exact ⟨rfl,B1.out⟩
  ·rw [decide_eq_false hso] at c1
   clear hno hso hs hc hl hB hf
   have k0 := KX.out.cell 0 _ rfl
   have k1 := KX.out.cell 1 _ rfl
   go_enter Tryz.func25,Tryz.ntmps25
   go_wp2_with fail
   rw [← hX0]
   clear hX0
   refine c0.mono ?_
   rintro b X1 ⟨rfl,rfl⟩
   go_wp2_with fail
   refine c1.mono ?_
   rintro b X1 ⟨rfl,hlk⟩
   have B1 : Hid (Below w.heap.size w X1) := BX.out.trans (hlk.below.mono BX.out.size)
   clear hlk c1 k0 k1
   go_wp2_with fail
   go_ret
   exact ⟨rfl,B1.out⟩
 ·have c0 := in_no e.floor 0 1099511627776 X0 (by omega)
  clear hno hs hc hl hB hf
  have k0 := KX.out.cell 0 _ rfl
  go_enter Tryz.func25,Tryz.ntmps25
  go_wp2_with fail
  rw [← hX0]
  clear hX0
  refine c0.mono ?_
  rintro b X1 ⟨rfl,rfl⟩
  go_wp2_with fail
  go_ret
  exact ⟨rfl,BX.out⟩
set_option maxHeartbeats 4000000 in
theorem specEngineOk_in (e : Eng) (v : Value) (w : World) (B : Nat) (hv : EngV w B v e) (hs : EShort e) (hB : B ≤ w.heap.size) (hin : InOk e) :
  Calls Tryz.prog 25 #[v] w fun b w' => b = .returned (.bool (decide (EOk e))) ∧ Below w.heap.size w w' := by
 obtain ⟨vc,vf,rfl,hc,hl⟩ := hv
 unfold vE
 obtain ⟨Ac,cc,rfl,_⟩ := hc.look
 obtain ⟨A,cap,rfl,_⟩ := st_look hl
 have HV : Hid (EngV w B (vE e.floor (.slice Ac e.cache.length cc) (.slice A e.files.length cap)) e) := ⟨_,_,rfl,hc,hl⟩
 have HC : Hid (SerV w B (.slice Ac e.cache.length cc) e.cache) := hc
 have HB : Hid (B ≤ w.heap.size) := hB
 have HSh : Hid (EShort e) := hs
 obtain ⟨X0,hX0⟩ : ∃ X0,X0 = w.alloc (.cells #[.int .i64 e.floor,.slice Ac e.cache.length cc,.slice A e.files.length cap] 35) := ⟨_,rfl⟩
 have BX : Hid (Below w.heap.size w X0) := by unfold Hid; rw [hX0]; exact (Below.refl _ w).alloc (Nat.le_refl _) _
 have KX : Hid (Blk X0 w.heap.size #[.int .i64 e.floor,.slice Ac e.cache.length cc,.slice A e.files.length cap] 35) := by unfold Hid; rw [hX0]; exact Blk.new w _ _
 have ZB := hQz (Nat.le_trans hB BX.out.size)
 obtain ⟨hf,hso,h40,h4⟩ := hin
 have c0 := in_yes e.floor 0 1099511627776 X0 hf.1 hf.2
 have c1 := specSeriesOk e.cache _ X0 B (HC.out.on (BX.out.mono hB)) hs.1 hs.2.1 ZB.out
 rw [decide_eq_true hso] at c1
 have hco := hso.col
 have c2 := fun wx hx => specCount e.cache (.slice Ac e.cache.length cc) wx B hx (by have := hco.1; omega) (fun x hx => by have := (hco.2 x hx).1; omega)
 have HIn : Hid (InOk e) := ⟨hf,hso,h40,h4⟩
 have hcl := hso.1
 have HL : Hid (∀ wx,Below w.heap.size w wx → ∀ j,j < e.cache.length → ∃ g off u,Ac = some ⟨g,off,none⟩ ∧ g < B ∧ wx.cell? ⟨g,off + j * 2,none⟩ = some (.string (e.cache.getD j default).key) ∧ wx.cell? ⟨g,off + j * 2 + 1,none⟩ = some u ∧ Lies wx B 2 u (ptR (e.cache.getD j default).pts)) := fun wx hx => by
  obtain ⟨A',c',e',h⟩ := (HC.out.on (hx.mono HB.out)).look
  cases e'
  exact h
 have HOne : Hid (∀ j,j < e.cache.length → 1 ≤ (e.cache.getD j default).pts.length ∧ (e.cache.getD j default).pts.length ≤ 60) := fun j hj => ⟨(hso.2 j hj).2.1,(hso.2 j hj).2.2.1⟩
 have HBad : Hid (∀ j,j < e.cache.length → tAt (e.cache.getD j default).pts 0 < e.floor → decide (EOk e) = false) := fun j hj h => decide_eq_false fun hok => by
  have := hok.1.2.2.2.2 _ (getD_mem _ j hj)
  omega
 have HGood : Hid ((∀ j,j < e.cache.length → e.floor ≤ tAt (e.cache.getD j default).pts 0) → PreOk e) := fun h => ⟨hf,h4,hso,h40,fun x hx => by
  obtain ⟨j,hj,rfl⟩ := List.getElem_of_mem hx
  rw [getD_at _ j hj]
  exact h j hj⟩
 have k0 := KX.out.cell 0 _ rfl
 have k1 := KX.out.cell 1 _ rfl
 have k2 := KX.out.cell 2 _ rfl
 have q1 : (e.cache.length : Int) ≤ 5 := by omega
 have q2 : (e.files.length : Int) ≤ 4 := by omega
 have q3 : (cntS e.cache : Int) ≤ 40 := by omega
 clear hso hco hs hc hl hB hf h40 h4
 go_enter Tryz.func25,Tryz.ntmps25
 go_wp2_with fail
 rw [← hX0]
 clear hX0
 refine c0.mono ?_
 rintro b X1 ⟨rfl,rfl⟩
 go_wp2_with fail
 refine c1.mono ?_
 rintro b X1 ⟨rfl,hlk⟩
 have K1 := KX.out.on hlk.below KX.out.lt
 have HK1 := hQz K1
 have m0 := K1.cell 0 _ rfl
 have m1 := K1.cell 1 _ rfl
 have m2 := K1.cell 2 _ rfl
 have B1 : Hid (Below w.heap.size w X1) := BX.out.trans (hlk.below.mono BX.out.size)
 have c3 := c2 X1 (HC.out.on (B1.out.mono HB.out))
 clear hlk c2 c1 K1 k0 k1 k2
 go_wp2_with fail
 refine c3.mono ?_
 rintro b X2 ⟨rfl,rfl⟩
 clear c3
 generalize hcn : cntS e.cache = cn at *
 clear hcn
 generalize hfn : e.files.length = fn at *
 have HFN : Hid (e.files.length = fn) := hfn
 clear hfn
 generalize hn : e.cache.length = n at *
 have HCN : Hid (e.cache.length = n) := hn
 clear hn
 have q5 : ¬ (40 : Int) < (cn : Int) := by omega
 have q6 : ¬ (4 : Int) < (fn : Int) := by omega
 generalize hfl : e.floor = f at *
 have HFl : Hid (e.floor = f) := hfl
 clear hfl
 go_wp2_with fail
 go_loopw [3] (fun v3 wr => ∃ i : Nat,i ≤ n ∧ v3 = .int .i64 (i : Int) ∧ Hid (∀ j,j < i → f ≤ tAt (e.cache.getD j default).pts 0) ∧ Like X1 wr) (fun i _ => n - (intOf i).toNat)
 case atStart => exact ⟨0,by omega,rfl,fun j hj => by omega,Like.refl _⟩
 case round =>
  obtain ⟨i,hi,rfl,HI,hlk⟩ := hrel
  have HLk : Hid (Like X1 wr) := hlk
  have K2 := HK1.out.on hlk.below HK1.out.lt
  have HK2 := hQz K2
  have n0 := K2.cell 0 _ rfl
  have n1 := K2.cell 1 _ rfl
  have n2 := K2.cell 2 _ rfl
  have B2 : Hid (Below w.heap.size w wr) := B1.out.trans (hlk.below.mono B1.out.size)
  clear hlk K2 m0 m1 m2
  by_cases hlt : i < n
  ·have q4 : (i : Int) < (n : Int) := by omega
   obtain ⟨g,off,u,rfl,hg,e1,e2,hu⟩ := HL.out wr B2.out i hlt
   obtain ⟨A5,n5,c5,rfl⟩ : ∃ A5 n5 c5,u = .slice A5 n5 c5 := by obtain ⟨A5,c5,e,_⟩ := hu; exact ⟨_,_,_,e⟩
   obtain ⟨g5,o5,rfl,hg5,hn5,e5⟩ := first_at (HOne.out i hlt).1 hu
   have q7 := HOne.out i hlt
   rw [← hn5] at q7
   have q8 : (0 : Int) < (n5 : Int) := by omega
   have q9 : (n5 : Int) ≤ 60 := by omega
   have HBi := hQz (HBad.out i hlt)
   have HIn2 : Hid (f ≤ tAt (e.cache.getD i default).pts 0 → ∀ j,j < i + 1 → f ≤ tAt (e.cache.getD j default).pts 0) := fun h j hj => by
    by_cases e : j = i
    ·rw [e]; exact h
    ·exact HI.out j (by omega)
   clear hu hn5 q7 e1
   generalize tAt (e.cache.getD i default).pts 0 = t at *
   have HF : ∀ wx : World,Like X1 wx → wx.cell? ⟨w.heap.size,1,none⟩ = some (.slice (some ⟨g,off,none⟩) n cc) ∧ wx.cell? ⟨w.heap.size,0,none⟩ = some (.int .i64 f) ∧ wx.cell? ⟨g,off + i * 2 + 1,none⟩ = some (.slice (some ⟨g5,o5,none⟩) n5 c5) ∧ wx.cell? ⟨g5,o5,none⟩ = some (.int .i64 t) := fun wx hx => by
    have hh : wx.heap = wr.heap := hx.1.trans HLk.out.1.symm
    rw [cell?_heap hh,cell?_heap hh,cell?_heap hh,cell?_heap hh]
    exact ⟨n1,n0,e2,e5⟩
   by_cases hlow : t < f
   ·have HD := hQz (HBi.out hlow)
    clear HF
    go_wp2_with fail
    go_quiet (fail)
    go_wp2_with fail
    go_ret
    exact ⟨by rw [HD.out]; rfl,B2.out.trans ((below_drewN wr nq).mono B2.out.size)⟩
   ·have q10 : f ≤ t := by omega
    have HI2 := hQz (HIn2.out q10)
    clear HF
    go_wp2_with fail
    go_quiet (fail)
    go_wp2_with fail
    go_roundw
    case rel => exact ⟨i + 1,by omega,by go_num,HI2,HLk.out.drewN _⟩
    case measure => simp [intOf]; omega
  ·obtain rfl : i = n := by omega
   have HPre := hQz (HGood.out HI.out)
   have c4 := specLayers e _ wr B (HV.out.on (B2.out.mono HB.out)) (by have := HPre.out.2.1; omega) HSh.out.2.2.2 (Nat.le_trans HB.out B2.out.size)
   unfold vE at c4
   go_wp2_with fail
   refine c4.mono ?_
   rintro b X3 ⟨⟨u,ok,rfl,hA⟩,hb3⟩
   have HA : Hid ((ok = true ∧ (∀ s ∈ e.files,isF s) ∧ LayV X3 X3.heap.size u (lays e)) ∨ (ok = false ∧ ∃ s ∈ e.files,¬ isF s)) := hA
   have K3 := HK2.out.on hb3 HK2.out.lt
   have p0 := K3.cell 0 _ rfl
   have B3 := hQz (B2.out.trans (hb3.mono B2.out.size))
   clear hA hb3 c4 n0 n1 n2 K3
   rcases HA.out with ⟨rfl,hF,hLv⟩ | ⟨rfl,s,hsm,hsn⟩
   ·have HCol : Hid (∀ l ∈ lays e,COk l) := lays_col HIn.out.2.1.col hF
    have HLok : Hid (LOk (lays e)) := lays_ok (by have := HPre.out.2.1; omega) HIn.out.2.1.col hF
    have c5 := specPlainL (lays e) f u X3 X3.heap.size hLv HLok.out (Nat.le_refl _)
    have HD : Hid (decide (SOk (plainE e)) = decide (EOk e)) := by
     unfold Hid
     rw [decide_eq_decide]
     exact ⟨fun h => ⟨HPre.out,hF,h⟩,fun h => h.2.2⟩
    have HPe : Hid (plainE e = plainR (lays e) f) := by unfold Hid plainE; rw [HFl.out]
    have HShp := hQz (plainE_short HLok.out)
    obtain ⟨Au,cu,rfl,_⟩ := hLv.look
    clear hF hLv HA
    go_wp2_with fail
    refine c5.mono ?_
    rintro b X4 ⟨⟨u4,L,rfl,hL,hS⟩,hb4⟩
    have B4 := hQz (B3.out.trans (hb4.mono B3.out.size))
    have c6 := specSeriesOk (plainE e) u4 X4 X4.heap.size (by rw [HPe.out,← hL]; exact hS.view) HShp.out (by rw [HPe.out]; exact plain_keys HCol.out) (Nat.le_refl _)
    rw [HD.out] at c6
    clear hL hS hb4 c5
    go_wp2_with fail
    refine c6.mono ?_
    rintro b X5 ⟨rfl,hlk⟩
    have B5 : Hid (Below w.heap.size w X5) := B4.out.trans (hlk.below.mono B4.out.size)
    clear hlk c6
    go_wp2_with fail
    go_ret
    exact ⟨rfl,B5.out⟩
   ·have HD : Hid (decide (EOk e) = false) := decide_eq_false fun h => hsn (h.2.1 s hsm)
    clear hsm hsn HA
    go_wp2_with fail
    go_ret
    exact ⟨by rw [HD.out]; rfl,B3.out⟩
theorem specEngineOk (e : Eng) (v : Value) (w : World) (B : Nat) (hv : EngV w B v e) (hs : EShort e) (hB : B ≤ w.heap.size) :
  Calls Tryz.prog 25 #[v] w fun b w' => b = .returned (.bool (decide (EOk e))) ∧ Below w.heap.size w w' := by
 by_cases h : InOk e
 ·exact specEngineOk_in e v w B hv hs hB h
 ·rw [decide_eq_false fun hok : EOk e => h hok.inOk]
  exact specEngineOk_no e v w B hv hs hB h
end Go.Proofs.YthhamlahdjokkaaGreatDoor
