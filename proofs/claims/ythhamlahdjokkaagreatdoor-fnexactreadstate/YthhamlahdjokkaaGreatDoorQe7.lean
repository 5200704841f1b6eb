/- BkRead FlIdx SrLaw FlBlk FlSpot SrOk -/
import Derived.Test.YthhamlahdjokkaaGreatDoorQe6
open List (setIfInBounds_toArray set_cons_zero set_cons_succ)
namespace Go.Proofs.YthhamlahdjokkaaGreatDoor
open Go.ChangeShapes Go.WideShapes Go.ChangeAt Go.RowKit Go.PlainAid
set_option linter.unusedVariables false
theorem cell_alloc_keep {w : World} {p : Addr} {x : Value} (h : w.cell? p = some x) (o : Obj) : (w.alloc o).cell? p = some x := by
 rw [((Below.refl w.heap.size w).alloc (Nat.le_refl _) o).cell (World.block_lt_of_cell? _ _ h)]
 exact h
set_option maxRecDepth 20000 in
set_option maxHeartbeats 2000000 in
theorem implPointsOf (t v : List Int) (ut uv : Value) (w : World) (ht : NumsV w w.heap.size ut t) (hv : NumsV w w.heap.size uv v) (hlt : t.length ≤ 1000) (hlv : v.length ≤ 1000) : Calls Tryz.prog 223 #[ut,uv] w fun e w' => (∃ u,e = .returned u ∧ Owns w' w.heap.size 98 2 u (ptR (zipP t v))) ∧ Below w.heap.size w w' := by
 obtain ⟨At,ct,rfl,_,_,h1⟩ := ht
 obtain ⟨Av,cv,rfl,_,_,h2⟩ := hv
 have HT : Hid (∀ j,j < t.length → ∃ g off,At = some ⟨g,off,none⟩ ∧ g < w.heap.size ∧ w.cell? ⟨g,off + j,none⟩ = some (.int .i64 (t.getD j 0))) := h1
 have HV : Hid (∀ j,j < v.length → ∃ g off,Av = some ⟨g,off,none⟩ ∧ g < w.heap.size ∧ w.cell? ⟨g,off + j,none⟩ = some (.int .i64 (v.getD j 0))) := h2
 have HZL : Hid ((zipP t v).length = min t.length v.length) := zipP_length t v
 have HZG : Hid (∀ k,k < t.length → k < v.length → (zipP t v).take (k + 1) = (zipP t v).take k ++ [⟨t.getD k 0,v.getD k 0⟩]) := zipP_get t v
 have q1 : (t.length : Int) ≤ 1000 := by omega
 have q2 : (v.length : Int) ≤ 1000 := by omega
 have hmn : min (t.length : Int) (v.length : Int) = ((min t.length v.length : Nat) : Int) := by omega
 have hmn2 : (if (v.length : Int) < (t.length : Int) then (v.length : Int) else (t.length : Int)) = ((min t.length v.length : Nat) : Int) := by split <;> omega
 clear h1 h2 hlt hlv
 generalize hn : t.length = n at *
 generalize hm : v.length = m at *
 generalize hN : min n m = N at *
 have HN : Hid (N ≤ n ∧ N ≤ m ∧ N ≤ 1000) := by unfold Hid; omega
 clear hn hm
 go_enter Tryz.func223,Tryz.ntmps223
 go_wp2_with fail
 go_loopw [5,12] (fun v5 v12 wr => ∃ k : Nat,k ≤ N ∧ v12 = .int .i64 (k : Int) ∧ Owns wr w.heap.size 98 2 v5 (ptR ((zipP t v).take k)) ∧ Below w.heap.size w wr) (fun _ i _ => N - (intOf i).toNat)
 case atStart => exact ⟨0,by omega,rfl,by rw [List.take_zero]; exact Owns.nil _ _ _ _,Below.refl _ _⟩
 case round =>
  obtain ⟨k,hk,rfl,hO,hb⟩ := hrel
  have HO := hQz hO
  have HB1 := hQz hb
  clear hO hb
  by_cases hlt : k < N
  ·have q3 : (k : Int) < (N : Int) := by omega
   have hkn := HN.out
   have q4 : (k : Int) < (n : Int) := by omega
   have q5 : (k : Int) < (m : Int) := by omega
   obtain ⟨gt,ot,rfl,hgt,hc1⟩ := HT.out k (by omega)
   obtain ⟨gv,ov,rfl,hgv,hc2⟩ := HV.out k (by omega)
   have HZ : Hid ((zipP t v).take (k + 1) = (zipP t v).take k ++ [⟨t.getD k 0,v.getD k 0⟩]) := HZG.out k (by omega) (by omega)
   rw [← HB1.out.cell (p := ⟨_,_,none⟩) hgt] at hc1
   rw [← HB1.out.cell (p := ⟨_,_,none⟩) hgv] at hc2
   generalize t.getD k 0 = x at *
   generalize v.getD k 0 = y at *
   have hz : w.heap.size ≤ wr.drew.heap.size := HB1.out.size
   obtain ⟨nA,nm,nc,w5,r5,hO5,hb5,hk5,_⟩ := run_append_row (P := Tryz.prog) wr.drew 99 99 98 (.agg #[.int .i64 0,.int .i64 0]) 2 16 Tryz.underlying99 Tryz.infoPt rfl (by omega) w.heap.size u5 (ptR ((zipP t v).take k)) (HO.out.kept fun _ _ _ => rfl) [.int .i64 x,.int .i64 y] rfl (pt_cells x y) (by rw [ptR_length,List.length_take]; omega) (by omega) hz
   have B5 := hQz ((HB1.out.drew).trans hb5)
   have O5 : Hid (Owns w5 w.heap.size 98 2 (.slice nA nm nc) (ptR ((zipP t v).take (k + 1)))) := by unfold Hid; rw [HZ.out,ptR_snoc']; exact hO5
   have S0 : Hid (wr.drew.cell? ⟨gt,ot + k,none⟩ = some (.int .i64 x) ∧ wr.drew.cell? ⟨gv,ov + k,none⟩ = some (.int .i64 y)) := ⟨hc1,hc2⟩
   clear hc1 hc2 hO5 hb5 hk5
   clear hgt hgv
   go_wp2_with fail
   refine wp_region_until (fun w' => w'.cell? ⟨gt,ot + k,none⟩ = some (.int .i64 x) ∧ w'.cell? ⟨gv,ov + k,none⟩ = some (.int .i64 y)) (fun i => i == 11 || i == 12) 13 (by rfl) (by kernel_rfl) ?_
   refine tKf 0 S0.out ?_
   refine tKf 1 S0.out ?_
   refine tKf 2 S0.out ?_
   refine tKf 3 S0.out ?_
   refine tKf 4 S0.out ?_
   refine tKf 5 S0.out ?_
   refine tKf 6 S0.out ?_
   refine tKf 7 S0.out ?_
   refine tKf 8 S0.out ?_
   refine tKf 9 S0.out ?_
   refine uNe 10 (fun K hK => ?_)
   go_simp
   refine hK.out _ _ (fun _ h => ⟨cell_alloc_keep h.1 _,cell_alloc_keep h.2 _⟩) ?_
   clear hK K
   try simp only [Act.put,zQ1,zQ2,zQ3]
   refine uNe 11 (fun K hK => ?_)
   refine step_append_run (by rfl) (.tmp 15) (.tmp 25) 99 (by rfl) _ _ _ _ (by rfl) (by rfl) r5 ?_
   refine hK.out _ _ (fun h => by cases h) ?_
   clear hK K
   try simp only [Act.put,zQ1,zQ2,zQ3]
   refine uNe 12 (fun K hK => ?_)
   go_simp
   refine hK.out _ _ (fun h => by cases h) ?_
   clear hK K
   try simp only [Act.put,zQ1,zQ2,zQ3]
   refine until_done (by kernel_rfl) ?_ _
   go_wp2_with fail
   go_roundw
   case rel => exact ⟨k + 1,by omega,by go_num,O5.out,B5.out⟩
   case measure => simp [intOf]; omega
  ·obtain rfl : k = N := by omega
   have hF := HO.out
   rw [List.take_of_length_le (by rw [HZL.out]; exact Nat.le_refl _)] at hF
   have HF := hQz hF
   clear hF HO
   go_wp2_with fail
   go_ret
   exact ⟨⟨_,rfl,HF.out⟩,HB1.out⟩
theorem unf_body (s : ByteArray) : ∃ k c : Nat,unf s = #[.string (bodyR s),.int .i64 (k : Int),.int .i64 (c : Int)] ∧ ((code s = 0 ∧ k = 8 + rdv s 4) ∨ (code s ≠ 0 ∧ k = 0 ∧ bodyR s = ⟨#[]⟩)) := by
 by_cases h : code s = 0
 ·refine ⟨8 + rdv s 4,0,?_,.inl ⟨h,rfl⟩⟩
  rw [unf,if_pos h,bodyR,if_pos h]
  rfl
 ·refine ⟨0,code s,?_,.inr ⟨h,rfl,by rw [bodyR,if_neg h]⟩⟩
  rw [unf,if_neg h,bodyR,if_neg h]
  rfl
set_option maxHeartbeats 4000000 in
theorem implReadBlock (s : ByteArray) (w : World) (hs : s.size ≤ 1048576) (hst : SumTab w) (a0 a1 a2 : Addr) (he : Errs w a0 a1 a2) : Calls Tryz.prog 203 #[.string s] w fun e w' => (∃ u l ok,RbAns s l ok ∧ e = .returned (.tuple #[u,.bool ok]) ∧ Owns w' w.heap.size 98 2 u (ptR l)) ∧ Below w.heap.size w w' := by
 have ST := hQz hst
 have cU := impl_unframe s w hs hst a0 a1 a2 he
 obtain ⟨k0,c0,hu,_⟩ := unf_body s
 rw [hu] at cU
 have hbz := bodyR_size s
 have qs : (s.size : Int) ≤ 1048576 := by omega
 clear hst he hu
 go_enter Tryz.func203,Tryz.ntmps203
 go_wp2_with fail
 refine cU.mono ?_
 rintro e w1 ⟨rfl,hb⟩
 have B1 := hQz hb
 clear hb cU
 have cV := impl_readVar (bodyR s) w1 (by omega)
 go_wp2_with fail
 refine cV.mono ?_
 rintro e w1' ⟨hRV,rfl⟩
 obtain ⟨n,k,hRd,rfl⟩ := hRV.rd
 have hle := hRd.le
 have HR : Hid (RdV (bodyR s) n k) := hRd
 have hsz : ((bodyR s).extract k (bodyR s).size).size ≤ 2000 := by rw [ByteArray.size_extract]; omega
 have cT := implReadTimesA ((bodyR s).extract k (bodyR s).size) n w1 (by omega)
 have qk : (k : Int) ≤ 7 := by omega
 have qb : ((bodyR s).size : Int) ≤ 2000 := by omega
 have qkb : (k : Int) ≤ ((bodyR s).size : Int) := by omega
 have hkb : k ≤ (bodyR s).size := hle.1
 clear hRd hRV cV hle
 go_wp2_with fail
 refine cT.mono ?_
 rintro e w2 ⟨⟨t,a,ut,hAT,rfl,hNT⟩,hb⟩
 have HAT : Hid (RdAns showT rowT ((bodyR s).extract k (bodyR s).size) n t a) := hAT
 have hsh := hAT.short rowT_length
 have LT : Hid (t.length ≤ 60) := hsh.1
 have hak : k + a ≤ (bodyR s).size := by have h2 := hsh.2; rw [ByteArray.size_extract] at h2; omega
 have B2 := hQz (B1.out.trans (hb.mono B1.out.size))
 have NT := hQz hNT
 have cW := implReadValuesA ((bodyR s).extract (k + a) (bodyR s).size) n w2 (by rw [ByteArray.size_extract]; omega)
 have qa : (k : Int) + (a : Int) ≤ ((bodyR s).size : Int) := by omega
 have qa1 : (a : Int) ≤ 2000 := by omega
 have ena : ((k : Int) + (a : Int)).toNat = k + a := by omega
 clear hAT hNT hb cT hsh hsz
 go_wp2_with fail
 refine cW.mono ?_
 rintro e w3 ⟨⟨v,b,uv,hAV,rfl,hNV⟩,hb⟩
 have HST : Hid (Steps s n k t a v b) := ⟨HR.out,HAT.out,hAV⟩
 have LV : Hid (v.length ≤ 60) := (hAV.short rowV_length).1
 have B3 := hQz (B2.out.trans (hb.mono B2.out.size))
 have NT3 := hQz (NT.out.on hb)
 have NV3 := hQz hNV
 clear hAV hNV hb cW NT
 have cP := implPointsOf t v ut uv w3 NT3.out.lies NV3.out.lies (by have := LT.out; omega) (by have := LV.out; omega)
 go_wp2_with fail
 refine cP.mono ?_
 rintro e w4 ⟨⟨up,rfl,hO⟩,hb⟩
 have B4 := hQz (B3.out.trans (hb.mono B3.out.size))
 have OP := hQz hO
 have LZ : Hid ((zipP t v).length ≤ 60) := by unfold Hid; rw [zipP_length]; have := LT.out; omega
 clear hO hb cP
 have cS := implShowBlock (zipP t v) up w4 w4.heap.size OP.out.lies (by have := LZ.out; omega) (Nat.le_refl _) (ST.out.on B4.out)
 obtain ⟨Ap,cp,rfl,_⟩ := pt_look OP.out.lies
 have HG1 : Hid (∀ m,Good s m → zipP t v = m) := fun m hm => (HST.out.good hm).1
 have HG2 : Hid (1 ≤ (zipP t v).length → showB (zipP t v) = s → Good s (zipP t v)) := fun h1 h2 => HST.out.shown h1 h2
 have qz : ((zipP t v).length : Int) ≤ 60 := by have := LZ.out; omega
 generalize zipP t v = l at *
 by_cases h0 : l.length = 0
 ·have HNO : Hid (∀ m,¬ Good s m) := fun m hm => by have e := HG1.out m hm; subst e; have := hm.1; omega
  rw [h0]
  clear h0 qz
  go_wp2_with fail
  go_ret2
  exact ⟨⟨_,[],false,.inr ⟨rfl,rfl,HNO.out⟩,rfl,Owns.nil _ _ _ _⟩,B4.out⟩
 have d0 : decide (l.length = 0) = false := decide_eq_false h0
 have d1 : ((l.length : Int) == 0) = false := by rw [beq_eq_false_iff_ne]; omega
 have H1 : Hid (1 ≤ l.length) := by unfold Hid; omega
 have HLL := hQz (OP.out)
 generalize hln : l.length = ln at *
 by_cases hsh : showB l = s
 ·have HG : Hid (Good s l) := HG2.out (by have := H1.out; omega) hsh
  have db := bytes_eq hsh
  go_wp2_with fail
  refine cS.mono ?_
  rintro e w5 ⟨rfl,hb5⟩
  have B5 := hQz (B4.out.trans (hb5.mono B4.out.size))
  have O5 := hQz ((HLL.out.on hb5).mono B3.out.size)
  clear hb5 cS
  rw [hsh]
  go_wp2_with fail
  go_ret2
  exact ⟨⟨_,l,true,.inl ⟨rfl,HG.out⟩,rfl,O5.out⟩,B5.out⟩
 ·have HNO : Hid (∀ m,¬ Good s m) := fun m hm => by have e := HG1.out m hm; subst e; exact hsh hm.2.2
  have db := bytes_ne hsh
  go_wp2_with fail
  refine cS.mono ?_
  rintro e w5 ⟨rfl,hb5⟩
  have B5 := hQz (B4.out.trans (hb5.mono B4.out.size))
  clear hb5 cS hsh
  go_wp2_with fail
  go_ret2
  exact ⟨⟨_,[],false,.inr ⟨rfl,rfl,HNO.out⟩,rfl,Owns.nil _ _ _ _⟩,B5.out⟩
set_option maxHeartbeats 4000000 in
theorem readSpotV (s : ByteArray) (p g : Nat) (w : World) (hb : CurB w g s p 231) (hs : s.size ≤ 1048576) (hp : p ≤ s.size) : Calls Tryz.prog 197 #[.pointer (some ⟨g,0,none⟩)] w fun e w' => e = .returned (vSp (spotA s p)) ∧ CurB w' g s (spotP s p) 231 ∧ KeptBut g w w' := by
 have HB : Hid (CurB w g s p 231) := hb
 have HS : Hid (s.size ≤ 1048576) := hs
 have HP : Hid (p ≤ s.size) := hp
 have HNG : Hid (w.heap.size ≠ g) := by have := Blk.lt hb; unfold Hid; omega
 have HGL : Hid (g < w.heap.size) := Blk.lt hb
 have HL2 : Hid (tkP s p ≤ s.size) := tkP_le _ _ hp
 have HL3 : Hid (spK s p ≤ s.size) := tk_le _ _ _
 have HL4 : Hid (tkP s (spK s p) ≤ s.size) := tkP_le _ _ HL3.out
 have HL5 : Hid (tkP s (tkP s (spK s p)) ≤ s.size) := tkP_le _ _ HL4.out
 have HL6 : Hid (tkP s (tkP s (tkP s (spK s p))) ≤ s.size) := tkP_le _ _ HL5.out
 have HM : Hid (tkN s p ≤ 562949953421311) := rvN_le _
 have HE : vSp (spotA s p) = .agg #[.string (s.extract (tkP s p) (spK s p)),.int .i64 (tkN s (spK s p) : Int),.int .i64 (tkN s (tkP s (spK s p)) : Int),.int .i64 (tkN s (tkP s (tkP s (spK s p))) : Int),.int .i64 (tkN s (tkP s (tkP s (tkP s (spK s p)))) : Int)] := rfl
 have HQ : spotP s p = tkP s (tkP s (tkP s (tkP s (spK s p)))) := rfl
 rw [HE,HQ]
 have c1 := fun wx (hC : CurB wx g s p 231) => takeVarV s p g wx hC hs hp
 have c2 : ∀ wx,CurB wx g s (tkP s p) 231 → Calls Tryz.prog 204 #[.pointer (some ⟨g,0,none⟩),.int .i64 (tkN s p : Int)] wx fun e w' => e = .returned (.string (s.extract (tkP s p) (spK s p))) ∧ CurB w' g s (spK s p) 231 ∧ KeptBut g wx w' := fun wx hC => takeV s (tkP s p) (tkN s p) g wx hC hs HL2.out HM.out
 have c3 := fun wx (hC : CurB wx g s (spK s p) 231) => takeVarV s (spK s p) g wx hC hs HL3.out
 have c4 := fun wx (hC : CurB wx g s (tkP s (spK s p)) 231) => takeVarV s (tkP s (spK s p)) g wx hC hs HL4.out
 have c5 := fun wx (hC : CurB wx g s (tkP s (tkP s (spK s p))) 231) => takeVarV s (tkP s (tkP s (spK s p))) g wx hC hs HL5.out
 have c6 := fun wx (hC : CurB wx g s (tkP s (tkP s (tkP s (spK s p)))) 231) => takeVarV s (tkP s (tkP s (tkP s (spK s p)))) g wx hC hs HL6.out
 clear HE HQ HL2 HL3 HL4 HL5 HL6 HM
 generalize (tkN s (tkP s (tkP s (tkP s (spK s p)))) : Int) = y4 at *
 generalize (tkN s (tkP s (tkP s (spK s p))) : Int) = y3 at *
 generalize (tkN s (tkP s (spK s p)) : Int) = y2 at *
 generalize (tkN s (spK s p) : Int) = y1 at *
 generalize s.extract (tkP s p) (spK s p) = y0 at *
 generalize tkP s (tkP s (tkP s (tkP s (spK s p)))) = p6 at *
 generalize tkP s (tkP s (tkP s (spK s p))) = p5 at *
 generalize tkP s (tkP s (spK s p)) = p4 at *
 generalize tkP s (spK s p) = p3 at *
 generalize spK s p = p2 at *
 generalize tkP s p = p1 at *
 generalize (tkN s p : Int) = n0 at *
 have C0 : Hid (CurB (w.alloc (.cells #[.string ⟨#[]⟩,.int .i64 0,.int .i64 0,.int .i64 0,.int .i64 0] 127)) g s p 231) := Blk.alloc hb _
 have R0 : Hid (Blk (w.alloc (.cells #[.string ⟨#[]⟩,.int .i64 0,.int .i64 0,.int .i64 0,.int .i64 0] 127)) w.heap.size #[.string ⟨#[]⟩,.int .i64 0,.int .i64 0,.int .i64 0,.int .i64 0] 127) := Blk.new w _ _
 have D0 : Hid (KeptBut g w (w.alloc (.cells #[.string ⟨#[]⟩,.int .i64 0,.int .i64 0,.int .i64 0,.int .i64 0] 127))) := KeptBut.of ((Below.refl _ w).alloc (Nat.le_refl _) _) HGL.out
 clear hb hs hp
 go_enter Tryz.func197,Tryz.ntmps197
 go_wp2_with fail
 refine (c1 _ C0.out).mono ?_
 rintro e X1 ⟨rfl,hC,hk⟩
 have C1 : Hid (CurB X1 g s p1 231) := hC
 have D1 := hQz (D0.out.trans hk)
 have R1 : Hid (Blk X1 w.heap.size #[.string ⟨#[]⟩,.int .i64 0,.int .i64 0,.int .i64 0,.int .i64 0] 127) := hk.blk R0.out HNG.out
 clear hC hk
 go_wp2_with fail
 refine (c2 _ C1.out).mono ?_
 rintro e X2 ⟨rfl,hC,hk⟩
 have C2 : Hid (CurB X2 g s p2 231) := hC
 have D2 := hQz (D1.out.trans hk)
 have R2 : Hid (Blk X2 w.heap.size #[.string ⟨#[]⟩,.int .i64 0,.int .i64 0,.int .i64 0,.int .i64 0] 127) := hk.blk R1.out HNG.out
 clear hC hk
 go_wp2_with fail
 refine (c3 _ C2.out).mono ?_
 rintro e X3 ⟨rfl,hC,hk⟩
 have C3 : Hid (CurB X3 g s p3 231) := hC
 have D3 := hQz (D2.out.trans hk)
 have R3 : Hid (Blk X3 w.heap.size #[.string ⟨#[]⟩,.int .i64 0,.int .i64 0,.int .i64 0,.int .i64 0] 127) := hk.blk R2.out HNG.out
 clear hC hk
 go_wp2_with fail
 refine (c4 _ C3.out).mono ?_
 rintro e X4 ⟨rfl,hC,hk⟩
 have C4 : Hid (CurB X4 g s p4 231) := hC
 have D4 := hQz (D3.out.trans hk)
 have R4 : Hid (Blk X4 w.heap.size #[.string ⟨#[]⟩,.int .i64 0,.int .i64 0,.int .i64 0,.int .i64 0] 127) := hk.blk R3.out HNG.out
 clear hC hk
 go_wp2_with fail
 refine (c5 _ C4.out).mono ?_
 rintro e X5 ⟨rfl,hC,hk⟩
 have C5 : Hid (CurB X5 g s p5 231) := hC
 have D5 := hQz (D4.out.trans hk)
 have R5 : Hid (Blk X5 w.heap.size #[.string ⟨#[]⟩,.int .i64 0,.int .i64 0,.int .i64 0,.int .i64 0] 127) := hk.blk R4.out HNG.out
 clear hC hk
 go_wp2_with fail
 refine (c6 _ C5.out).mono ?_
 rintro e X6 ⟨rfl,hC,hk⟩
 have C6 : Hid (CurB X6 g s p6 231) := hC
 have D6 := hQz (D5.out.trans hk)
 have R6 : Hid (Blk X6 w.heap.size #[.string ⟨#[]⟩,.int .i64 0,.int .i64 0,.int .i64 0,.int .i64 0] 127) := hk.blk R5.out HNG.out
 clear hC hk
 clear c1 c2 c3 c4 c5 c6
 have p0 := R6.out
 have g0 : X6.cell? ⟨w.heap.size,0,none⟩ = some (.string ⟨#[]⟩) := p0.cell 0 _ rfl
 have h0 := p0.free 0
 have g1 : X6.cell? ⟨w.heap.size,1,none⟩ = some (.int .i64 0) := p0.cell 1 _ rfl
 have h1 := p0.free 1
 have g2 : X6.cell? ⟨w.heap.size,2,none⟩ = some (.int .i64 0) := p0.cell 2 _ rfl
 have h2 := p0.free 2
 have g3 : X6.cell? ⟨w.heap.size,3,none⟩ = some (.int .i64 0) := p0.cell 3 _ rfl
 have h3 := p0.free 3
 have g4 : X6.cell? ⟨w.heap.size,4,none⟩ = some (.int .i64 0) := p0.cell 4 _ rfl
 have h4 := p0.free 4
 have p1 := p0.set 0 (.string y0)
 have p2 := p1.set 1 (.int .i64 y1)
 have p3 := p2.set 2 (.int .i64 y2)
 have p4 := p3.set 3 (.int .i64 y3)
 have p5 := p4.set 4 (.int .i64 y4)
 generalize hW5 : (((((X6.setCell ⟨w.heap.size,0,none⟩ (.string y0)).setCell ⟨w.heap.size,1,none⟩ (.int .i64 y1)).setCell ⟨w.heap.size,2,none⟩ (.int .i64 y2)).setCell ⟨w.heap.size,3,none⟩ (.int .i64 y3)).setCell ⟨w.heap.size,4,none⟩ (.int .i64 y4)) = W5 at p5
 have P5 := hQz p5
 have PE : Hid (CurB W5 g s p6 231) := by
  rw [← hW5]
  exact ((((Blk.other C6.out (Ne.symm HNG.out) _ _).other (Ne.symm HNG.out) _ _).other (Ne.symm HNG.out) _ _).other (Ne.symm HNG.out) _ _).other (Ne.symm HNG.out) _ _
 have KE : Hid (KeptBut g w W5) := by
  rw [← hW5]
  have hk : w.heap.size ≤ w.heap.size := Nat.le_refl _
  have hg : g ≤ w.heap.size := by have := HGL.out; omega
  exact ((((D6.out.setNew hk hg _ _).setNew hk hg _ _).setNew hk hg _ _).setNew hk hg _ _).setNew hk hg _ _
 clear p0 p1 p2 p3 p4 p5
 have k0 := P5.out.cell 0 (.string y0) rfl
 have k1 := P5.out.cell 1 (.int .i64 y1) rfl
 have k2 := P5.out.cell 2 (.int .i64 y2) rfl
 have k3 := P5.out.cell 3 (.int .i64 y3) rfl
 have k4 := P5.out.cell 4 (.int .i64 y4) rfl
 go_wp2_with fail
 exact bodyPost_ret (v := .agg #[.string y0,.int .i64 y1,.int .i64 y2,.int .i64 y3,.int .i64 y4]) (by simp [results,go_sem,k0,k1,k2,k3,k4]) rfl ⟨rfl,PE.out,KE.out⟩
set_option maxHeartbeats 4000000 in
theorem readBlockV (s : ByteArray) (p g : Nat) (x : Spot) (w w0 : World) (hb : CurB w g s p 231) (hs : s.size ≤ 1048576) (hx : x.at' ≤ 562949953421311 ∧ x.size ≤ 562949953421311) (hw : Below w0.heap.size w0 w) (hg : w0.heap.size ≤ g) (hst : SumTab w0) (a0 a1 a2 : Addr) (he : Errs w0 a0 a1 a2) : Calls Tryz.prog 193 #[.pointer (some ⟨g,0,none⟩),vSp x] w fun e w' => (∃ u,e = .returned u ∧ Owns w' w.heap.size 98 2 u (ptR (rbP (blkA s x)))) ∧ (∃ p',CurB w' g s p' 231) ∧ KeptBut g w w' := by
 have HS : Hid (s.size ≤ 1048576) := hs
 have HW := hQz hw
 have HG : Hid (w0.heap.size ≤ g) := hg
 have ST := hQz hst
 have ER := hQz he
 have HNG : Hid (w.heap.size ≠ g) := by have := Blk.lt hb; unfold Hid; omega
 have HGL : Hid (g < w.heap.size) := Blk.lt hb
 have HBA : Hid (s.extract (min x.at' s.size) (tk s (min x.at' s.size) x.size) = blkA s x) := rfl
 unfold vSp
 obtain ⟨xk,xa,xz,xf,xl⟩ := x
 simp only at hx HBA ⊢
 have C0 : Hid (CurB (w.alloc (.cells #[.string xk,.int .i64 (xa : Int),.int .i64 (xz : Int),.int .i64 (xf : Int),.int .i64 (xl : Int)] 127)).drew g s p 231) := Blk.alloc hb _
 have R0 : Hid (Blk (w.alloc (.cells #[.string xk,.int .i64 (xa : Int),.int .i64 (xz : Int),.int .i64 (xf : Int),.int .i64 (xl : Int)] 127)).drew w.heap.size #[.string xk,.int .i64 (xa : Int),.int .i64 (xz : Int),.int .i64 (xf : Int),.int .i64 (xl : Int)] 127) := Blk.new w _ _
 have D0 : Hid (KeptBut g w (w.alloc (.cells #[.string xk,.int .i64 (xa : Int),.int .i64 (xz : Int),.int .i64 (xf : Int),.int .i64 (xl : Int)] 127)).drew) := (KeptBut.of ((Below.refl _ w).alloc (Nat.le_refl _) _) HGL.out).drew
 have cg := goToV s p xa (w.alloc (.cells #[.string xk,.int .i64 (xa : Int),.int .i64 (xz : Int),.int .i64 (xf : Int),.int .i64 (xl : Int)] 127)).drew g 231 C0.out hs (by omega)
 have HZ : Hid (xz ≤ 562949953421311) := hx.2
 have S0 : Hid ((w.alloc (.cells #[.string xk,.int .i64 (xa : Int),.int .i64 (xz : Int),.int .i64 (xf : Int),.int .i64 (xl : Int)] 127)).drew.cell? ⟨w.heap.size,1,none⟩ = some (.int .i64 (xa : Int))) := R0.out.cell 1 _ rfl
 have HPm : Hid (min xa s.size ≤ s.size) := Nat.min_le_right _ _
 clear hb hs hx hw hg hst he
 generalize hq : min xa s.size = q at *
 clear hq
 go_enter Tryz.func193,Tryz.ntmps193
 go_wp2_with fail
 refine wp_region_until (fun w' => w'.cell? ⟨w.heap.size,1,none⟩ = some (.int .i64 (xa : Int))) (fun _ => false) 6 (by rfl) (by kernel_rfl) ?_
 refine tKf 0 S0.out ?_
 refine tKf 1 S0.out ?_
 refine tKf 2 S0.out ?_
 refine tKf 3 S0.out ?_
 refine tKf 4 S0.out ?_
 refine uNe 5 (fun K hK => ?_)
 go_simp
 refine cg.mono ?_
 rintro e X1 ⟨⟨u,rfl⟩,hX⟩
 have C1 : Hid (CurB X1 g s q 231) := by rw [hX]; exact Blk.set C0.out 1 _
 have R1 : Hid (Blk X1 w.heap.size #[.string xk,.int .i64 (xa : Int),.int .i64 (xz : Int),.int .i64 (xf : Int),.int .i64 (xl : Int)] 127) := by rw [hX]; exact Blk.other R0.out HNG.out _ _
 have D1 : Hid (KeptBut g w X1) := by rw [hX]; exact D0.out.set 1 _
 clear hX
 go_wp2_with fail
 refine hK.out _ _ (fun _ _ => R1.out.cell 1 _ rfl) ?_
 clear hK K
 try simp only [Act.put,zQ1,zQ2,zQ3]
 refine until_done (by kernel_rfl) ?_ _
 have m2 := R1.out.cell 2 (.int .i64 (xz : Int)) rfl
 go_wp2_with fail
 refine (takeV s q xz g X1 C1.out HS.out HPm.out HZ.out).mono ?_
 rintro e X2 ⟨rfl,hC,hk⟩
 rw [HBA.out]
 have C2 : Hid (CurB X2 g s (tk s q xz) 231) := hC
 have D2 := hQz (D1.out.trans hk)
 clear hC hk m2
 have B2 : Hid (Below w0.heap.size w0 X2) := HW.out.trans (D2.out.1.mono HG.out)
 have HBs : Hid ((blkA s ⟨xk,xa,xz,xf,xl⟩).size ≤ 1048576) := by unfold Hid blkA; rw [ByteArray.size_extract]; have := HS.out; omega
 go_wp2_with fail
 refine (implReadBlock (blkA s ⟨xk,xa,xz,xf,xl⟩) X2 HBs.out (ST.out.on B2.out) a0 a1 a2 (ER.out.on B2.out)).mono ?_
 rintro e X3 ⟨⟨u3,l3,ok3,hR,rfl,hO⟩,hb3⟩
 obtain rfl := rbP_is hR
 have C3 : Hid (CurB X3 g s (tk s q xz) 231) := Blk.on C2.out hb3 (Blk.lt C2.out)
 have D3 : Hid (KeptBut g w X3) := D2.out.trans (KeptBut.of hb3 (Blk.lt C2.out))
 have O3 := hQz (hO.mono D2.out.size)
 clear hb3 hO hR
 go_wp2_with fail
 go_ret
 exact ⟨⟨_,rfl,O3.out⟩,⟨_,C3.out⟩,D3.out⟩
def left5 (v : Value) : Nat := match v with
 | .slice _ m _ => 5 - m
 | _ => 0
set_option maxHeartbeats 4000000 in
theorem readIndexV (s : ByteArray) (p0 g : Nat) (w : World) (hb : CurB w g s p0 231) (hs : s.size ≤ 1048576) : Calls Tryz.prog 174 #[.pointer (some ⟨g,0,none⟩)] w fun e w' => (∃ u,e = .returned u ∧ Owns w' w.heap.size 127 5 u (spR (spots s))) ∧ (∃ p',CurB w' g s p' 231) ∧ KeptBut g w w' := by
 have HB : Hid (CurB w g s p0 231) := hb
 have HS : Hid (s.size ≤ 1048576) := hs
 have HGL : Hid (g < w.heap.size) := Blk.lt hb
 have m0 : w.cell? ⟨g,0,none⟩ = some (.string s) := Blk.cell hb 0 _ rfl
 have q0 : (s.size : Int) ≤ 1048576 := by omega
 clear hb
 by_cases h8 : s.size < 8
 ·have HE : Hid (spots s = []) := by unfold Hid spots; rw [if_pos h8]
  have q1 : (s.size : Int) < 8 := by omega
  have d1 : (s.size : Int) - 8 < 0 := by omega
  clear hs h8
  go_enter Tryz.func174,Tryz.ntmps174
  go_wp2_with fail
  go_ret
  exact ⟨⟨_,rfl,by rw [HE.out]; exact Owns.nil _ _ _ _⟩,⟨_,HB.out⟩,KeptBut.refl _ _⟩
 have HE : Hid (spots s = idxA s (s.size - 8) 5 (min (rdv (rest s (s.size - 8)) 4) s.size)) := by unfold Hid spots; rw [if_neg h8]
 have q1 : (8 : Int) ≤ (s.size : Int) := by omega
 have d1 : decide ((s.size : Int) - 8 < 0) = false := decide_eq_false (by omega)
 have e2 : ((s.size : Int) - 8).toNat = s.size - 8 := by omega
 have HRs : Hid ((s.extract (s.size - 8) s.size).size = 8) := by unfold Hid; rw [ByteArray.size_extract]; omega
 have c1 := fun wx => impl_readFixed (s.extract (s.size - 8) s.size) 4 wx (by rw [HRs.out]; unfold maxLen; omega) (by omega) (by omega) (by rw [HRs.out]; omega)
 have hlt := rdv_four_lt (s.extract (s.size - 8) s.size)
 have HRb : Hid (rdv (s.extract (s.size - 8) s.size) 4 = rdv (rest s (s.size - 8)) 4) := rfl
 clear hs h8
 have cg := goToV s p0 (rdv (s.extract (s.size - 8) s.size) 4) w g 231 HB.out HS.out (by omega)
 rw [← HRb.out] at HE
 have HP0 : Hid (min (rdv (s.extract (s.size - 8) s.size) 4) s.size ≤ s.size) := Nat.min_le_right _ _
 have HSP := hQz (HE.out)
 clear HE
 generalize min (rdv (s.extract (s.size - 8) s.size) 4) s.size = pb at *
 generalize rdv (s.extract (s.size - 8) s.size) 4 = rd at *
 have C1 : Hid (CurB (w.setCell ⟨g,1,none⟩ (.int .i64 (pb : Int))) g s pb 231) := Blk.set HB.out 1 _
 have D1 : Hid (KeptBut g w (w.setCell ⟨g,1,none⟩ (.int .i64 (pb : Int)))) := (KeptBut.refl g w).set 1 _
 go_enter Tryz.func174,Tryz.ntmps174
 go_wp2_with fail
 refine (c1 _).mono ?_
 rintro e w' ⟨rfl,rfl⟩
 go_wp2_with fail
 refine cg.mono ?_
 rintro e X1 ⟨⟨u,rfl⟩,rfl⟩
 go_wp2_with fail
 clear c1 cg m0 hlt
 go_loopw [6] (fun v6 wr => ∃ (P : List Spot) (p : Nat),P.length ≤ 5 ∧ p ≤ s.size ∧ Owns wr w.heap.size 127 5 v6 (spR P) ∧ CurB wr g s p 231 ∧ KeptBut g w wr ∧ Hid (P ++ idxA s (s.size - 8) (5 - P.length) p = spots s)) (fun v _ => left5 v)
 case atStart => exact ⟨[],pb,by simp,HP0.out,Owns.nil _ _ _ _,C1.out,D1.out,HSP.out.symm⟩
 case round =>
  obtain ⟨P,p,hP,hp,hO,hC,hk,HX⟩ := hrel
  have HO := hQz hO
  have HC : Hid (CurB wr g s p 231) := hC
  have HKB : Hid (KeptBut g w wr) := hk
  have HPs : Hid (p ≤ s.size) := hp
  obtain ⟨A6,c6,e6,_⟩ := sp_look hO.lies
  subst e6
  have m1 : wr.cell? ⟨g,1,none⟩ = some (.int .i64 (p : Int)) := Blk.cell hC 1 _ rfl
  clear hO hC hk hp
  generalize hm : P.length = m at *
  have HMm : Hid (P.length = m) := hm
  clear hm
  by_cases hpe : p < s.size - 8
  ·have q5 : (p : Int) < (s.size : Int) - 8 := by omega
   by_cases hm5 : m < 5
   ·have q6 : (m : Int) < 5 := by omega
    have q7 : decide ((m : Int) < 5) = true := decide_eq_true q6
    have cr := readSpotV s p g wr HC.out HS.out HPs.out
    have HX2 : Hid ((P ++ [spotA s p]) ++ idxA s (s.size - 8) (5 - (P ++ [spotA s p]).length) (spotP s p) = spots s) := by
     unfold Hid
     rw [← HX.out]
     have e5 : 5 - m = (5 - (m + 1)) + 1 := by omega
     rw [e5,idxA,if_pos hpe,List.length_append,HMm.out,List.append_assoc]
     rfl
    have HPl : Hid (spotP s p ≤ s.size) := spotP_le _ _
    have hLn : (P ++ [spotA s p]).length = m + 1 := by rw [List.length_append,HMm.out]; rfl
    have HLn : Hid ((P ++ [spotA s p]).length = m + 1) := hLn
    have HRw : Hid (spR (P ++ [spotA s p]) = spR P ++ [spC (spotA s p)]) := spR_append _ _
    unfold vSp at cr
    generalize spotA s p = x at *
    generalize spotP s p = p' at *
    clear hLn
    go_wp2_with fail
    refine (placeV wr g p m1).mono ?_
    rintro e w' ⟨rfl,rfl⟩
    clear m1
    go_wp2_with fail
    refine cr.mono ?_
    rintro e X2 ⟨rfl,hC2,hk2⟩
    have hOn : (Value.slice A6 m c6).ownBlock ≠ some g := fun e => by have := (HO.out.lt g e).1; have := HGL.out; omega
    have C2 : Hid (CurB X2 g s p' 231) := hC2
    have D2 := hQz (HKB.out.trans hk2)
    have O2 : Hid (Owns X2 w.heap.size 127 5 (.slice A6 m c6) (spR P)) := hk2.owns HO.out hOn
    have HOn : Hid ((Value.slice A6 m c6).ownBlock ≠ some g) := hOn
    have Z2 : w.heap.size ≤ X2.heap.size := D2.out.size
    have L2 : Hid ((spR P).length ≤ 2097152) := by unfold Hid; rw [spR_length,HMm.out]; omega
    clear hC2 hk2 cr hOn
    go_wp2_with (at_builtin; refine wpList_append_row (w := X2) rfl (.tmp 43) (.tmp 46) 125 127 (.agg #[.string ⟨#[]⟩,.int .i64 0,.int .i64 0,.int .i64 0,.int .i64 0]) 5 48 rfl Tryz.underlying125 Tryz.infoSp rfl (by omega) w.heap.size (.slice A6 m c6) (spR P) rfl O2.out (spC x) rfl (sp_one _) rfl L2.out (by omega) Z2 ?_; intro v2 w4 hO4 hb4 hk4 hw4; refine Shut.out ?_)
    unfold Shut
    have O4 : Hid (Owns w4 w.heap.size 127 5 v2 (spR (P ++ [x]))) := by unfold Hid; rw [HRw.out]; exact hO4
    have C4 := hQz ((hk4 g (Blk.lt C2.out) HOn.out).trans C2.out)
    have D4 : Hid (KeptBut g w w4) := ⟨D2.out.1.trans (hb4.mono (by have := HGL.out; omega)),fun b hb hl => by
     rw [hk4 b (Nat.lt_of_lt_of_le hl D2.out.size) (fun e => by have := (O2.out.lt b e).1; omega)]
     exact D2.out.2 b hb hl⟩
    obtain ⟨A7,c7,e7,_⟩ := sp_look O4.out.lies
    rw [HLn.out] at e7
    subst e7
    clear hO4 hb4 hk4 hw4
    go_wp2_with fail
    go_roundw
    case rel => exact ⟨P ++ [x],p',by rw [HLn.out]; omega,HPl.out,O4.out,C4.out,D4.out,HX2.out⟩
    case measure => simp [left5]; omega
   ·have q6 : ¬ (m : Int) < 5 := by omega
    have q7 : decide ((m : Int) < 5) = false := decide_eq_false q6
    have HF : Hid (P = spots s) := by
     unfold Hid
     rw [← HX.out,show 5 - m = 0 by omega,idxA,List.append_nil]
    go_wp2_with fail
    refine (placeV wr g p m1).mono ?_
    rintro e w' ⟨rfl,rfl⟩
    go_wp2_with fail
    go_ret
    exact ⟨⟨_,rfl,by rw [← HF.out]; exact HO.out⟩,⟨_,HC.out⟩,HKB.out⟩
  ·have q5 : ¬ (p : Int) < (s.size : Int) - 8 := by omega
   have q7 : decide ((p : Int) < (s.size : Int) - 8) = false := decide_eq_false q5
   have HF : Hid (P = spots s) := by
    unfold Hid
    rw [← HX.out]
    generalize 5 - m = f
    cases f with
    | zero => rw [idxA,List.append_nil]
    | succ f => rw [idxA,if_neg hpe,List.append_nil]
   go_wp2_with fail
   refine (placeV wr g p m1).mono ?_
   rintro e w' ⟨rfl,rfl⟩
   go_wp2_with fail
   go_ret
   exact ⟨⟨_,rfl,by rw [← HF.out]; exact HO.out⟩,⟨_,HC.out⟩,HKB.out⟩
set_option maxHeartbeats 1000000 in
theorem readerOfV (s : ByteArray) (w : World) : Calls Tryz.prog 173 #[.string s] w fun e w' => e = .returned (.pointer (some ⟨w.heap.size,0,none⟩)) ∧ w' = w.alloc (.cells #[.string s,.int .i64 0] 231) := by
 go_enter Tryz.func173,Tryz.ntmps173
 go_wp2
 go_ret
 exact ⟨rfl,rfl⟩
def wtS1 (x : Ser) : Nat := x.key.size + x.pts.length
def wtS (l : List Ser) : Nat := (l.map wtS1).sum
theorem wtS_snoc (l : List Ser) (k : Nat) (h : k < l.length) : wtS (l.take (k + 1)) = wtS (l.take k) + wtS1 (l.getD k default) := by
 unfold wtS
 rw [take_getD l k h,List.map_append,List.sum_append]
 simp
def SShort (l : List Ser) : Prop := l.length ≤ 1048576 ∧ ∀ x ∈ l,x.pts.length ≤ 1048576
theorem SShort.at {l : List Ser} (h : SShort l) (k : Nat) (hk : k < l.length) : (l.getD k default).pts.length ≤ 1048576 := h.2 _ (getD_mem l k hk)
theorem Tryz.infoSr : (Tryz.prog.info? 101).map (fun i => (i.zero,i.size,i.bytes)) = some (some (.agg #[.string ⟨#[]⟩,.slice none 0 0]),2,40) := by kernel_rfl
set_option maxHeartbeats 1000000 in
theorem eqSeries (x : Ser) (u v : Value) (w : World) (B : Nat) (hu : Lies w B 2 u (ptR x.pts)) (hv : Lies w B 2 v (ptR x.pts)) (hn : x.pts.length ≤ 1048576) (hB : B ≤ w.heap.size) : Calls Tryz.prog 110 #[vSr x.key u,vSr x.key v] w fun e w' => e = .returned (.bool true) ∧ Below w.heap.size w w' := by
 have HU := hQz hu
 have HV := hQz hv
 have HB : Hid (B ≤ w.heap.size) := hB
 have HP : Hid (x.pts.length ≤ 1048576) := hn
 unfold vSr
 obtain ⟨xk,xp⟩ := x
 simp only at HU HV HP ⊢
 clear hu hB hn hv
 obtain ⟨A,cap,rfl,_⟩ := pt_look HU.out
 obtain ⟨A',cap',rfl,_⟩ := pt_look HV.out
 have hk : (xk.toList == xk.toList) = true := by simp
 go_enter Tryz.func110,Tryz.ntmps110
 go_wp2_with fail
 have hb2 : Hid (Below w.heap.size w ((w.alloc (.cells #[.string xk,.slice A xp.length cap] 101)).alloc (.cells #[.string xk,.slice A' xp.length cap'] 101))) := below_alloc2 _ _ _
 refine (eqPointS xp _ _ _ B (HU.out.on (hb2.out.mono HB.out)) (HV.out.on (hb2.out.mono HB.out)) HP.out (Nat.le_trans HB.out hb2.out.size)).mono ?_
 rintro e w1 ⟨rfl,hb⟩
 have B1 := hQz (hb2.out.trans (hb.mono hb2.out.size))
 clear hb hb2
 go_wp2_with fail
 go_ret
 exact ⟨rfl,B1.out⟩
set_option maxHeartbeats 1000000 in
theorem eqSeriesS (l : List Ser) (va vb : Value) (w : World) (B : Nat) (ha : SerV w B va l) (hb : SerV w B vb l) (hn : SShort l) (hB : B ≤ w.heap.size) :
  Calls Tryz.prog 73 #[va,vb] w fun e w' => e = .returned (.bool true) ∧ Below w.heap.size w w' := by
 obtain ⟨A,cap,rfl,hl⟩ := ha.look
 obtain ⟨A',cap',rfl,hl'⟩ := hb.look
 have HL : Hid (∀ j,j < l.length → ∃ g off u,A = some ⟨g,off,none⟩ ∧ g < B ∧ _) := hl
 have HL' : Hid (∀ j,j < l.length → ∃ g off u,A' = some ⟨g,off,none⟩ ∧ g < B ∧ _) := hl'
 have HB : Hid (B ≤ w.heap.size) := hB
 have HS : Hid (SShort l) := hn
 have q1 : (l.length : Int) ≤ 1048576 := by have := hn.1; omega
 clear hl hl' hB ha hb hn
 generalize hN : l.length = n at *
 go_enter Tryz.func73,Tryz.ntmps73
 go_wp2_with fail
 go_loopw [5] (fun v5 wr => ∃ k : Nat,k ≤ n ∧ v5 = .int .i64 (k : Int) ∧ Below w.heap.size w wr) (fun i _ => n - (intOf i).toNat)
 case atStart => exact ⟨0,by omega,rfl,Below.refl _ _⟩
 case round =>
  obtain ⟨k,hk,rfl,hb⟩ := hrel
  have HB1 := hQz hb
  clear hb
  by_cases hlt : k < n
  ·have q4 : (k : Int) < (n : Int) := by omega
   obtain ⟨g,off,u,rfl,hg,ha0,ha1,hu⟩ := HL.out k hlt
   obtain ⟨g',off',u',rfl,hg',hb0,hb1,hu'⟩ := HL'.out k hlt
   have hgw : g < w.heap.size := Nat.lt_of_lt_of_le hg HB.out
   have hgw' : g' < w.heap.size := Nat.lt_of_lt_of_le hg' HB.out
   rw [← HB1.out.cell (p := ⟨_,_,none⟩) hgw] at ha0
   rw [← HB1.out.cell (p := ⟨_,_,none⟩) hgw'] at hb0
   rw [← HB1.out.cell (p := ⟨_,_,none⟩) hgw] at ha1
   rw [← HB1.out.cell (p := ⟨_,_,none⟩) hgw'] at hb1
   have c1 := fun (wx : World) (hw : Below w.heap.size w wx) => eqSeries (l.getD k default) u u' wx B (hu.on (hw.mono HB.out)) (hu'.on (hw.mono HB.out)) (HS.out.at k (by omega)) (Nat.le_trans HB.out hw.size)
   obtain ⟨A1,cap1,rfl,_⟩ := pt_look hu
   obtain ⟨A2,cap2,rfl,_⟩ := pt_look hu'
   unfold vSr at c1
   clear hu hu'
   generalize (l.getD k default).pts.length = pn at *
   generalize (l.getD k default).key = x at *
   have hsz := HB1.out.size
   go_wp2_with fail
   go_region_with (go_at_call 110; refine (c1 _ HB1.out.drew).mono ?_; rintro e w1 ⟨rfl,hb1⟩)
   all_goals go_wp2_with fail
   all_goals exact ⟨⟨k + 1,by omega,by go_num,HB1.out.trans (((Below.refl _ wr).drew.trans hb1).mono hsz)⟩,by simp [intOf]; omega⟩
  ·obtain rfl : k = n := by omega
   go_wp2_with fail
   go_ret
   exact ⟨rfl,HB1.out⟩
set_option maxHeartbeats 4000000 in
theorem writeBlockV (t : ByteArray) (x : Ser) (v : Value) (w : World) (g B : Nat) (hb : CurB w g t t.size 123) (hv : Lies w B 2 v (ptR x.pts)) (h1 : 1 ≤ x.pts.length) (hok : POk x.pts) (hB : B ≤ g) (ht : t.size ≤ 900000) (hst : SumTab w) : Calls Tryz.prog 82 #[.pointer (some ⟨g,0,none⟩),vSr x.key v] w fun e w' => e = .returned (vSp ⟨x.key,t.size,(showB x.pts).size,(tAt x.pts 0).toNat,(tAt x.pts (x.pts.length - 1)).toNat⟩) ∧ CurB w' g (t ++ showB x.pts) (t ++ showB x.pts).size 123 ∧ KeptBut g w w' := by
 obtain ⟨A,cap,rfl,hl⟩ := pt_look hv
 obtain ⟨gp,offp,rfl,hgp,hf0,_⟩ := hl 0 (by omega)
 obtain ⟨gp',offp',e',_,hf1,_⟩ := hl (x.pts.length - 1) (by omega)
 cases e'
 have ht0 := (hok.2 0 (by omega)).1.1
 have ht1 := (hok.2 (x.pts.length - 1) (by omega)).1.1
 have hn60 := hok.1
 rw [show offp + 0 * 2 = offp by omega] at hf0
 unfold vSr vSp
 have HV := hQz hv
 have E0 : Hid (((tAt x.pts 0).toNat : Int) = tAt x.pts 0) := by unfold Hid; omega
 have E1 : Hid (((tAt x.pts (x.pts.length - 1)).toNat : Int) = tAt x.pts (x.pts.length - 1)) := by unfold Hid; omega
 simp only
 rw [E0.out,E1.out]
 change w.cell? ⟨gp,offp,none⟩ = some (.int .i64 (tAt x.pts 0)) at hf0
 change w.cell? ⟨gp,offp + (x.pts.length - 1) * 2,none⟩ = some (.int .i64 (tAt x.pts (x.pts.length - 1))) at hf1
 clear E0 E1 ht0 ht1 hl hok
 generalize tAt x.pts 0 = t0 at *
 generalize tAt x.pts (x.pts.length - 1) = t1 at *
 obtain ⟨xk,xp⟩ := x
 simp only at *
 have sz0 := showB_size xp
 have HBw : Hid (CurB w g t t.size 123) := hb
 have HB : Hid (B ≤ g ∧ g < w.heap.size ∧ gp < B) := ⟨hB,Blk.lt hb,hgp⟩
 have HF0 : Hid (w.cell? ⟨gp,offp,none⟩ = some (.int .i64 t0)) := hf0
 have HF1 : Hid (w.cell? ⟨gp,offp + (xp.length - 1) * 2,none⟩ = some (.int .i64 t1)) := hf1
 have ST := hQz hst
 clear hb hv hB hgp hf0 hf1 hst
 generalize hn : xp.length = n at *
 have HNn : Hid (xp.length = n) := hn
 clear hn
 have b0 := (Blk.new w #[.string xk,.slice (some ⟨gp,offp,none⟩) n cap] 101).alloc (.cells #[.string ⟨#[]⟩,.int .i64 0,.int .i64 0,.int .i64 0,.int .i64 0] 127)
 have r0 := Blk.new (w.alloc (.cells #[.string xk,.slice (some ⟨gp,offp,none⟩) n cap] 101)) #[.string ⟨#[]⟩,.int .i64 0,.int .i64 0,.int .i64 0,.int .i64 0] 127
 have c0 : CurB ((w.alloc (.cells #[.string xk,.slice (some ⟨gp,offp,none⟩) n cap] 101)).alloc (.cells #[.string ⟨#[]⟩,.int .i64 0,.int .i64 0,.int .i64 0,.int .i64 0] 127)) g t t.size 123 := Blk.alloc (Blk.alloc HBw.out _) _
 rw [World.size_alloc] at r0
 have d0 : Below w.heap.size w ((w.alloc (.cells #[.string xk,.slice (some ⟨gp,offp,none⟩) n cap] 101)).alloc (.cells #[.string ⟨#[]⟩,.int .i64 0,.int .i64 0,.int .i64 0,.int .i64 0] 127)) := below_alloc2 _ _ _
 have m1 := Blk.cell b0 1 (.slice (some ⟨gp,offp,none⟩) n cap) rfl
 have m9 := Blk.cell c0 1 (.int .i64 (t.size : Int)) rfl
 go_enter Tryz.func82,Tryz.ntmps82
 go_wp2_with fail
 generalize hW0 : (w.alloc (.cells #[.string xk,.slice (some ⟨gp,offp,none⟩) n cap] 101)).alloc (.cells #[.string ⟨#[]⟩,.int .i64 0,.int .i64 0,.int .i64 0,.int .i64 0] 127) = W0 at *
 generalize hN : w.heap.size = N at *
 refine (placeV W0 g t.size m9).mono ?_
 rintro e w' ⟨rfl,rfl⟩
 have D0 := hQz d0
 have L0 : Hid (Lies W0 B 2 (.slice (some ⟨gp,offp,none⟩) n cap) (ptR xp)) := HV.out.on (d0.mono (by have := HB.out; omega))
 go_wp2_with fail
 refine (implShowBlock xp (.slice (some ⟨gp,offp,none⟩) n cap) W0 B L0.out (by have := HNn.out; omega) (by have := D0.out.size; have := HB.out; omega) (ST.out.on (by rw [hN]; exact D0.out))).mono ?_
 rintro e X1 ⟨rfl,hb1⟩
 have b1 := b0.on hb1 b0.lt
 have r1 := r0.on hb1 r0.lt
 have C1 : Hid (CurB X1 g t t.size 123) := Blk.on c0 hb1 (Blk.lt c0)
 have D1 : Hid (Below N w X1) := D0.out.trans (hb1.mono (by rw [← hN]; exact D0.out.size))
 clear b0 r0 c0 hb1 m1 m9 d0 L0 D0
 have q0 : (t.size : Int) ≤ 900000 := by omega
 go_wp2_with fail
 refine (writeV t (showB xp) X1 g t.size C1.out (by omega)).mono ?_
 rintro e X2 ⟨⟨uu,rfl⟩,hC,hk⟩
 have hNg : N ≠ g := by have := HB.out; omega
 have hNg' : N + 1 ≠ g := by have := HB.out; omega
 have b2 := hk.blk b1 hNg
 have r2 := hk.blk r1 hNg'
 have C2 : Hid (CurB X2 g (t ++ showB xp) (t ++ showB xp).size 123) := hC
 have K2 : Hid (KeptBut g w X2) := (KeptBut.of (by rw [hN]; exact D1.out) (by rw [hN]; exact HB.out.2.1)).trans hk
 have F0 : Hid (X2.cell? ⟨gp,offp,none⟩ = some (.int .i64 t0)) := (K2.out.1.cell (p := ⟨gp,offp,none⟩) (by have := HB.out; simp only; omega)).trans HF0.out
 have F1 : Hid (X2.cell? ⟨gp,offp + (n - 1) * 2,none⟩ = some (.int .i64 t1)) := (K2.out.1.cell (p := ⟨gp,offp + (n - 1) * 2,none⟩) (by have := HB.out; simp only; omega)).trans HF1.out
 clear hC hk b1 r1 C1 D1
 have hsz : (t ++ showB xp).size = t.size + (showB xp).size := ByteArray.size_append
 generalize htz : (t ++ showB xp).size = tz at *
 generalize hsz' : (showB xp).size = sz at *
 have HTZ : Hid ((t ++ showB xp).size = tz ∧ (showB xp).size = sz) := ⟨htz,hsz'⟩
 have S0 : Hid (X2.drew.cell? ⟨N,0,none⟩ = some (.string xk) ∧ X2.drew.cell? ⟨N,1,none⟩ = some (.slice (some ⟨gp,offp,none⟩) n cap) ∧ X2.drew.cell? ⟨gp,offp,none⟩ = some (.int .i64 t0) ∧ X2.drew.cell? ⟨gp,offp + (n - 1) * 2,none⟩ = some (.int .i64 t1) ∧ X2.drew.cell? ⟨g,1,none⟩ = some (.int .i64 (tz : Int))) := ⟨b2.cell 0 _ rfl,b2.cell 1 _ rfl,F0.out,F1.out,Blk.cell C2.out 1 _ rfl⟩
 have q3 : (1 : Int) ≤ (n : Int) := by omega
 have e3 : ((n : Int) - 1).toNat = n - 1 := by omega
 have e9 : IntKind.i64.wrap ((n : Int) - 1) = (n : Int) - 1 := by rw [IntKind.wrap_i64]; omega
 have e8 : IntKind.i64.wrap ((tz : Int) - (t.size : Int)) = (sz : Int) := by rw [IntKind.wrap_i64]; omega
 have e5 : (n : Int) - 1 < (n : Int) := by omega
 have q6 : (0 : Int) < (n : Int) := by omega
 have q7 : 0 < n := by omega
 have HR2 : Hid (Blk X2.drew (N + 1) #[.string ⟨#[]⟩,.int .i64 0,.int .i64 0,.int .i64 0,.int .i64 0] 127) := r2
 have C2d : Hid (CurB X2.drew g (t ++ showB xp) tz 123) := C2.out
 have K2d : Hid (KeptBut g w X2.drew) := K2.out.drew
 have HBn : Hid (N + 1 ≠ g ∧ N = w.heap.size) := ⟨hNg',hN.symm⟩
 clear b2 r2 F0 F1 hNg hNg' hsz htz
 go_wp2_with fail
 refine wp_region_until (fun w' => w'.cell? ⟨N,0,none⟩ = some (.string xk) ∧ w'.cell? ⟨N,1,none⟩ = some (.slice (some ⟨gp,offp,none⟩) n cap) ∧ w'.cell? ⟨gp,offp,none⟩ = some (.int .i64 t0) ∧ w'.cell? ⟨gp,offp + (n - 1) * 2,none⟩ = some (.int .i64 t1) ∧ w'.cell? ⟨g,1,none⟩ = some (.int .i64 (tz : Int))) (fun _ => false) 25 (by rfl) (by kernel_rfl) ?_
 refine tKf 0 S0.out ?_
 refine tKf 1 S0.out ?_
 refine tKf 2 S0.out ?_
 refine tKf 3 S0.out ?_
 refine tKf 4 S0.out ?_
 refine tKf 5 S0.out ?_
 refine tKf 7 S0.out ?_
 refine tKf 9 S0.out ?_
 refine tKf 10 S0.out ?_
 refine tKf 11 S0.out ?_
 refine tKf 12 S0.out ?_
 refine tKf 13 S0.out ?_
 refine tKf 14 S0.out ?_
 refine tKf 15 S0.out ?_
 refine tKf 16 S0.out ?_
 refine tKf 17 S0.out ?_
 refine tKf 18 S0.out ?_
 refine tKe 19 (v := .int .i64 ((n : Int) - 1)) S0.out ?_ ?_
 ·intro w hSw
  try dsimp only at hSw
  go_simp
  try rw [e9]
 try simp only [Act.put,zQ1,zQ2,zQ3]
 refine tKf 20 S0.out ?_
 refine tKf 21 S0.out ?_
 refine tKf 22 S0.out ?_
 refine uNe 6 (fun K hK => ?_)
 go_simp
 refine (placeV _ g tz S0.out.2.2.2.2).mono ?_
 rintro e w' ⟨rfl,rfl⟩
 go_wp2_with fail
 refine hK.out _ _ (fun _ h => h) ?_
 clear hK K
 try simp only [Act.put,zQ1,zQ2,zQ3]
 refine tKe 8 (v := .int .i64 (sz : Int)) S0.out ?_ ?_
 ·intro w hSw
  try dsimp only at hSw
  go_simp
  try rw [e8]
 try simp only [Act.put,zQ1,zQ2,zQ3]
 refine pUf 23 ?_
 have p0 : Blk X2 (N + 1) #[.string ⟨#[]⟩,.int .i64 0,.int .i64 0,.int .i64 0,.int .i64 0] 127 := HR2.out
 have g0 : X2.cell? ⟨N + 1,0,none⟩ = some (.string ⟨#[]⟩) := p0.cell 0 _ rfl
 have h0 := p0.free 0
 have g1 : X2.cell? ⟨N + 1,1,none⟩ = some (.int .i64 0) := p0.cell 1 _ rfl
 have h1 := p0.free 1
 have g2 : X2.cell? ⟨N + 1,2,none⟩ = some (.int .i64 0) := p0.cell 2 _ rfl
 have h2 := p0.free 2
 have g3 : X2.cell? ⟨N + 1,3,none⟩ = some (.int .i64 0) := p0.cell 3 _ rfl
 have h3 := p0.free 3
 have g4 : X2.cell? ⟨N + 1,4,none⟩ = some (.int .i64 0) := p0.cell 4 _ rfl
 have h4 := p0.free 4
 have p1 := p0.set 0 (.string xk)
 have p2 := p1.set 1 (.int .i64 (t.size : Int))
 have p3 := p2.set 2 (.int .i64 (sz : Int))
 have p4 := p3.set 3 (.int .i64 t0)
 have p5 := p4.set 4 (.int .i64 t1)
 generalize hW5 : (((((X2.setCell ⟨N + 1,0,none⟩ (.string xk)).setCell ⟨N + 1,1,none⟩ (.int .i64 (t.size : Int))).setCell ⟨N + 1,2,none⟩ (.int .i64 (sz : Int))).setCell ⟨N + 1,3,none⟩ (.int .i64 t0)).setCell ⟨N + 1,4,none⟩ (.int .i64 t1)) = W5 at p5
 have P5 : Hid (Blk W5.drew (N + 1) #[.string xk,.int .i64 (t.size : Int),.int .i64 (sz : Int),.int .i64 t0,.int .i64 t1] 127) := p5
 have PE : Hid (CurB W5.drew g (t ++ showB xp) tz 123) := by
  rw [← hW5]
  exact ((((Blk.other C2.out (Ne.symm HBn.out.1) _ _).other (Ne.symm HBn.out.1) _ _).other (Ne.symm HBn.out.1) _ _).other (Ne.symm HBn.out.1) _ _).other (Ne.symm HBn.out.1) _ _
 have KE : Hid (KeptBut g w W5.drew) := by
  rw [← hW5]
  have hk : w.heap.size ≤ N + 1 := by have := HBn.out.2; omega
  have hg : g ≤ N + 1 := by have := HB.out; omega
  exact (((((K2.out.setNew hk hg _ _).setNew hk hg _ _).setNew hk hg _ _).setNew hk hg _ _).setNew hk hg _ _).drew
 have SE : Hid (W5.drew.cell? ⟨N,0,none⟩ = some (.string xk) ∧ W5.drew.cell? ⟨N,1,none⟩ = some (.slice (some ⟨gp,offp,none⟩) n cap) ∧ W5.drew.cell? ⟨gp,offp,none⟩ = some (.int .i64 t0) ∧ W5.drew.cell? ⟨gp,offp + (n - 1) * 2,none⟩ = some (.int .i64 t1) ∧ W5.drew.cell? ⟨g,1,none⟩ = some (.int .i64 (tz : Int))) := by
  have e1 : ∀ c o,c ≠ N + 1 → W5.cell? ⟨c,o,none⟩ = X2.cell? ⟨c,o,none⟩ := fun c o hc => by
   rw [← hW5]
   exact World.cell?_of_block (by rw [Below.heap_setCell _ _ _ _ (show c ≠ N + 1 from hc),Below.heap_setCell _ _ _ _ (show c ≠ N + 1 from hc),Below.heap_setCell _ _ _ _ (show c ≠ N + 1 from hc),Below.heap_setCell _ _ _ _ (show c ≠ N + 1 from hc),Below.heap_setCell _ _ _ _ (show c ≠ N + 1 from hc)])
  have hB := HB.out
  have hBn := HBn.out
  exact ⟨(e1 _ _ (by omega)).trans S0.out.1,(e1 _ _ (by omega)).trans S0.out.2.1,(e1 _ _ (by omega)).trans S0.out.2.2.1,(e1 _ _ (by omega)).trans S0.out.2.2.2.1,(e1 _ _ (by omega)).trans S0.out.2.2.2.2⟩
 clear p0 p1 p2 p3 p4 p5
 refine uNe 24 (fun K hK => ?_)
 go_simp
 refine hK.out _ _ (fun _ _ => SE.out) ?_
 clear hK K
 try simp only [Act.put,zQ1,zQ2,zQ3]
 have k0 := P5.out.cell 0 (.string xk) rfl
 have k1 := P5.out.cell 1 (.int .i64 (t.size : Int)) rfl
 have k2 := P5.out.cell 2 (.int .i64 (sz : Int)) rfl
 have k3 := P5.out.cell 3 (.int .i64 t0) rfl
 have k4 := P5.out.cell 4 (.int .i64 t1) rfl
 refine until_done (by kernel_rfl) ?_ _
 go_wp2_with fail
 exact bodyPost_ret (v := .agg #[.string xk,.int .i64 (t.size : Int),.int .i64 (sz : Int),.int .i64 t0,.int .i64 t1]) (by simp [results,go_sem,k0,k1,k2,k3,k4]) rfl ⟨by rw [HTZ.out.2],by rw [HTZ.out.1]; exact PE.out,KE.out⟩
def spT (x : Spot) : List UInt8 := vF 6 x.key.size ++ (bl x.key ++ (vF 6 x.at' ++ (vF 6 x.size ++ (vF 6 x.first ++ vF 6 x.last))))
theorem spT_is (x : Spot) : txt (vF 6 x.key.size) ++ x.key ++ txt (vF 6 x.at') ++ txt (vF 6 x.size) ++ txt (vF 6 x.first) ++ txt (vF 6 x.last) = txt (spT x) := by
 conv => lhs; rw [← txt_bl x.key,txt_bl x.key]
 rw [show x.key = txt (bl x.key) from (txt_bl _).symm]
 simp only [txt_cat]
 unfold spT
 rw [txt_bl]
 simp only [List.append_assoc]
set_option maxHeartbeats 4000000 in
theorem writeSpotV (t : ByteArray) (x : Spot) (w : World) (g p : Nat) (hb : CurB w g t p 123) (hx : SpFits x) (hs : t.size + x.key.size ≤ 900000) : Calls Tryz.prog 84 #[.pointer (some ⟨g,0,none⟩),vSp x] w fun e w' => (∃ u,e = .returned u) ∧ CurB w' g (t ++ txt (spT x)) (t ++ txt (spT x)).size 123 ∧ KeptBut g w w' := by
 have HT : Hid (txt (vF 6 x.key.size) ++ x.key ++ txt (vF 6 x.at') ++ txt (vF 6 x.size) ++ txt (vF 6 x.first) ++ txt (vF 6 x.last) = txt (spT x)) := spT_is x
 have hz : ∀ n,(txt (vF 6 n)).size ≤ 7 := fun n => by rw [txt_size]; exact vF_length 6 n
 have z1 := hz x.key.size
 have z2 := hz x.at'
 have z3 := hz x.size
 have z4 := hz x.first
 have z5 := hz x.last
 have c1 := fun wx => impl_var x.key.size wx (by have := hx.1; omega)
 have c2 := fun wx => impl_var x.at' wx hx.2.1
 have c3 := fun wx => impl_var x.size wx hx.2.2.1
 have c4 := fun wx => impl_var x.first wx hx.2.2.2.1
 have c5 := fun wx => impl_var x.last wx hx.2.2.2.2
 have HBw : Hid (CurB w g t p 123) := hb
 clear hz hx hb
 generalize hS : spT x = sp at *
 clear hS
 obtain ⟨xk,xa,xz,xf,xl⟩ := x
 unfold vSp
 simp only at *
 generalize hw1 : txt (vF 6 xk.size) = y1 at *
 generalize hw2 : txt (vF 6 xa) = y2 at *
 generalize hw3 : txt (vF 6 xz) = y3 at *
 generalize hw4 : txt (vF 6 xf) = y4 at *
 generalize hw5 : txt (vF 6 xl) = y5 at *
 clear hw1 hw2 hw3 hw4 hw5
 have q0 : (t.size : Int) + (xk.size : Int) ≤ 900000 := by omega
 have a1 : ((y1 ++ xk).size : Int) = (y1.size : Int) + (xk.size : Int) := by rw [ByteArray.size_append]; omega
 have a2 : ((y1 ++ xk ++ y2).size : Int) = (y1.size : Int) + (xk.size : Int) + (y2.size : Int) := by rw [ByteArray.size_append,ByteArray.size_append]; omega
 have a3 : ((y1 ++ xk ++ y2 ++ y3).size : Int) = (y1.size : Int) + (xk.size : Int) + (y2.size : Int) + (y3.size : Int) := by rw [ByteArray.size_append,ByteArray.size_append,ByteArray.size_append]; omega
 have a4 : ((y1 ++ xk ++ y2 ++ y3 ++ y4).size : Int) = (y1.size : Int) + (xk.size : Int) + (y2.size : Int) + (y3.size : Int) + (y4.size : Int) := by rw [ByteArray.size_append,ByteArray.size_append,ByteArray.size_append,ByteArray.size_append]; omega
 have a5 : ((y1 ++ xk ++ y2 ++ y3 ++ y4 ++ y5).size : Int) = (y1.size : Int) + (xk.size : Int) + (y2.size : Int) + (y3.size : Int) + (y4.size : Int) + (y5.size : Int) := by rw [ByteArray.size_append,ByteArray.size_append,ByteArray.size_append,ByteArray.size_append,ByteArray.size_append]; omega
 have b1 : (y1.size : Int) + (xk.size : Int) ≤ 900007 := by omega
 have b2 : (y1.size : Int) + (xk.size : Int) + (y2.size : Int) ≤ 900014 := by omega
 have b3 : (y1.size : Int) + (xk.size : Int) + (y2.size : Int) + (y3.size : Int) ≤ 900021 := by omega
 have b4 : (y1.size : Int) + (xk.size : Int) + (y2.size : Int) + (y3.size : Int) + (y4.size : Int) ≤ 900028 := by omega
 have b5 : (y1.size : Int) + (xk.size : Int) + (y2.size : Int) + (y3.size : Int) + (y4.size : Int) + (y5.size : Int) ≤ 900035 := by omega
 have n1 : ¬ 9223372036854775807 < y1.size + xk.size := by omega
 have n2 : ¬ 9223372036854775807 < y1.size + xk.size + y2.size := by omega
 have n3 : ¬ 9223372036854775807 < y1.size + xk.size + y2.size + y3.size := by omega
 have n4 : ¬ 9223372036854775807 < y1.size + xk.size + y2.size + y3.size + y4.size := by omega
 have n5 : ¬ 9223372036854775807 < y1.size + xk.size + y2.size + y3.size + y4.size + y5.size := by omega
 have HZ : Hid (t.size + (y1 ++ xk ++ y2 ++ y3 ++ y4 ++ y5).size ≤ 1000000) := by unfold Hid; omega
 have K0 : Hid (Blk (w.alloc (.cells #[.string xk,.int .i64 (xa : Int),.int .i64 (xz : Int),.int .i64 (xf : Int),.int .i64 (xl : Int)] 127)).drew w.heap.size #[.string xk,.int .i64 (xa : Int),.int .i64 (xz : Int),.int .i64 (xf : Int),.int .i64 (xl : Int)] 127) := Blk.new w _ _
 have G0 : Hid (CurB (w.alloc (.cells #[.string xk,.int .i64 (xa : Int),.int .i64 (xz : Int),.int .i64 (xf : Int),.int .i64 (xl : Int)] 127)).drew g t p 123) := Blk.alloc HBw.out _
 have D0 : Hid (KeptBut g w (w.alloc (.cells #[.string xk,.int .i64 (xa : Int),.int .i64 (xz : Int),.int .i64 (xf : Int),.int .i64 (xl : Int)] 127)).drew) := (KeptBut.of ((Below.refl _ w).alloc (Nat.le_refl _) _) (Blk.lt HBw.out)).drew
 have S0 : Hid ((w.alloc (.cells #[.string xk,.int .i64 (xa : Int),.int .i64 (xz : Int),.int .i64 (xf : Int),.int .i64 (xl : Int)] 127)).drew.cell? ⟨w.heap.size,0,none⟩ = some (.string xk) ∧ (w.alloc (.cells #[.string xk,.int .i64 (xa : Int),.int .i64 (xz : Int),.int .i64 (xf : Int),.int .i64 (xl : Int)] 127)).drew.cell? ⟨w.heap.size,1,none⟩ = some (.int .i64 (xa : Int)) ∧ (w.alloc (.cells #[.string xk,.int .i64 (xa : Int),.int .i64 (xz : Int),.int .i64 (xf : Int),.int .i64 (xl : Int)] 127)).drew.cell? ⟨w.heap.size,2,none⟩ = some (.int .i64 (xz : Int)) ∧ (w.alloc (.cells #[.string xk,.int .i64 (xa : Int),.int .i64 (xz : Int),.int .i64 (xf : Int),.int .i64 (xl : Int)] 127)).drew.cell? ⟨w.heap.size,3,none⟩ = some (.int .i64 (xf : Int)) ∧ (w.alloc (.cells #[.string xk,.int .i64 (xa : Int),.int .i64 (xz : Int),.int .i64 (xf : Int),.int .i64 (xl : Int)] 127)).drew.cell? ⟨w.heap.size,4,none⟩ = some (.int .i64 (xl : Int))) := ⟨K0.out.cell 0 _ rfl,K0.out.cell 1 _ rfl,K0.out.cell 2 _ rfl,K0.out.cell 3 _ rfl,K0.out.cell 4 _ rfl⟩
 go_enter Tryz.func84,Tryz.ntmps84
 go_wp2_with fail
 refine wp_region_until (fun w' => w'.cell? ⟨w.heap.size,0,none⟩ = some (.string xk) ∧ w'.cell? ⟨w.heap.size,1,none⟩ = some (.int .i64 (xa : Int)) ∧ w'.cell? ⟨w.heap.size,2,none⟩ = some (.int .i64 (xz : Int)) ∧ w'.cell? ⟨w.heap.size,3,none⟩ = some (.int .i64 (xf : Int)) ∧ w'.cell? ⟨w.heap.size,4,none⟩ = some (.int .i64 (xl : Int))) (fun _ => false) 25 (by rfl) (by kernel_rfl) ?_
 refine tKf 0 S0.out ?_
 refine tKf 1 S0.out ?_
 refine tKf 2 S0.out ?_
 refine tKf 3 S0.out ?_
 refine tKf 5 S0.out ?_
 refine tKf 6 S0.out ?_
 refine tKf 8 S0.out ?_
 refine tKf 9 S0.out ?_
 refine tKf 12 S0.out ?_
 refine tKf 13 S0.out ?_
 refine tKf 16 S0.out ?_
 refine tKf 17 S0.out ?_
 refine tKf 20 S0.out ?_
 refine tKf 21 S0.out ?_
 refine uNe 4 (fun K hK => ?_)
 go_simp
 refine (c1 _).mono ?_
 rintro e X1 ⟨rfl,hb1⟩
 have K1 := hQz (K0.out.on hb1 K0.out.lt)
 have G1 : Hid (CurB X1 g t p 123) := Blk.on G0.out hb1 (Blk.lt G0.out)
 have D1 : Hid (KeptBut g w X1) := D0.out.trans (KeptBut.of hb1 (Blk.lt G0.out))
 clear hb1
 go_wp2_with fail
 refine hK.out _ _ (fun _ _ => ⟨K1.out.cell 0 _ rfl,K1.out.cell 1 _ rfl,K1.out.cell 2 _ rfl,K1.out.cell 3 _ rfl,K1.out.cell 4 _ rfl⟩) ?_
 clear hK K
 try simp only [Act.put,zQ1,zQ2,zQ3]
 refine pUf 7 ?_
 refine uNe 10 (fun K hK => ?_)
 go_simp
 refine (c2 _).mono ?_
 rintro e X2 ⟨rfl,hb2⟩
 have K2 := hQz (K1.out.on hb2 K1.out.lt)
 have G2 : Hid (CurB X2 g t p 123) := Blk.on G1.out hb2 (Blk.lt G1.out)
 have D2 : Hid (KeptBut g w X2) := D1.out.trans (KeptBut.of hb2 (Blk.lt G1.out))
 clear hb2
 go_wp2_with fail
 refine hK.out _ _ (fun _ _ => ⟨K2.out.cell 0 _ rfl,K2.out.cell 1 _ rfl,K2.out.cell 2 _ rfl,K2.out.cell 3 _ rfl,K2.out.cell 4 _ rfl⟩) ?_
 clear hK K
 try simp only [Act.put,zQ1,zQ2,zQ3]
 refine pUf 11 ?_
 refine uNe 14 (fun K hK => ?_)
 go_simp
 refine (c3 _).mono ?_
 rintro e X3 ⟨rfl,hb3⟩
 have K3 := hQz (K2.out.on hb3 K2.out.lt)
 have G3 : Hid (CurB X3 g t p 123) := Blk.on G2.out hb3 (Blk.lt G2.out)
 have D3 : Hid (KeptBut g w X3) := D2.out.trans (KeptBut.of hb3 (Blk.lt G2.out))
 clear hb3
 go_wp2_with fail
 refine hK.out _ _ (fun _ _ => ⟨K3.out.cell 0 _ rfl,K3.out.cell 1 _ rfl,K3.out.cell 2 _ rfl,K3.out.cell 3 _ rfl,K3.out.cell 4 _ rfl⟩) ?_
 clear hK K
 try simp only [Act.put,zQ1,zQ2,zQ3]
 refine pUf 15 ?_
 refine uNe 18 (fun K hK => ?_)
 go_simp
 refine (c4 _).mono ?_
 rintro e X4 ⟨rfl,hb4⟩
 have K4 := hQz (K3.out.on hb4 K3.out.lt)
 have G4 : Hid (CurB X4 g t p 123) := Blk.on G3.out hb4 (Blk.lt G3.out)
 have D4 : Hid (KeptBut g w X4) := D3.out.trans (KeptBut.of hb4 (Blk.lt G3.out))
 clear hb4
 go_wp2_with fail
 refine hK.out _ _ (fun _ _ => ⟨K4.out.cell 0 _ rfl,K4.out.cell 1 _ rfl,K4.out.cell 2 _ rfl,K4.out.cell 3 _ rfl,K4.out.cell 4 _ rfl⟩) ?_
 clear hK K
 try simp only [Act.put,zQ1,zQ2,zQ3]
 refine pUf 19 ?_
 refine uNe 22 (fun K hK => ?_)
 go_simp
 refine (c5 _).mono ?_
 rintro e X5 ⟨rfl,hb5⟩
 have K5 := hQz (K4.out.on hb5 K4.out.lt)
 have G5 : Hid (CurB X5 g t p 123) := Blk.on G4.out hb5 (Blk.lt G4.out)
 have D5 : Hid (KeptBut g w X5) := D4.out.trans (KeptBut.of hb5 (Blk.lt G4.out))
 clear hb5
 go_wp2_with fail
 refine hK.out _ _ (fun _ _ => ⟨K5.out.cell 0 _ rfl,K5.out.cell 1 _ rfl,K5.out.cell 2 _ rfl,K5.out.cell 3 _ rfl,K5.out.cell 4 _ rfl⟩) ?_
 clear hK K
 try simp only [Act.put,zQ1,zQ2,zQ3]
 refine pUf 23 ?_
 refine uNe 24 (fun K hK => ?_)
 go_simp
 refine (writeV t (y1 ++ xk ++ y2 ++ y3 ++ y4 ++ y5) _ g p G5.out HZ.out).mono ?_
 rintro e X6 ⟨⟨u,rfl⟩,hC,hk⟩
 rw [HT.out] at hC
 have K6 : Hid (Blk X6 w.heap.size #[.string xk,.int .i64 (xa : Int),.int .i64 (xz : Int),.int .i64 (xf : Int),.int .i64 (xl : Int)] 127) := hk.blk K5.out (by have := Blk.lt HBw.out; omega)
 have D6 := hQz (D5.out.trans hk)
 have C6 : Hid (CurB X6 g (t ++ txt sp) (t ++ txt sp).size 123) := hC
 clear hk hC
 go_wp2_with fail
 refine hK.out _ _ (fun _ _ => ⟨K6.out.cell 0 _ rfl,K6.out.cell 1 _ rfl,K6.out.cell 2 _ rfl,K6.out.cell 3 _ rfl,K6.out.cell 4 _ rfl⟩) ?_
 clear hK K
 try simp only [Act.put,zQ1,zQ2,zQ3]
 refine until_done (by kernel_rfl) ?_ _
 go_wp2_with fail
 exact bodyPost_end (v := .tuple #[]) (by simp [results,go_sem]) rfl ⟨⟨_,rfl⟩,C6.out,D6.out⟩
set_option maxHeartbeats 1000000 in
theorem implIsKey (s : ByteArray) (w : World) (hs : s.size ≤ maxLen) : Calls Tryz.prog 116 #[.string s] w fun e w' => e = .returned (.bool (decide (KOk s))) ∧ w = w' := by
 have hbt := get_bn s
 have q0 : (s.size : Int) ≤ 9223372036854775807 := by unfold maxLen at hs; omega
 have HD : Hid (∀ b,(b = true ↔ KOk s) → decide (KOk s) = b) := fun b hb => dec_of b hb
 have HV : Hid (KOk s ↔ 1 ≤ s.size ∧ s.size ≤ 8 ∧ ∀ j,j < s.size → 97 ≤ bn s j ∧ bn s j ≤ 122) := Iff.rfl
 clear hs
 by_cases h0 : s.size = 0
 ·obtain rfl : s = ⟨#[]⟩ := by
   have e : s.data.toList = [] := List.eq_nil_of_length_eq_zero (by rw [Array.length_toList]; exact h0)
   rw [← txt_toList s,e]
   rfl
  clear HV hbt q0 h0
  have he : decide (KOk ⟨#[]⟩) = false := HD.out false ⟨fun h => (by cases h),fun h => absurd h.1 (by simp [ByteArray.size])⟩
  rw [he]
  go_enter Tryz.func116,Tryz.ntmps116
  go_wp2
  go_ret
  exact ⟨rfl,rfl⟩
 have hne : s.toList.isEmpty = false := by
  rw [Lib.toList_data]
  cases e : s.data.toList with
  | nil => exact absurd (by rw [ByteArray.size,← Array.length_toList,e]; rfl) h0
  | cons a l => rfl
 have H1 : Hid (1 ≤ s.size) := by unfold Hid; omega
 by_cases h2 : (8 : Int) < (s.size : Int)
 ·go_enter Tryz.func116,Tryz.ntmps116
  go_wp2
  go_ret
  refine ⟨?_,rfl⟩
  rw [HD.out false]
  ·rfl
  rw [HV.out]
  exact ⟨fun h => (by cases h),fun h => by omega⟩
 have q1 : (s.size : Int) ≤ 8 := by omega
 have q2 : decide ((8 : Int) < (s.size : Int)) = false := decide_eq_false h2
 clear h2 h0
 go_enter Tryz.func116,Tryz.ntmps116
 go_wp2_with fail
 go_loop [13] (fun v => ∃ k : Nat,k ≤ s.size ∧ v = .int .i64 (k : Int) ∧ Hid (∀ j,j < k → 97 ≤ bn s j ∧ bn s j ≤ 122)) (fun i => s.size - (intOf i).toNat)
 case atStart => exact ⟨0,by omega,rfl,fun j hj => by omega⟩
 case round =>
  obtain ⟨k,hk,rfl,HJ⟩ := hrel
  by_cases hlt : k < s.size
  ·have q4 : (k : Int) < (s.size : Int) := by omega
   have r2 := bn_lt s k
   have HNo : Hid ((bn s k < 97 ∨ 122 < bn s k) → decide (KOk s) = false) := fun h => by
    apply HD.out
    rw [HV.out]
    refine ⟨fun h => (by cases h),fun h2 => ?_⟩
    have := h2.2.2 k hlt
    omega
   by_cases c2 : (bn s k : Int) < 97
   ·go_wp2_with fail
    go_ret
    exact ⟨by rw [HNo.out (.inl (by omega))]; rfl,rfl⟩
   have d2 : decide ((bn s k : Int) < 97) = false := decide_eq_false c2
   by_cases c3 : (122 : Int) < (bn s k : Int)
   ·go_wp2_with fail
    go_ret
    exact ⟨by rw [HNo.out (.inr (by omega))]; rfl,rfl⟩
   have d3 : decide ((122 : Int) < (bn s k : Int)) = false := decide_eq_false c3
   go_wp2_with fail
   go_round
   case rel =>
    refine ⟨k + 1,by omega,by go_num,fun j hj => ?_⟩
    by_cases e : j = k
    ·rw [e]
     omega
    ·exact HJ.out j (by omega)
   case measure => simp [intOf]; omega
  ·obtain rfl : k = s.size := by omega
   go_wp2_with fail
   go_ret
   refine ⟨?_,rfl⟩
   rw [HD.out true]
   ·rfl
   rw [HV.out]
   exact ⟨fun _ => ⟨H1.out,by omega,HJ.out⟩,fun _ => rfl⟩
set_option maxHeartbeats 1000000 in
theorem specKey (s : ByteArray) (w : World) (hs : s.size ≤ maxLen) : Calls Tryz.prog 101 #[.string s] w fun e w' => e = .returned (.bool (decide (KOk s))) ∧ w = w' := by
 have hbt := get_bn s
 have q0 : (s.size : Int) ≤ 9223372036854775807 := by unfold maxLen at hs; omega
 have HD : Hid (∀ b,(b = true ↔ KOk s) → decide (KOk s) = b) := fun b hb => dec_of b hb
 have HV : Hid (KOk s ↔ 1 ≤ s.size ∧ s.size ≤ 8 ∧ ∀ j,j < s.size → 97 ≤ bn s j ∧ bn s j ≤ 122) := Iff.rfl
 clear hs
 by_cases h2 : (s.size : Int) < 1 ∨ (8 : Int) < (s.size : Int)
 ·have c1 := fun wx => in_no (s.size : Int) 1 8 wx h2
  have H2 : Hid ((s.size : Int) < 1 ∨ (8 : Int) < (s.size : Int)) := h2
  clear h2
  go_enter Tryz.func101,Tryz.ntmps101
  go_wp2_with fail
  refine (c1 _).mono ?_
  rintro e w' ⟨rfl,rfl⟩
  go_wp2_with fail
  go_ret
  refine ⟨?_,rfl⟩
  rw [HD.out false]
  ·rfl
  rw [HV.out]
  have := H2.out
  exact ⟨fun h => (by cases h),fun h => by omega⟩
 have c1 := fun wx => in_yes (s.size : Int) 1 8 wx (by omega) (by omega)
 have q1 : (s.size : Int) ≤ 8 := by omega
 have H1 : Hid (1 ≤ s.size) := by unfold Hid; omega
 clear h2
 go_enter Tryz.func101,Tryz.ntmps101
 go_wp2_with fail
 refine (c1 _).mono ?_
 rintro e w' ⟨rfl,rfl⟩
 go_wp2_with fail
 go_loop [3] (fun v => ∃ k : Nat,k ≤ s.size ∧ v = .int .i64 (k : Int) ∧ Hid (∀ j,j < k → 97 ≤ bn s j ∧ bn s j ≤ 122)) (fun i => s.size - (intOf i).toNat)
 case atStart => exact ⟨0,by omega,rfl,fun j hj => by omega⟩
 case round =>
  obtain ⟨k,hk,rfl,HJ⟩ := hrel
  by_cases hlt : k < s.size
  ·have q4 : (k : Int) < (s.size : Int) := by omega
   have r2 := bn_lt s k
   have HNo : Hid ((bn s k < 97 ∨ 122 < bn s k) → decide (KOk s) = false) := fun h => by
    apply HD.out
    rw [HV.out]
    refine ⟨fun h => (by cases h),fun h2 => ?_⟩
    have := h2.2.2 k hlt
    omega
   by_cases c2 : (bn s k : Int) < 97
   ·go_wp2_with fail
    go_ret
    exact ⟨by rw [HNo.out (.inl (by omega))]; rfl,rfl⟩
   have d2 : decide ((bn s k : Int) < 97) = false := decide_eq_false c2
   by_cases c3 : (122 : Int) < (bn s k : Int)
   ·go_wp2_with fail
    go_ret
    exact ⟨by rw [HNo.out (.inr (by omega))]; rfl,rfl⟩
   have d3 : decide ((122 : Int) < (bn s k : Int)) = false := decide_eq_false c3
   go_wp2_with fail
   go_round
   case rel =>
    refine ⟨k + 1,by omega,by go_num,fun j hj => ?_⟩
    by_cases e : j = k
    ·rw [e]
     omega
    ·exact HJ.out j (by omega)
   case measure => simp [intOf]; omega
  ·obtain rfl : k = s.size := by omega
   go_wp2_with fail
   go_ret
   refine ⟨?_,rfl⟩
   rw [HD.out true]
   ·rfl
   rw [HV.out]
   exact ⟨fun _ => ⟨H1.out,by omega,HJ.out⟩,fun _ => rfl⟩
set_option maxHeartbeats 4000000 in
theorem implSeriesOk (l : List Ser) (v : Value) (w : World) (B : Nat) (hv : SerV w B v l) (hn : SShort l) (hf : ∀ x ∈ l,x.key.size ≤ maxLen) (hB : B ≤ w.heap.size) : Calls Tryz.prog 80 #[v] w fun e w' => e = .returned (.bool (decide (SOk l))) ∧ Below w.heap.size w w' := by
 obtain ⟨A,cap,rfl,hl⟩ := hv.look
 have HL : Hid (∀ j,j < l.length → ∃ g off u,A = some ⟨g,off,none⟩ ∧ g < B ∧ w.cell? ⟨g,off + j * 2,none⟩ = some (.string (sAt l j).key) ∧ w.cell? ⟨g,off + j * 2 + 1,none⟩ = some u ∧ Lies w B 2 u (ptR (sAt l j).pts)) := hl
 have HB : Hid (B ≤ w.heap.size) := hB
 have HF : Hid (∀ j,j < l.length → (sAt l j).key.size ≤ maxLen ∧ (sAt l j).pts.length ≤ 1048576) := fun j hj => ⟨hf _ (getD_mem l j hj),hn.2 _ (getD_mem l j hj)⟩
 have HD : Hid (∀ b,(b = true ↔ SOk l) → decide (SOk l) = b) := fun b hb => dec_of b hb
 have HV : Hid (SOk l ↔ l.length ≤ 5 ∧ ∀ j,j < l.length → (KOk (sAt l j).key ∧ (0 < j → ahd (sAt l (j - 1)).key (sAt l j).key = true)) ∧ 1 ≤ (sAt l j).pts.length ∧ POk (sAt l j).pts) := Iff.rfl
 have q0 : (l.length : Int) ≤ 1048576 := by have := hn.1; omega
 clear hl hn hv hB hf
 generalize hN : l.length = n at *
 clear hN
 by_cases h2 : (5 : Int) < (n : Int)
 ·go_enter Tryz.func80,Tryz.ntmps80
  go_wp2
  go_ret
  refine ⟨?_,Below.refl _ _⟩
  rw [HD.out false]
  ·rfl
  rw [HV.out]
  exact ⟨fun h => (by cases h),fun h => by omega⟩
 have q1 : (n : Int) ≤ 5 := by omega
 clear h2
 go_enter Tryz.func80,Tryz.ntmps80
 go_wp2_with fail
 go_loopw [3,11] (fun v3 v11 wr => ∃ (k : Nat) (m : ByteArray),k ≤ n ∧ v11 = .int .i64 (k : Int) ∧ v3 = .string m ∧ Hid ((k = 0 → m = ⟨#[]⟩) ∧ (0 < k → m = (sAt l (k - 1)).key)) ∧ Below w.heap.size w wr ∧ Hid (∀ j,j < k → (KOk (sAt l j).key ∧ (0 < j → ahd (sAt l (j - 1)).key (sAt l j).key = true)) ∧ 1 ≤ (sAt l j).pts.length ∧ POk (sAt l j).pts)) (fun _ i _ => n - (intOf i).toNat)
 case atStart => exact ⟨0,⟨#[]⟩,by omega,rfl,rfl,⟨fun _ => rfl,fun h => by omega⟩,Below.refl _ _,fun j hj => by omega⟩
 case round =>
  obtain ⟨k,m,hk,rfl,rfl,HM,hb,HJ⟩ := hrel
  have HB1 := hQz hb
  clear hb
  by_cases hlt : k < n
  ·have q2 : (k : Int) < (n : Int) := by omega
   obtain ⟨g,off,u,rfl,hg,e1,e2,hu⟩ := HL.out k hlt
   have hgw : g < w.heap.size := Nat.lt_of_lt_of_le hg HB.out
   rw [← HB1.out.cell (p := ⟨_,_,none⟩) hgw] at e1
   rw [← HB1.out.cell (p := ⟨_,_,none⟩) hgw] at e2
   have hfk := HF.out k hlt
   have HK : Hid ((sAt l k).key.size ≤ maxLen) := hfk.1
   have HPn : Hid ((sAt l k).pts.length ≤ 1048576) := hfk.2
   obtain ⟨A',cap',rfl,_⟩ := pt_look hu
   have HU := hQz (hu.on (HB1.out.mono HB.out))
   clear hu hfk
   have HX : Hid ((ahd m (sAt l k).key = true ↔ (0 < k → ahd (sAt l (k - 1)).key (sAt l k).key = true)) ∨ ¬ KOk (sAt l k).key) := by
    by_cases hkk : KOk (sAt l k).key
    ·left
     by_cases h0 : k = 0
     ·rw [HM.out.1 h0]
      exact ⟨fun _ h => by omega,fun _ => ahd_empty _ hkk.1⟩
     ·rw [HM.out.2 (by omega)]
      exact ⟨fun h _ => h,fun h => h (by omega)⟩
    ·exact .inr hkk
   have HNo : Hid ((¬ KOk (sAt l k).key ∨ ahd m (sAt l k).key = false ∨ (sAt l k).pts.length = 0 ∨ ¬ POk (sAt l k).pts) → decide (SOk l) = false) := fun h => by
    apply HD.out
    rw [HV.out]
    refine ⟨fun h => (by cases h),fun h2 => ?_⟩
    have h3 := h2.2 k hlt
    rcases h with h | h | h | h
    ·exact absurd h3.1.1 h
    ·rcases HX.out with hx | hx
     ·have := hx.2 h3.1.2
      rw [h] at this
      cases this
     ·exact absurd h3.1.1 hx
    ·omega
    ·exact absurd h3.2.2 h
   have HYes : Hid ((KOk (sAt l k).key ∧ ahd m (sAt l k).key = true ∧ 1 ≤ (sAt l k).pts.length ∧ POk (sAt l k).pts) → (KOk (sAt l k).key ∧ (0 < k → ahd (sAt l (k - 1)).key (sAt l k).key = true)) ∧ 1 ≤ (sAt l k).pts.length ∧ POk (sAt l k).pts) := fun h => by
    rcases HX.out with hx | hx
    ·exact ⟨⟨h.1,hx.1 h.2.1⟩,h.2.2⟩
    ·exact absurd h.1 hx
   have HM2 : Hid (∀ x,x = sAt l k → ((k + 1 = 0 → x.key = ⟨#[]⟩) ∧ (0 < k + 1 → x.key = (sAt l (k + 1 - 1)).key))) := fun x hx => ⟨fun h => by omega,fun _ => by rw [Nat.add_sub_cancel,hx]⟩
   have HJ2 : Hid ((KOk (sAt l k).key ∧ (0 < k → ahd (sAt l (k - 1)).key (sAt l k).key = true)) ∧ 1 ≤ (sAt l k).pts.length ∧ POk (sAt l k).pts → ∀ j,j < k + 1 → (KOk (sAt l j).key ∧ (0 < j → ahd (sAt l (j - 1)).key (sAt l j).key = true)) ∧ 1 ≤ (sAt l j).pts.length ∧ POk (sAt l j).pts) := fun h j hj => by
    by_cases e : j = k
    ·rw [e]; exact h
    ·exact HJ.out j (by omega)
   clear HX
   generalize hx : sAt l k = x at *
   have HXx : Hid (x = sAt l k) := hx.symm
   clear hx hgw hg
   obtain ⟨xk,xp⟩ := x
   simp only at e1 e2 HK HPn HU HNo HYes HJ2
   have c1 := fun wx => implIsKey xk wx HK.out
   have HWa : Hid (∀ cs,Below w.heap.size w (wr.alloc (.cells cs 101))) := fun cs => HB1.out.alloc HB1.out.size _
   have HWu : Hid (∀ cs,Below wr.heap.size wr (wr.alloc (.cells cs 101))) := fun cs => (Below.refl _ wr).alloc (Nat.le_refl _) _
   by_cases k1 : ¬ KOk xk
   ·rw [decide_eq_false k1] at c1
    have K1 : Hid (¬ KOk xk) := k1
    clear k1
    go_wp2_with fail
    refine (c1 _).mono ?_
    rintro e w' ⟨rfl,rfl⟩
    go_wp2_with fail
    go_ret
    exact ⟨by rw [HNo.out (.inl K1.out)]; rfl,HWa.out _⟩
   have K1 : Hid (KOk xk) := (Decidable.not_not (p := KOk xk)).1 k1
   rw [decide_eq_true K1.out] at c1
   clear k1
   cases k2 : ahd m xk with
   | false =>
    have KN : Hid (decide (SOk l) = false) := HNo.out (.inr (.inl k2))
    rcases ahd_no k2 with hle | rfl
    ·clear k2
     go_wp2_with fail
     refine (c1 _).mono ?_
     rintro e w' ⟨rfl,rfl⟩
     go_wp2_with fail
     go_ret
     exact ⟨by rw [KN.out]; rfl,HWa.out _⟩
    ·have hle := less_irrefl xk.toList
     clear k2
     go_wp2_with fail
     refine (c1 _).mono ?_
     rintro e w' ⟨rfl,rfl⟩
     go_wp2_with fail
     go_ret
     exact ⟨by rw [KN.out]; rfl,HWa.out _⟩
   | true =>
   obtain ⟨hle,hle2⟩ := ahd_yes k2
   have K2 : Hid (ahd m xk = true) := k2
   clear k2
   by_cases k3 : xp.length = 0
   ·have K3 : Hid (xp.length = 0) := k3
    rw [k3] at HU e2
    clear k3
    go_wp2_with fail
    refine (c1 _).mono ?_
    rintro e w' ⟨rfl,rfl⟩
    go_wp2_with fail
    go_ret
    exact ⟨by rw [HNo.out (.inr (.inr (.inl K3.out)))]; rfl,HWa.out _⟩
   have K3 : Hid (1 ≤ xp.length) := by unfold Hid; omega
   have d3 : decide ((xp.length : Int) = 0) = false := decide_eq_false (by omega)
   have d4 : ((xp.length : Int) == 0) = false := by rw [beq_eq_false_iff_ne]; omega
   have c2 := fun (cs : Array Value) => implPointsOk xp (.slice A' xp.length cap') (wr.alloc (.cells cs 101)) B (HU.out.on ((HWu.out cs).mono (Nat.le_trans HB.out HB1.out.size))) HPn.out (Nat.le_trans HB.out (HWa.out cs).size)
   clear k3
   generalize hpn : xp.length = pn at *
   by_cases k4 : ¬ POk xp
   ·rw [decide_eq_false k4] at c2
    have K4 : Hid (¬ POk xp) := k4
    clear k4
    go_wp2_with fail
    refine (c1 _).mono ?_
    rintro e w' ⟨rfl,rfl⟩
    go_wp2_with fail
    refine (c2 _).mono ?_
    rintro e w' ⟨rfl,hb2⟩
    have B2 := hQz ((HWa.out _).trans (hb2.mono (HWa.out _).size))
    clear hb2
    go_wp2_with fail
    go_ret
    exact ⟨by rw [HNo.out (.inr (.inr (.inr K4.out)))]; rfl,B2.out⟩
   have K4 : Hid (POk xp) := (Decidable.not_not (p := POk xp)).1 k4
   rw [decide_eq_true K4.out] at c2
   clear k4
   go_wp2_with fail
   refine (c1 _).mono ?_
   rintro e w' ⟨rfl,rfl⟩
   go_wp2_with fail
   refine (c2 _).mono ?_
   rintro e w' ⟨rfl,hb2⟩
   have B2 := hQz ((HWa.out _).trans (hb2.mono (HWa.out _).size))
   have m0 := (Blk.new wr #[.string xk,.slice A' pn cap'] 101).on hb2 (by rw [World.size_alloc]; omega)
   have m1 := m0.cell 0 _ rfl
   clear hb2 m0
   go_wp2_with fail
   go_roundw
   case rel => exact ⟨k + 1,xk,by omega,by go_num,rfl,HM2.out ⟨xk,xp⟩ rfl,B2.out,HJ2.out (HYes.out ⟨K1.out,K2.out,K3.out,K4.out⟩)⟩
   case measure => simp [intOf]; omega
  ·obtain rfl : k = n := by omega
   go_wp2_with fail
   go_ret
   refine ⟨?_,HB1.out⟩
   rw [HD.out true]
   ·rfl
   rw [HV.out]
   exact ⟨fun _ => ⟨by omega,HJ.out⟩,fun _ => rfl⟩
end Go.Proofs.YthhamlahdjokkaaGreatDoor
