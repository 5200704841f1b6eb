/- FlText FlReadI UntilF IgTk StrAid EgRow StRow IgSt IgCl -/
import Derived.Test.YthhamlahdjokkaaGreatDoorQe7
import Derived.Deep.Cut
open List (setIfInBounds_toArray set_cons_zero set_cons_succ)
namespace Go.Proofs.YthhamlahdjokkaaGreatDoor
open Go.ChangeShapes Go.WideShapes Go.ChangeAt Go.RowKit Go.PlainAid
set_option linter.unusedVariables false
def upB (l : List Ser) (k : Nat) : List UInt8 := magic ++ blks l k
def upI (l : List Ser) (k : Nat) : List UInt8 := magic ++ (blks l l.length ++ idxB l k)
theorem upB_zero (l : List Ser) : (⟨#[]⟩ : ByteArray) ++ ⟨#[116,115,98,49]⟩ = txt (upB l 0) := by
 show txt [] ++ txt magic = _
 rw [txt_cat,upB,blks,cat_zero,List.append_nil,List.nil_append]
theorem upB_succ (l : List Ser) (k : Nat) : txt (upB l k) ++ showB (sAt l k).pts = txt (upB l (k + 1)) := by
 conv => lhs; arg 2; rw [← txt_bl (showB (sAt l k).pts)]
 rw [txt_cat]
 unfold upB blks
 rw [cat_succ,List.append_assoc]
 rfl
theorem upB_size (l : List Ser) (k : Nat) : (txt (upB l k)).size = atB l k := by rw [txt_size,upB,List.length_append]; rfl
theorem upI_zero (l : List Ser) : upB l l.length = upI l 0 := by unfold upB upI idxB; rw [cat_zero,List.append_nil]
theorem upI_succ (l : List Ser) (k : Nat) : txt (upI l k) ++ txt (spB l k) = txt (upI l (k + 1)) := by
 rw [txt_cat]
 unfold upI idxB
 rw [cat_succ]
 simp only [List.append_assoc]
theorem upI_size {l : List Ser} (h : SOk l) (k : Nat) (hk : k ≤ l.length) : (txt (upI l k)).size ≤ 5000 := by
 have h1 := blks_length l l.length
 have h2 := idxB_length h k hk
 have := h.1
 rw [txt_size,upI,List.length_append,List.length_append]
 have : magic.length = 4 := rfl
 omega
theorem body_four {l : List Ser} (h : SOk l) : txt (upI l l.length) ++ fixed (atB l l.length) 4 = txt (bodyF l) := by
 have := atB_le h l.length (Nat.le_refl _)
 rw [fixed_four _ (by omega),four,txt_cat]
 unfold upI bodyF
 simp only [List.append_assoc]
theorem file_four (l : List Ser) : txt (bodyF l) ++ fixed (crc (txt (bodyF l))) 4 = txt (fileB l) := by
 rw [fixed_four _ (crc_lt _),four,txt_cat]
 rfl
theorem spot_is {l : List Ser} (h : SOk l) (k : Nat) (hk : k < l.length) : (⟨(sAt l k).key,(txt (upB l k)).size,(showB (sAt l k).pts).size,(tAt (sAt l k).pts 0).toNat,(tAt (sAt l k).pts ((sAt l k).pts.length - 1)).toNat⟩ : Spot) = spotOf l k := by
 unfold spotOf
 rw [upB_size,← bl_length]
 rfl
theorem spotOf_fits {l : List Ser} (h : SOk l) (k : Nat) (hk : k < l.length) : SpFits (spotOf l k) := by
 obtain ⟨h1,h2,h3,h4,h5⟩ := nums_le h k hk
 have := h.key k hk
 exact ⟨show (sAt l k).key.size ≤ 1048576 by omega,h2,h3,h4,h5⟩
theorem spots_snoc (l : List Ser) (k : Nat) : (List.range (k + 1)).map (spotOf l) = (List.range k).map (spotOf l) ++ [spotOf l k] := by rw [List.range_succ,List.map_append]; rfl
theorem range_get (l : List Ser) (n k : Nat) (hk : k < n) : ((List.range n).map (spotOf l)).getD k default = spotOf l k := by
 rw [← getD_at _ k (by simpa using hk),List.getElem_map,List.getElem_range]
theorem fileT_no {l : List Ser} (h : ¬ (1 ≤ l.length ∧ SOk l)) : fileT l = ⟨#[]⟩ := by unfold fileT; rw [if_neg h]; rfl
theorem fileT_yes {l : List Ser} (h : 1 ≤ l.length ∧ SOk l) : fileT l = txt (fileB l) := by unfold fileT; rw [if_pos h]
theorem bodyF_size {l : List Ser} (h : SOk l) : (txt (bodyF l)).size ≤ 5000 := by rw [txt_size]; exact (bodyF_length h).2
theorem four_small (n : Nat) : (fixed n 4).size ≤ 4 := by
 unfold fixed
 split <;> rw [txt_size]
 ·rw [low_length]; omega
 ·simp
set_option maxHeartbeats 4000000 in
theorem implFileText (l : List Ser) (v : Value) (w : World) (B : Nat) (hv : SerV w B v l) (hn : SShort l) (hf : ∀ x ∈ l,x.key.size ≤ maxLen) (hB : B ≤ w.heap.size) (hst : SumTab w) : Calls Tryz.prog 43 #[v] w fun e w' => e = .returned (.string (fileT l)) ∧ Below w.heap.size w w' := by
 have c1 := implSeriesOk l v w B hv hn hf hB
 have ST := hQz hst
 clear hst
 obtain ⟨A,cap,rfl,hl⟩ := hv.look
 have HV0 : Hid (SerV w B (.slice A l.length cap) l) := hv
 have HL : Hid (∀ j,j < l.length → ∃ g off u,A = some ⟨g,off,none⟩ ∧ g < B ∧ w.cell? ⟨g,off + j * 2,none⟩ = some (.string (sAt l j).key) ∧ w.cell? ⟨g,off + j * 2 + 1,none⟩ = some u ∧ Lies w B 2 u (ptR (sAt l j).pts)) := hl
 have HB : Hid (B ≤ w.heap.size) := hB
 have q0 : (l.length : Int) ≤ 1048576 := by have := hn.1; omega
 clear hl hn hv hB hf
 by_cases h0 : l.length = 0
 ·have HE : Hid (fileT l = ⟨#[]⟩) := fileT_no (fun hh => by omega)
  rw [h0]
  clear c1 h0 q0 HV0
  go_enter Tryz.func43,Tryz.ntmps43
  go_wp2_with fail
  go_ret
  exact ⟨by rw [HE.out]; rfl,Below.refl _ _⟩
 have d0 : ((l.length : Int) == 0) = false := by rw [beq_eq_false_iff_ne]; omega
 have d1 : decide ((l.length : Int) = 0) = false := decide_eq_false (by omega)
 by_cases hok : ¬ SOk l
 ·have HE : Hid (fileT l = ⟨#[]⟩) := fileT_no (fun hh => hok hh.2)
  rw [decide_eq_false hok] at c1
  clear hok
  go_enter Tryz.func43,Tryz.ntmps43
  go_wp2_with fail
  refine c1.mono ?_
  rintro e w1 ⟨rfl,hb1⟩
  go_wp2_with fail
  go_ret
  exact ⟨by rw [HE.out]; rfl,hb1⟩
 have HK : Hid (SOk l) := (Decidable.not_not (p := SOk l)).1 hok
 rw [decide_eq_true HK.out] at c1
 have HE : Hid (fileT l = txt (fileB l)) := fileT_yes ⟨by omega,HK.out⟩
 have H1 : Hid (1 ≤ l.length) := by unfold Hid; omega
 have q1 : (l.length : Int) ≤ 5 := by have := HK.out.1; omega
 clear hok h0
 generalize hN : l.length = n at *
 have HN : Hid (l.length = n) := hN
 clear hN
 go_enter Tryz.func43,Tryz.ntmps43
 go_wp2_with fail
 refine c1.mono ?_
 rintro e w1 ⟨rfl,hb1⟩
 have B1 := hQz hb1
 have C1 : Hid (CurB (w1.alloc (.cells #[.string ⟨#[]⟩,.int .i64 0] 123)) w1.heap.size ⟨#[]⟩ 0 123) := Blk.new w1 _ _
 have HG := hQz (hb1.size)
 have B1a : Hid (Below w.heap.size w (w1.alloc (.cells #[.string ⟨#[]⟩,.int .i64 0] 123))) := hb1.alloc hb1.size _
 clear hb1 c1
 generalize hg : w1.heap.size = g at *
 go_wp2_with fail
 refine (writeV ⟨#[]⟩ ⟨#[116,115,98,49]⟩ _ g 0 C1.out (by simp [ByteArray.size])).mono ?_
 rintro e X0 ⟨⟨uu,rfl⟩,hC,hk⟩
 rw [upB_zero l,upB_size] at hC
 have B0 : Hid (Below w.heap.size w X0) := B1a.out.trans (hk.1.mono HG.out)
 have C0 : Hid (CurB X0 g (txt (upB l 0)) (atB l 0) 123) := hC
 clear hk hC hg
 go_wp2_with fail
 go_loopw [4,21] (fun v4 v21 wr => ∃ k : Nat,k ≤ n ∧ v21 = .int .i64 (k : Int) ∧ Owns wr w.heap.size 127 5 v4 (spR ((List.range k).map (spotOf l))) ∧ CurB wr g (txt (upB l k)) (atB l k) 123 ∧ Below w.heap.size w wr) (fun _ i _ => n - (intOf i).toNat)
 case atStart => exact ⟨0,by omega,rfl,Owns.nil _ _ _ _,C0.out,B0.out⟩
 case round =>
  obtain ⟨k,hk,rfl,hO,hC,hb⟩ := hrel
  have HO := hQz hO
  have HC : Hid (CurB wr g (txt (upB l k)) (atB l k) 123) := hC
  have HB1 := hQz hb
  clear hO hC hb
  by_cases hlt : k < n
  ·have q4 : (k : Int) < (n : Int) := by omega
   obtain ⟨gs,off,us,rfl,hg,e1,e2,hu⟩ := HL.out k hlt
   have hgw : gs < w.heap.size := Nat.lt_of_lt_of_le hg HB.out
   rw [← HB1.out.cell (p := ⟨_,_,none⟩) hgw] at e1
   rw [← HB1.out.cell (p := ⟨_,_,none⟩) hgw] at e2
   have HU := hQz (hu.on (HB1.out.mono HB.out))
   obtain ⟨A',cap',rfl,_⟩ := pt_look hu
   have hsk := HK.out.2 k (by have := HN.out; omega)
   have HP1 : Hid (1 ≤ (sAt l k).pts.length ∧ POk (sAt l k).pts) := hsk.2
   have HSp : Hid ((⟨(sAt l k).key,(txt (upB l k)).size,(showB (sAt l k).pts).size,(tAt (sAt l k).pts 0).toNat,(tAt (sAt l k).pts ((sAt l k).pts.length - 1)).toNat⟩ : Spot) = spotOf l k) := spot_is HK.out k (by have := HN.out; omega)
   have HSu : Hid (txt (upB l k) ++ showB (sAt l k).pts = txt (upB l (k + 1))) := upB_succ l k
   have HSz : Hid ((txt (upB l k)).size = atB l k ∧ (txt (upB l (k + 1))).size = atB l (k + 1) ∧ atB l k ≤ 4504) := ⟨upB_size l k,upB_size l (k + 1),atB_le HK.out k (by have := HN.out; omega)⟩
   clear hu hsk
   have HWa : Hid (∀ cs,Below w.heap.size w (wr.alloc (.cells cs 101))) := fun cs => HB1.out.alloc HB1.out.size _
   have HWu : Hid (∀ cs,Below wr.heap.size wr (wr.alloc (.cells cs 101))) := fun cs => (Below.refl _ wr).alloc (Nat.le_refl _) _
   generalize hx : sAt l k = x at *
   clear hx hgw hg
   obtain ⟨xk,xp⟩ := x
   simp only at e1 e2 HU HP1 HSp HSu
   have cw := fun (cs : Array Value) => writeBlockV (txt (upB l k)) ⟨xk,xp⟩ (.slice A' xp.length cap') (wr.alloc (.cells cs 101)) g B (by rw [HSz.out.1]; exact Blk.alloc HC.out _) (HU.out.on ((HWu.out cs).mono (Nat.le_trans HB.out HB1.out.size))) HP1.out.1 HP1.out.2 (Nat.le_trans HB.out HG.out) (by rw [HSz.out.1]; have := HSz.out; omega) (ST.out.on (HWa.out cs))
   simp only [HSp.out,HSu.out,HSz.out.2.1] at cw
   unfold vSr vSp at cw
   generalize hpn : xp.length = pn at *
   go_wp2_with fail
   refine (cw _).mono ?_
   rintro e X1 ⟨rfl,hC1,hk1⟩
   have C1 : Hid (CurB X1 g (txt (upB l (k + 1))) (atB l (k + 1)) 123) := hC1
   have B1 : Hid (Below w.heap.size w X1) := (HWa.out _).trans (hk1.1.mono HG.out)
   have O1 : Hid (Owns X1 w.heap.size 127 5 u4 (spR ((List.range k).map (spotOf l)))) := hk1.owns (HO.out.alloc _) ((HO.out.alloc (.cells #[.string xk,.slice A' pn cap'] 101)).notBlk (Blk.alloc HC.out (.cells #[.string xk,.slice A' pn cap'] 101)) (by decide))
   have NB : Hid (u4.ownBlock ≠ some g) := O1.out.notBlk C1.out (by decide)
   have Z1 : w.heap.size ≤ X1.heap.size := B1.out.size
   have L2 : Hid ((spR ((List.range k).map (spotOf l))).length ≤ 2097152) := by unfold Hid; rw [spR_length,List.length_map,List.length_range]; omega
   clear hC1 hk1 cw
   go_wp2_with (at_builtin; refine wpList_append_row (w := X1) rfl (.tmp 25) (.tmp 28) 125 127 (.agg #[.string ⟨#[]⟩,.int .i64 0,.int .i64 0,.int .i64 0,.int .i64 0]) 5 48 rfl Tryz.underlying125 Tryz.infoSp rfl (by omega) w.heap.size u4 (spR ((List.range k).map (spotOf l))) rfl O1.out (spC (spotOf l k)) rfl (sp_one _) rfl L2.out (by omega) Z1 ?_; intro v2 w4 hO4 hb4 hk4 hw4; refine Shut.out ?_)
   unfold Shut
   have P2 : Hid (Owns w4 w.heap.size 127 5 v2 (spR ((List.range (k + 1)).map (spotOf l)))) := by unfold Hid; rw [spots_snoc,spR_append]; exact hO4
   have C4 := hQz ((hk4 g (Blk.lt C1.out) NB.out).trans C1.out)
   have B4 := hQz (B1.out.trans hb4)
   clear hO4 hb4 hk4 hw4
   go_wp2_with fail
   go_roundw
   case rel => exact ⟨k + 1,by omega,by go_num,P2.out,C4.out,B4.out⟩
   case measure => simp [intOf]; omega
  ·obtain rfl : k = n := by omega
   have mm : wr.cell? ⟨g,1,none⟩ = some (.int .i64 (atB l k : Int)) := Blk.cell HC.out 1 _ rfl
   have HSz : Hid (atB l k ≤ 4504) := atB_le HK.out k (by have := HN.out; omega)
   obtain ⟨A4,c4,e4,hl4⟩ := sp_look HO.out.lies
   rw [List.length_map,List.length_range] at e4
   subst e4
   obtain ⟨g4,o4,rfl,_⟩ := hl4 0 (by rw [List.length_map,List.length_range]; have := H1.out; omega)
   clear hl4
   have NB : Hid (g4 ≠ g) := fun e => HO.out.notBlk HC.out (by decide) (by rw [e]; rfl)
   have HC2 : Hid (CurB wr g (txt (upI l 0)) (atB l k) 123) := by
    unfold Hid
    rw [← upI_zero,HN.out]
    exact HC.out
   go_wp2_with fail
   refine (placeV wr g (atB l k) mm).mono ?_
   rintro e w' ⟨rfl,rfl⟩
   clear mm
   go_wp2_with fail
   go_loopw [35] (fun v35 ws => ∃ (j p : Nat),j ≤ k ∧ v35 = .int .i64 (j : Int) ∧ Owns ws w.heap.size 127 5 (.slice (some ⟨g4,o4,none⟩) k c4) (spR ((List.range k).map (spotOf l))) ∧ CurB ws g (txt (upI l j)) p 123 ∧ Below w.heap.size w ws) (fun i _ => k - (intOf i).toNat)
   case atStart => exact ⟨0,_,by omega,rfl,HO.out,HC2.out,HB1.out⟩
   case round =>
    obtain ⟨j,p,hj,rfl,hO,hC,hb⟩ := hrel
    have JO := hQz hO
    have JC : Hid (CurB wr g (txt (upI l j)) p 123) := hC
    have JB := hQz hb
    clear hO hC hb
    by_cases hjt : j < k
    ·have q5 : (j : Int) < (k : Int) := by omega
     obtain ⟨A5,c5,e5,hl5⟩ := sp_look JO.out.lies
     rw [List.length_map,List.length_range] at e5
     cases e5
     obtain ⟨g5,o5,e5,_,e0,e1,e2,e3,e4⟩ := hl5 j (by rw [List.length_map,List.length_range]; exact hjt)
     cases e5
     clear hl5
     rw [range_get l k j hjt] at e0 e1 e2 e3 e4
     have HSF : Hid (SpFits (spotOf l j)) := spotOf_fits HK.out j (by have := HN.out; omega)
     have HKS : Hid ((sAt l j).key.size ≤ 8 ∧ (txt (upI l j)).size ≤ 5000 ∧ (txt (upI l (j + 1))).size ≤ 5000) := ⟨(HK.out.key j (by have := HN.out; omega)).2,upI_size HK.out j (by have := HN.out; omega),upI_size HK.out (j + 1) (by have := HN.out; omega)⟩
     have HSu : Hid (txt (upI l j) ++ txt (spT (spotOf l j)) = txt (upI l (j + 1))) := upI_succ l j
     have cw := fun (cs : Array Value) => writeSpotV (txt (upI l j)) (spotOf l j) (wr.alloc (.cells cs 127)) g p (Blk.alloc JC.out _) HSF.out (by have := HKS.out; show (txt (upI l j)).size + (sAt l j).key.size ≤ 900000; omega)
     have HWa : Hid (∀ cs,Below w.heap.size w (wr.alloc (.cells cs 127))) := fun cs => JB.out.alloc JB.out.size _
     have JOa : Hid (∀ cs,Owns (wr.alloc (.cells cs 127)) w.heap.size 127 5 (.slice (some ⟨g4,o4,none⟩) k c4) (spR ((List.range k).map (spotOf l)))) := fun cs => JO.out.alloc _
     simp only [HSu.out] at cw
     unfold vSp at cw
     generalize spotOf l j = x at *
     go_wp2_with fail
     refine (cw _).mono ?_
     rintro e X1 ⟨⟨uu',rfl⟩,hC1,hk1⟩
     have C1 : Hid (CurB X1 g (txt (upI l (j + 1))) (txt (upI l (j + 1))).size 123) := hC1
     have B1 : Hid (Below w.heap.size w X1) := (HWa.out _).trans (hk1.1.mono HG.out)
     have O1 : Hid (Owns X1 w.heap.size 127 5 (.slice (some ⟨g4,o4,none⟩) k c4) (spR ((List.range k).map (spotOf l)))) := hk1.owns (JOa.out _) (fun e => NB.out (Option.some.inj e))
     clear hC1 hk1 cw
     go_wp2_with fail
     go_roundw
     case rel => exact ⟨j + 1,_,by omega,by go_num,O1.out,C1.out,B1.out⟩
     case measure => simp [intOf]; omega
    ·obtain rfl : j = k := by omega
     clear JO
     have HF4 : Hid (txt (upI l j) ++ fixed (atB l j) 4 = txt (bodyF l)) := by have := body_four HK.out; rw [HN.out] at this; exact this
     have HF8 : Hid (txt (bodyF l) ++ fixed (crc (txt (bodyF l))) 4 = txt (fileB l)) := file_four l
     have HS5 : Hid ((txt (upI l j)).size ≤ 5000 ∧ (txt (bodyF l)).size ≤ 5000) := ⟨upI_size HK.out j (by have := HN.out; omega),bodyF_size HK.out⟩
     have HC32 := crc_lt (txt (bodyF l))
     have z4 := four_small (atB l j)
     have z8 := four_small (crc (txt (bodyF l)))
     have f4 := fun wx => impl_fixed (atB l j) 4 wx (by have := HSz.out; omega) (by omega) (by omega)
     have f8 := fun wx => impl_fixed (crc (txt (bodyF l))) 4 wx (by omega) (by omega) (by omega)
     go_wp2_with fail
     refine (f4 _).mono ?_
     rintro e Y1 ⟨rfl,hb1⟩
     have CY1 : Hid (CurB Y1 g (txt (upI l j)) p 123) := Blk.on JC.out hb1 (Blk.lt JC.out)
     have BY1 := hQz (JB.out.trans (hb1.mono JB.out.size))
     clear hb1
     go_wp2_with fail
     refine (writeV (txt (upI l j)) (fixed (atB l j) 4) Y1 g p CY1.out (by have := HS5.out; omega)).mono ?_
     rintro e Y2 ⟨⟨u1,rfl⟩,hC2,hk2⟩
     rw [HF4.out] at hC2
     have CY2 : Hid (CurB Y2 g (txt (bodyF l)) (txt (bodyF l)).size 123) := hC2
     have BY2 : Hid (Below w.heap.size w Y2) := BY1.out.trans (hk2.1.mono HG.out)
     clear hC2 hk2
     have m0 : Y2.cell? ⟨g,0,none⟩ = some (.string (txt (bodyF l))) := Blk.cell CY2.out 0 _ rfl
     go_wp2_with fail
     refine (impl_crc (txt (bodyF l)) Y2 (by have := HS5.out; omega) (ST.out.on BY2.out)).mono ?_
     rintro e w' ⟨rfl,rfl⟩
     clear m0
     go_wp2_with fail
     refine (f8 _).mono ?_
     rintro e Y3 ⟨rfl,hb3⟩
     have CY3 : Hid (CurB Y3 g (txt (bodyF l)) (txt (bodyF l)).size 123) := Blk.on CY2.out hb3 (Blk.lt CY2.out)
     have BY3 := hQz (BY2.out.trans (hb3.mono BY2.out.size))
     clear hb3
     go_wp2_with fail
     refine (writeV (txt (bodyF l)) (fixed (crc (txt (bodyF l))) 4) Y3 g _ CY3.out (by have := HS5.out; omega)).mono ?_
     rintro e Y4 ⟨⟨u2,rfl⟩,hC4,hk4⟩
     rw [HF8.out] at hC4
     have BY4 : Hid (Below w.heap.size w Y4) := BY3.out.trans (hk4.1.mono HG.out)
     have m4 : Y4.cell? ⟨g,0,none⟩ = some (.string (txt (fileB l))) := Blk.cell hC4 0 _ rfl
     clear hk4 hC4
     go_wp2_with fail
     go_ret
     exact ⟨by rw [HE.out]; rfl,BY4.out⟩
theorem spot_fits_at (s : ByteArray) (e : Nat) : ∀ f p,∀ x ∈ idxA s e f p,x.at' ≤ 562949953421311 ∧ x.size ≤ 562949953421311 ∧ x.key.size ≤ s.size
 | 0,_,x,hx => by cases hx
 | f + 1,p,x,hx => by
  rw [idxA] at hx
  split at hx
  ·rcases List.mem_cons.1 hx with rfl | hx
   ·refine ⟨rvN_le _,rvN_le _,?_⟩
    show (s.extract (tkP s p) (spK s p)).size ≤ s.size
    rw [ByteArray.size_extract]
    omega
   ·exact spot_fits_at s e f _ x hx
  ·cases hx
theorem spots_fit (s : ByteArray) : ∀ x ∈ spots s,x.at' ≤ 562949953421311 ∧ x.size ≤ 562949953421311 ∧ x.key.size ≤ s.size := by
 unfold spots
 split
 ·intro x hx; cases hx
 ·exact spot_fits_at s _ _ _
theorem serAll_take (s : ByteArray) (k : Nat) (h : k < (spots s).length) : ((spots s).take (k + 1)).map (serA s) = ((spots s).take k).map (serA s) ++ [serA s ((spots s).getD k default)] := by
 rw [take_getD _ k h,List.map_append]
 rfl
theorem serAll_short (s : ByteArray) : SShort (serAll s) := by
 refine ⟨by unfold serAll; rw [List.length_map]; have := spots_length s; omega,fun x hx => ?_⟩
 obtain ⟨y,_,rfl⟩ := List.mem_map.1 hx
 have := rbP_length (blkA s y)
 show (rbP (blkA s y)).length ≤ 1048576
 omega
theorem serAll_keys (s : ByteArray) (hs : s.size ≤ 1048576) : ∀ x ∈ serAll s,x.key.size ≤ maxLen := by
 intro x hx
 obtain ⟨y,hy,rfl⟩ := List.mem_map.1 hx
 have := (spots_fit s y hy).2.2
 show y.key.size ≤ maxLen
 unfold maxLen
 omega
theorem rf_yes {s : ByteArray} (h0 : serAll s ≠ []) (h : fileT (serAll s) = s) : RfAns s (serAll s) true := by
 refine .inl ⟨rfl,GoodF.of (List.length_pos_iff.2 h0) ?_ h⟩
 rcases Nat.lt_or_ge s.size 8 with h8 | h8
 ·exfalso
  apply h0
  unfold serAll spots
  rw [if_pos h8]
  rfl
 ·exact h8
theorem rf_no {s : ByteArray} (h : serAll s = [] ∨ fileT (serAll s) ≠ s) : RfAns s [] false := by
 refine .inr ⟨rfl,rfl,fun m hm => ?_⟩
 have e := hm.read.1
 rcases h with h | h
 ·rw [h] at e
  have := hm.1
  rw [← e] at this
  simp at this
 ·exact h (by rw [e]; exact hm.2.2)
theorem SerO.snoc {w1 w2 : World} {base : Nat} {v v' : Value} {L : List (Ser × Value)} {x : Ser} {u : Value} (ho : Owns w2 base 101 2 v' (srR L ++ [srC (x,u)])) (hL : ∀ p ∈ L,Owns w2 base 98 2 p.2 (ptR p.1.pts)) (hA : L.Pairwise fun p q => Apart p.2 q.2) (hu : Owns w2 base 98 2 u (ptR x.pts)) (hn : ∀ p ∈ L,Apart p.2 u) : SerO w2 base v' (L ++ [(x,u)]) := by
 refine ⟨by rw [srR_append]; exact ho,?_,?_⟩
 ·intro p hp
  rcases List.mem_append.1 hp with hp | hp
  ·exact hL p hp
  ·rw [List.mem_singleton.1 hp]
   exact hu
 ·rw [List.pairwise_append]
  refine ⟨hA,List.pairwise_singleton _ _,fun p hp q hq => ?_⟩
  rw [List.mem_singleton.1 hq]
  exact hn p hp
theorem SerO.others {w w' : World} {base g : Nat} {v : Value} {L : List (Ser × Value)} (h : SerO w base v L) (hk : KeptBut g w w') (hg : g < base) : SerO w' base v L :=
 ⟨hk.owns h.1 (h.1.below hg),fun p hp => hk.owns (h.2.1 p hp) ((h.2.1 p hp).below hg),h.2.2⟩
set_option maxHeartbeats 4000000 in
theorem implReadFile (s : ByteArray) (w : World) (hs : s.size ≤ 1048576) (hst : SumTab w) (a0 a1 a2 : Addr) (he : Errs w a0 a1 a2) : Calls Tryz.prog 167 #[.string s] w fun e w' => (∃ u L ok,RfAns s (L.map Prod.fst) ok ∧ e = .returned (.tuple #[u,.bool ok]) ∧ SerO w' w.heap.size u L) ∧ Below w.heap.size w w' := by
 have HS : Hid (s.size ≤ 1048576) := hs
 have ST := hQz hst
 have ER := hQz he
 have C0 : Hid (CurB (w.alloc (.cells #[.string s,.int .i64 0] 231)) w.heap.size s 0 231) := Blk.new w _ _
 have B0 : Hid (Below w.heap.size w (w.alloc (.cells #[.string s,.int .i64 0] 231))) := (Below.refl _ w).alloc (Nat.le_refl _) _
 have HZ0 : Hid ((w.alloc (.cells #[.string s,.int .i64 0] 231)).heap.size = w.heap.size + 1) := World.size_alloc _ _
 have q0 : (s.size : Int) ≤ 1048576 := by omega
 clear hs hst he
 go_enter Tryz.func167,Tryz.ntmps167
 go_wp2_with fail
 refine (readerOfV s w).mono ?_
 rintro e W1 ⟨rfl,hW1⟩
 rw [← hW1] at C0 B0 HZ0
 clear hW1
 go_wp2_with fail
 refine (readIndexV s 0 w.heap.size W1 C0.out HS.out).mono ?_
 rintro e X1 ⟨⟨u11,rfl,hO⟩,⟨p1,hC⟩,hk⟩
 rw [HZ0.out] at hO
 obtain ⟨A11,c11,e11,_⟩ := sp_look hO.lies
 have HN5 : Hid ((spots s).length ≤ 5) := spots_length s
 have C1 : Hid (CurB X1 w.heap.size s p1 231) := hC
 have B1 : Hid (Below w.heap.size w X1) := B0.out.trans hk.1
 have O1 := hQz hO
 generalize hn : (spots s).length = n at *
 have HNn : Hid ((spots s).length = n) := hn
 subst e11
 have q1 : (n : Int) ≤ 5 := by have := HN5.out; omega
 clear hO hC hk hn B0 C0 HZ0
 go_wp2_with fail
 go_loopw [5,13] (fun v5 v13 wr => ∃ (k p : Nat) (L : List (Ser × Value)),k ≤ n ∧ v13 = .int .i64 (k : Int) ∧ L.map Prod.fst = ((spots s).take k).map (serA s) ∧ SerO wr (w.heap.size + 1) v5 L ∧ Owns wr (w.heap.size + 1) 127 5 (.slice A11 n c11) (spR (spots s)) ∧ CurB wr w.heap.size s p 231 ∧ Below w.heap.size w wr) (fun _ i _ => n - (intOf i).toNat)
 case atStart => exact ⟨0,p1,[],by omega,rfl,by simp,⟨Owns.nil _ _ _ _,fun p hp => (by cases hp),List.Pairwise.nil⟩,O1.out,C1.out,B1.out⟩
 case round =>
  obtain ⟨k,p,L,hk,rfl,hLm,hO,hO11,hC,hb⟩ := hrel
  have HLM : Hid (L.map Prod.fst = ((spots s).take k).map (serA s)) := hLm
  have HLL : Hid (L.length = k) := by have := congrArg List.length hLm; rw [List.length_map,List.length_map,List.length_take] at this; have := HNn.out; unfold Hid; omega
  have HO := hQz hO
  have HO11 := hQz hO11
  have HC : Hid (CurB wr w.heap.size s p 231) := hC
  have HB1 := hQz hb
  clear hO hLm hO11 hC hb
  by_cases hlt : k < n
  ·have q4 : (k : Int) < (n : Int) := by omega
   obtain ⟨A5,c5,e5,hl5⟩ := sp_look HO11.out.lies
   rw [HNn.out] at e5 hl5
   cases e5
   obtain ⟨g5,o5,rfl,_,e0,e1,e2,e3,e4⟩ := hl5 k hlt
   clear hl5
   have HT : Hid (((spots s).take (k + 1)).map (serA s) = ((spots s).take k).map (serA s) ++ [serA s ((spots s).getD k default)]) := serAll_take s k (by rw [HNn.out]; exact hlt)
   have HFx : Hid (((spots s).getD k default).at' ≤ 562949953421311 ∧ ((spots s).getD k default).size ≤ 562949953421311 ∧ ((spots s).getD k default).key.size ≤ s.size) := spots_fit s _ (getD_mem _ k (by rw [HNn.out]; exact hlt))
   generalize hx : (spots s).getD k default = x at *
   clear hx
   obtain ⟨xk,xa,xz,xf,xl⟩ := x
   simp only at e0 e1 e2 e3 e4 HFx
   have KB0 : Hid (Blk (wr.alloc (.cells #[.string xk,.int .i64 (xa : Int),.int .i64 (xz : Int),.int .i64 (xf : Int),.int .i64 (xl : Int)] 127)).drew wr.heap.size #[.string xk,.int .i64 (xa : Int),.int .i64 (xz : Int),.int .i64 (xf : Int),.int .i64 (xl : Int)] 127) := Blk.new wr _ _
   have CB0 : Hid (CurB (wr.alloc (.cells #[.string xk,.int .i64 (xa : Int),.int .i64 (xz : Int),.int .i64 (xf : Int),.int .i64 (xl : Int)] 127)).drew w.heap.size s p 231) := Blk.alloc HC.out _
   have BB0 : Hid (Below w.heap.size w (wr.alloc (.cells #[.string xk,.int .i64 (xa : Int),.int .i64 (xz : Int),.int .i64 (xf : Int),.int .i64 (xl : Int)] 127)).drew) := (HB1.out.alloc HB1.out.size _).drew
   have OL0 : Hid (SerO (wr.alloc (.cells #[.string xk,.int .i64 (xa : Int),.int .i64 (xz : Int),.int .i64 (xf : Int),.int .i64 (xl : Int)] 127)).drew (w.heap.size + 1) u5 L) := HO.out.on ((Below.refl _ wr).alloc (Nat.le_refl _) _).drew
   have OS0 : Hid (Owns (wr.alloc (.cells #[.string xk,.int .i64 (xa : Int),.int .i64 (xz : Int),.int .i64 (xf : Int),.int .i64 (xl : Int)] 127)).drew (w.heap.size + 1) 127 5 (.slice (some ⟨g5,o5,none⟩) n c11) (spR (spots s))) := HO11.out.on ((Below.refl _ wr).alloc (Nat.le_refl _) _).drew
   have HHS : Hid (w.heap.size < wr.heap.size) := Blk.lt HC.out
   have S0 : Hid ((wr.alloc (.cells #[.string xk,.int .i64 (xa : Int),.int .i64 (xz : Int),.int .i64 (xf : Int),.int .i64 (xl : Int)] 127)).drew.cell? ⟨wr.heap.size,0,none⟩ = some (.string xk) ∧ (wr.alloc (.cells #[.string xk,.int .i64 (xa : Int),.int .i64 (xz : Int),.int .i64 (xf : Int),.int .i64 (xl : Int)] 127)).drew.cell? ⟨wr.heap.size,1,none⟩ = some (.int .i64 (xa : Int)) ∧ (wr.alloc (.cells #[.string xk,.int .i64 (xa : Int),.int .i64 (xz : Int),.int .i64 (xf : Int),.int .i64 (xl : Int)] 127)).drew.cell? ⟨wr.heap.size,2,none⟩ = some (.int .i64 (xz : Int)) ∧ (wr.alloc (.cells #[.string xk,.int .i64 (xa : Int),.int .i64 (xz : Int),.int .i64 (xf : Int),.int .i64 (xl : Int)] 127)).drew.cell? ⟨wr.heap.size,3,none⟩ = some (.int .i64 (xf : Int)) ∧ (wr.alloc (.cells #[.string xk,.int .i64 (xa : Int),.int .i64 (xz : Int),.int .i64 (xf : Int),.int .i64 (xl : Int)] 127)).drew.cell? ⟨wr.heap.size,4,none⟩ = some (.int .i64 (xl : Int))) := ⟨KB0.out.cell 0 _ rfl,KB0.out.cell 1 _ rfl,KB0.out.cell 2 _ rfl,KB0.out.cell 3 _ rfl,KB0.out.cell 4 _ rfl⟩
   have cC := clone xk (wr.alloc (.cells #[.string xk,.int .i64 (xa : Int),.int .i64 (xz : Int),.int .i64 (xf : Int),.int .i64 (xl : Int)] 127)).drew (by have := HFx.out; have := HS.out; omega)
   go_wp2_with fail
   refine wp_region_until (fun w' => w'.cell? ⟨wr.heap.size,0,none⟩ = some (.string xk) ∧ w'.cell? ⟨wr.heap.size,1,none⟩ = some (.int .i64 (xa : Int)) ∧ w'.cell? ⟨wr.heap.size,2,none⟩ = some (.int .i64 (xz : Int)) ∧ w'.cell? ⟨wr.heap.size,3,none⟩ = some (.int .i64 (xf : Int)) ∧ w'.cell? ⟨wr.heap.size,4,none⟩ = some (.int .i64 (xl : Int))) (fun i => i == 9 || i == 10) 11 (by rfl) (by kernel_rfl) ?_
   refine tKf 0 S0.out ?_
   refine tKf 1 S0.out ?_
   refine tKf 2 S0.out ?_
   refine tKf 4 S0.out ?_
   refine tKf 5 S0.out ?_
   refine uNe 3 (fun K hK => ?_)
   go_simp
   refine cC.mono ?_
   rintro e X2 ⟨rfl,hb2⟩
   have KB2 := hQz (KB0.out.on hb2 KB0.out.lt)
   have CB2 : Hid (CurB X2 w.heap.size s p 231) := Blk.on CB0.out hb2 (Blk.lt CB0.out)
   have BB2 := hQz (BB0.out.trans (hb2.mono BB0.out.size))
   have OL2 := hQz (OL0.out.on hb2)
   have OS2 := hQz (OS0.out.on hb2)
   clear hb2 cC KB0 CB0 BB0 OL0 OS0
   go_wp2_with fail
   refine hK.out _ _ (fun _ _ => ⟨KB2.out.cell 0 _ rfl,KB2.out.cell 1 _ rfl,KB2.out.cell 2 _ rfl,KB2.out.cell 3 _ rfl,KB2.out.cell 4 _ rfl⟩) ?_
   clear hK K
   try simp only [Act.put,zQ1,zQ2,zQ3]
   refine uNe 6 (fun K hK => ?_)
   go_simp
   refine (readBlockV s p w.heap.size ⟨xk,xa,xz,xf,xl⟩ X2 w CB2.out HS.out ⟨HFx.out.1,HFx.out.2.1⟩ BB2.out (Nat.le_refl _) ST.out a0 a1 a2 ER.out).mono ?_
   rintro e X3 ⟨⟨u3,rfl,hO3⟩,⟨p3,hC3⟩,hk3⟩
   obtain ⟨A3,n3,c3,rfl⟩ := hO3.shape
   have KB3 : Hid (Blk X3 wr.heap.size #[.string xk,.int .i64 (xa : Int),.int .i64 (xz : Int),.int .i64 (xf : Int),.int .i64 (xl : Int)] 127) := hk3.blk KB2.out (by have := HHS.out; omega)
   have CB3 : Hid (CurB X3 w.heap.size s p3 231) := hC3
   have BB3 : Hid (Below w.heap.size w X3) := BB2.out.trans hk3.1
   have OL3 : Hid (SerO X3 (w.heap.size + 1) u5 L) := OL2.out.others hk3 (by omega)
   have OS3 : Hid (Owns X3 (w.heap.size + 1) 127 5 (.slice (some ⟨g5,o5,none⟩) n c11) (spR (spots s))) := hk3.owns OS2.out (OS2.out.below (by omega))
   have UP3 := hQz hO3
   have AP3 : Hid (∀ q ∈ L,Apart q.2 (.slice A3 n3 c3)) := fun q hq gg h1 h2 => by
    have := ((OL2.out.2.1 q hq).lt gg h1).2
    have := (hO3.lt gg h2).1
    omega
   have Z23 : Hid (w.heap.size + 1 ≤ X2.heap.size) := by have := Blk.lt CB2.out; unfold Hid; omega
   have Z3 : w.heap.size + 1 ≤ X3.heap.size := by have := Blk.lt CB3.out; omega
   clear hO3 hC3 hk3 KB2 CB2 BB2 OL2 OS2
   obtain ⟨nA,nm,nc,w5,r5,hO5,hb5,hk5,_⟩ := run_append_row (P := Tryz.prog) X3 33 33 101 (.agg #[.string ⟨#[]⟩,.slice none 0 0]) 2 40 Tryz.underlying33 Tryz.infoSr rfl (by omega) (w.heap.size + 1) u5 (srR L) OL3.out.1 [.string xk,.slice A3 n3 c3] rfl (by intro y hy; simp only [List.mem_cons,List.not_mem_nil,or_false] at hy; rcases hy with rfl | rfl <;> rfl) (by rw [srR_length,HLL.out]; omega) (by omega) Z3
   have hne5 : ∀ (v : Value) (b : Nat) (e : TypeId) (sz : Nat) (r : List (List Value)),Owns X3 b e sz v r → e ≠ 101 → Owns w5 b e sz v r := fun v b e sz r ho hne => ho.kept fun gg hg hv => hk5 gg hg (fun hu => ho.apartT OL3.out.1 hne gg hv hu)
   have CB5 : Hid (CurB w5 w.heap.size s p3 231) := (hk5 w.heap.size (Blk.lt CB3.out) (OL3.out.1.below (by omega))).trans CB3.out
   have BB5 : Hid (Below w.heap.size w w5) := BB3.out.trans (hb5.mono (by omega))
   have OS5 : Hid (Owns w5 (w.heap.size + 1) 127 5 (.slice (some ⟨g5,o5,none⟩) n c11) (spR (spots s))) := hne5 _ _ _ _ _ OS3.out (by decide)
   have OL5 : Hid (SerO w5 (w.heap.size + 1) (.slice nA nm nc) (L ++ [(serA s ⟨xk,xa,xz,xf,xl⟩,.slice A3 n3 c3)])) := SerO.snoc (w1 := X3) (v := u5) hO5 (fun q hq => hne5 _ _ _ _ _ (OL3.out.2.1 q hq) (by decide)) OL3.out.2.2 (hne5 _ _ _ _ _ (UP3.out.mono Z23.out) (by decide)) AP3.out
   have HLMn : Hid ((L ++ [(serA s ⟨xk,xa,xz,xf,xl⟩,Value.slice A3 n3 c3)]).map Prod.fst = ((spots s).take (k + 1)).map (serA s)) := by
    unfold Hid
    rw [HT.out,List.map_append,HLM.out]
    rfl
   clear hO5 hb5 hk5 hne5
   go_wp2_with fail
   refine hK.out _ _ (fun _ _ => ⟨KB3.out.cell 0 _ rfl,KB3.out.cell 1 _ rfl,KB3.out.cell 2 _ rfl,KB3.out.cell 3 _ rfl,KB3.out.cell 4 _ rfl⟩) ?_
   clear hK K
   try simp only [Act.put,zQ1,zQ2,zQ3]
   refine pUf 7 ?_
   refine uNe 8 (fun K hK => ?_)
   go_simp
   refine hK.out _ _ (fun _ h => ⟨cell_alloc_keep h.1 _,cell_alloc_keep h.2.1 _,cell_alloc_keep h.2.2.1 _,cell_alloc_keep h.2.2.2.1 _,cell_alloc_keep h.2.2.2.2 _⟩) ?_
   clear hK K
   try simp only [Act.put,zQ1,zQ2,zQ3]
   refine uNe 9 (fun K hK => ?_)
   refine step_append_run (by rfl) (.tmp 17) (.tmp 25) 33 (by rfl) _ _ _ _ (by rfl) (by rfl) r5 ?_
   refine hK.out _ _ (fun h => by cases h) ?_
   clear hK K
   try simp only [Act.put,zQ1,zQ2,zQ3]
   refine uNe 10 (fun K hK => ?_)
   go_simp
   refine hK.out _ _ (fun h => by cases h) ?_
   clear hK K
   try simp only [Act.put,zQ1,zQ2,zQ3]
   refine until_done (by kernel_rfl) ?_ _
   go_wp2_with fail
   go_roundw
   case rel => exact ⟨k + 1,p3,_,by omega,by go_num,HLMn.out,OL5.out,OS5.out,CB5.out,BB5.out⟩
   case measure => simp [intOf]; omega
  ·obtain rfl : k = n := by omega
   have HA : Hid (L.map Prod.fst = serAll s) := by
    unfold Hid
    rw [HLM.out,List.take_of_length_le (by rw [HNn.out]; exact Nat.le_refl _)]
    rfl
   obtain ⟨A5,c5,e5,_⟩ := sr_look HO.out.lies.1
   rw [HLL.out] at e5
   subst e5
   by_cases h0 : k = 0
   ·subst h0
    have HE : Hid (serAll s = []) := by unfold Hid; rw [← HA.out,List.eq_nil_of_length_eq_zero HLL.out]; rfl
    go_wp2_with fail
    exact bodyPost_ret (results_tmp2 rfl _ _ _) rfl ⟨⟨_,[],_,rf_no (.inl HE.out),rfl,Owns.nil _ _ _ _,fun p hp => (by cases hp),List.Pairwise.nil⟩,HB1.out⟩
   have d0 : ((k : Int) == 0) = false := by rw [beq_eq_false_iff_ne]; omega
   have d1 : decide ((k : Int) = 0) = false := decide_eq_false (by omega)
   have HNE : Hid (serAll s ≠ []) := fun e => h0 (by rw [← HLL.out,← List.length_map (f := Prod.fst),HA.out,e]; rfl)
   have cF := implFileText (serAll s) (.slice A5 k c5) wr wr.heap.size ⟨L,HA.out,HO.out.lies⟩ (serAll_short s) (serAll_keys s HS.out) (Nat.le_refl _) (ST.out.on HB1.out)
   by_cases hEq : fileT (serAll s) = s
   ·rw [hEq] at cF
    have HEQ : Hid (fileT (serAll s) = s) := hEq
    clear hEq
    go_wp2_with fail
    refine cF.mono ?_
    rintro e Y ⟨rfl,hbY⟩
    have BY := hQz (HB1.out.trans (hbY.mono HB1.out.size))
    have OY : Hid (SerO Y w.heap.size (.slice A5 k c5) L) := (HO.out.on hbY).mono (by omega)
    clear hbY cF
    go_wp2_with fail
    exact bodyPost_ret (results_tmp2 rfl _ _ _) rfl ⟨⟨_,L,_,by rw [HA.out]; exact rf_yes HNE.out HEQ.out,rfl,OY.out⟩,BY.out⟩
   ·have HEQ : Hid (fileT (serAll s) ≠ s) := hEq
    have hne := bytes_ne hEq
    clear hEq
    go_wp2_with fail
    refine cF.mono ?_
    rintro e Y ⟨rfl,hbY⟩
    have BY := hQz (HB1.out.trans (hbY.mono HB1.out.size))
    clear hbY cF
    go_wp2_with fail
    exact bodyPost_ret (results_tmp2 rfl _ _ _) rfl ⟨⟨_,[],_,rf_no (.inr HEQ.out),rfl,Owns.nil _ _ _ _,fun p hp => (by cases hp),List.Pairwise.nil⟩,BY.out⟩
section
variable {P : Program} {Q : Exit → Act → World → Prop} {md : Region.Mode} {S : World → Prop} {T : Nat → Bool}
theorem tF {l : List Oper} (i : Nat) {oi : Oper} {rest : List Oper} {v : Value} {fuel : Nat} {listed : Array Bool} {a b : Act} {w : World} (hS : S w) (h : wpUntil P md l.toArray Q S T fuel (listed.setIfInBounds i true) b w) (hd : l.drop i = oi :: rest := by rfl) (hB : takeB md l.toArray T listed i = true := by kernel_rfl) (hw : Region.wanted oi (yielded l.toArray a.tmps) = true := by rfl) (hy : ∀ w,S w → (execOp a.eval oi).run P w = .ok (.value v) w := by intro w hSw; (try dsimp only at hSw); go_simp; try with_reducible rfl) (hb : a.put oi.dst v = b := by (try simp only [Act.put,zQ1,zQ2,zQ3]); exact rfl) (hQ : ∀ c a w,Q (.panic c) (a.put oi.dst v) w → Q (.panic c) a w := by exact fun _ _ _ h => h) : wpUntil P md l.toArray Q S T (fuel + 1) listed a w := until_take i hd hB hQ hw hy hS (hb ▸ h)
theorem pF {l : List Oper} (i : Nat) {oi : Oper} {rest : List Oper} {v : Value} {fuel : Nat} {listed : Array Bool} {a b : Act} {w : World} (h : wpUntil P md l.toArray Q S T fuel (listed.setIfInBounds i true) b w) (hd : l.drop i = oi :: rest := by rfl) (hB : pureB md l.toArray listed i = true := by kernel_rfl) (hw : Region.wanted oi (yielded l.toArray a.tmps) = true := by rfl) (hy : ∀ w,(execOp a.eval oi).run P w = .ok (.value v) w := by intro w; go_simp; try with_reducible rfl) (hb : a.put oi.dst v = b := by (try simp only [Act.put,zQ1,zQ2,zQ3]); exact rfl) (hQ : ∀ c a w,Q (.panic c) (a.put oi.dst v) w → Q (.panic c) a w := by exact fun _ _ _ h => h) : wpUntil P md l.toArray Q S T (fuel + 1) listed a w := until_pure i hd hB hQ hw hy (hb ▸ h)
end
set_option maxHeartbeats 1000000 in
theorem takeByteF (g : Nat) (s : ByteArray) (w : World) (hp : Prt w g s) (hs : s.size ≤ 1048576) :
  Calls Tryz.prog 129 #[.pointer (some ⟨g,0,none⟩)] w fun e w' => ((1 ≤ s.size ∧ e = .returned (.int .i64 (bn s 0 : Int)) ∧ Prt w' g (lf s 1)) ∨ (¬ 1 ≤ s.size ∧ e = .panicked lackP)) ∧ PKeep g w w' := by
 by_cases h1 : 1 ≤ s.size
 ·have c := takeText_yes g s 1 w hp h1 hs
  have HP : Hid (Prt (w.setCell ⟨g,0,none⟩ (.string (s.extract 1 s.size))) g (lf s 1)) := hp.put _
  have HK : Hid (PKeep g w (w.setCell ⟨g,0,none⟩ (.string (s.extract 1 s.size)))) := (PKeep.refl g w).set 0 _
  have hz : (s.extract 0 1).size = 1 := by rw [ByteArray.size_extract]; omega
  have hg : ∀ h : 0 < (s.extract 0 1).size,(((s.extract 0 1)[0]'h).toNat : Int) = (bn s 0 : Int) := by
   intro h
   rw [← get_bn s 0 (by omega),ByteArray.getElem_extract]
  have hl := bn_lt s 0
  have H1 : Hid (1 ≤ s.size) := h1
  clear hp hs h1
  generalize s.extract 0 1 = b at *
  generalize w.setCell ⟨g,0,none⟩ (.string (s.extract 1 s.size)) = V at *
  generalize bn s 0 = n at *
  go_enter Tryz.func129,Tryz.ntmps129
  go_wp2_with fail
  refine c.mono ?_
  rintro e w1 ⟨rfl,rfl⟩
  go_wp2_with fail
  go_ret
  exact ⟨.inl ⟨H1.out,rfl,HP.out⟩,HK.out⟩
 ·have c := takeText_no g s 1 w hp (by omega) hs
  have H1 : Hid (¬ 1 ≤ s.size) := h1
  clear hp hs h1
  go_enter Tryz.func129,Tryz.ntmps129
  go_wp2_with fail
  refine c.mono ?_
  rintro e w1 ⟨rfl,rfl⟩
  go_wp2_with fail
  exact ⟨rfl,.inr ⟨H1.out,rfl⟩,PKeep.refl _ _⟩
theorem takeTextF (g : Nat) (s : ByteArray) (n m : Nat) (w : World) (hp : Prt w g (lf s n)) (hn : n ≤ s.size) (hs : s.size ≤ 1048576) :
  Calls Tryz.prog 125 #[.pointer (some ⟨g,0,none⟩),.int .i64 (m : Int)] w fun e w' => ((n + m ≤ s.size ∧ e = .returned (.string (s.extract n (n + m))) ∧ Prt w' g (lf s (n + m))) ∨ (¬ n + m ≤ s.size ∧ e = .panicked lackP)) ∧ PKeep g w w' := by
 have hz := lf_size s n
 by_cases h : n + m ≤ s.size
 ·refine (takeText_yes g (lf s n) m w hp (by omega) (by omega)).mono ?_
  rintro e w' ⟨rfl,rfl⟩
  refine ⟨.inl ⟨h,?_,?_⟩,(PKeep.refl g w).set 0 _⟩
  ·unfold lf
   rw [ByteArray.extract_extract]
   congr 3
   omega
  ·rw [lf_lf]
   exact hp.put _
 ·refine (takeText_no g (lf s n) m w hp (by omega) (by omega)).mono ?_
  rintro e w' ⟨rfl,rfl⟩
  exact ⟨.inr ⟨h,rfl⟩,PKeep.refl g w⟩
def NuA (s : ByteArray) (n : Nat) (g : Nat) (w : World) (e : Ending) (w' : World) : Prop := ((∃ z m : Nat,RdF s n 1 [(z : Int)] m ∧ e = .returned (.int .i64 (z : Int)) ∧ Prt w' g (lf s m)) ∨ ((∀ l m,¬ RdF s n 1 l m) ∧ e = .panicked lackP)) ∧ PKeep g w w'
theorem takeVarR (g : Nat) (s : ByteArray) (n : Nat) (w : World) (hp : Prt w g (lf s n)) (hs : s.size ≤ 1048576) :
  Calls Tryz.prog 126 #[.pointer (some ⟨g,0,none⟩)] w fun e w' => NuA s n g w e w' := by
 refine (takeVarF g s n w hp hs).mono ?_
 rintro e w' ⟨hR,hk⟩
 have h0 : RdF s n 0 [] n := ⟨rfl,rfl⟩
 refine ⟨?_,hk⟩
 rcases hR with ⟨k,hf,rfl,hp⟩ | ⟨hno,rfl⟩
 ·exact .inl ⟨_,_,h0.snoc hf,rfl,hp⟩
 ·exact .inr ⟨fun l m h => h0.no (by omega) hno _ _ h,rfl⟩
def PcI (s : ByteArray) (n : Nat) (g : Nat) (w : World) (e : Ending) (w' : World) : Prop := ((∃ t m,PcRd s n t m ∧ e = .returned (.string t) ∧ Prt w' g (lf s m)) ∨ ((∀ t m,¬ PcRd s n t m) ∧ e = .panicked lackP)) ∧ PKeep g w w'
set_option maxHeartbeats 1000000 in
theorem takePiece (b gr : Nat) (s : ByteArray) (n : Nat) (w : World) (hc : w.cell? ⟨b,0,none⟩ = some (.pointer (some ⟨gr,0,none⟩))) (hl : b < w.heap.size) (hne : b ≠ gr) (hp : Prt w gr (lf s n)) (hs : s.size ≤ 1048576) :
  Calls Tryz.prog 124 #[.pointer (some ⟨b,0,none⟩)] w fun e w' => PcI s n gr w e w' := by
 have HS : Hid (s.size ≤ 1048576) := hs
 have P0 : Hid (Prt w.drew gr (lf s n)) := hp
 have K0 : Hid (PKeep gr w w.drew) := ⟨(Below.refl _ _).drew,fun _ _ _ => rfl⟩
 have HL : Hid (b < w.drew.heap.size ∧ b ≠ gr) := ⟨hl,hne⟩
 have S0 : Hid (w.drew.cell? ⟨b,0,none⟩ = some (.pointer (some ⟨gr,0,none⟩))) := hc
 clear hc hl hne hp hs
 go_enter Tryz.func124,Tryz.ntmps124
 go_wp2_with fail
 refine wp_region_until (fun w' => w'.cell? ⟨b,0,none⟩ = some (.pointer (some ⟨gr,0,none⟩))) (fun _ => false) 5 (by rfl) (by kernel_rfl) ?_
 generalize w.drew = V at *
 refine tF 0 S0.out ?_
 refine tF 1 S0.out ?_
 refine uNe 2 (fun K hK => ?_)
 go_simp
 refine (takeVarR gr s n V P0.out HS.out).mono ?_
 rintro e w1 ⟨hR,hk⟩
 have K1 := Hid.mk (K0.out.trans hk)
 have S1 : Hid (w1.cell? ⟨b,0,none⟩ = some (.pointer (some ⟨gr,0,none⟩))) := (hk.cell (p := ⟨b,0,none⟩) HL.out.2 HL.out.1).trans S0.out
 have HSZ : Hid (V.heap.size ≤ w1.heap.size) := hk.1.size
 clear hk K0 P0
 rcases hR with ⟨z,m,hz,rfl,hp⟩ | ⟨hno,rfl⟩
 rotate_left
 ·have HN : Hid (∀ t m,¬ PcRd s n t m) := by
   rintro t m ⟨b,h1,_⟩
   exact hno _ _ h1
  clear hno
  go_wp2_with fail
  exact ⟨rfl,.inr ⟨HN.out,rfl⟩,K1.out⟩
 have HZ := Hid.mk hz
 have P1 := Hid.mk hp
 have HM : Hid (m ≤ s.size) := hz.inS.2
 clear hz hp
 go_wp2_with fail
 refine hK.out _ _ (fun _ _ => S1.out) ?_
 clear hK K
 try simp only [Act.put,zQ1,zQ2,zQ3]
 refine uNe 3 (fun K hK => ?_)
 go_simp
 refine (takeTextF gr s m z w1 P1.out HM.out HS.out).mono ?_
 rintro e w2 ⟨hR,hk⟩
 have K2 := Hid.mk (K1.out.trans hk)
 have S2 : Hid (w2.cell? ⟨b,0,none⟩ = some (.pointer (some ⟨gr,0,none⟩))) := (hk.cell (p := ⟨b,0,none⟩) HL.out.2 (Nat.lt_of_lt_of_le HL.out.1 HSZ.out)).trans S1.out
 clear hk P1
 rcases hR with ⟨hle,rfl,hp⟩ | ⟨hno,rfl⟩
 rotate_left
 ·have HN : Hid (∀ t m,¬ PcRd s n t m) := by
   rintro t k ⟨b,h1,h2,h3,h4⟩
   obtain ⟨e,rfl⟩ := h1.one HZ.out
   simp only [List.cons.injEq,and_true] at e
   omega
  clear hno
  go_wp2_with fail
  exact ⟨rfl,.inr ⟨HN.out,rfl⟩,K2.out⟩
 have HP : Hid (PcRd s n (s.extract m (m + z)) (m + z)) := by
  have hsz : (s.extract m (m + z)).size = z := by rw [ByteArray.size_extract]; omega
  refine ⟨m,?_,by rw [hsz],hle,rfl⟩
  rw [hsz]
  exact HZ.out
 have P2 := Hid.mk hp
 clear hp hle
 generalize s.extract m (m + z) = tx at *
 go_wp2_with fail
 refine hK.out _ _ (fun _ _ => S2.out) ?_
 clear hK K
 try simp only [Act.put,zQ1,zQ2,zQ3]
 refine pF 4 ?_
 refine until_done (by kernel_rfl) ?_ _
 go_wp2_with fail
 go_ret
 exact ⟨.inl ⟨tx,_,HP.out,rfl,P2.out⟩,K2.out⟩
def MaA (s : ByteArray) (n most : Nat) (g : Nat) (w : World) (e : Ending) (w' : World) : Prop := ((∃ z m : Nat,RdF s n 1 [(z : Int)] m ∧ z ≤ most ∧ e = .returned (.int .i64 (z : Int)) ∧ Prt w' g (lf s m)) ∨ ((∀ z m : Nat,RdF s n 1 [(z : Int)] m → z ≤ most → False) ∧ e = .panicked lackP)) ∧ PKeep g w w'
set_option maxHeartbeats 1000000 in
theorem takeMany (b gr most : Nat) (s : ByteArray) (n : Nat) (w : World) (hc : w.cell? ⟨b,0,none⟩ = some (.pointer (some ⟨gr,0,none⟩))) (hp : Prt w gr (lf s n)) (hs : s.size ≤ 1048576) :
  Calls Tryz.prog 127 #[.int .i64 (most : Int),.pointer (some ⟨b,0,none⟩)] w fun e w' => MaA s n most gr w e w' := by
 have c := takeVarR gr s n w hp hs
 clear hp hs
 go_enter Tryz.func127,Tryz.ntmps127
 go_wp2_with fail
 refine c.mono ?_
 rintro e w1 ⟨hR,hk⟩
 have K1 := Hid.mk hk
 clear hk c hc
 rcases hR with ⟨z,m,hz,rfl,hp⟩ | ⟨hno,rfl⟩
 rotate_left
 ·have HN : Hid (∀ z m : Nat,RdF s n 1 [(z : Int)] m → z ≤ most → False) := fun z m h _ => hno _ _ h
  clear hno
  go_wp2_with fail
  exact ⟨rfl,.inr ⟨HN.out,rfl⟩,K1.out⟩
 have HZ := Hid.mk hz
 have P1 := Hid.mk hp
 clear hz hp
 by_cases hle : z ≤ most
 rotate_left
 ·have HN : Hid (∀ z m : Nat,RdF s n 1 [(z : Int)] m → z ≤ most → False) := by
   intro y k h1 h2
   obtain ⟨e,rfl⟩ := h1.one HZ.out
   simp only [List.cons.injEq,and_true] at e
   omega
  have q1 : decide ((z : Int) ≤ (most : Int)) = false := decide_eq_false (by omega)
  have q2 : ¬ (z : Int) ≤ (most : Int) := by omega
  have q3 : decide (z ≤ most) = false := decide_eq_false hle
  clear hle
  go_wp2_with fail
  refine (need_no _).mono ?_
  rintro e w2 ⟨rfl,rfl⟩
  go_wp2_with fail
  exact ⟨rfl,.inr ⟨HN.out,rfl⟩,K1.out⟩
 have HLE : Hid (z ≤ most) := hle
 have q1 : decide ((z : Int) ≤ (most : Int)) = true := decide_eq_true (by omega)
 have q2 : (z : Int) ≤ (most : Int) := by omega
 have q3 : decide (z ≤ most) = true := decide_eq_true hle
 clear hle
 go_wp2_with fail
 refine (need_yes _).mono ?_
 rintro e w2 ⟨rfl,rfl⟩
 go_wp2_with fail
 go_ret
 exact ⟨.inl ⟨z,m,HZ.out,HLE.out,rfl,P1.out⟩,K1.out⟩
set_option maxHeartbeats 1000000 in
theorem readCacheV (c : ByteArray) (w : World) (hs : c.size ≤ 1048576) (hst : SumTab w) (a0 a1 a2 : Addr) (he : Errs w a0 a1 a2) :
  Calls Tryz.prog 133 #[.string c] w fun e w' => ((∃ u L,CaRd c (L.map Prod.fst) ∧ e = .returned u ∧ SerO w' w.heap.size u L) ∨ ((∀ l,¬ CaRd c l) ∧ e = .panicked lackP)) ∧ Below w.heap.size w w' := by
 have cR := implReadFile c w hs hst a0 a1 a2 he
 clear hs hst he
 have HCE : Hid (c = ByteArray.empty ↔ c.toList.isEmpty = true) := by
  refine ⟨fun e => by rw [e,Lib.toList_data]; rfl,fun h => ?_⟩
  rw [List.isEmpty_iff,Lib.toList_data] at h
  exact ByteArray.ext (Array.toList_inj.1 h)
 go_enter Tryz.func133,Tryz.ntmps133
 go_upto_if 6 with fail
 generalize hci : c.toList.isEmpty = ce at *
 clear hci
 cases ce with
 | true =>
  have HC1 : Hid (c = ByteArray.empty) := HCE.out.2 rfl
  clear HCE
  go_wp2_with fail
  go_ret
  exact ⟨.inl ⟨_,[],.inl ⟨HC1.out,rfl⟩,rfl,⟨Owns.nil _ _ _ _,fun p hp => (by cases hp),List.Pairwise.nil⟩⟩,Below.refl _ _⟩
 | false =>
  have HC2 : Hid (¬ c = ByteArray.empty) := fun e => by have := HCE.out.1 e; cases this
  clear HCE
  go_wp2_with fail
  refine cR.mono ?_
  rintro e w1 ⟨⟨u,L,ok,hA,rfl,hSO⟩,hb⟩
  have B1 := hQz hb
  have HSO := Hid.mk hSO
  clear hb hSO cR
  rcases hA with ⟨rfl,hg⟩ | ⟨rfl,hL,hno⟩
  ·have HG := Hid.mk hg
   clear hg
   go_wp2_with fail
   refine (need_yes _).mono ?_
   rintro e w2 ⟨rfl,rfl⟩
   go_wp2_with fail
   go_ret
   exact ⟨.inl ⟨u,L,.inr ⟨HC2.out,HG.out⟩,rfl,HSO.out⟩,B1.out⟩
  ·have HN : Hid (∀ l,¬ CaRd c l) := by
    rintro l (⟨e,_⟩ | ⟨_,hg⟩)
    ·exact HC2.out e
    ·exact hno _ hg
   clear hno hL
   go_wp2_with fail
   refine (need_no _).mono ?_
   rintro e w2 ⟨rfl,rfl⟩
   go_wp2_with fail
   exact ⟨rfl,.inr ⟨HN.out,rfl⟩,B1.out⟩
set_option maxHeartbeats 1000000 in
theorem readToldV (s : ByteArray) (w : World) (hs : s.size ≤ 1048576) :
  Calls Tryz.prog 136 #[.string s] w fun e w' => ((∃ x,AnsRd s x ∧ e = .returned (vAns x)) ∨ ((∀ x,¬ AnsRd s x) ∧ e = .panicked lackP)) ∧ Below w.heap.size w w' := by
 have c := fun wx => implReadAnswer s wx hs
 have k0 := Blk.new w #[.int .i64 0,.int .i64 0,.int .i64 0,.string ⟨#[]⟩] 51
 have hb0 := (Below.refl w.heap.size w).alloc (Nat.le_refl _) (.cells #[.int .i64 0,.int .i64 0,.int .i64 0,.string ⟨#[]⟩] 51)
 clear hs
 go_enter Tryz.func136,Tryz.ntmps136
 go_wp2_with fail
 generalize w.alloc (.cells #[.int .i64 0,.int .i64 0,.int .i64 0,.string ⟨#[]⟩] 51) = X at *
 refine (c _).mono ?_
 rintro e w1 ⟨hR,hb⟩
 have B1 := hQz (hb0.trans (hb.mono hb0.size))
 have k1 := Hid.mk (k0.on hb k0.lt)
 clear hb hb0 k0 c
 rcases hR with ⟨x,hx,rfl⟩ | ⟨hno,rfl⟩
 ·have HX := Hid.mk hx
  clear hx
  unfold vAns
  have al := (Below.refl w1.heap.size w1).alloc (Nat.le_refl _) (.cells #[.int .i64 x.code,.int .i64 x.index,.int .i64 x.mark,.string x.data] 51)
  have B2 := Hid.mk (B1.out.trans (al.mono B1.out.size))
  have k2 := Hid.mk (k1.out.on al k1.out.lt)
  have n2 := Hid.mk (Blk.new w1 #[.int .i64 x.code,.int .i64 x.index,.int .i64 x.mark,.string x.data] 51)
  clear al B1 k1
  go_wp2_with fail
  refine (need_yes _).mono ?_
  rintro e w2 ⟨rfl,rfl⟩
  obtain ⟨ga,hga⟩ : ∃ ga,ga = w1.heap.size := ⟨_,rfl⟩
  rw [← hga] at n2 ⊢
  clear hga
  generalize w1.alloc (.cells #[.int .i64 x.code,.int .i64 x.index,.int .i64 x.mark,.string x.data] 51) = Y at *
  obtain ⟨c0,c1,c2,c3⟩ := cellsC4 n2.out
  obtain ⟨⟨r0,s0⟩,⟨r1,s1⟩,⟨r2,s2⟩,⟨r3,s3⟩,y0,y1,y2,y3⟩ := resC4 (x0 := .int .i64 x.code) (x1 := .int .i64 x.index) (x2 := .int .i64 x.mark) (x3 := .string x.data) k2.out
  have B3 := Hid.mk (belowC4 B2.out (Nat.le_refl _) (.int .i64 x.code) (.int .i64 x.index) (.int .i64 x.mark) (.string x.data))
  go_wp2_with fail
  exact bodyPost_ret (v := .agg #[.int .i64 x.code,.int .i64 x.index,.int .i64 x.mark,.string x.data]) (by simp [results,go_sem,y0,y1,y2,y3]) rfl ⟨.inl ⟨x,HX.out,rfl⟩,B3.out⟩
 ·have HN : Hid (∀ x,¬ AnsRd s x) := hno
  clear hno
  unfold vAns
  have al := (Below.refl w1.heap.size w1).alloc (Nat.le_refl _) (.cells #[.int .i64 0,.int .i64 0,.int .i64 0,.string ⟨#[]⟩] 51)
  have B2 := Hid.mk (B1.out.trans (al.mono B1.out.size))
  clear al B1
  go_wp2_with fail
  refine (need_no _).mono ?_
  rintro e w2 ⟨rfl,rfl⟩
  go_wp2_with fail
  exact ⟨rfl,.inr ⟨HN.out,rfl⟩,B2.out⟩
def strCells (l : List ByteArray) : List Value := l.map Value.string
def Strs (w : World) (base : Nat) (v : Value) (l : List ByteArray) : Prop := w.ownsRow base 9 1 v l.length (strCells l)
theorem Strs.kept {w w' : World} {base : Nat} {v : Value} {l : List ByteArray} (h : Strs w base v l) (hk : ∀ g,g < w.heap.size → v.ownBlock = some g → w'.heap[g]? = w.heap[g]?) : Strs w' base v l := by
 have hl := World.ownsRow.lt h
 refine ⟨h.1,h.2.imp id ?_⟩
 rintro ⟨g,cap,cur,rfl,hg,hh,r⟩
 refine ⟨g,cap,cur,rfl,hg,?_,r⟩
 rw [hk g (hl g rfl).2 rfl]
 exact hh
theorem Strs.on {w w' : World} {base : Nat} {v : Value} {l : List ByteArray} (h : Strs w base v l) (hb : Below w.heap.size w w') : Strs w' base v l := h.kept fun g hg _ => hb.block g hg
theorem Strs.form {w : World} {base : Nat} {v : Value} {l : List ByteArray} (h : Strs w base v l) : (v = .slice none 0 0 ∧ l = []) ∨ ∃ g cap,v = .slice (some ⟨g,0,none⟩) l.length cap ∧ base ≤ g ∧ g < w.heap.size := by
 have hl := World.ownsRow.lt h
 rcases h.2 with ⟨rfl,h0⟩ | ⟨g,cap,cur,rfl,hg,_⟩
 ·exact .inl ⟨rfl,List.eq_nil_of_length_eq_zero h0⟩
 ·exact .inr ⟨g,cap,rfl,hg,(hl g rfl).2⟩
theorem Strs.cell {w : World} {base g cap : Nat} {l : List ByteArray} (h : Strs w base (.slice (some ⟨g,0,none⟩) l.length cap) l) (j : Nat) (hj : j < l.length) : w.cell? ⟨g,j,none⟩ = some (.string l[j]) := by
 rw [World.ownsRow.cellAt h j (by omega)]
 simp [strCells,hj]
theorem Strs.frozen {w : World} {base g cap : Nat} {l : List ByteArray} (h : Strs w base (.slice (some ⟨g,0,none⟩) l.length cap) l) (j : Nat) : w.frozen? ⟨g,j,none⟩ = false := World.ownsRow.frozenAt h j
theorem Strs.stored {w : World} {base g cap : Nat} {l : List ByteArray} (h : Strs w base (.slice (some ⟨g,0,none⟩) l.length cap) l) (j : Nat) (x : ByteArray) :
  Strs (w.setCell ⟨g,j,none⟩ (.string x)) base (.slice (some ⟨g,0,none⟩) l.length cap) (l.set j x) := by
 have hs := (World.ownsRow.stored h j (.string x)).1
 unfold Strs
 rw [List.length_set,strCells,List.map_set]
 exact hs
def dg : Nat → Nat → List UInt8
 | 0,_ => []
 | f + 1,n => if n = 0 then [] else dg f (n / 10) ++ [byt (48 + n % 10)]
theorem dg_zero (f : Nat) : dg f 0 = [] := by
 cases f with
 | zero => rfl
 | succ f => rw [dg,if_pos rfl]
def mark (k : Nat) : ByteArray := txt (109 :: dg 20 k)
def marks (k : Nat) : Nat → List ByteArray
 | 0 => []
 | n + 1 => marks k n ++ [mark (k + n)]
theorem marks_length (k n : Nat) : (marks k n).length = n := by
 induction n with
 | zero => rfl
 | succ n ih => rw [marks,List.length_append,ih]; rfl
theorem marks_succ (k n : Nat) : marks k (n + 1) = marks k n ++ [mark (k + n)] := by rw [marks]
theorem marks_get (k n : Nat) : ∀ j (h : j < (marks k n).length),(marks k n)[j] = mark (k + j) := by
 induction n with
 | zero => intro j h; simp [marks] at h
 | succ n ih =>
  intro j h
  simp only [marks]
  rw [List.getElem_append]
  split
  ·rename_i h'
   exact ih j h'
  ·rename_i h'
   rw [marks_length] at h'
   rw [marks_length] at h
   have : j = n := by omega
   subst this
   simp [marks_length]
def marked (k : Nat) (l : List ByteArray) (j : Nat) : List ByteArray := marks k j ++ l.drop j
theorem marked_zero (k : Nat) (l : List ByteArray) : marked k l 0 = l := by simp [marked,marks]
theorem marked_length (k : Nat) (l : List ByteArray) (j : Nat) (h : j ≤ l.length) : (marked k l j).length = l.length := by
 simp [marked,marks_length]
 omega
theorem marked_set (k : Nat) (l : List ByteArray) (j : Nat) (h : j < l.length) : (marked k l j).set j (mark (k + j)) = marked k l (j + 1) := by
 unfold marked
 rw [List.set_append_right _ _ (by rw [marks_length]; omega),marks_length,Nat.sub_self,List.drop_eq_getElem_cons h,List.set_cons_zero,marks_succ]
 simp
theorem marked_all (k : Nat) (l : List ByteArray) : marked k l l.length = marks k l.length := by simp [marked]
def stC (s : ByteArray) : List Value := [.string s]
def stR (l : List ByteArray) : List (List Value) := l.map stC
theorem stR_length (l : List ByteArray) : (stR l).length = l.length := by simp [stR]
theorem stR_append (l m : List ByteArray) : stR (l ++ m) = stR l ++ stR m := by simp [stR]
theorem stR_flat (l : List ByteArray) : (stR l).flatten = strCells l := by
 induction l with
 | nil => rfl
 | cons x l ih => simp only [stR,strCells,List.map_cons,List.flatten_cons] at ih ⊢; rw [ih]; rfl
theorem stR_sz (l : List ByteArray) : ∀ r ∈ stR l,r.length = 1 := by
 intro r hr
 obtain ⟨x,_,rfl⟩ := List.mem_map.1 hr
 rfl
theorem st_one (l : List ByteArray) : ∀ r ∈ stR l,∀ y ∈ r,y.oneCell' = true := by
 intro r hr y hy
 obtain ⟨x,_,rfl⟩ := List.mem_map.1 hr
 simp only [stC,List.mem_cons,List.not_mem_nil,or_false] at hy
 rw [hy]; rfl
theorem owns_strs {w : World} {base : Nat} {v : Value} {l : List ByteArray} (h : Owns w base 9 1 v (stR l)) : Strs w base v l := by
 have := h.2
 rw [stR_length,stR_flat] at this
 exact this
theorem strs_owns {w : World} {base : Nat} {v : Value} {l : List ByteArray} (h : Strs w base v l) : Owns w base 9 1 v (stR l) := ⟨stR_sz l,by rw [stR_length,stR_flat]; exact h⟩
theorem st_look {w : World} {B : Nat} {v : Value} {l : List ByteArray} (h : Lies w B 1 v (stR l)) : ∃ A cap,v = .slice A l.length cap ∧ ∀ j,j < l.length → ∃ g off,A = some ⟨g,off,none⟩ ∧ g < B ∧ w.cell? ⟨g,off + j,none⟩ = some (.string (l.getD j default)) := by
 obtain ⟨A,cap,e,h⟩ := h.look
 refine ⟨A,cap,by rw [e]; simp [stR],fun j hj => ?_⟩
 rw [← getD_at l j hj]
 obtain ⟨g,off,e,hg,hc⟩ := h j (by simpa [stR] using hj)
 refine ⟨g,off,e,hg,?_⟩
 have := hc 0 _ (by omega) (by simp [stR,stC]; rfl)
 simpa using this
theorem st_cells {w : World} {B n c : Nat} {A : Option Addr} {l : List ByteArray} (h : Lies w B 1 (.slice A n c) (stR l)) : ∀ j,j < l.length → ∃ g off,A = some ⟨g,off,none⟩ ∧ g < B ∧ w.cell? ⟨g,off + j,none⟩ = some (.string (l.getD j default)) := by
 obtain ⟨A',c',e,hl⟩ := st_look h
 cases e
 exact hl
def laR (us : List Value) : List (List Value) := us.map fun u => [u]
theorem laR_length (us : List Value) : (laR us).length = us.length := by simp [laR]
theorem laR_append (l m : List Value) : laR (l ++ m) = laR l ++ laR m := by simp [laR]
theorem la_look {w : World} {B : Nat} {v : Value} {us : List Value} (h : Lies w B 1 v (laR us)) : ∃ A cap,v = .slice A us.length cap ∧ ∀ j,j < us.length → ∃ g off,A = some ⟨g,off,none⟩ ∧ g < B ∧ w.cell? ⟨g,off + j,none⟩ = some (us.getD j default) := by
 obtain ⟨A,cap,e,h⟩ := h.look
 refine ⟨A,cap,by rw [e]; simp [laR],fun j hj => ?_⟩
 rw [← getD_at us j hj]
 obtain ⟨g,off,e,hg,hc⟩ := h j (by simpa [laR] using hj)
 refine ⟨g,off,e,hg,?_⟩
 have := hc 0 _ (by omega) (by simp [laR]; rfl)
 simpa using this
def LayL (w : World) (B : Nat) (us : List Value) (ls : List (List Ser)) : Prop := us.length = ls.length ∧ ∀ j,j < ls.length → SerV w B (us.getD j default) (ls.getD j [])
def LayV (w : World) (B : Nat) (v : Value) (ls : List (List Ser)) : Prop := ∃ us,Lies w B 1 v (laR us) ∧ LayL w B us ls
theorem LayL.on {w w' : World} {B : Nat} {us : List Value} {ls : List (List Ser)} (h : LayL w B us ls) (hb : Below B w w') : LayL w' B us ls := ⟨h.1,fun j hj => (h.2 j hj).on hb⟩
theorem LayV.on {w w' : World} {B : Nat} {v : Value} {ls : List (List Ser)} (h : LayV w B v ls) (hb : Below B w w') : LayV w' B v ls := h.imp fun _ h => ⟨h.1.on hb,h.2.on hb⟩
theorem LayL.snoc {w : World} {B : Nat} {us : List Value} {ls : List (List Ser)} (h : LayL w B us ls) {u : Value} {l : List Ser} (hu : SerV w B u l) : LayL w B (us ++ [u]) (ls ++ [l]) := by
 refine ⟨by simp [h.1],fun j hj => ?_⟩
 rw [List.length_append,List.length_singleton] at hj
 by_cases e : j < ls.length
 ·rw [List.getD_eq_getElem?_getD,List.getD_eq_getElem?_getD,List.getElem?_append_left (by rw [h.1]; exact e),List.getElem?_append_left e,← List.getD_eq_getElem?_getD,← List.getD_eq_getElem?_getD]
  exact h.2 j e
 ·obtain rfl : j = ls.length := by omega
  rw [List.getD_eq_getElem?_getD,List.getD_eq_getElem?_getD,List.getElem?_append_right (by rw [h.1]; exact Nat.le_refl _),List.getElem?_append_right (Nat.le_refl _),h.1,Nat.sub_self]
  exact hu
theorem LayV.look {w : World} {B : Nat} {v : Value} {ls : List (List Ser)} (h : LayV w B v ls) : ∃ A cap,v = .slice A ls.length cap ∧ ∀ j,j < ls.length → ∃ g off u,A = some ⟨g,off,none⟩ ∧ g < B ∧ w.cell? ⟨g,off + j,none⟩ = some u ∧ SerV w B u (ls.getD j []) := by
 obtain ⟨us,h1,h2⟩ := h
 obtain ⟨A,cap,e,hl⟩ := la_look h1
 refine ⟨A,cap,by rw [e,h2.1],fun j hj => ?_⟩
 obtain ⟨g,off,e,hg,hc⟩ := hl j (by rw [h2.1]; exact hj)
 exact ⟨g,off,_,e,hg,hc,h2.2 j hj⟩
def vE (f : Int) (vc vf : Value) : Value := .agg #[.int .i64 f,vc,vf]
def EngV (w : World) (B : Nat) (v : Value) (e : Eng) : Prop := ∃ vc vf,v = vE e.floor vc vf ∧ SerV w B vc e.cache ∧ Lies w B 1 vf (stR e.files)
theorem EngV.on {w w' : World} {B : Nat} {v : Value} {e : Eng} (h : EngV w B v e) (hb : Below B w w') : EngV w' B v e := by
 obtain ⟨vc,vf,h1,h2,h3⟩ := h
 exact ⟨vc,vf,h1,h2.on hb,h3.on hb⟩
def EngO (w : World) (base : Nat) (v : Value) (e : Eng) : Prop := ∃ vc vf L,v = vE e.floor vc vf ∧ L.map Prod.fst = e.cache ∧ SerO w base vc L ∧ Strs w base vf e.files
theorem EngO.on {w w' : World} {base : Nat} {v : Value} {e : Eng} (h : EngO w base v e) (hb : Below w.heap.size w w') : EngO w' base v e := by
 obtain ⟨vc,vf,L,h1,h2,h3,h4⟩ := h
 exact ⟨vc,vf,L,h1,h2,h3.on hb,h4.on hb⟩
def EShort (e : Eng) : Prop := SShort e.cache ∧ (∀ x ∈ e.cache,x.key.size ≤ maxLen) ∧ e.files.length ≤ 1048576 ∧ ∀ s ∈ e.files,s.size ≤ 1048576
def vSt (x : Sta) (vb vc vf vs : Value) : Value := .agg #[.int .i64 x.kind,.int .i64 x.hold,.int .i64 x.mark,vb,.int .i64 x.eng.floor,vc,vf,vs]
def StaV (w : World) (B : Nat) (v : Value) (x : Sta) : Prop := ∃ vb vc vf vs,v = vSt x vb vc vf vs ∧ Lies w B 2 vb (ptR x.bks) ∧ SerV w B vc x.eng.cache ∧ Lies w B 1 vf (stR x.eng.files) ∧ Lies w B 6 vs (sesR x.ses)
theorem StaV.on {w w' : World} {B : Nat} {v : Value} {x : Sta} (h : StaV w B v x) (hb : Below B w w') : StaV w' B v x := by
 obtain ⟨vb,vc,vf,vs,e,h1,h2,h3,h4⟩ := h
 exact ⟨vb,vc,vf,vs,e,h1.on hb,h2.on hb,h3.on hb,h4.on hb⟩
def StaO (w : World) (base : Nat) (v : Value) (x : Sta) : Prop := ∃ vb vc vf vs L,v = vSt x vb vc vf vs ∧ Owns w base 58 2 vb (ptR x.bks) ∧ (L.map Prod.fst = x.eng.cache ∧ SerO w base vc L ∧ Strs w base vf x.eng.files) ∧ Owns w base 53 6 vs (sesR x.ses)
theorem StaO.view {w : World} {base : Nat} {v : Value} {x : Sta} (h : StaO w base v x) : StaV w w.heap.size v x := by
 obtain ⟨vb,vc,vf,vs,L,e,h1,⟨h2,h3,h4⟩,h5⟩ := h
 exact ⟨vb,vc,vf,vs,e,h1.lies,by rw [← h2]; exact h3.view,(strs_owns h4).lies,h5.lies⟩
theorem StaO.on {w w' : World} {base : Nat} {v : Value} {x : Sta} (h : StaO w base v x) (hb : Below w.heap.size w w') : StaO w' base v x := by
 obtain ⟨vb,vc,vf,vs,L,e,h1,⟨h2,h3,h4⟩,h5⟩ := h
 exact ⟨vb,vc,vf,vs,L,e,h1.on hb,⟨h2,h3.on hb,owns_strs ((strs_owns h4).on hb)⟩,h5.on hb⟩
theorem StaO.mono {w : World} {base base' : Nat} {v : Value} {x : Sta} (h : StaO w base v x) (hb : base' ≤ base) : StaO w base' v x := by
 obtain ⟨vb,vc,vf,vs,L,e,h1,⟨h2,h3,h4⟩,h5⟩ := h
 exact ⟨vb,vc,vf,vs,L,e,h1.mono hb,⟨h2,h3.mono hb,owns_strs ((strs_owns h4).mono hb)⟩,h5.mono hb⟩
theorem StaO.shape {w : World} {base : Nat} {v : Value} {x : Sta} (h : StaO w base v x) : ∃ Ab nb cb Ac nc cc Af nf cf As ns cs,v = vSt x (.slice Ab nb cb) (.slice Ac nc cc) (.slice Af nf cf) (.slice As ns cs) := by
 obtain ⟨vb,vc,vf,vs,L,e,h1,⟨h2,h3,h4⟩,h5⟩ := h
 obtain ⟨Ab,nb,cb,rfl⟩ := h1.shape
 obtain ⟨Ac,nc,cc,rfl⟩ := h3.1.shape
 obtain ⟨Af,nf,cf,rfl⟩ := (strs_owns h4).shape
 obtain ⟨As,ns,cs,rfl⟩ := h5.shape
 exact ⟨Ab,nb,cb,Ac,nc,cc,Af,nf,cf,As,ns,cs,e⟩
theorem StaV.shape {w : World} {B : Nat} {v : Value} {x : Sta} (h : StaV w B v x) : ∃ Ab nb cb Ac nc cc Af nf cf As ns cs,v = vSt x (.slice Ab nb cb) (.slice Ac nc cc) (.slice Af nf cf) (.slice As ns cs) := by
 obtain ⟨vb,vc,vf,vs,e,h1,h2,h3,h4⟩ := h
 obtain ⟨Ab,cb,rfl,_⟩ := pt_look h1
 obtain ⟨Ac,cc,rfl,_⟩ := h2.look
 obtain ⟨Af,cf,rfl,_⟩ := st_look h3
 obtain ⟨As,cs,rfl,_⟩ := ses_look h4
 exact ⟨Ab,_,cb,Ac,_,cc,Af,_,cf,As,_,cs,e⟩
theorem StaV.parts {w : World} {B : Nat} {x : Sta} {vb vc vf vs : Value} (h : StaV w B (vSt x vb vc vf vs) x) : Lies w B 2 vb (ptR x.bks) ∧ EngV w B (.agg #[.int .i64 x.eng.floor,vc,vf]) x.eng ∧ Lies w B 6 vs (sesR x.ses) := by
 obtain ⟨vb',vc',vf',vs',e,h1,h2,h3,h4⟩ := h
 unfold vSt at e
 simp only [Value.agg.injEq,Array.mk.injEq,List.cons.injEq,true_and,and_true] at e
 obtain ⟨rfl,rfl,rfl,rfl⟩ := e
 exact ⟨h1,⟨_,_,rfl,h2,h3⟩,h4⟩
def StShort (x : Sta) : Prop := x.bks.length ≤ 1048576 ∧ EShort x.eng ∧ x.ses.length ≤ 1048576 ∧ ∀ s ∈ x.ses,s.data.size ≤ 1048576
structure IgS (X : World) (base gx : Nat) (k h m f : Int) (vb vc vf vs : Value) (bks : List Pnt) (L : List (Ser × Value)) (fs : List ByteArray) (ses : List Ses) : Prop where
 box : Blk X gx #[.int .i64 k,.int .i64 h,.int .i64 m,vb,.int .i64 f,vc,vf,vs] 38
 lt : gx < base
 ob : Owns X base 58 2 vb (ptR bks)
 oc : SerO X base vc L
 of : Owns X base 9 1 vf (stR fs)
 os : Owns X base 53 6 vs (sesR ses)
theorem SerO.kept {X Y : World} {base : Nat} {v : Value} {L : List (Ser × Value)} (h : SerO X base v L) (hk : ∀ g u,(u = v ∨ ∃ p ∈ L,u = p.2) → g < X.heap.size → u.ownBlock = some g → Y.heap[g]? = X.heap[g]?) : SerO Y base v L :=
 ⟨h.1.kept fun g hg ho => hk g v (.inl rfl) hg ho,fun p hp => (h.2.1 p hp).kept fun g hg ho => hk g p.2 (.inr ⟨p,hp,rfl⟩) hg ho,h.2.2⟩
theorem SerO.from {X : World} {base : Nat} {v : Value} {L : List (Ser × Value)} (h : SerO X base v L) : ∀ g u,(u = v ∨ ∃ p ∈ L,u = p.2) → u.ownBlock = some g → base ≤ g := by
 rintro g u (rfl | ⟨p,hp,rfl⟩) ho
 ·exact (h.1.lt g ho).1
 ·exact ((h.2.1 p hp).lt g ho).1
theorem IgS.keep {X : World} {base gx : Nat} {k h m f : Int} {vb vc vf vs : Value} {bks : List Pnt} {L : List (Ser × Value)} {fs : List ByteArray} {ses : List Ses} {Y : World} (i : IgS X base gx k h m f vb vc vf vs bks L fs ses) (hk : ∀ g,gx ≤ g → g < X.heap.size → Y.heap[g]? = X.heap[g]?) : IgS Y base gx k h m f vb vc vf vs bks L fs ses where
 box := (hk gx (Nat.le_refl _) i.box.lt).trans i.box
 lt := i.lt
 ob := i.ob.kept fun g hg ho => hk g (Nat.le_trans (Nat.le_of_lt i.lt) (i.ob.lt g ho).1) hg
 oc := i.oc.kept fun g u hu hg ho => hk g (Nat.le_trans (Nat.le_of_lt i.lt) (i.oc.from g u hu ho)) hg
 of := i.of.kept fun g hg ho => hk g (Nat.le_trans (Nat.le_of_lt i.lt) (i.of.lt g ho).1) hg
 os := i.os.kept fun g hg ho => hk g (Nat.le_trans (Nat.le_of_lt i.lt) (i.os.lt g ho).1) hg
theorem IgS.on {X : World} {base gx : Nat} {k h m f : Int} {vb vc vf vs : Value} {bks : List Pnt} {L : List (Ser × Value)} {fs : List ByteArray} {ses : List Ses} {Y : World} (i : IgS X base gx k h m f vb vc vf vs bks L fs ses) (hb : Below X.heap.size X Y) : IgS Y base gx k h m f vb vc vf vs bks L fs ses := i.keep fun g _ hg => hb.block g hg
theorem IgS.drew {X : World} {base gx : Nat} {k h m f : Int} {vb vc vf vs : Value} {bks : List Pnt} {L : List (Ser × Value)} {fs : List ByteArray} {ses : List Ses} (i : IgS X base gx k h m f vb vc vf vs bks L fs ses) : IgS X.drew base gx k h m f vb vc vf vs bks L fs ses := ⟨i.box,i.lt,i.ob.heap rfl,i.oc.kept fun _ _ _ _ _ => rfl,i.of.heap rfl,i.os.heap rfl⟩
theorem other_heap (X : World) (r i : Nat) (v : Value) (g : Nat) (hne : g ≠ r) : (X.setCell ⟨r,i,none⟩ v).heap[g]? = X.heap[g]? := Below.heap_setCell _ _ _ _ hne
theorem IgS.put {X : World} {base gx : Nat} {k h m f : Int} {vb vc vf vs : Value} {bks : List Pnt} {L : List (Ser × Value)} {fs : List ByteArray} {ses : List Ses} (i : IgS X base gx k h m f vb vc vf vs bks L fs ses) {r : Nat} (hr : r < gx) (j : Nat) (v : Value) : IgS (X.setCell ⟨r,j,none⟩ v) base gx k h m f vb vc vf vs bks L fs ses := i.keep fun g hg _ => other_heap X r j v g (by omega)
theorem IgS.rows {X : World} {base gx : Nat} {k h m f : Int} {vb vc vf vs : Value} {bks : List Pnt} {L : List (Ser × Value)} {fs : List ByteArray} {ses : List Ses} (i : IgS X base gx k h m f vb vc vf vs bks L fs ses) (j : Nat) (v : Value) : Owns (X.setCell ⟨gx,j,none⟩ v) base 58 2 vb (ptR bks) ∧ SerO (X.setCell ⟨gx,j,none⟩ v) base vc L ∧ Owns (X.setCell ⟨gx,j,none⟩ v) base 9 1 vf (stR fs) ∧ Owns (X.setCell ⟨gx,j,none⟩ v) base 53 6 vs (sesR ses) :=
 ⟨i.ob.other (i.ob.below i.lt) j v,i.oc.kept fun g u hu hg ho => other_heap X gx j v g (by have := i.oc.from g u hu ho; have := i.lt; omega),i.of.other (i.of.below i.lt) j v,i.os.other (i.os.below i.lt) j v⟩
theorem IgS.setK {X : World} {base gx : Nat} {k h m f : Int} {vb vc vf vs : Value} {bks : List Pnt} {L : List (Ser × Value)} {fs : List ByteArray} {ses : List Ses} (i : IgS X base gx k h m f vb vc vf vs bks L fs ses) (k' : Int) : IgS (X.setCell ⟨gx,0,none⟩ (.int .i64 k')) base gx k' h m f vb vc vf vs bks L fs ses := ⟨i.box.set 0 _,i.lt,(i.rows 0 _).1,(i.rows 0 _).2.1,(i.rows 0 _).2.2.1,(i.rows 0 _).2.2.2⟩
theorem IgS.setH {X : World} {base gx : Nat} {k h m f : Int} {vb vc vf vs : Value} {bks : List Pnt} {L : List (Ser × Value)} {fs : List ByteArray} {ses : List Ses} (i : IgS X base gx k h m f vb vc vf vs bks L fs ses) (h' : Int) : IgS (X.setCell ⟨gx,1,none⟩ (.int .i64 h')) base gx k h' m f vb vc vf vs bks L fs ses := ⟨i.box.set 1 _,i.lt,(i.rows 1 _).1,(i.rows 1 _).2.1,(i.rows 1 _).2.2.1,(i.rows 1 _).2.2.2⟩
theorem IgS.setM {X : World} {base gx : Nat} {k h m f : Int} {vb vc vf vs : Value} {bks : List Pnt} {L : List (Ser × Value)} {fs : List ByteArray} {ses : List Ses} (i : IgS X base gx k h m f vb vc vf vs bks L fs ses) (m' : Int) : IgS (X.setCell ⟨gx,2,none⟩ (.int .i64 m')) base gx k h m' f vb vc vf vs bks L fs ses := ⟨i.box.set 2 _,i.lt,(i.rows 2 _).1,(i.rows 2 _).2.1,(i.rows 2 _).2.2.1,(i.rows 2 _).2.2.2⟩
theorem IgS.setF {X : World} {base gx : Nat} {k h m f : Int} {vb vc vf vs : Value} {bks : List Pnt} {L : List (Ser × Value)} {fs : List ByteArray} {ses : List Ses} (i : IgS X base gx k h m f vb vc vf vs bks L fs ses) (f' : Int) : IgS (X.setCell ⟨gx,4,none⟩ (.int .i64 f')) base gx k h m f' vb vc vf vs bks L fs ses := ⟨i.box.set 4 _,i.lt,(i.rows 4 _).1,(i.rows 4 _).2.1,(i.rows 4 _).2.2.1,(i.rows 4 _).2.2.2⟩
theorem IgS.setC {X : World} {base gx : Nat} {k h m f : Int} {vb vc vf vs : Value} {bks : List Pnt} {L : List (Ser × Value)} {fs : List ByteArray} {ses : List Ses} (i : IgS X base gx k h m f vb vc vf vs bks L fs ses) {vc' : Value} {L' : List (Ser × Value)} (hc : SerO X base vc' L') : IgS (X.setCell ⟨gx,5,none⟩ vc') base gx k h m f vb vc' vf vs bks L' fs ses :=
 ⟨i.box.set 5 _,i.lt,(i.rows 5 _).1,hc.kept fun g u hu hg ho => other_heap X gx 5 vc' g (by have := hc.from g u hu ho; have := i.lt; omega),(i.rows 5 _).2.2.1,(i.rows 5 _).2.2.2⟩
theorem IgS.appB {X : World} {base gx : Nat} {k h m f : Int} {vb vc vf vs : Value} {bks : List Pnt} {L : List (Ser × Value)} {fs : List ByteArray} {ses : List Ses} {Y : World} (i : IgS X base gx k h m f vb vc vf vs bks L fs ses) {vb' : Value} {y : Pnt} (hO : Owns Y base 58 2 vb' (ptR (bks ++ [y]))) (hk : ∀ g,g < X.heap.size → vb.ownBlock ≠ some g → Y.heap[g]? = X.heap[g]?) : IgS (Y.setCell ⟨gx,3,none⟩ vb') base gx k h m f vb' vc vf vs (bks ++ [y]) L fs ses := by
 have kb : Blk Y gx #[.int .i64 k,.int .i64 h,.int .i64 m,vb,.int .i64 f,vc,vf,vs] 38 := (hk gx i.box.lt (i.ob.below i.lt)).trans i.box
 have c1 : Owns Y base 58 2 vb' (ptR (bks ++ [y])) := hO
 have c2 : SerO Y base vc L := (i.oc.kept fun g u hu hg ho => hk g hg fun e => by
   rcases hu with rfl | ⟨p,hp,rfl⟩
   ·exact i.oc.1.apartT i.ob (by decide) g ho e
   ·exact (i.oc.2.1 p hp).apartT i.ob (by decide) g ho e)
 have c3 : Owns Y base 9 1 vf (stR fs) := (i.of.kept fun g hg ho => hk g hg fun e => i.of.apartT i.ob (by decide) g ho e)
 have c4 : Owns Y base 53 6 vs (sesR ses) := (i.os.kept fun g hg ho => hk g hg fun e => i.os.apartT i.ob (by decide) g ho e)
 exact ⟨kb.set 3 _,i.lt,c1.other (c1.below i.lt) _ _,c2.kept fun g u hu hg ho => other_heap Y gx 3 _ g (by have := c2.from g u hu ho; have := i.lt; omega),c3.other (c3.below i.lt) _ _,c4.other (c4.below i.lt) _ _⟩
theorem IgS.appF {X : World} {base gx : Nat} {k h m f : Int} {vb vc vf vs : Value} {bks : List Pnt} {L : List (Ser × Value)} {fs : List ByteArray} {ses : List Ses} {Y : World} (i : IgS X base gx k h m f vb vc vf vs bks L fs ses) {vf' : Value} {y : ByteArray} (hO : Owns Y base 9 1 vf' (stR (fs ++ [y]))) (hk : ∀ g,g < X.heap.size → vf.ownBlock ≠ some g → Y.heap[g]? = X.heap[g]?) : IgS (Y.setCell ⟨gx,6,none⟩ vf') base gx k h m f vb vc vf' vs bks L (fs ++ [y]) ses := by
 have kb : Blk Y gx #[.int .i64 k,.int .i64 h,.int .i64 m,vb,.int .i64 f,vc,vf,vs] 38 := (hk gx i.box.lt (i.of.below i.lt)).trans i.box
 have c1 : Owns Y base 58 2 vb (ptR bks) := (i.ob.kept fun g hg ho => hk g hg fun e => i.ob.apartT i.of (by decide) g ho e)
 have c2 : SerO Y base vc L := (i.oc.kept fun g u hu hg ho => hk g hg fun e => by
   rcases hu with rfl | ⟨p,hp,rfl⟩
   ·exact i.oc.1.apartT i.of (by decide) g ho e
   ·exact (i.oc.2.1 p hp).apartT i.of (by decide) g ho e)
 have c3 : Owns Y base 9 1 vf' (stR (fs ++ [y])) := hO
 have c4 : Owns Y base 53 6 vs (sesR ses) := (i.os.kept fun g hg ho => hk g hg fun e => i.os.apartT i.of (by decide) g ho e)
 exact ⟨kb.set 6 _,i.lt,c1.other (c1.below i.lt) _ _,c2.kept fun g u hu hg ho => other_heap Y gx 6 _ g (by have := c2.from g u hu ho; have := i.lt; omega),c3.other (c3.below i.lt) _ _,c4.other (c4.below i.lt) _ _⟩
theorem IgS.appS {X : World} {base gx : Nat} {k h m f : Int} {vb vc vf vs : Value} {bks : List Pnt} {L : List (Ser × Value)} {fs : List ByteArray} {ses : List Ses} {Y : World} (i : IgS X base gx k h m f vb vc vf vs bks L fs ses) {vs' : Value} {y : Ses} (hO : Owns Y base 53 6 vs' (sesR (ses ++ [y]))) (hk : ∀ g,g < X.heap.size → vs.ownBlock ≠ some g → Y.heap[g]? = X.heap[g]?) : IgS (Y.setCell ⟨gx,7,none⟩ vs') base gx k h m f vb vc vf vs' bks L fs (ses ++ [y]) := by
 have kb : Blk Y gx #[.int .i64 k,.int .i64 h,.int .i64 m,vb,.int .i64 f,vc,vf,vs] 38 := (hk gx i.box.lt (i.os.below i.lt)).trans i.box
 have c1 : Owns Y base 58 2 vb (ptR bks) := (i.ob.kept fun g hg ho => hk g hg fun e => i.ob.apartT i.os (by decide) g ho e)
 have c2 : SerO Y base vc L := (i.oc.kept fun g u hu hg ho => hk g hg fun e => by
   rcases hu with rfl | ⟨p,hp,rfl⟩
   ·exact i.oc.1.apartT i.os (by decide) g ho e
   ·exact (i.oc.2.1 p hp).apartT i.os (by decide) g ho e)
 have c3 : Owns Y base 9 1 vf (stR fs) := (i.of.kept fun g hg ho => hk g hg fun e => i.of.apartT i.os (by decide) g ho e)
 have c4 : Owns Y base 53 6 vs' (sesR (ses ++ [y])) := hO
 exact ⟨kb.set 7 _,i.lt,c1.other (c1.below i.lt) _ _,c2.kept fun g u hu hg ho => other_heap Y gx 7 _ g (by have := c2.from g u hu ho; have := i.lt; omega),c3.other (c3.below i.lt) _ _,c4.other (c4.below i.lt) _ _⟩
theorem IgS.state {X : World} {base gx : Nat} {k h m f : Int} {vb vc vf vs : Value} {bks : List Pnt} {L : List (Ser × Value)} {fs : List ByteArray} {ses : List Ses} (i : IgS X base gx k h m f vb vc vf vs bks L fs ses) : StaO X base (.agg #[.int .i64 k,.int .i64 h,.int .i64 m,vb,.int .i64 f,vc,vf,vs]) ⟨k,h,m,bks,⟨f,L.map Prod.fst,fs⟩,ses⟩ := ⟨vb,vc,vf,vs,L,rfl,i.ob,⟨rfl,i.oc,owns_strs i.of⟩,i.os⟩
theorem IgS.new (X : World) (base gx : Nat) (hb : Blk X gx #[.int .i64 0,.int .i64 0,.int .i64 0,.slice none 0 0,.int .i64 0,.slice none 0 0,.slice none 0 0,.slice none 0 0] 38) (hl : gx < base) : IgS X base gx 0 0 0 0 (.slice none 0 0) (.slice none 0 0) (.slice none 0 0) (.slice none 0 0) [] [] [] [] :=
 ⟨hb,hl,Owns.nil _ _ _ _,⟨Owns.nil _ _ _ _,fun p hp => (by cases hp),List.Pairwise.nil⟩,Owns.nil _ _ _ _,Owns.nil _ _ _ _⟩
def byKind (b2 b3 b5 b6 : Nat) : Array MapEntry := #[⟨.int .i64 0,(.func (.func 128) #[] #[.pointer (some ⟨b2,0,none⟩),.pointer (some ⟨b3,0,none⟩)]),0⟩,⟨.int .i64 1,(.func (.func 130) #[] #[.pointer (some ⟨b6,0,none⟩),.pointer (some ⟨b3,0,none⟩),.pointer (some ⟨b2,0,none⟩)]),1⟩,⟨.int .i64 2,(.func (.func 131) #[] #[.pointer (some ⟨b2,0,none⟩),.pointer (some ⟨b3,0,none⟩)]),2⟩,⟨.int .i64 3,(.func (.func 132) #[] #[.pointer (some ⟨b5,0,none⟩),.pointer (some ⟨b3,0,none⟩)]),3⟩,⟨.int .i64 4,(.func (.func 134) #[] #[.pointer (some ⟨b6,0,none⟩),.pointer (some ⟨b3,0,none⟩),.pointer (some ⟨b5,0,none⟩)]),4⟩,⟨.int .i64 5,(.func (.func 135) #[] #[.pointer (some ⟨b6,0,none⟩),.pointer (some ⟨b3,0,none⟩),.pointer (some ⟨b2,0,none⟩),.pointer (some ⟨b5,0,none⟩)]),5⟩]
structure IgE (X : World) (gr gx b2 b3 b5 b6 b9 : Nat) : Prop where
 c2 : Blk X b2 #[.pointer (some ⟨gr,0,none⟩)] 85
 c3 : Blk X b3 #[.pointer (some ⟨gx,0,none⟩)] 144
 c5 : Blk X b5 #[.func (.func 124) #[] #[.pointer (some ⟨b2,0,none⟩)]] 81
 c6 : Blk X b6 #[.func (.func 127) #[] #[.pointer (some ⟨b2,0,none⟩)]] 59
 o1 : gr < gx
 o2 : gx < b2
 o3 : gx < b3
 o5 : gx < b5
 o6 : gx < b6
 cm : X.heap[b9]? = some (.map (byKind b2 b3 b5 b6) 6)
 o9 : gx < b9
theorem IgE.keep {X Y : World} {gr gx b2 b3 b5 b6 b9 : Nat} (e : IgE X gr gx b2 b3 b5 b6 b9) (hk : ∀ g,g = b2 ∨ g = b3 ∨ g = b5 ∨ g = b6 ∨ g = b9 → Y.heap[g]? = X.heap[g]?) : IgE Y gr gx b2 b3 b5 b6 b9 :=
 ⟨(hk b2 (by omega)).trans e.c2,(hk b3 (by omega)).trans e.c3,(hk b5 (by omega)).trans e.c5,(hk b6 (by omega)).trans e.c6,e.o1,e.o2,e.o3,e.o5,e.o6,(hk b9 (by omega)).trans e.cm,e.o9⟩
theorem IgE.lt {X : World} {gr gx b2 b3 b5 b6 b9 : Nat} (e : IgE X gr gx b2 b3 b5 b6 b9) : ∀ g,g = b2 ∨ g = b3 ∨ g = b5 ∨ g = b6 ∨ g = b9 → gx < g ∧ g < X.heap.size := by
 have h1 := e.c2.lt
 have h2 := e.c3.lt
 have h3 := e.c5.lt
 have h4 := e.c6.lt
 have h5 := (Array.getElem?_eq_some_iff.1 e.cm).1
 have := e.o9
 have := e.o2
 have := e.o3
 have := e.o5
 have := e.o6
 intro g hg
 omega
theorem IgE.part {X Y : World} {gr gx b2 b3 b5 b6 b9 : Nat} (e : IgE X gr gx b2 b3 b5 b6 b9) (hk : PKeep gr X Y) : IgE Y gr gx b2 b3 b5 b6 b9 := e.keep fun g hg => hk.2 g (by have := (e.lt g hg).1; have := e.o1; omega) (e.lt g hg).2
theorem IgE.on {X Y : World} {gr gx b2 b3 b5 b6 b9 : Nat} (e : IgE X gr gx b2 b3 b5 b6 b9) (hb : Below X.heap.size X Y) : IgE Y gr gx b2 b3 b5 b6 b9 := e.keep fun g hg => hb.block g (e.lt g hg).2
theorem IgE.put {X : World} {gr gx b2 b3 b5 b6 b9 : Nat} (e : IgE X gr gx b2 b3 b5 b6 b9) (j : Nat) (v : Value) : IgE (X.setCell ⟨gx,j,none⟩ v) gr gx b2 b3 b5 b6 b9 := e.keep fun g hg => other_heap X gx j v g (by have := (e.lt g hg).1; omega)
def CKeep (gr gx : Nat) (X Y : World) : Prop := Below gr X Y ∧ ∀ b,b ≠ gr → b < gx → Y.heap[b]? = X.heap[b]?
theorem CKeep.refl (gr gx : Nat) (X : World) : CKeep gr gx X X := ⟨Below.refl _ _,fun _ _ _ => rfl⟩
theorem CKeep.trans {gr gx : Nat} {X Y Z : World} (h : CKeep gr gx X Y) (h' : CKeep gr gx Y Z) : CKeep gr gx X Z := ⟨h.1.trans h'.1,fun b hb hl => (h'.2 b hb hl).trans (h.2 b hb hl)⟩
theorem CKeep.part {gr gx : Nat} {X Y Z : World} (h : CKeep gr gx X Y) (hk : PKeep gr Y Z) (hl : gx ≤ Y.heap.size) : CKeep gr gx X Z := h.trans ⟨hk.1,fun b hb hg => hk.2 b hb (Nat.lt_of_lt_of_le hg hl)⟩
theorem CKeep.below {gr gx : Nat} {X Y Z : World} (h : CKeep gr gx X Y) (hb : Below Y.heap.size Y Z) (hl : gx ≤ Y.heap.size) (hr : gr < gx) : CKeep gr gx X Z := h.part (PKeep.of hb (by omega)) hl
theorem CKeep.put {gr gx : Nat} {X Y : World} (h : CKeep gr gx X Y) (hr : gr < gx) (j : Nat) (v : Value) : CKeep gr gx X (Y.setCell ⟨gx,j,none⟩ v) := ⟨h.1.setCell (Nat.le_of_lt hr) _,fun b hb hl => (other_heap Y gx j v b (by omega)).trans (h.2 b hb hl)⟩
theorem CKeep.drew (gr gx : Nat) (X : World) : CKeep gr gx X X.drew := ⟨(Below.refl _ _).drew,fun _ _ _ => rfl⟩
theorem IgS.part {X Y : World} {base gx gr : Nat} {k h m f : Int} {vb vc vf vs : Value} {bks : List Pnt} {L : List (Ser × Value)} {fs : List ByteArray} {ses : List Ses} (i : IgS X base gx k h m f vb vc vf vs bks L fs ses) (hr : gr < gx) (hk : PKeep gr X Y) : IgS Y base gx k h m f vb vc vf vs bks L fs ses := i.keep fun g hg hl => hk.2 g (by omega) hl
theorem RdF.join {s : ByteArray} {a n m : Nat} {l : List Int} {z : Int} {k : Nat} (h : RdF s a k l n) (h' : RdF s n 1 [z] m) : RdF s a (k + 1) (l ++ [z]) m := by
 obtain ⟨l1,n1,k1,h1,h2,h3,h4⟩ := h'
 obtain ⟨rfl,rfl⟩ := h1
 simp only [List.nil_append,List.cons.injEq,and_true] at h3
 exact ⟨l,n1,k1,h,h2,by rw [h3],h4⟩
theorem RdF.last {s : ByteArray} {a m k : Nat} {l : List Int} (h : RdF s a (k + 1) l m) : ∃ l' n z,RdF s a k l' n ∧ RdF s n 1 [z] m ∧ l = l' ++ [z] := by
 obtain ⟨l1,n1,k1,h1,h2,h3,h4⟩ := h
 exact ⟨l1,n1,_,h1,⟨[],n1,k1,⟨rfl,rfl⟩,h2,rfl,h4⟩,h3⟩
theorem RdF.noLast {s : ByteArray} {a n k : Nat} {l : List Int} (h : RdF s a k l n) (hn : ∀ l m,¬ RdF s n 1 l m) : ∀ l m,¬ RdF s a (k + 1) l m := by
 intro l' m h'
 obtain ⟨l1,n1,z,h1,h2,_⟩ := h'.last
 obtain ⟨rfl,rfl⟩ := h1.one h
 exact hn _ _ h2
def HdA (s : ByteArray) (base gr gx b2 b3 b5 b6 b9 : Nat) (w : World) (e : Ending) (w' : World) : Prop := ((∃ (h m n : Nat),1 ≤ s.size ∧ RdF s 1 2 [(h : Int),(m : Int)] n ∧ e = .returned (.tuple #[]) ∧ Prt w' gr (lf s n) ∧ IgS w' base gx (kB s : Int) (h : Int) (m : Int) 0 (.slice none 0 0) (.slice none 0 0) (.slice none 0 0) (.slice none 0 0) [] [] [] [] ∧ IgE w' gr gx b2 b3 b5 b6 b9) ∨ ((∀ l n,¬ RdF s 1 2 l n) ∧ e = .panicked lackP)) ∧ CKeep gr gx w w'
set_option maxHeartbeats 2000000 in
theorem takeHead (s : ByteArray) (base gr gx b2 b3 b5 b6 b9 : Nat) (w : World) (hs : s.size ≤ 1048576) (hp : Prt w gr s) (hi : IgS w base gx 0 0 0 0 (.slice none 0 0) (.slice none 0 0) (.slice none 0 0) (.slice none 0 0) [] [] [] []) (he : IgE w gr gx b2 b3 b5 b6 b9) :
  Calls Tryz.prog 128 #[.pointer (some ⟨b2,0,none⟩),.pointer (some ⟨b3,0,none⟩)] w fun e w' => HdA s base gr gx b2 b3 b5 b6 b9 w e w' := by
 have HS : Hid (s.size ≤ 1048576) := hs
 have HR : Hid (gr < gx) := he.o1
 have P0 : Hid (Prt w.drew gr s) := hp
 have I0 := Hid.mk hi.drew
 have E0 : Hid (IgE w.drew gr gx b2 b3 b5 b6 b9) := he.keep fun _ _ => rfl
 have C0 := Hid.mk (CKeep.drew gr gx w)
 have S0 : Hid (w.drew.cell? ⟨b3,0,none⟩ = some (.pointer (some ⟨gx,0,none⟩)) ∧ w.drew.cell? ⟨b2,0,none⟩ = some (.pointer (some ⟨gr,0,none⟩))) := ⟨he.c3.cell 0 _ rfl,he.c2.cell 0 _ rfl⟩
 clear hs hp hi he
 go_enter Tryz.func128,Tryz.ntmps128
 go_wp2_with fail
 refine wp_region_until (fun w' => w'.cell? ⟨b3,0,none⟩ = some (.pointer (some ⟨gx,0,none⟩)) ∧ w'.cell? ⟨b2,0,none⟩ = some (.pointer (some ⟨gr,0,none⟩))) (fun _ => false) 18 (by rfl) (by kernel_rfl) ?_
 generalize w.drew = X0 at *
 refine tF 0 S0.out ?_
 refine tF 1 S0.out ?_
 refine tF 2 S0.out ?_
 refine tF 3 S0.out ?_
 refine tF 5 S0.out ?_
 refine tF 7 S0.out ?_
 refine uNe 4 (fun K hK => ?_)
 go_simp
 refine (takeByteF gr s X0 P0.out HS.out).mono ?_
 rintro e X1 ⟨hR,hk⟩
 have I1 := Hid.mk (I0.out.part HR.out hk)
 have E1 := Hid.mk (E0.out.part hk)
 have C1 := Hid.mk (C0.out.part hk (Nat.le_of_lt I0.out.box.lt))
 clear hk I0 E0 C0 P0 S0
 rcases hR with ⟨h1,rfl,hp⟩ | ⟨hno,rfl⟩
 rotate_left
 ·have HN : Hid (∀ l n,¬ RdF s 1 2 l n) := fun l n h => by have := h.inS; omega
  clear hno
  go_wp2_with fail
  exact ⟨rfl,.inr ⟨HN.out,rfl⟩,C1.out⟩
 have H1 : Hid (1 ≤ s.size) := h1
 have P1 := Hid.mk hp
 have HKB : Hid (kB s = bn s 0) := rfl
 generalize bn s 0 = kn at *
 clear h1 hp
 go_wp2_with fail
 refine hK.out _ _ (fun _ _ => ⟨E1.out.c3.cell 0 _ rfl,E1.out.c2.cell 0 _ rfl⟩) ?_
 clear hK K
 try simp only [Act.put,zQ1,zQ2,zQ3]
 refine uNe 6 (fun K hK => ?_)
 go_simp
 refine (takeVarR gr s 1 X1 P1.out HS.out).mono ?_
 rintro e X2 ⟨hR,hk⟩
 have I2 := Hid.mk (I1.out.part HR.out hk)
 have E2 := Hid.mk (E1.out.part hk)
 have C2 := Hid.mk (C1.out.part hk (Nat.le_of_lt I1.out.box.lt))
 clear hk I1 E1 C1 P1
 rcases hR with ⟨zh,n1,hz,rfl,hp⟩ | ⟨hno,rfl⟩
 rotate_left
 ·have HN : Hid (∀ l n,¬ RdF s 1 2 l n) := fun l n h => by
   obtain ⟨l1,n3,z3,g1,g2,_⟩ := h.last
   exact hno _ _ g1
  clear hno
  go_wp2_with fail
  exact ⟨rfl,.inr ⟨HN.out,rfl⟩,C2.out⟩
 have Hzh := Hid.mk hz
 have P2 := Hid.mk hp
 clear hz hp
 go_wp2_with fail
 refine hK.out _ _ (fun _ _ => ⟨E2.out.c3.cell 0 _ rfl,E2.out.c2.cell 0 _ rfl⟩) ?_
 clear hK K
 try simp only [Act.put,zQ1,zQ2,zQ3]
 refine uNe 8 (fun K hK => ?_)
 go_simp
 refine (takeVarR gr s n1 X2 P2.out HS.out).mono ?_
 rintro e X3 ⟨hR,hk⟩
 have I3 := Hid.mk (I2.out.part HR.out hk)
 have E3 := Hid.mk (E2.out.part hk)
 have C3 := Hid.mk (C2.out.part hk (Nat.le_of_lt I2.out.box.lt))
 clear hk I2 E2 C2 P2
 rcases hR with ⟨zm,n2,hz,rfl,hp⟩ | ⟨hno,rfl⟩
 rotate_left
 ·have HN : Hid (∀ l n,¬ RdF s 1 2 l n) := Hzh.out.noLast hno
  clear hno
  go_wp2_with fail
  exact ⟨rfl,.inr ⟨HN.out,rfl⟩,C3.out⟩
 have Hzm := Hid.mk hz
 have P3 := Hid.mk hp
 clear hz hp
 go_wp2_with fail
 refine hK.out _ _ (fun _ _ => ⟨E3.out.c3.cell 0 _ rfl,E3.out.c2.cell 0 _ rfl⟩) ?_
 clear hK K
 try simp only [Act.put,zQ1,zQ2,zQ3]
 have HJ : Hid (RdF s 1 2 [(zh : Int),(zm : Int)] n2) := Hzh.out.join Hzm.out
 refine pF 9 ?_
 refine pF 10 ?_
 have I4 := Hid.mk (I3.out.setK (kn : Int))
 have E4 := Hid.mk (E3.out.put 0 (.int .i64 (kn : Int)))
 have C4 := Hid.mk (C3.out.put HR.out 0 (.int .i64 (kn : Int)))
 have P4 : Hid (Prt (X3.setCell ⟨gx,0,none⟩ (.int .i64 (kn : Int))) gr (lf s n2)) := (other_heap X3 gx 0 _ gr (by have := HR.out; omega)).trans P3.out
 have bk := I3.out.box.cell 0 _ rfl
 have fk := I3.out.box.free 0
 refine uNe 11 (fun K hK => ?_)
 go_simp
 refine hK.out _ _ (fun _ _ => ⟨E4.out.c3.cell 0 _ rfl,E4.out.c2.cell 0 _ rfl⟩) ?_
 clear hK K bk fk I3 E3 C3 P3
 generalize (X3.setCell ⟨gx,0,none⟩ (.int .i64 (kn : Int))) = X4 at *
 try simp only [Act.put,zQ1,zQ2,zQ3]
 refine pF 12 ?_
 refine pF 13 ?_
 have I5 := Hid.mk (I4.out.setH (zh : Int))
 have E5 := Hid.mk (E4.out.put 1 (.int .i64 (zh : Int)))
 have C5 := Hid.mk (C4.out.put HR.out 1 (.int .i64 (zh : Int)))
 have P5 : Hid (Prt (X4.setCell ⟨gx,1,none⟩ (.int .i64 (zh : Int))) gr (lf s n2)) := (other_heap X4 gx 1 _ gr (by have := HR.out; omega)).trans P4.out
 have bk := I4.out.box.cell 1 _ rfl
 have fk := I4.out.box.free 1
 refine uNe 14 (fun K hK => ?_)
 go_simp
 refine hK.out _ _ (fun _ _ => ⟨E5.out.c3.cell 0 _ rfl,E5.out.c2.cell 0 _ rfl⟩) ?_
 clear hK K bk fk I4 E4 C4 P4
 generalize (X4.setCell ⟨gx,1,none⟩ (.int .i64 (zh : Int))) = X5 at *
 try simp only [Act.put,zQ1,zQ2,zQ3]
 refine pF 15 ?_
 refine pF 16 ?_
 have I6 := Hid.mk (I5.out.setM (zm : Int))
 have E6 := Hid.mk (E5.out.put 2 (.int .i64 (zm : Int)))
 have C6 := Hid.mk (C5.out.put HR.out 2 (.int .i64 (zm : Int)))
 have P6 : Hid (Prt (X5.setCell ⟨gx,2,none⟩ (.int .i64 (zm : Int))) gr (lf s n2)) := (other_heap X5 gx 2 _ gr (by have := HR.out; omega)).trans P5.out
 have bk := I5.out.box.cell 2 _ rfl
 have fk := I5.out.box.free 2
 refine uNe 17 (fun K hK => ?_)
 go_simp
 refine hK.out _ _ (fun _ _ => ⟨E6.out.c3.cell 0 _ rfl,E6.out.c2.cell 0 _ rfl⟩) ?_
 clear hK K bk fk I5 E5 C5 P5
 generalize (X5.setCell ⟨gx,2,none⟩ (.int .i64 (zm : Int))) = X6 at *
 try simp only [Act.put,zQ1,zQ2,zQ3]
 refine until_done (by kernel_rfl) ?_ _
 go_wp2_with fail
 first | go_end0 | exact bodyPost_ret (results_none rfl _ _ _) rfl ⟨.inl ⟨zh,zm,n2,H1.out,HJ.out,rfl,P6.out,by rw [HKB.out]; exact I6.out,E6.out⟩,C6.out⟩
 exact ⟨.inl ⟨zh,zm,n2,H1.out,HJ.out,rfl,P6.out,by rw [HKB.out]; exact I6.out,E6.out⟩,C6.out⟩
def FlA (s : ByteArray) (n base gr gx b2 b3 b5 b6 b9 : Nat) (k h m : Int) (vb vc vf vs : Value) (bks : List Pnt) (L : List (Ser × Value)) (fs : List ByteArray) (ses : List Ses) (w : World) (e : Ending) (w' : World) : Prop := ((∃ z n' : Nat,RdF s n 1 [(z : Int)] n' ∧ e = .returned (.tuple #[]) ∧ Prt w' gr (lf s n') ∧ IgS w' base gx k h m (z : Int) vb vc vf vs bks L fs ses ∧ IgE w' gr gx b2 b3 b5 b6 b9) ∨ ((∀ l n',¬ RdF s n 1 l n') ∧ e = .panicked lackP)) ∧ CKeep gr gx w w'
set_option maxHeartbeats 2000000 in
theorem takeFloor (s : ByteArray) (n base gr gx b2 b3 b5 b6 b9 : Nat) (k h m f : Int) (vb vc vf vs : Value) (bks : List Pnt) (L : List (Ser × Value)) (fs : List ByteArray) (ses : List Ses) (w : World) (hs : s.size ≤ 1048576) (hp : Prt w gr (lf s n)) (hi : IgS w base gx k h m f vb vc vf vs bks L fs ses) (he : IgE w gr gx b2 b3 b5 b6 b9) :
  Calls Tryz.prog 131 #[.pointer (some ⟨b2,0,none⟩),.pointer (some ⟨b3,0,none⟩)] w fun e w' => FlA s n base gr gx b2 b3 b5 b6 b9 k h m vb vc vf vs bks L fs ses w e w' := by
 have HS : Hid (s.size ≤ 1048576) := hs
 have HR : Hid (gr < gx) := he.o1
 have P0 : Hid (Prt w.drew gr (lf s n)) := hp
 have I0 := Hid.mk hi.drew
 have E0 : Hid (IgE w.drew gr gx b2 b3 b5 b6 b9) := he.keep fun _ _ => rfl
 have C0 := Hid.mk (CKeep.drew gr gx w)
 have S0 : Hid (w.drew.cell? ⟨b3,0,none⟩ = some (.pointer (some ⟨gx,0,none⟩)) ∧ w.drew.cell? ⟨b2,0,none⟩ = some (.pointer (some ⟨gr,0,none⟩))) := ⟨he.c3.cell 0 _ rfl,he.c2.cell 0 _ rfl⟩
 clear hs hp hi he
 go_enter Tryz.func131,Tryz.ntmps131
 go_wp2_with fail
 refine wp_region_until (fun w' => w'.cell? ⟨b3,0,none⟩ = some (.pointer (some ⟨gx,0,none⟩)) ∧ w'.cell? ⟨b2,0,none⟩ = some (.pointer (some ⟨gr,0,none⟩))) (fun i => i == 6) 7 (by rfl) (by kernel_rfl) ?_
 generalize w.drew = X0 at *
 refine tF 0 S0.out ?_
 refine tF 1 S0.out ?_
 refine uNe 2 (fun K hK => ?_)
 go_simp
 refine (takeVarR gr s n X0 P0.out HS.out).mono ?_
 rintro e X1 ⟨hR,hk⟩
 have I1 := Hid.mk (I0.out.part HR.out hk)
 have E1 := Hid.mk (E0.out.part hk)
 have C1 := Hid.mk (C0.out.part hk (Nat.le_of_lt I0.out.box.lt))
 clear hk I0 E0 C0 P0 S0
 rcases hR with ⟨z,n',hz,rfl,hp⟩ | ⟨hno,rfl⟩
 rotate_left
 ·have HN : Hid (∀ l n',¬ RdF s n 1 l n') := hno
  clear hno
  go_wp2_with fail
  exact ⟨rfl,.inr ⟨HN.out,rfl⟩,C1.out⟩
 have HZ := Hid.mk hz
 have P1 := Hid.mk hp
 clear hz hp
 go_wp2_with fail
 refine hK.out _ _ (fun _ _ => ⟨E1.out.c3.cell 0 _ rfl,E1.out.c2.cell 0 _ rfl⟩) ?_
 clear hK K
 try simp only [Act.put,zQ1,zQ2,zQ3]
 refine pF 3 ?_
 refine pF 4 ?_
 refine pF 5 ?_
 have I2 := Hid.mk (I1.out.setF (z : Int))
 have E2 := Hid.mk (E1.out.put 4 (.int .i64 (z : Int)))
 have C2 := Hid.mk (C1.out.put HR.out 4 (.int .i64 (z : Int)))
 have P2 : Hid (Prt (X1.setCell ⟨gx,4,none⟩ (.int .i64 (z : Int))) gr (lf s n')) := (other_heap X1 gx 4 _ gr (by have := HR.out; omega)).trans P1.out
 have bk := I1.out.box.cell 4 _ rfl
 have fk := I1.out.box.free 4
 refine uNe 6 (fun K hK => ?_)
 go_simp
 refine hK.out _ _ (fun h => by cases h) ?_
 clear hK K bk fk I1 E1 C1 P1
 try simp only [Act.put,zQ1,zQ2,zQ3]
 refine until_done (by kernel_rfl) ?_ _
 go_wp2_with fail
 first | go_end0 | exact bodyPost_ret (results_none rfl _ _ _) rfl ⟨.inl ⟨z,n',HZ.out,rfl,P2.out,I2.out,E2.out⟩,C2.out⟩
 exact ⟨.inl ⟨z,n',HZ.out,rfl,P2.out,I2.out,E2.out⟩,C2.out⟩
end Go.Proofs.YthhamlahdjokkaaGreatDoor
