/- BtTimI BkShow BtReadVS BtReadVI BtReadTS BtReadTI BtRdA BodyAt BodyFit Unframe -/
import Derived.Test.YtedmdilabbolaaaGreatDoorRows
import Derived.Test.YtedmdilabbolaaaGreatDoorQr4
import Derived.Test.YtedmdilabbolaaaGreatDoorQr0
import Derived.Test.YtedmdilabbolaaaGreatDoorQr3
import Derived.Test.YtedmdilabbolaaaGreatDoorQr1
import Derived.Test.YtedmdilabbolaaaGreatDoorQr2
import Derived.Handy
import Derived.WalkKit
import Derived.ProofKit
import Derived.OpenShut
import Derived.Below
import Derived.WalkSmall
import Derived.WalkLawsBesides
import Derived.Outline
import Derived.BigQuiet
import Derived.Deep.QuietTactic
import Derived.Deep.RegionWith
import Derived.Laws.DeepStrings4
import Derived.OwnWalk
namespace Go.Proofs.YtedmdilabbolaaaGreatDoor
open Go.ChangeShapes Go.WideShapes Go.ChangeAt Go.RowKit Go.PlainAid
set_option linter.unusedVariables false
def difs (l:List Int) (k:Nat):List Int:=(List.range k).map (dif l)
theorem difs_length (l:List Int) (k:Nat):(difs l k).length=k:=by simp[difs]
theorem difs_succ (l:List Int) (k:Nat):difs l (k+1)=difs l k++[dif l k]:=by simp[difs,List.range_succ]
theorem difs_get (l:List Int) (k j:Nat) (h:j<k):(difs l k).getD j 0=dif l j:=by simp[difs,List.getD,h]
theorem drop_getD (l:List Int) (j:Nat):(l.drop 1).getD j 0=l.getD (j+1) 0:=by simp[List.getD]
theorem dif_difs (l:List Int) (k j:Nat) (h:j+1<k):dif ((difs l k).drop 1) j=if j=0 then dif l 1 else dif l (j+1) - dif l j:=by
 conv=>lhs;unfold dif
 rw[drop_getD,difs_get l k (j+1) h]
 unfold prv
 by_cases hj:j=0
 ·subst hj
  simp
 ·rw[if_neg hj,if_neg hj,drop_getD,show j - 1+1=j by omega,difs_get l k j (by omega)]
set_option maxHeartbeats 1000000 in
theorem showTimes1 (k:Nat) (d:Int) (p base:Nat) (l:List Int) (v:Value) (w:World) (hb:Blk w p #[v] 22) (hv:Nums w base v l) (hl:l.length≤1000) (hp:p<base) (hbw:base≤w.heap.size) :
  Calls Tryz.prog 177 #[.int .i64 (k:Int),.int .i64 d,.pointer (some ⟨p,0,none⟩)] w fun e w'=>(∃ u,e=.returned u)∧(∃ v',Blk w' p #[v'] 22∧Nums w' base v' (l++[d]))∧Below p w w':=by
 have HBK:Hid (Blk w p #[v] 22):=hb
 have e0:=hb.cell 0 v rfl
 have HV:Hid (Nums w base v l):=hv
 obtain ⟨A,c,rfl,_,_⟩:=hv.shape
 have HL:Hid (l.length≤2097152):=by unfold Hid;omega
 have HP:Hid (p<base):=hp
 have HBW:Hid (base≤w.heap.size):=hbw
 clear hb hv hl hp hbw
 go_enter Tryz.func177,Tryz.ntmps177
 go_wp2_with (at_builtin;refine wpList_append_num rfl (.tmp 5) (.tmp 7) 22 rfl Tryz.underlying22 Tryz.infoInt base _ l rfl HV.out d rfl HL.out HBW.out ?_;intro v' w1 hN1 hb1 hk1;obtain ⟨A',c',rfl,_,_⟩:=hN1.shape;have K1:=HBK.out.on hb1 HP.out;have f0:=K1.cell 0 _ rfl;have f1:=K1.free 0)
 have hK:=K1.set 0 (.slice A' (l++[d]).length c')
 have hlen:(l++[d]).length=l.length+1:=by simp
 rw[hlen] at hK hN1
 have hne:(Value.slice A' (l.length+1) c').ownBlock≠some p:=fun e=>by have:=(hN1.lt p e).1;have:=HP.out;omega
 exact bodyPost_end (v:=.tuple #[]) (by simp[results,go_sem]) rfl ⟨⟨_,rfl⟩,⟨_,hK,hN1.other hne _ _⟩,(hb1.mono (Nat.le_of_lt HP.out)).setCell (Nat.le_refl _) _⟩
set_option maxHeartbeats 1000000 in
theorem showTimes2 (k:Nat) (d z:Int) (gb:Nat) (l:List UInt8) (w:World) (hz:z=if k=0 then d else zig d) (hz0:0≤z) (hz1:z≤281474976710656) (hd0:-9223372036854775808≤d) (hd1:d≤9223372036854775807) (hb:Bld gb l w) (hl:l.length≤1000) (hg:gb≤w.heap.size) (hkn:k≤1000) :
  Calls Tryz.prog 179 #[.int .i64 (k:Int),.int .i64 d,.pointer (some ⟨gb,0,none⟩)] w fun e w'=>(∃ u,e=.returned u)∧Bld gb (l++vF 6 z.toNat) w'∧Below gb w w':=by
 have cz:=fun wx=>impl_zig d wx hd0 hd1
 have cv:=fun wx=>impl_var z.toNat wx (by omega)
 rw[Int.toNat_of_nonneg hz0] at cv
 have HBD:Hid (Bld gb l w):=hb
 have HG:Hid (gb≤w.heap.size):=hg
 have hvl:=vF_length 6 z.toNat
 have HL:Hid (l.length+(vF 6 z.toNat).length≤1048576):=by unfold Hid;omega
 have hkI:(k:Int)≤1000:=by omega
 clear hb hg hl hvl
 generalize hvv:vF 6 z.toNat=vv at *
 by_cases hk:k=0
 ·rw[if_pos hk] at hz
  subst hz
  subst hk
  go_enter Tryz.func179,Tryz.ntmps179
  go_wp2_with fail
  refine (cv _).mono ?_
  rintro e w2 ⟨rfl,hb2⟩
  have HB2:Hid (Below gb w w2):=hb2.mono HG.out
  have Z2:Hid (gb≤w2.heap.size):=Nat.le_trans HG.out hb2.size
  have L2:Hid (Bld gb l w2):=HBD.out.on hb2
  clear hb2
  go_wp2_with fail
  refine (bldWriteT gb l vv w2 L2.out HL.out Z2.out).mono ?_
  rintro e w3 ⟨rfl,hB3,hb3,_⟩
  have HB3:Hid (Below gb w w3):=HB2.out.trans hb3
  clear hb3
  go_wp2_with fail
  exact bodyPost_end (v:=.tuple #[]) (by simp[results,go_sem]) rfl ⟨⟨_,rfl⟩,hB3,HB3.out⟩
 ·rw[if_neg hk] at hz
  have q1:(0:Int)<(k:Int):=by omega
  have q2:0<k:=by omega
  rw[← hz] at cz
  clear hz hk
  go_enter Tryz.func179,Tryz.ntmps179
  go_wp2_with fail
  refine (cz _).mono ?_
  rintro e w1 ⟨rfl,rfl⟩
  go_wp2_with fail
  refine (cv _).mono ?_
  rintro e w2 ⟨rfl,hb2⟩
  have HB2:Hid (Below gb w w2):=hb2.mono HG.out
  have Z2:Hid (gb≤w2.heap.size):=Nat.le_trans HG.out hb2.size
  have L2:Hid (Bld gb l w2):=HBD.out.on hb2
  clear hb2
  go_wp2_with fail
  refine (bldWriteT gb l vv w2 L2.out HL.out Z2.out).mono ?_
  rintro e w3 ⟨rfl,hB3,hb3,_⟩
  have HB3:Hid (Below gb w w3):=HB2.out.trans hb3
  clear hb3
  go_wp2_with fail
  exact bodyPost_end (v:=.tuple #[]) (by simp[results,go_sem]) rfl ⟨⟨_,rfl⟩,hB3,HB3.out⟩
set_option maxHeartbeats 1000000 in
theorem implShowTimes (l:List Int) (v:Value) (w:World) (B:Nat) (hv:NumsV w B v l) (hn:l.length≤1048576) (hB:B≤w.heap.size):Calls Tryz.prog 164 #[v] w fun e w'=>e=.returned (.string (showT l))∧Below w.heap.size w w':=by
 have c:=implTimesOk l v w B hv hn
 have HV:Hid (NumsV w B v l):=hv
 have HB:Hid (B≤w.heap.size):=hB
 by_cases ho:TOk l
 ·obtain ⟨g,off,cap,rfl,_,_,hg,hc0⟩:=hv.full ho.1
  have HC:Hid (∀ wx,Below w.heap.size w wx→wx.cell? ⟨g,off,none⟩=some (.int .i64 (l.getD 0 0))):=fun wx hx=>hc0 wx (hx.mono hB) 0 ho.1
  have HE:Hid (showT l=txt (cat (tPiece l) l.length)):=by unfold Hid showT;rw[if_pos ho]
  have HO:Hid (TOk l):=ho
  have HN:Hid (1≤l.length∧l.length≤60):=⟨ho.1,ho.2.1⟩
  rw[decide_eq_true ho] at c
  have q1:(1:Int)≤(l.length:Int):=by have:=ho.1;omega
  have q2:(l.length:Int)≤60:=by have:=ho.2.1;omega
  have k0:=Blk.new w #[.slice none 0 0] 22
  have b0:Below w.heap.size w (w.alloc (.cells #[.slice none 0 0] 22)):=(Below.refl _ _).alloc (Nat.le_refl _) _
  clear ho hB hc0 hv
  go_enter Tryz.func164,Tryz.ntmps164
  go_wp2_with fail
  refine c.mono ?_
  rintro e w0 ⟨rfl,rfl⟩
  go_wp2_with fail
  generalize w.alloc (.cells #[.slice none 0 0] 22)=W at *
  have cD:=differencesV l (.slice (some ⟨g,off,none⟩) l.length cap) W B 177 #[.pointer (some ⟨w.heap.size,0,none⟩)] (fun k wx=>Below w.heap.size w wx∧∃ v',Blk wx w.heap.size #[v'] 22∧Nums wx (w.heap.size+1) v' (difs l k)) (fun _ _=>by kernel_rfl) hn (fun k hk=>by have:=HO.out.dif k hk;omega) (fun k wx hx=>HV.out.on (hx.1.mono HB.out)) ⟨b0,_,k0,Nums.nil _ _⟩ (fun k hk wx hx=>by
   obtain ⟨hx1,v',hx2,hx3⟩:=hx
   have hd:=HO.out.dif k hk
   have hN:=HN.out
   refine (showTimes1 k (dif l k) w.heap.size (w.heap.size+1) (difs l k) v' wx hx2 hx3 (by rw[difs_length];omega) (by omega) hx2.lt).mono ?_
   rintro e w' ⟨hu,⟨v2,h1,h2⟩,h3⟩
   exact ⟨hu,hx1.trans h3,v2,h1,by rw[difs_succ];exact h2⟩)
  refine cD.mono ?_
  rintro e w2 ⟨⟨u,rfl⟩,hb2,v2,hk2,hN2⟩
  obtain ⟨A2,c2,rfl,hc2,hm2⟩:=hN2.shape
  rw[difs_length] at hk2 hc2
  obtain ⟨g2,rfl,hg2,hg3⟩:=hN2.block (by rw[difs_length];have:=HN.out;omega)
  have b3:Below w.heap.size w (w2.alloc (.cells #[.pointer none,.slice none 0 0] 208)):=hb2.alloc hb2.size _
  have k3:(w2.alloc (.cells #[.pointer none,.slice none 0 0] 208)).heap[w2.heap.size]?=some (.cells #[.pointer none,.slice none 0 0] 208 (0,0)):=heap_alloc_new w2 _
  have K3:Hid (Blk (w2.alloc (.cells #[.pointer none,.slice none 0 0] 208)) w.heap.size #[.slice (some ⟨g2,0,none⟩) l.length c2] 22):=hk2.alloc _
  have N3:Hid (Nums (w2.alloc (.cells #[.pointer none,.slice none 0 0] 208)) (w.heap.size+1) (.slice (some ⟨g2,0,none⟩) (difs l l.length).length c2) (difs l l.length)):=hN2.alloc _
  have e3:=HC.out _ b3
  have hT0:=HO.out.turn 0 HN.out.1
  have ht0:turn l 0=l.getD 0 0:=by unfold turn dif prv;simp
  have cv0:=fun wx=>impl_var (turn l 0).toNat wx (by omega)
  rw[Int.toNat_of_nonneg hT0.1] at cv0
  have HC1:Hid (vF 6 (turn l 0).toNat=cat (tPiece l) 1):=by unfold Hid;rw[cat_succ,cat_zero];rfl
  have HVL:Hid ((vF 6 (turn l 0).toNat).length≤7):=by have:=vF_length 6 (turn l 0).toNat;unfold Hid;omega
  generalize vF 6 (turn l 0).toNat=s1 at *
  rw[ht0] at cv0
  have LB3:Hid (Bld w2.heap.size [] (w2.alloc (.cells #[.pointer none,.slice none 0 0] 208))):=bld_new k3
  have B3:Hid (Below w.heap.size w (w2.alloc (.cells #[.pointer none,.slice none 0 0] 208))):=b3
  have Z3:Hid (w2.heap.size≤(w2.alloc (.cells #[.pointer none,.slice none 0 0] 208)).heap.size):=by unfold Hid;simp
  have GB:Hid (w.heap.size≤w2.heap.size):=hb2.size
  have G2:Hid (g2<w2.heap.size):=hg3
  have P2:Hid (w.heap.size<w2.heap.size):=hk2.lt
  clear cD hb2 hk2 hN2 hg2 hg3 b0 k0 k3 b3 hT0 ht0
  generalize l.getD 0 0=x0 at *
  go_wp2_with fail
  generalize w2.alloc (.cells #[.pointer none,.slice none 0 0] 208)=w3 at *
  generalize w2.heap.size=gb at *
  refine (cv0 _).mono ?_
  rintro e w4 ⟨rfl,hb4⟩
  have B4:Hid (Below w.heap.size w w4):=B3.out.trans (hb4.mono B3.out.size)
  have K4:Hid (Blk w4 w.heap.size #[.slice (some ⟨g2,0,none⟩) l.length c2] 22):=K3.out.on hb4 K3.out.lt
  have N4:Hid (Nums w4 (w.heap.size+1) (.slice (some ⟨g2,0,none⟩) (difs l l.length).length c2) (difs l l.length)):=N3.out.on hb4
  have LB4:Hid (Bld gb [] w4):=LB3.out.on hb4
  have Z4:Hid (gb≤w4.heap.size):=Nat.le_trans Z3.out hb4.size
  clear hb4 K3 N3 LB3 B3 Z3 e3 cv0
  go_wp2_with fail
  refine (bldWriteT gb [] s1 w4 LB4.out (by have:=HVL.out;simp;omega) Z4.out).mono ?_
  rintro e w5 ⟨rfl,hB5,hb5,_⟩
  have B5:Hid (Below w.heap.size w w5):=B4.out.trans (hb5.mono GB.out)
  have K5:Hid (Blk w5 w.heap.size #[.slice (some ⟨g2,0,none⟩) l.length c2] 22):=K4.out.on hb5 P2.out
  have N5:Hid (Nums w5 (w.heap.size+1) (.slice (some ⟨g2,0,none⟩) (difs l l.length).length c2) (difs l l.length)):=N4.out.kept fun g hg ho=>by
   injection ho with ho
   subst ho
   exact hb5.block _ G2.out
  have L5:Hid (Bld gb (cat (tPiece l) 1) w5):=by rw[HC1.out] at hB5;exact hB5
  have Z5:Hid (gb≤w5.heap.size):=Nat.le_trans Z4.out hb5.size
  have e5:=K5.out.cell 0 _ rfl
  clear hb5 hB5 K4 N4 LB4 B4 Z4
  have qc:(l.length:Int)≤(c2:Int):=by omega
  have hdl:((difs l l.length).drop 1).length=l.length - 1:=by rw[List.length_drop,difs_length]
  have cD2:∀ v2,NumsV w5 gb v2 ((difs l l.length).drop 1)→Calls Tryz.prog 176 #[v2,.func (.func 179) #[] #[.pointer (some ⟨gb,0,none⟩)]] w5 fun e w'=>(∃ u,e=.returned u)∧(Below w.heap.size w w'∧gb≤w'.heap.size)∧Bld gb (cat (tPiece l) l.length) w':=by
   intro v2 hv2
   have hN:=HN.out
   refine (differencesV ((difs l l.length).drop 1) v2 w5 gb 179 #[.pointer (some ⟨gb,0,none⟩)] (fun k wx=>((Below w.heap.size w wx∧gb≤wx.heap.size)∧Bld gb (cat (tPiece l) (k+1)) wx)∧NumsV wx gb v2 ((difs l l.length).drop 1)) (fun _ _=>by kernel_rfl) (by rw[hdl];omega) ?_ (fun k wx hx=>hx.2) ⟨⟨⟨B5.out,Z5.out⟩,L5.out⟩,hv2⟩ ?_).mono ?_
   ·intro k hk
    rw[hdl] at hk
    rw[dif_difs l l.length k (by omega)]
    have h1:=HO.out.dif 1 (by omega)
    have h2:=HO.out.dif (k+1) (by omega)
    have h3:=HO.out.dif k (by omega)
    split<;>omega
   ·intro k hk wx hx
    obtain ⟨⟨⟨x1,x2⟩,x3⟩,x4⟩:=hx
    rw[hdl] at hk
    have h1:=HO.out.dif 1 (by omega)
    have h2:=HO.out.dif (k+1) (by omega)
    have h3:=HO.out.dif k (by omega)
    have ht:=HO.out.turn (k+1) (by omega)
    have hcl:=cat_length (tPiece l) (tPiece_length l) (k+1)
    have ed:=dif_difs l l.length k (by omega)
    have et:turn l (k+1)=if k=0 then dif ((difs l l.length).drop 1) k else zig (dif ((difs l l.length).drop 1) k):=by
     rw[ed]
     unfold turn
     by_cases hk0:k=0
     ·subst hk0;simp
     ·rw[if_neg (by omega),if_neg hk0,if_neg hk0,Nat.add_sub_cancel]
    refine (showTimes2 k (dif ((difs l l.length).drop 1) k) (turn l (k+1)) gb (cat (tPiece l) (k+1)) wx et ht.1 ht.2 (by rw[ed];split<;>omega) (by rw[ed];split<;>omega) x3 (by omega) x2 (by omega)).mono ?_
    rintro e w' ⟨hu,y1,y2⟩
    exact ⟨hu,⟨⟨x1.trans (y2.mono GB.out),Nat.le_trans x2 y2.size⟩,by rw[cat_succ];exact y1⟩,x4.on y2⟩
   ·rintro e w' ⟨hu,⟨y1,y2⟩,_⟩
    rw[hdl,show l.length - 1+1=l.length by omega] at y2
    exact ⟨hu,y1,y2⟩
  have HD2:Hid (∀ v2,NumsV w5 gb v2 ((difs l l.length).drop 1)→Calls Tryz.prog 176 #[v2,.func (.func 179) #[] #[.pointer (some ⟨gb,0,none⟩)]] w5 fun e w'=>(∃ u,e=.returned u)∧(Below w.heap.size w w'∧gb≤w'.heap.size)∧Bld gb (cat (tPiece l) l.length) w'):=cD2
  have HDL:Hid (((difs l l.length).drop 1).length=l.length - 1):=hdl
  clear cD2 hdl
  go_wp2_with fail
  rotate_left
  ·refine (HD2.out _ ⟨_,c2 - 1,by rw[HDL.out],by rw[HDL.out];omega,by omega,fun j hj=>?_⟩).mono ?_
   ·rw[HDL.out] at hj
    refine ⟨g2,1,rfl,G2.out,?_⟩
    rw[drop_getD,Nat.add_comm 1 j]
    exact N5.out.cell (j+1) (by rw[difs_length];omega)
   rintro e w6 ⟨⟨u6,rfl⟩,⟨hb6,hz6⟩,hB6⟩
   have cS:=bldStringT gb _ w6 hB6 hz6
   have B6:Hid (Below w.heap.size w w6):=hb6
   clear hb6 hz6 hB6
   go_wp2_with fail
   refine cS.mono ?_
   rintro e w7 ⟨rfl,hb7⟩
   have B7:Hid (Below w.heap.size w w7):=B6.out.trans (hb7.mono GB.out)
   clear hb7 cS
   go_wp2_with fail
   go_ret
   exact ⟨by rw[HE.out];rfl,B7.out⟩
  ·refine (HD2.out _ ⟨_,0,by rw[HDL.out],by rw[HDL.out];omega,by unfold maxLen;omega,fun j hj=>?_⟩).mono ?_
   ·rw[HDL.out] at hj
    omega
   rintro e w6 ⟨⟨u6,rfl⟩,⟨hb6,hz6⟩,hB6⟩
   have cS:=bldStringT gb _ w6 hB6 hz6
   have B6:Hid (Below w.heap.size w w6):=hb6
   clear hb6 hz6 hB6
   go_wp2_with fail
   refine cS.mono ?_
   rintro e w7 ⟨rfl,hb7⟩
   have B7:Hid (Below w.heap.size w w7):=B6.out.trans (hb7.mono GB.out)
   clear hb7 cS
   go_wp2_with fail
   go_ret
   exact ⟨by rw[HE.out];rfl,B7.out⟩
 ·obtain ⟨A,cap,rfl,_,_,_⟩:=hv
  have HE:Hid (showT l=txt []):=by unfold Hid showT;rw[if_neg ho]
  rw[decide_eq_false ho] at c
  clear ho
  go_enter Tryz.func164,Tryz.ntmps164
  go_wp2_with fail
  refine c.mono ?_
  rintro e w0 ⟨rfl,rfl⟩
  go_wp2_with fail
  go_ret
  exact ⟨by rw[HE.out];rfl,Below.refl _ _⟩
end Go.Proofs.YtedmdilabbolaaaGreatDoor
namespace Go.Proofs.YtedmdilabbolaaaGreatDoor
open Go.ChangeShapes Go.WideShapes Go.ChangeAt Go.RowKit Go.PlainAid
set_option linter.unusedVariables false
def numR (l:List Int):List (List Value):=l.map fun z=>[.int .i64 z]
theorem numR_length (l:List Int):(numR l).length=l.length:=by simp[numR]
theorem numR_flat (l:List Int):(numR l).flatten=numCells l:=by
 induction l with
 | nil=>rfl
 | cons x l ih =>
  simp only[numR,numCells,List.map_cons,List.flatten_cons,List.cons_append,List.nil_append] at ih ⊢
  rw[ih]
theorem owns_nums {w:World} {b:Nat} {v:Value} {l:List Int} (h:Owns w b 3 1 v (numR l)):Nums w b v l:=by
 have:=h.2
 rw[numR_length,numR_flat] at this
 exact this
theorem num_cell (x:Int):∀ u∈([.int .i64 x]:List Value),u.oneCell'=true:=by
 intro u hu
 simp at hu
 subst hu
 rfl
theorem ts_snoc (l:List Pnt) (k:Nat) (h:k<l.length):numR ((ts l).take (k+1))=numR ((ts l).take k)++[[.int .i64 (tAt l k)]]:=by
 rw[take_num (ts l) k (by rw[ts_length];exact h),ts_get l k h,numR,List.map_append]
 rfl
theorem vs_snoc (l:List Pnt) (k:Nat) (h:k<l.length):numR ((vs l).take (k+1))=numR ((vs l).take k)++[[.int .i64 (vAt l k)]]:=by
 rw[take_num (vs l) k (by rw[vs_length];exact h),vs_get l k h,numR,List.map_append]
 rfl
theorem Apart.app {u u' v:Value} {z:Nat} (h:Apart u v) (hw:u'.ownBlock=u.ownBlock∨∀ g,u'.ownBlock=some g→z≤g) (hv:∀ g,v.ownBlock=some g→g<z):Apart u' v:=by
 intro g h1 h2
 rcases hw with e | hw
 ·rw[e] at h1
  exact h g h1 h2
 ·have:=hw g h1
  have:=hv g h2
  omega
set_option maxHeartbeats 2000000 in
theorem implRowsOf (l:List Pnt) (v:Value) (w:World) (B:Nat) (hv:Lies w B 2 v (ptR l)) (hn:l.length≤1048576) (hB:B≤w.heap.size):Calls Tryz.prog 167 #[v] w fun e w'=>(∃ u1 u2,e=.returned (.tuple #[u1,u2])∧Nums w' w.heap.size u1 (ts l)∧Nums w' w.heap.size u2 (vs l))∧Below w.heap.size w w':=by
 obtain ⟨A,cap,rfl,hl⟩:=pt_look hv
 have HL:Hid (∀ j,j<l.length→∃ g off,A=some ⟨g,off,none⟩∧g<B∧w.cell? ⟨g,off+j*2,none⟩=some (.int .i64 (tAt l j))∧w.cell? ⟨g,off+j*2+1,none⟩=some (.int .i64 (vAt l j))):=hl
 have HB:Hid (B≤w.heap.size):=hB
 have q0:(l.length:Int)≤1048576:=by omega
 clear hl hn hv hB
 generalize hN:l.length=n at *
 have HN:Hid (l.length=n):=hN
 clear hN
 go_enter Tryz.func167,Tryz.ntmps167
 go_wp2_with fail
 go_loopw [2,3,8] (fun v2 v3 v8 wr=>∃ k:Nat,k≤n∧v8=.int .i64 (k:Int)∧Owns wr w.heap.size 3 1 v2 (numR ((ts l).take k))∧Owns wr w.heap.size 3 1 v3 (numR ((vs l).take k))∧Apart v2 v3∧Below w.heap.size w wr) (fun _ _ i _=>n - (intOf i).toNat)
 case atStart=>exact ⟨0,by omega,rfl,Owns.nil _ _ _ _,Owns.nil _ _ _ _,fun g h=>(by cases h),Below.refl _ _⟩
 case round =>
  obtain ⟨k,hk,rfl,hO2,hO3,hap,hb⟩:=hrel
  have HO2:Hid (Owns wr w.heap.size 3 1 u2 (numR ((ts l).take k))):=hO2
  have HO3:Hid (Owns wr w.heap.size 3 1 u3 (numR ((vs l).take k))):=hO3
  have HAP:Hid (Apart u2 u3):=hap
  have HB1:Hid (Below w.heap.size w wr):=hb
  clear hO2 hO3 hap hb
  by_cases hlt:k<n
  ·have q2:(k:Int)<(n:Int):=by omega
   obtain ⟨g,off,rfl,hg,e1,e2⟩:=HL.out k hlt
   have hgw:g<w.heap.size:=Nat.lt_of_lt_of_le hg HB.out
   rw[← HB1.out.cell (p:=⟨_,_,none⟩) hgw] at e1
   rw[← HB1.out.cell (p:=⟨_,_,none⟩) hgw] at e2
   have HT:Hid (numR ((ts l).take (k+1))=numR ((ts l).take k)++[[.int .i64 (tAt l k)]]):=ts_snoc l k (by have:=HN.out;omega)
   have HVV:Hid (numR ((vs l).take (k+1))=numR ((vs l).take k)++[[.int .i64 (vAt l k)]]):=vs_snoc l k (by have:=HN.out;omega)
   have L2:Hid ((numR ((ts l).take k)).length≤2097152):=by unfold Hid;rw[numR_length,List.length_take,ts_length];have:=HN.out;omega
   have L3:Hid ((numR ((vs l).take k)).length≤2097152):=by unfold Hid;rw[numR_length,List.length_take,vs_length];have:=HN.out;omega
   generalize tAt l k=x at *
   generalize vAt l k=y at *
   have Z0:w.heap.size≤wr.heap.size:=HB1.out.size
   have A2:Hid (Owns (wr.alloc (.cells #[.int .i64 x,.int .i64 y] 138)) w.heap.size 3 1 u2 (numR ((ts l).take k))):=HO2.out.alloc _
   have A3:Hid (Owns (wr.alloc (.cells #[.int .i64 x,.int .i64 y] 138)) w.heap.size 3 1 u3 (numR ((vs l).take k))):=HO3.out.alloc _
   have BA:Hid (Below w.heap.size w (wr.alloc (.cells #[.int .i64 x,.int .i64 y] 138))):=HB1.out.alloc Z0 _
   have Z1:w.heap.size≤(wr.alloc (.cells #[.int .i64 x,.int .i64 y] 138)).heap.size:=BA.out.size
   have KB:Hid (Blk (wr.alloc (.cells #[.int .i64 x,.int .i64 y] 138)) wr.heap.size #[.int .i64 x,.int .i64 y] 138):=Blk.new _ _ _
   have NB:Hid (u2.ownBlock≠some wr.heap.size):=fun e=>by have:=(HO2.out.lt _ e).2;omega
   clear hgw hg
   go_wp2_with (at_builtin;refine wpList_append_row (w:=wr.alloc (.cells #[.int .i64 x,.int .i64 y] 138)) rfl (.tmp 12) (.tmp 15) 22 3 (.int .i64 0) 1 8 rfl Tryz.underlying22 Tryz.infoInt rfl (by omega) w.heap.size u2 (numR ((ts l).take k)) rfl A2.out [.int .i64 x] rfl (num_cell x) (by rw[World.size_alloc];rfl) L2.out (by omega) Z1 ?_;intro v2 w4 hO4 hb4 hk4 hw4;refine Shut.out ?_)
   unfold Shut
   have P2:Hid (Owns w4 w.heap.size 3 1 v2 (numR ((ts l).take (k+1)))):=by unfold Hid;rw[HT.out];exact hO4
   have Q3:Hid (Owns w4 w.heap.size 3 1 u3 (numR ((vs l).take k))):=A3.out.kept fun g hg ho=>hk4 g hg (HAP.out.symm g ho)
   have B4:Hid (Below w.heap.size w w4):=BA.out.trans hb4
   have AP4:Hid (Apart v2 u3):=HAP.out.app hw4 (fun g ho=>(A3.out.lt g ho).2)
   have Z4:w.heap.size≤w4.heap.size:=B4.out.size
   have K4:Hid (Blk w4 wr.heap.size #[.int .i64 x,.int .i64 y] 138):=by unfold Hid Blk;rw[hk4 wr.heap.size KB.out.lt NB.out];exact KB.out
   have k4:=K4.out.cell 1 (.int .i64 y) rfl
   clear hO4 hb4 hk4 hw4
   go_wp2_with (at_builtin;refine wpList_append_row (w:=w4) rfl (.tmp 17) (.tmp 20) 22 3 (.int .i64 0) 1 8 rfl Tryz.underlying22 Tryz.infoInt rfl (by omega) w.heap.size u3 (numR ((vs l).take k)) rfl Q3.out [.int .i64 y] rfl (num_cell y) rfl L3.out (by omega) Z4 ?_;intro v3 w5 hO5 hb5 hk5 hw5;refine Shut.out ?_)
   unfold Shut
   have P3:Hid (Owns w5 w.heap.size 3 1 v3 (numR ((vs l).take (k+1)))):=by unfold Hid;rw[HVV.out];exact hO5
   have P2':Hid (Owns w5 w.heap.size 3 1 v2 (numR ((ts l).take (k+1)))):=P2.out.kept fun g hg ho=>hk5 g hg (AP4.out g ho)
   have B5:Hid (Below w.heap.size w w5):=B4.out.trans hb5
   have AP5:Hid (Apart v2 v3):=(AP4.out.symm.app hw5 (fun g ho=>(P2.out.lt g ho).2)).symm
   clear hO5 hb5 hk5 hw5
   go_wp2_with fail
   go_roundw
   case rel=>exact ⟨k+1,by omega,by go_num,P2'.out,P3.out,AP5.out,B5.out⟩
   case measure=>simp[intOf];omega
  ·obtain rfl:k=n:=by omega
   have hA:=HO2.out
   have hC:=HO3.out
   rw[List.take_of_length_le (by rw[ts_length];have:=HN.out;omega)] at hA
   rw[List.take_of_length_le (by rw[vs_length];have:=HN.out;omega)] at hC
   have FA:Hid (Nums wr w.heap.size u2 (ts l)):=owns_nums hA
   have FC:Hid (Nums wr w.heap.size u3 (vs l)):=owns_nums hC
   clear hA hC
   go_wp2_with fail
   go_ret2
   exact ⟨⟨_,_,rfl,FA.out,FC.out⟩,HB1.out⟩
set_option maxHeartbeats 4000000 in
theorem implShowBlock (l:List Pnt) (v:Value) (w:World) (B:Nat) (hv:Lies w B 2 v (ptR l)) (hn:l.length≤1048576) (hB:B≤w.heap.size) (hst:SumTab w):Calls Tryz.prog 144 #[v] w fun e w'=>e=.returned (.string (showB l))∧Below w.heap.size w w':=by
 have ST:Hid (SumTab w):=hst
 have c1:=implPointsOk l v w B hv hn hB
 have HV0:Hid (Lies w B 2 v (ptR l)):=hv
 have HB:Hid (B≤w.heap.size):=hB
 obtain ⟨A,cap,rfl,hl⟩:=pt_look hv
 have q0:(l.length:Int)≤1048576:=by omega
 have HN0:Hid (l.length≤1048576):=hn
 clear hl hn hv hB hst
 by_cases h0:l.length=0
 ·have HS:Hid (showB l=⟨#[]⟩):=if_neg (fun hh=>by omega)
  have e0:(l.length:Int)=0:=by omega
  rw[h0]
  clear h0 e0
  go_enter Tryz.func144,Tryz.ntmps144
  go_wp2_with fail
  go_ret
  exact ⟨by rw[HS.out];rfl,Below.refl _ _⟩
 have d0:decide (l.length=0)=false:=decide_eq_false h0
 have d1:((l.length:Int) == 0)=false:=by rw[beq_eq_false_iff_ne];omega
 by_cases hok:¬ POk l
 ·have HS:Hid (showB l=⟨#[]⟩):=if_neg (fun hh=>hok hh.2)
  rw[decide_eq_false hok] at c1
  clear hok
  generalize l.length=n at *
  go_enter Tryz.func144,Tryz.ntmps144
  go_wp2_with fail
  refine c1.mono ?_
  rintro e w1 ⟨rfl,hb1⟩
  go_wp2_with fail
  go_ret
  exact ⟨by rw[HS.out];rfl,hb1⟩
 have hok':POk l:=(Decidable.not_not (p:=POk l)).1 hok
 have HS:Hid (showB l=frame (txt (vF 6 l.length)++showT (ts l)++showV (vs l))):=if_pos ⟨by omega,hok'⟩
 rw[decide_eq_true hok'] at c1
 have hn60:=hok'.1
 clear hok hok'
 generalize hN:l.length=n at *
 have HN:Hid (l.length=n):=hN
 clear hN
 go_enter Tryz.func144,Tryz.ntmps144
 go_wp2_with fail
 refine c1.mono ?_
 rintro e w1 ⟨rfl,hb1⟩
 have B1:Hid (Below w.heap.size w w1):=hb1
 clear hb1 c1
 have c2:=implRowsOf l (.slice A n cap) w1 B (HV0.out.on (B1.out.mono HB.out)) (by have:=HN.out;omega) (Nat.le_trans HB.out B1.out.size)
 go_wp2_with fail
 refine c2.mono ?_
 rintro e w2 ⟨⟨ut,uv,rfl,hT,hV⟩,hb2⟩
 have B2:Hid (Below w.heap.size w w2):=B1.out.trans (hb2.mono B1.out.size)
 have NT:Hid (Nums w2 w.heap.size ut (ts l)):=hT.mono B1.out.size
 have NV:Hid (Nums w2 w.heap.size uv (vs l)):=hV.mono B1.out.size
 clear hT hV hb2 c2
 have s1:=showT_size (ts l)
 have s2:=showV_size (vs l)
 have s3:(txt (vF 6 n)).size≤7:=by rw[txt_size];have:=vF_length 6 n;omega
 have z1:((txt (vF 6 n)).size:Int)+((showT (ts l)).size:Int)≤1000:=by omega
 have z2:((txt (vF 6 n)).size:Int)+((showT (ts l)).size:Int)+((showV (vs l)).size:Int)≤2000:=by omega
 have cv:=impl_var n w2 (by omega)
 go_wp2_with fail
 refine cv.mono ?_
 rintro e wa ⟨rfl,hba⟩
 have Ba:Hid (Below w.heap.size w wa):=B2.out.trans (hba.mono B2.out.size)
 have Ta:Hid (Nums wa w.heap.size ut (ts l)):=NT.out.on hba
 have Va:Hid (Nums wa w.heap.size uv (vs l)):=NV.out.on hba
 clear hba cv
 have ct:=implShowTimes (ts l) ut wa wa.heap.size Ta.out.lies (by rw[ts_length];have:=HN.out;omega) (Nat.le_refl _)
 go_wp2_with fail
 refine ct.mono ?_
 rintro e wb ⟨rfl,hbb⟩
 have Bb:Hid (Below w.heap.size w wb):=Ba.out.trans (hbb.mono Ba.out.size)
 have Vb:Hid (Nums wb w.heap.size uv (vs l)):=Va.out.on hbb
 clear hbb ct Ta Va
 have cu:=implShowValues (vs l) uv wb wb.heap.size Vb.out.lies (by rw[vs_length];have:=HN.out;omega) (Nat.le_refl _)
 go_wp2_with fail
 refine cu.mono ?_
 rintro e wc ⟨rfl,hbc⟩
 have Bc:Hid (Below w.heap.size w wc):=Bb.out.trans (hbc.mono Bb.out.size)
 clear hbc cu Vb
 have cf:=impl_frame (txt (vF 6 n)++showT (ts l)++showV (vs l)) wc (by rw[ByteArray.size_append,ByteArray.size_append,txt_size];have:=showT_size (ts l);have:=showV_size (vs l);have:=vF_length 6 n;omega) (ST.out.on Bc.out)
 go_wp2_with fail
 refine cf.mono ?_
 rintro e wd ⟨rfl,hbd⟩
 have Bd:Hid (Below w.heap.size w wd):=Bc.out.trans (hbd.mono Bc.out.size)
 clear hbd cf
 go_wp2_with fail
 go_ret
 exact ⟨by rw[HS.out];rfl,Bd.out⟩
end Go.Proofs.YtedmdilabbolaaaGreatDoor
namespace Go.Proofs.YtedmdilabbolaaaGreatDoor
open Go.ChangeShapes Go.WideShapes Go.ChangeAt Go.RowKit Go.PlainAid
set_option linter.unusedVariables false
set_option maxHeartbeats 400000 in
theorem spec_l7Un (z:Int) (w:World) (hn1:-9223372036854775808≤z) (hn2:z≤9223372036854775807):Calls Tryz.prog 147 #[.int .i64 z] w fun e w'=>e=.returned (.int .i64 (unz z))∧w=w':=by
 have c:=fun wx=>spec_unz z wx hn1 hn2
 generalize unz z=y at *
 generalize zok z=b at *
 go_enter Tryz.func147,Tryz.ntmps147
 go_wp2_with fail
 refine (c _).mono ?_
 rintro e w1 ⟨rfl,rfl⟩
 go_wp2_with fail
 go_ret
 exact ⟨rfl,rfl⟩
theorem rv_prv (v:List Int) (k:Nat):(if k=0 then 0 else rv v (k - 1))+unz (v.getD k 0)=rv v k:=by
 cases k with
 | zero=>rw[if_pos rfl];unfold rv;omega
 | succ k=>rw[if_neg (by omega)];rfl
set_option maxHeartbeats 2000000 in
theorem specReadValues_no (s:ByteArray) (n:Int) (w:World) (h:n<1∨60<n):Calls Tryz.prog 118 #[.string s,.int .i64 n] w fun e w'=>(∃ l k u,RdAns showV rowV s n l k∧e=.returned (.tuple #[u,.int .i64 (k:Int)])∧Nums w' w.heap.size u l)∧Below w.heap.size w w':=by
 have c:=fun wx=>in_no n 1 60 wx h
 have H:Hid (n<1∨60<n):=h
 clear h
 go_enter Tryz.func118,Tryz.ntmps118
 go_wp2_with fail
 refine (c _).mono ?_
 rintro e w1 ⟨rfl,rfl⟩
 go_wp2_with fail
 go_ret2
 exact ⟨⟨[],0,_,RdAns.none H.out,rfl,Nums.empty _ _ (Nat.le_refl _)⟩,(Below.refl _ _).alloc (Nat.le_refl _) _⟩
set_option maxHeartbeats 2000000 in
theorem specReadValues (s:ByteArray) (m:Nat) (w:World) (hs:s.size≤1048576) (h1:1≤m) (h2:m≤60):Calls Tryz.prog 118 #[.string s,.int .i64 (m:Int)] w fun e w'=>(∃ l k u,RdAns showV rowV s (m:Int) l k∧e=.returned (.tuple #[u,.int .i64 (k:Int)])∧Nums w' w.heap.size u l)∧Below w.heap.size w w':=by
 have c:=fun wx=>in_yes (m:Int) 1 60 wx (by omega) (by omega)
 have cR:=fun wx=>specReadVars s m wx hs h1 h2
 have q1:(1:Int)≤(m:Int):=by omega
 have q2:(m:Int)≤60:=by omega
 have q3:(s.size:Int)≤1048576:=by omega
 have HM:Hid (1≤m∧m≤60):=⟨h1,h2⟩
 have N0:=Nums.empty w w.heap.size (Nat.le_refl _)
 have b0:Below w.heap.size w (w.alloc (.cells #[] 3)):=(Below.refl _ _).alloc (Nat.le_refl _) _
 have z0:w.heap.size<(w.alloc (.cells #[] 3)).heap.size:=by simp
 clear hs
 go_enter Tryz.func118,Tryz.ntmps118
 go_wp2_with fail
 refine (c _).mono ?_
 rintro e w0 ⟨rfl,rfl⟩
 go_wp2_with fail
 generalize w.alloc (.cells #[] 3)=W at *
 refine (cR _).mono ?_
 rintro e w1 ⟨hR,hb1⟩
 have B1:Hid (Below w.heap.size w w1):=b0.trans (hb1.mono b0.size)
 have E1:Hid (Nums w1 w.heap.size (.slice (some ⟨w.heap.size,0,none⟩) 0 0) []):=N0.on hb1
 have Z1:Hid (w.heap.size<w1.heap.size):=Nat.lt_of_lt_of_le z0 hb1.size
 have ZW:Hid (w.heap.size≤W.heap.size):=b0.size
 clear hb1 cR c N0 b0 z0
 rcases hR with ⟨v,k,u,hR,rfl,hNv⟩ | ⟨hno,u,rfl⟩
 ·have HR:Hid (Rd s m v k):=hR
  have HNV:Hid (Nums w1 W.heap.size u v):=hNv
  obtain ⟨Av,cv,rfl,_,_⟩:=hNv.shape
  have hvl:=hR.length
  have HVL:Hid (v.length=m):=hvl
  rw[hvl] at HNV
  rw[hvl]
  have hkk:=hR.le
  have q4:(0:Int)≤(k:Int):=by omega
  have q5:(k:Int)≤(s.size:Int):=by omega
  have HK:Hid (1≤k∧k≤s.size):=⟨by omega,by omega⟩
  have N2:=Nums.empty w1 w1.heap.size (Nat.le_refl _)
  have b2:Below w1.heap.size w1 (w1.alloc (.cells #[] 3)):=(Below.refl _ _).alloc (Nat.le_refl _) _
  have ST:Hid (Nums (w1.alloc (.cells #[] 3)) w1.heap.size (.slice (some ⟨w1.heap.size,0,none⟩) 0 0) []∧Below w1.heap.size w1 (w1.alloc (.cells #[] 3))):=⟨N2,b2⟩
  clear hR hNv hvl hkk N2 b2
  go_wp2_with fail
  generalize w1.alloc (.cells #[] 3)=W2 at *
  go_loopw [9,10,11] (fun v9 v10 v11 wr=>∃ j:Nat,j≤m∧v11=.int .i64 (j:Int)∧v10=.int .i64 (if j=0 then 0 else rv v (j - 1))∧Nums wr w1.heap.size v9 (rowOf (rv v) j)∧Below w1.heap.size w1 wr) (fun _ _ i _=>m - (intOf i).toNat)
  case atStart=>exact ⟨0,by omega,rfl,rfl,ST.out.1,ST.out.2⟩
  case round =>
   obtain ⟨j,hj,rfl,rfl,hN,hb⟩:=hrel
   have HB:Hid (Below w1.heap.size w1 wr):=hb
   have HN:Hid (Nums wr w1.heap.size _ (rowOf (rv v) j)):=hN
   obtain ⟨A9,c9,rfl,_,_⟩:=hN.shape
   rw[rowOf_length] at HN
   rw[rowOf_length]
   clear hN
   by_cases hlt:j<m
   ·have q6:(j:Int)<(m:Int):=by omega
    have hNv:=HNV.out.on hb
    obtain ⟨gv,rfl,_,_⟩:=hNv.block (by rw[HVL.out];omega)
    have e1:=hNv.cell j (by rw[HVL.out];exact hlt)
    have hbd:=HR.out.boundD j
    have cU:=fun wx=>spec_l7Un (v.getD j 0) wx (by omega) (by omega)
    have er:=rv_prv v j
    have hub:=unz_range (v.getD j 0)
    have hrb:=rv_bound v j
    have HRV:Hid (rowOf (rv v) (j+1)=rowOf (rv v) j++[rv v j]):=rowOf_succ _ _
    have HNX:Hid ((if j+1=0 then 0 else rv v (j+1 - 1))=rv v j):=by unfold Hid;rw[if_neg (by omega),Nat.add_sub_cancel]
    have HLJ:Hid ((rowOf (rv v) j).length≤2097152):=by unfold Hid;rw[rowOf_length];omega
    have HZR:Hid (w1.heap.size≤wr.heap.size):=hb.size
    generalize unz (v.getD j 0)=uu at *
    generalize v.getD j 0=x at *
    generalize (if j=0 then 0 else rv v (j - 1))=la at *
    have g1:wrap64 (la+uu)=rv v j:=by unfold wrap64;omega
    have er2:la+uu=rv v j:=er
    clear hNv hb er hbd
    by_cases hin:rv v j < -1099511627776∨1099511627776<rv v j
    ·have cI:=fun wx=>in_no (rv v j) (-1099511627776) 1099511627776 wx hin
     have HANS:Hid (RdAns showV rowV s (m:Int) [] 0):=RdAns.other HR.out (by rw[showV_out v j (by rw[HVL.out];exact hlt) hin];exact extract_ne s k HK.out.1 HK.out.2)
     have E3:Hid (Nums wr w.heap.size (.slice (some ⟨w.heap.size,0,none⟩) 0 0) []):=E1.out.under (Nat.le_refl _) HB.out
     have B3:Hid (Below w.heap.size w wr):=B1.out.trans (HB.out.mono (Nat.le_of_lt Z1.out))
     clear hin
     generalize rv v j=rj at *
     go_wp2_with fail
     refine (cU _).mono ?_
     rintro e w3 ⟨rfl,rfl⟩
     go_wp2_with fail
     refine (cI _).mono ?_
     rintro e w3 ⟨rfl,rfl⟩
     go_wp2_with fail
     go_ret2
     exact ⟨⟨[],0,_,HANS.out,rfl,E3.out⟩,B3.out⟩
    ·have cI:=fun wx=>in_yes (rv v j) (-1099511627776) 1099511627776 wx (by omega) (by omega)
     clear hin
     generalize rv v j=rj at *
     go_wp2_with fail
     refine (cU _).mono ?_
     rintro e w3 ⟨rfl,rfl⟩
     go_wp2_with fail
     refine (cI _).mono ?_
     rintro e w3 ⟨rfl,rfl⟩
     go_wp2_with (at_builtin;refine wpList_append_num rfl (.tmp 43) (.tmp 45) 22 rfl Tryz.underlying22 Tryz.infoInt w1.heap.size _ (rowOf (rv v) j) rfl HN.out rj rfl HLJ.out HZR.out ?_;intro v' w4 hN4 hb4 hk4)
     go_roundw
     case rel=>exact ⟨j+1,by omega,by go_num,by rw[HNX.out],by rw[HRV.out];exact hN4,HB.out.trans hb4⟩
     case measure=>simp[intOf];omega
   ·obtain rfl:j=m:=by omega
    have HROW:Hid (rowOf (rv v) j=rowV v):=by unfold Hid rowV;rw[HVL.out]
    have HN9:Hid (Nums wr w1.heap.size (.slice A9 j c9) (rowV v)):=by unfold Hid;rw[← HROW.out];exact HN.out
    have cS:=fun wx hx=>specShowValues (rowV v) (.slice A9 j c9) wx wx.heap.size hx (by rw[rowV_length,HVL.out];have:=HM.out;omega) (Nat.le_refl _)
    have B3:Hid (Below w.heap.size w wr):=B1.out.trans (HB.out.mono (Nat.le_of_lt Z1.out))
    have E3:Hid (Nums wr w.heap.size (.slice (some ⟨w.heap.size,0,none⟩) 0 0) []):=E1.out.under (Nat.le_refl _) HB.out
    clear hb
    by_cases heq:showV (rowV v)=s.extract 0 k
    ·have HANS:Hid (RdAns showV rowV s (j:Int) (rowV v) k):=RdAns.yes HM.out.1 HM.out.2 HR.out heq
     have hq:=bytes_eq heq
     clear heq
     generalize showV (rowV v)=sv at *
     go_wp2_with fail
     go_region_held3 (fun _=>True) (exact True.intro) ((go_at_call 132;refine (cS wr.drew ((HN9.out.heap rfl).lies)).mono ?_;rintro e w5 ⟨rfl,hb5⟩))
     all_goals
      have B5:Hid (Below w.heap.size w w5):=B3.out.drew.trans (hb5.mono B3.out.size)
      have N5:Hid (Nums w5 w1.heap.size (.slice A9 j c9) (rowV v)):=(HN9.out.heap (w':=wr.drew) rfl).on hb5
      clear hb5
      go_wp2_with fail
      go_ret2
      exact ⟨⟨_,k,_,HANS.out,rfl,N5.out.mono (Nat.le_of_lt Z1.out)⟩,B5.out⟩
    ·have HANS:Hid (RdAns showV rowV s (j:Int) [] 0):=RdAns.other HR.out heq
     have hq:=bytes_ne heq
     clear heq
     generalize showV (rowV v)=sv at *
     go_wp2_with fail
     go_region_held3 (fun _=>True) (exact True.intro) ((go_at_call 132;refine (cS wr.drew ((HN9.out.heap rfl).lies)).mono ?_;rintro e w5 ⟨rfl,hb5⟩))
     all_goals
      have B5:Hid (Below w.heap.size w w5):=B3.out.drew.trans (hb5.mono B3.out.size)
      have E5:Hid (Nums w5 w.heap.size (.slice (some ⟨w.heap.size,0,none⟩) 0 0) []):=(E3.out.heap (w':=wr.drew) rfl).on hb5
      clear hb5
      go_wp2_with fail
      go_ret2
      exact ⟨⟨[],0,_,HANS.out,rfl,E5.out⟩,B5.out⟩
 ·have HANS:Hid (RdAns showV rowV s (m:Int) [] 0):=RdAns.few hno
  clear hno
  go_wp2_with fail
  go_ret2
  exact ⟨⟨[],0,_,HANS.out,rfl,E1.out⟩,B1.out⟩
end Go.Proofs.YtedmdilabbolaaaGreatDoor
namespace Go.Proofs.YtedmdilabbolaaaGreatDoor
open Go.ChangeShapes Go.WideShapes Go.ChangeAt Go.RowKit Go.PlainAid
set_option linter.unusedVariables false
set_option maxHeartbeats 2000000 in
theorem implReadValues_no (s:ByteArray) (n:Int) (w:World) (h:n<1∨60<n):Calls Tryz.prog 142 #[.string s,.int .i64 n] w fun e w'=>(∃ l k u,RdAns showV rowV s n l k∧e=.returned (.tuple #[u,.int .i64 (k:Int)])∧Nums w' w.heap.size u l)∧Below w.heap.size w w':=by
 have c:=fun wx=>implReadVars_no s n wx h
 have H:Hid (n<1∨60<n):=h
 clear h
 go_enter Tryz.func142,Tryz.ntmps142
 go_wp2_with fail
 refine (c _).mono ?_
 rintro e w1 ⟨rfl,rfl⟩
 go_wp2_with fail
 go_ret2
 exact ⟨⟨[],0,_,RdAns.none H.out,rfl,Nums.nil _ _⟩,Below.refl _ _⟩
set_option maxHeartbeats 2000000 in
theorem implReadValues (s:ByteArray) (m:Nat) (w:World) (hs:s.size≤1048576) (h1:1≤m) (h2:m≤60):Calls Tryz.prog 142 #[.string s,.int .i64 (m:Int)] w fun e w'=>(∃ l k u,RdAns showV rowV s (m:Int) l k∧e=.returned (.tuple #[u,.int .i64 (k:Int)])∧Nums w' w.heap.size u l)∧Below w.heap.size w w':=by
 have cR:=fun wx=>implReadVars s m wx hs h1 h2
 have q1:(1:Int)≤(m:Int):=by omega
 have q2:(m:Int)≤60:=by omega
 have q3:(s.size:Int)≤1048576:=by omega
 have HM:Hid (1≤m∧m≤60):=⟨h1,h2⟩
 clear hs
 go_enter Tryz.func142,Tryz.ntmps142
 go_wp2_with fail
 refine (cR _).mono ?_
 rintro e w1 ⟨hR,hb1⟩
 have B1:Hid (Below w.heap.size w w1):=hb1
 clear hb1 cR
 rcases hR with ⟨v,k,u,hR,rfl,hNv⟩ | ⟨hno,rfl⟩
 ·have HR:Hid (Rd s m v k):=hR
  have hvl:=hR.length
  obtain ⟨Av,cv,rfl,_,_⟩:=hNv.shape
  obtain ⟨gv,rfl,hgv,_⟩:=hNv.block (by omega)
  have HVL:Hid (v.length=m):=hvl
  rw[hvl] at hNv
  rw[hvl]
  have HNV:Hid (Nums w1 w.heap.size (.slice (some ⟨gv,0,none⟩) m cv) v):=hNv
  have HGV:Hid (w.heap.size≤gv):=hgv
  have hkk:=hR.le
  have q4:(0:Int)≤(k:Int):=by omega
  have q5:(k:Int)≤(s.size:Int):=by omega
  have q6:¬ (k:Int)=0:=by omega
  have q7:¬ k=0:=by omega
  have HK:Hid (1≤k∧k≤s.size):=⟨by omega,by omega⟩
  have HBD:Hid (∀ j,-9223372036854775808≤v.getD j 0∧v.getD j 0≤9223372036854775807):=fun j=>by have:=hR.boundD j;omega
  clear hR hNv hvl hkk hgv
  go_wp2_with fail
  refine (unzigAllV 0 m v gv cv w.heap.size m (some ⟨gv,0,none⟩) cv w1 HNV.out (by rw[HVL.out];omega) (fun _=>rfl) (by have:=HM.out;omega) HGV.out HBD.out).mono ?_
  rintro e w2 ⟨⟨u2,rfl⟩,hN2,hb2⟩
  have B2:Hid (Below w.heap.size w w2):=B1.out.trans hb2
  have N2:Hid (Nums w2 w.heap.size (.slice (some ⟨gv,0,none⟩) m cv) (rowOf (uzF 0 v) v.length)):=hN2
  clear hb2 hN2
  go_wp2_with fail
  refine (addUpV 0 m (rowOf (uzF 0 v) v.length) gv cv w.heap.size m (some ⟨gv,0,none⟩) cv w2 N2.out (by rw[rowOf_length,HVL.out];omega) (fun _=>rfl) (by have:=HM.out;omega) HGV.out ?_).mono ?_
  ·intro j hj
   rw[rowOf_length] at hj
   have h:(rowOf (auF 0 (rowOf (uzF 0 v) v.length)) v.length).getD j 0=(rowV v).getD j 0:=by rw[rowV_made]
   rw[rowOf_get _ _ _ hj,rowV,rowOf_get _ _ _ hj] at h
   rw[h]
   have:=rv_bound v j
   have:=HM.out
   have:=HVL.out
   omega
  rintro e w3 ⟨⟨u3,rfl⟩,hN3,hb3⟩
  have B3:Hid (Below w.heap.size w w3):=B2.out.trans hb3
  have N3:Hid (Nums w3 w.heap.size (.slice (some ⟨gv,0,none⟩) m cv) (rowV v)):=by
   rw[rowOf_length,rowV_made] at hN3
   exact hN3
  have cS:=fun wx hx=>implShowValues (rowV v) (.slice (some ⟨gv,0,none⟩) m cv) wx wx.heap.size hx (by rw[rowV_length,HVL.out];have:=HM.out;omega) (Nat.le_refl _)
  clear hb3 hN3
  by_cases heq:showV (rowV v)=s.extract 0 k
  ·have HANS:Hid (RdAns showV rowV s (m:Int) (rowV v) k):=RdAns.yes HM.out.1 HM.out.2 HR.out heq
   have hq:=bytes_eq heq
   clear heq
   generalize showV (rowV v)=sv at *
   go_wp2_with fail
   go_region_held3 (fun _=>True) (exact True.intro) ((go_at_call 165;refine (cS w3.drew ((N3.out.heap rfl).lies)).mono ?_;rintro e w5 ⟨rfl,hb5⟩))
   all_goals
    have B5:Hid (Below w.heap.size w w5):=B3.out.drew.trans (hb5.mono B3.out.size)
    have N5:Hid (Nums w5 w.heap.size (.slice (some ⟨gv,0,none⟩) m cv) (rowV v)):=(N3.out.heap (w':=w3.drew) rfl).on hb5
    clear hb5
    go_wp2_with fail
    go_ret2
    exact ⟨⟨_,k,_,HANS.out,rfl,N5.out⟩,B5.out⟩
  ·have HANS:Hid (RdAns showV rowV s (m:Int) [] 0):=RdAns.other HR.out heq
   have hq:=bytes_ne heq
   clear heq
   generalize showV (rowV v)=sv at *
   go_wp2_with fail
   go_region_held3 (fun _=>True) (exact True.intro) ((go_at_call 165;refine (cS w3.drew ((N3.out.heap rfl).lies)).mono ?_;rintro e w5 ⟨rfl,hb5⟩))
   all_goals
    have B5:Hid (Below w.heap.size w w5):=B3.out.drew.trans (hb5.mono B3.out.size)
    clear hb5
    go_wp2_with fail
    go_ret2
    exact ⟨⟨[],0,_,HANS.out,rfl,Nums.nil _ _⟩,B5.out⟩
 ·have HANS:Hid (RdAns showV rowV s (m:Int) [] 0):=RdAns.few hno
  clear hno
  go_wp2_with fail
  go_ret2
  exact ⟨⟨[],0,_,HANS.out,rfl,Nums.nil _ _⟩,B1.out⟩
end Go.Proofs.YtedmdilabbolaaaGreatDoor
namespace Go.Proofs.YtedmdilabbolaaaGreatDoor
open Go.ChangeShapes Go.WideShapes Go.ChangeAt Go.RowKit Go.PlainAid
set_option linter.unusedVariables false
theorem rt_step (v:List Int) (j:Nat) (h:2≤j):rt v (j - 1) - rt v (j - 2)+unz (v.getD j 0)=gp v j:=by
 obtain ⟨i,rfl⟩:∃ i,j=i+2:=⟨j - 2,by omega⟩
 have e1:rt v (i+1)=rt v i+gp v (i+1):=rfl
 have e2:gp v (i+2)=gp v (i+1)+unz (v.getD (i+2) 0):=by
  conv=>lhs;unfold gp
  rw[if_neg (by omega)]
 rw[show i+2 - 1=i+1 by omega,show i+2 - 2=i by omega]
 omega
theorem rt_next (v:List Int) (j:Nat) (h:1≤j):rt v (j - 1)+gp v j=rt v j:=by
 obtain ⟨i,rfl⟩:∃ i,j=i+1:=⟨j - 1,by omega⟩
 rfl
theorem gp_one (v:List Int):gp v 1=v.getD 1 0:=by simp[gp]
set_option maxHeartbeats 2000000 in
theorem specReadTimes_no (s:ByteArray) (n:Int) (w:World) (h:n<1∨60<n):Calls Tryz.prog 117 #[.string s,.int .i64 n] w fun e w'=>(∃ l k u,RdAns showT rowT s n l k∧e=.returned (.tuple #[u,.int .i64 (k:Int)])∧Nums w' w.heap.size u l)∧Below w.heap.size w w':=by
 have c:=fun wx=>in_no n 1 60 wx h
 have H:Hid (n<1∨60<n):=h
 clear h
 go_enter Tryz.func117,Tryz.ntmps117
 go_wp2_with fail
 refine (c _).mono ?_
 rintro e w1 ⟨rfl,rfl⟩
 go_wp2_with fail
 go_ret2
 exact ⟨⟨[],0,_,RdAns.none H.out,rfl,Nums.empty _ _ (Nat.le_refl _)⟩,(Below.refl _ _).alloc (Nat.le_refl _) _⟩
set_option maxHeartbeats 2000000 in
theorem specReadTimes (s:ByteArray) (m:Nat) (w:World) (hs:s.size≤1048576) (h1:1≤m) (h2:m≤60):Calls Tryz.prog 117 #[.string s,.int .i64 (m:Int)] w fun e w'=>(∃ l k u,RdAns showT rowT s (m:Int) l k∧e=.returned (.tuple #[u,.int .i64 (k:Int)])∧Nums w' w.heap.size u l)∧Below w.heap.size w w':=by
 have c:=fun wx=>in_yes (m:Int) 1 60 wx (by omega) (by omega)
 have cR:=fun wx=>specReadVars s m wx hs h1 h2
 have q1:(1:Int)≤(m:Int):=by omega
 have q2:(m:Int)≤60:=by omega
 have q3:(s.size:Int)≤1048576:=by omega
 have HM:Hid (1≤m∧m≤60):=⟨h1,h2⟩
 have N0:=Nums.empty w w.heap.size (Nat.le_refl _)
 have b0:Below w.heap.size w (w.alloc (.cells #[] 3)):=(Below.refl _ _).alloc (Nat.le_refl _) _
 have z0:w.heap.size<(w.alloc (.cells #[] 3)).heap.size:=by simp
 clear hs
 go_enter Tryz.func117,Tryz.ntmps117
 go_wp2_with fail
 refine (c _).mono ?_
 rintro e w0 ⟨rfl,rfl⟩
 go_wp2_with fail
 generalize w.alloc (.cells #[] 3)=W at *
 refine (cR _).mono ?_
 rintro e w1 ⟨hR,hb1⟩
 have B1:Hid (Below w.heap.size w w1):=b0.trans (hb1.mono b0.size)
 have E1:Hid (Nums w1 w.heap.size (.slice (some ⟨w.heap.size,0,none⟩) 0 0) []):=N0.on hb1
 have Z1:Hid (w.heap.size<w1.heap.size):=Nat.lt_of_lt_of_le z0 hb1.size
 have ZW:Hid (w.heap.size≤W.heap.size):=b0.size
 clear hb1 cR c N0 b0 z0
 rcases hR with ⟨v,k,u,hR,rfl,hNv⟩ | ⟨hno,u,rfl⟩
 ·have HR:Hid (Rd s m v k):=hR
  have HNV:Hid (Nums w1 W.heap.size u v):=hNv
  obtain ⟨Av,cv,rfl,_,_⟩:=hNv.shape
  have hvl:=hR.length
  have HVL:Hid (v.length=m):=hvl
  rw[hvl] at HNV
  rw[hvl]
  have hkk:=hR.le
  have q4:(0:Int)≤(k:Int):=by omega
  have q5:(k:Int)≤(s.size:Int):=by omega
  have HK:Hid (1≤k∧k≤s.size):=⟨by omega,by omega⟩
  have hq1:0<v.length:=by omega
  obtain ⟨gv,rfl,hgv,_⟩:=HNV.out.block hq1
  have hv0:=HNV.out.cell 0 hq1
  have N2:=Nums.one w1 w1.heap.size (v.getD 0 0) (Nat.le_refl _)
  have b2:Below w1.heap.size w1 (w1.alloc (.cells #[.int .i64 (v.getD 0 0)] 3)):=(Below.refl _ _).alloc (Nat.le_refl _) _
  have ST:Hid (Nums (w1.alloc (.cells #[.int .i64 (v.getD 0 0)] 3)) w1.heap.size (.slice (some ⟨w1.heap.size,0,none⟩) 1 1) (rowOf (rt v) 1)∧Below w1.heap.size w1 (w1.alloc (.cells #[.int .i64 (v.getD 0 0)] 3))):=⟨N2,b2⟩
  clear hR hNv hvl hkk N2 b2 hgv
  generalize v.getD 0 0=x0 at *
  go_wp2_with fail
  generalize w1.alloc (.cells #[.int .i64 x0] 3)=W2 at *
  go_loopw [9,10] (fun v9 v10 wr=>∃ j:Nat,1≤j∧j≤m∧v10=.int .i64 (j:Int)∧Nums wr w1.heap.size v9 (rowOf (rt v) j)∧Below w1.heap.size w1 wr∧Hid (∀ i,1≤i→i<j→0≤rt v i∧rt v i≤1099511627776)) (fun _ i _=>m - (intOf i).toNat)
  case atStart=>exact ⟨1,by omega,by omega,rfl,ST.out.1,ST.out.2,fun i h1 h2=>by omega⟩
  case round =>
   obtain ⟨j,hj1,hj,rfl,hN,hb,HIN⟩:=hrel
   have HB:Hid (Below w1.heap.size w1 wr):=hb
   have HN:Hid (Nums wr w1.heap.size _ (rowOf (rt v) j)):=hN
   obtain ⟨A9,c9,rfl,_,_⟩:=hN.shape
   rw[rowOf_length] at HN
   rw[rowOf_length]
   clear hN
   by_cases hlt:j<m
   ·have q6:(j:Int)<(m:Int):=by omega
    have q61:(1:Int)≤(j:Int):=by omega
    have hNv:=HNV.out.on hb
    have e1:=hNv.cell j (by rw[HVL.out];exact hlt)
    obtain ⟨g9,rfl,_,_⟩:=HN.out.block (by rw[rowOf_length];omega)
    have f1:=HN.out.cell (j - 1) (by rw[rowOf_length];omega)
    rw[rowOf_get _ _ _ (show j - 1<j by omega)] at f1
    have hbd:=HR.out.boundD j
    have hbd0:=HR.out.boundD 0
    have hub:=unz_range (v.getD j 0)
    have hr1:=rt_bound v HR.out.boundD j (by have:=HM.out;omega)
    have hr2:=rt_bound v HR.out.boundD (j - 1) (by have:=HM.out;omega)
    have hgb:=gp_bound v HR.out.boundD j
    have en:=rt_next v j hj1
    have HRV:Hid (rowOf (rt v) (j+1)=rowOf (rt v) j++[rt v j]):=rowOf_succ _ _
    have HLJ:Hid ((rowOf (rt v) j).length≤2097152):=by unfold Hid;rw[rowOf_length];omega
    have HZR:Hid (w1.heap.size≤wr.heap.size):=hb.size
    have t1:((j:Int) - 1).toNat=j - 1:=by omega
    have g1:IntKind.i64.wrap ((j:Int) - 1)=(j:Int) - 1:=by rw[IntKind.wrap_i64];omega
    have g3:(0:Int)≤(j:Int) - 1:=by omega
    have g4:(j:Int) - 1<(j:Int):=by omega
    have gn:wrap64 (rt v (j - 1)+gp v j)=rt v j:=by unfold wrap64;omega
    have gn2:IntKind.i64.wrap (rt v (j - 1)+gp v j)=rt v j:=by rw[IntKind.wrap_i64];omega
    have E3:Hid (Nums wr w.heap.size (.slice (some ⟨w.heap.size,0,none⟩) 0 0) []):=E1.out.under (Nat.le_refl _) HB.out
    have B3:Hid (Below w.heap.size w wr):=B1.out.trans (HB.out.mono (Nat.le_of_lt Z1.out))
    have HNO:Hid ((rt v j<0∨1099511627776<rt v j)→RdAns showT rowT s (m:Int) [] 0):=fun hin=>RdAns.other HR.out (by rw[showT_out v j (by rw[HVL.out];exact hlt) hin];exact extract_ne s k HK.out.1 HK.out.2)
    by_cases hj2:j=1
    ·have ed:gp v j=v.getD j 0:=by rw[hj2];exact gp_one v
     have HJ:Hid (j=1):=hj2
     rw[← ed] at e1
     have d0:decide ((1:Int)<(j:Int))=false:=decide_eq_false (by omega)
     have d1:decide (1<j)=false:=decide_eq_false (by omega)
     clear hNv hb hj2 ed hbd hbd0 hub hj1 q61 en
     generalize gp v j=gj at *
     by_cases hin:rt v j<0∨1099511627776<rt v j
     ·have cI:=fun wx=>in_no (rt v j) 0 1099511627776 wx hin
      have HANS:Hid (RdAns showT rowT s (m:Int) [] 0):=HNO.out hin
      clear hin
      generalize rt v j=rj at *
      generalize rt v (j - 1)=rp at *
      go_wp2_with fail
      refine (cI _).mono ?_
      rintro e w3 ⟨rfl,rfl⟩
      go_wp2_with fail
      go_ret2
      exact ⟨⟨[],0,_,HANS.out,rfl,E3.out⟩,B3.out⟩
     ·have cI:=fun wx=>in_yes (rt v j) 0 1099511627776 wx (by omega) (by omega)
      have HIJ:Hid (0≤rt v j∧rt v j≤1099511627776):=⟨by omega,by omega⟩
      clear hin
      have HIJ2:Hid (∀ i,1≤i→i<j+1→0≤rt v i∧rt v i≤1099511627776):=fun i h1 h2=>by
       by_cases e:i=j
       ·subst e;exact HIJ.out
       ·exact HIN.out i h1 (by omega)
      generalize rt v j=rj at *
      generalize rt v (j - 1)=rp at *
      go_wp2_with fail
      refine (cI _).mono ?_
      rintro e w3 ⟨rfl,rfl⟩
      go_wp2_with (at_builtin;refine wpList_append_num rfl (.tmp 70) (.tmp 72) 22 rfl Tryz.underlying22 Tryz.infoInt w1.heap.size _ (rowOf (rt v) j) rfl HN.out rj rfl HLJ.out HZR.out ?_;intro v' w4 hN4 hb4 hk4)
      go_roundw
      case rel=>exact ⟨j+1,by omega,by omega,by go_num,by rw[HRV.out];exact hN4,HB.out.trans hb4,HIJ2⟩
      case measure=>simp[intOf];omega
    ·have f2:=HN.out.cell (j - 2) (by rw[rowOf_length];omega)
     rw[rowOf_get _ _ _ (show j - 2<j by omega)] at f2
     have hr3:=rt_bound v HR.out.boundD (j - 2) (by have:=HM.out;omega)
     have es:=rt_step v j (by omega)
     have cU:=fun wx=>spec_l7Un (v.getD j 0) wx (by omega) (by omega)
     have t2:((j:Int) - 2).toNat=j - 2:=by omega
     have g5:IntKind.i64.wrap ((j:Int) - 2)=(j:Int) - 2:=by rw[IntKind.wrap_i64];omega
     have g6:(0:Int)≤(j:Int) - 2:=by omega
     have g7:(j:Int) - 2<(j:Int):=by omega
     have q62:(2:Int)≤(j:Int):=by omega
     have d0:(1:Int)<(j:Int):=by omega
     have d1:1<j:=by omega
     have gs:IntKind.i64.wrap (rt v (j - 1) - rt v (j - 2))=rt v (j - 1) - rt v (j - 2):=by rw[IntKind.wrap_i64];omega
     have gs2:wrap64 (rt v (j - 1) - rt v (j - 2))=rt v (j - 1) - rt v (j - 2):=by unfold wrap64;omega
     have gt:IntKind.i64.wrap (rt v (j - 1) - rt v (j - 2)+unz (v.getD j 0))=gp v j:=by rw[IntKind.wrap_i64];omega
     have gt2:wrap64 (rt v (j - 1) - rt v (j - 2)+unz (v.getD j 0))=gp v j:=by unfold wrap64;omega
     clear hNv hb hj2 hbd hbd0 hub en es hj1
     generalize gp v j=gj at *
     generalize unz (v.getD j 0)=uu at *
     generalize v.getD j 0=x at *
     by_cases hin:rt v j<0∨1099511627776<rt v j
     ·have cI:=fun wx=>in_no (rt v j) 0 1099511627776 wx hin
      have HANS:Hid (RdAns showT rowT s (m:Int) [] 0):=HNO.out hin
      clear hin
      generalize rt v j=rj at *
      generalize rt v (j - 1)=rp at *
      generalize rt v (j - 2)=rq at *
      go_wp2_with fail
      go_quiet ((go_at_call 147;exact Calls.quiet_of_same ((cU _).mono fun _ _ h=>⟨h.1,h.2.symm⟩)))
      go_wp2_with fail
      refine (cI _).mono ?_
      rintro e w3 ⟨rfl,rfl⟩
      go_wp2_with fail
      go_ret2
      exact ⟨⟨[],0,_,HANS.out,rfl,E3.out.heap rfl⟩,B3.out.trans (((Like.refl wr).drewN _).below.mono B3.out.size)⟩
     ·have cI:=fun wx=>in_yes (rt v j) 0 1099511627776 wx (by omega) (by omega)
      have HIJ:Hid (0≤rt v j∧rt v j≤1099511627776):=⟨by omega,by omega⟩
      clear hin
      have HIJ2:Hid (∀ i,1≤i→i<j+1→0≤rt v i∧rt v i≤1099511627776):=fun i h1 h2=>by
       by_cases e:i=j
       ·subst e;exact HIJ.out
       ·exact HIN.out i h1 (by omega)
      generalize rt v j=rj at *
      generalize rt v (j - 1)=rp at *
      generalize rt v (j - 2)=rq at *
      go_wp2_with fail
      go_quiet ((go_at_call 147;exact Calls.quiet_of_same ((cU _).mono fun _ _ h=>⟨h.1,h.2.symm⟩)))
      go_wp2_with fail
      refine (cI _).mono ?_
      rintro e w3 ⟨rfl,rfl⟩
      go_wp2_with (at_builtin;refine wpList_append_num rfl (.tmp 70) (.tmp 72) 22 rfl Tryz.underlying22 Tryz.infoInt w1.heap.size _ (rowOf (rt v) j) rfl (HN.out.heap rfl) rj rfl HLJ.out HZR.out ?_;intro v' w4 hN4 hb4 hk4)
      go_roundw
      case rel=>exact ⟨j+1,by omega,by omega,by go_num,by rw[HRV.out];exact hN4,(HB.out.trans (((Like.refl wr).drewN _).below.mono HB.out.size)).trans hb4,HIJ2⟩
      case measure=>simp[intOf];omega
   ·obtain rfl:j=m:=by omega
    have HROW:Hid (rowOf (rt v) j=rowT v):=by unfold Hid rowT;rw[HVL.out]
    have HN9:Hid (Nums wr w1.heap.size (.slice A9 j c9) (rowT v)):=by unfold Hid;rw[← HROW.out];exact HN.out
    have cS:=fun wx hx=>specShowTimes (rowT v) (.slice A9 j c9) wx wx.heap.size hx (by rw[rowT_length,HVL.out];have:=HM.out;omega) (Nat.le_refl _)
    have B3:Hid (Below w.heap.size w wr):=B1.out.trans (HB.out.mono (Nat.le_of_lt Z1.out))
    have E3:Hid (Nums wr w.heap.size (.slice (some ⟨w.heap.size,0,none⟩) 0 0) []):=E1.out.under (Nat.le_refl _) HB.out
    clear hb
    by_cases heq:showT (rowT v)=s.extract 0 k
    ·have HANS:Hid (RdAns showT rowT s (j:Int) (rowT v) k):=RdAns.yes HM.out.1 HM.out.2 HR.out heq
     have hq:=bytes_eq heq
     clear heq
     generalize showT (rowT v)=sv at *
     go_wp2_with fail
     go_region_held3 (fun _=>True) (exact True.intro) ((go_at_call 131;refine (cS wr.drew ((HN9.out.heap rfl).lies)).mono ?_;rintro e w5 ⟨rfl,hb5⟩))
     all_goals
      have B5:Hid (Below w.heap.size w w5):=B3.out.drew.trans (hb5.mono B3.out.size)
      have N5:Hid (Nums w5 w1.heap.size (.slice A9 j c9) (rowT v)):=(HN9.out.heap (w':=wr.drew) rfl).on hb5
      clear hb5
      go_wp2_with fail
      go_ret2
      exact ⟨⟨_,k,_,HANS.out,rfl,N5.out.mono (Nat.le_of_lt Z1.out)⟩,B5.out⟩
    ·have HANS:Hid (RdAns showT rowT s (j:Int) [] 0):=RdAns.other HR.out heq
     have hq:=bytes_ne heq
     clear heq
     generalize showT (rowT v)=sv at *
     go_wp2_with fail
     go_region_held3 (fun _=>True) (exact True.intro) ((go_at_call 131;refine (cS wr.drew ((HN9.out.heap rfl).lies)).mono ?_;rintro e w5 ⟨rfl,hb5⟩))
     all_goals
      have B5:Hid (Below w.heap.size w w5):=B3.out.drew.trans (hb5.mono B3.out.size)
      have E5:Hid (Nums w5 w.heap.size (.slice (some ⟨w.heap.size,0,none⟩) 0 0) []):=(E3.out.heap (w':=wr.drew) rfl).on hb5
      clear hb5
      go_wp2_with fail
      go_ret2
      exact ⟨⟨[],0,_,HANS.out,rfl,E5.out⟩,B5.out⟩
 ·have HANS:Hid (RdAns showT rowT s (m:Int) [] 0):=RdAns.few hno
  clear hno
  go_wp2_with fail
  go_ret2
  exact ⟨⟨[],0,_,HANS.out,rfl,E1.out⟩,B1.out⟩
end Go.Proofs.YtedmdilabbolaaaGreatDoor
namespace Go.Proofs.YtedmdilabbolaaaGreatDoor
open Go.ChangeShapes Go.WideShapes Go.ChangeAt Go.RowKit Go.PlainAid
set_option linter.unusedVariables false
set_option maxHeartbeats 2000000 in
theorem implReadTimes_no (s:ByteArray) (n:Int) (w:World) (h:n<1∨60<n):Calls Tryz.prog 141 #[.string s,.int .i64 n] w fun e w'=>(∃ l k u,RdAns showT rowT s n l k∧e=.returned (.tuple #[u,.int .i64 (k:Int)])∧Nums w' w.heap.size u l)∧Below w.heap.size w w':=by
 have c:=fun wx=>implReadVars_no s n wx h
 have H:Hid (n<1∨60<n):=h
 clear h
 go_enter Tryz.func141,Tryz.ntmps141
 go_wp2_with fail
 refine (c _).mono ?_
 rintro e w1 ⟨rfl,rfl⟩
 go_wp2_with fail
 go_ret2
 exact ⟨⟨[],0,_,RdAns.none H.out,rfl,Nums.nil _ _⟩,Below.refl _ _⟩
set_option maxHeartbeats 8000000 in
theorem implReadTimes (s:ByteArray) (m:Nat) (w:World) (hs:s.size≤1048576) (h1:1≤m) (h2:m≤60):Calls Tryz.prog 141 #[.string s,.int .i64 (m:Int)] w fun e w'=>(∃ l k u,RdAns showT rowT s (m:Int) l k∧e=.returned (.tuple #[u,.int .i64 (k:Int)])∧Nums w' w.heap.size u l)∧Below w.heap.size w w':=by
 have cR:=fun wx=>implReadVars s m wx hs h1 h2
 have q1:(1:Int)≤(m:Int):=by omega
 have q2:(m:Int)≤60:=by omega
 have q3:(s.size:Int)≤1048576:=by omega
 have HM:Hid (1≤m∧m≤60):=⟨h1,h2⟩
 clear hs
 go_enter Tryz.func141,Tryz.ntmps141
 go_wp2_with fail
 refine (cR _).mono ?_
 rintro e w1 ⟨hR,hb1⟩
 have B1:Hid (Below w.heap.size w w1):=hb1
 clear hb1 cR
 rcases hR with ⟨v,k,u,hR,rfl,hNv⟩ | ⟨hno,rfl⟩
 ·have HR:Hid (Rd s m v k):=hR
  have hvl:=hR.length
  obtain ⟨Av,cv,rfl,_,_⟩:=hNv.shape
  obtain ⟨gv,rfl,hgv,_⟩:=hNv.block (by omega)
  have HVL:Hid (v.length=m):=hvl
  rw[hvl] at hNv
  rw[hvl]
  have HNV:Hid (Nums w1 w.heap.size (.slice (some ⟨gv,0,none⟩) m cv) v):=hNv
  have HGV:Hid (w.heap.size≤gv):=hgv
  have hkk:=hR.le
  have q4:(0:Int)≤(k:Int):=by omega
  have q5:(k:Int)≤(s.size:Int):=by omega
  have q6:¬ (k:Int)=0:=by omega
  have q7:¬ k=0:=by omega
  have HK:Hid (1≤k∧k≤s.size):=⟨by omega,by omega⟩
  have HBD:Hid (∀ j,-9223372036854775808≤v.getD j 0∧v.getD j 0≤9223372036854775807):=fun j=>by have:=hR.boundD j;omega
  clear hR hNv hvl hkk hgv
  obtain ⟨mm,hmm⟩:∃ mm,mm=min 2 v.length:=⟨_,rfl⟩
  have hmin:min (2:Int) (m:Int)=(mm:Int):=by rw[hmm,HVL.out];omega
  have hmle:mm≤m:=by rw[hmm,HVL.out];omega
  have hm1:1≤mm:=by rw[hmm,HVL.out];omega
  have qm:(mm:Int)≤(m:Int):=by omega
  have hcv:m≤cv:=by have:=HVL.out;omega
  have qc1:(m:Int)≤(cv:Int):=by omega
  have cU:=fun A c hA=>unzigAllV mm (m - mm) v gv cv w.heap.size m A c w1 HNV.out (by rw[HVL.out];omega) hA (by omega) HGV.out HBD.out
  have cA1:=fun A c wx hx hA=>addUpV 1 (m - 1) (rowOf (uzF mm v) v.length) gv cv w.heap.size m A c wx hx (by rw[rowOf_length,HVL.out];have:=HM.out;omega) hA (by have:=HM.out;omega) HGV.out (fun j hj=>by
   rw[rowOf_length] at hj
   have h1:=HM.out
   have h2:=HVL.out
   rw[hmm]
   by_cases hj0:j=0
   ·subst hj0
    rw[gaps_zero v (by omega)]
    have:=HR.out.boundD 0
    omega
   ·rw[gaps_made v (by omega) j hj (by omega)]
    have:=gp_bound v HR.out.boundD j
    omega)
  have cA0:=fun c wx hx=>addUpV 0 m (rowOf (auF 1 (rowOf (uzF mm v) v.length)) v.length) gv cv w.heap.size m (some ⟨gv,0,none⟩) c wx hx (by rw[rowOf_length,HVL.out];omega) (fun _=>rfl) (by have:=HM.out;omega) HGV.out (fun j hj=>by
   rw[rowOf_length] at hj
   have h1:=HM.out
   have h2:=HVL.out
   rw[hmm,times_made v (by omega) j hj]
   have:=rt_bound v HR.out.boundD j (by omega)
   omega)
  have HMM:Hid (mm=min 2 v.length):=hmm
  have HCU:Hid (∀ A c,(0<m - mm→A=some ⟨gv,mm,none⟩)→Calls Tryz.prog 162 #[.slice A (m - mm) c] w1 fun e w'=>(∃ u,e=.returned u)∧Nums w' w.heap.size (.slice (some ⟨gv,0,none⟩) m cv) (rowOf (uzF mm v) v.length)∧Below w.heap.size w1 w'):=cU
  have cS:=fun wx hx=>implShowTimes (rowT v) (.slice (some ⟨gv,0,none⟩) m cv) wx wx.heap.size hx (by rw[rowT_length,HVL.out];have:=HM.out;omega) (Nat.le_refl _)
  have HTL:Hid (∀ wx,Below w.heap.size w wx→Nums wx w.heap.size (.slice (some ⟨gv,0,none⟩) m cv) (rowOf (auF 0 (rowOf (auF 1 (rowOf (uzF mm v) v.length)) v.length)) v.length)→Nums wx w.heap.size (.slice (some ⟨gv,0,none⟩) m cv) (rowT v)):=fun wx _ hx=>by
   rw[HMM.out,rowT_made v (by have:=HVL.out;have:=HM.out;omega)] at hx
   exact hx
  have HA1:Hid (∀ A c wx,Nums wx w.heap.size (.slice (some ⟨gv,0,none⟩) m cv) (rowOf (uzF mm v) v.length)→(0<m - 1→A=some ⟨gv,1,none⟩)→Calls Tryz.prog 163 #[.slice A (m - 1) c] wx fun e w'=>(∃ u,e=.returned u)∧Nums w' w.heap.size (.slice (some ⟨gv,0,none⟩) m cv) (rowOf (auF 1 (rowOf (uzF mm v) v.length)) (rowOf (uzF mm v) v.length).length)∧Below w.heap.size wx w'):=cA1
  have HA0:Hid (∀ c wx,Nums wx w.heap.size (.slice (some ⟨gv,0,none⟩) m cv) (rowOf (auF 1 (rowOf (uzF mm v) v.length)) v.length)→Calls Tryz.prog 163 #[.slice (some ⟨gv,0,none⟩) m c] wx fun e w'=>(∃ u,e=.returned u)∧Nums w' w.heap.size (.slice (some ⟨gv,0,none⟩) m cv) (rowOf (auF 0 (rowOf (auF 1 (rowOf (uzF mm v) v.length)) v.length)) (rowOf (auF 1 (rowOf (uzF mm v) v.length)) v.length).length)∧Below w.heap.size wx w'):=cA0
  clear cU hmm cA1 cA0
  by_cases heq:showT (rowT v)=s.extract 0 k
  ·have HANS:Hid (RdAns showT rowT s (m:Int) (rowT v) k):=RdAns.yes HM.out.1 HM.out.2 HR.out heq
   have hq:=bytes_eq heq
   clear heq
   generalize showT (rowT v)=sv at *
   go_wp2_with fail
   all_goals
    first | subst h | (have HX:Hid _:=h;clear h)
    refine (HCU.out _ _ (by intro hp;first | rfl | (exfalso;omega))).mono ?_
    rintro e w2 ⟨⟨u2,rfl⟩,hN2,hb2⟩
    have B2:Hid (Below w.heap.size w w2):=B1.out.trans hb2
    have N2:Hid (Nums w2 w.heap.size _ _):=hN2
    clear hb2 hN2
    go_wp2_with fail
   all_goals
    first | subst h | (have HY:Hid _:=h;clear h)
    refine (HA1.out _ _ w2 N2.out (by intro hp;first | rfl | (exfalso;omega))).mono ?_
    rintro e w3 ⟨⟨u3,rfl⟩,hN3,hb3⟩
    rw[rowOf_length] at hN3
    have B3:Hid (Below w.heap.size w w3):=B2.out.trans hb3
    have N3:Hid (Nums w3 w.heap.size _ _):=hN3
    clear hb3 hN3
    go_wp2_with fail
    refine (HA0.out _ w3 N3.out).mono ?_
    rintro e w4 ⟨⟨u4,rfl⟩,hN4,hb4⟩
    rw[rowOf_length] at hN4
    have B4:Hid (Below w.heap.size w w4):=B3.out.trans hb4
    have N4:Hid (Nums w4 w.heap.size _ (rowT v)):=HTL.out w4 B4.out hN4
    clear hb4 hN4 N2 N3 B2 B3 HA1 HA0 HCU HTL
    go_wp2_with fail
    go_region_held3 (fun _=>True) (exact True.intro) ((go_at_call 164;refine (cS w4.drew ((N4.out.heap rfl).lies)).mono ?_;rintro e w5 ⟨rfl,hb5⟩))
   all_goals
    have B5:Hid (Below w.heap.size w w5):=B4.out.drew.trans (hb5.mono B4.out.size)
    have N5:Hid (Nums w5 w.heap.size _ (rowT v)):=(N4.out.heap (w':=w4.drew) rfl).on hb5
    clear hb5
    go_wp2_with fail
    go_ret2
    exact ⟨⟨_,k,_,HANS.out,rfl,N5.out⟩,B5.out⟩
  ·have HANS:Hid (RdAns showT rowT s (m:Int) [] 0):=RdAns.other HR.out heq
   have hq:=bytes_ne heq
   clear heq
   generalize showT (rowT v)=sv at *
   go_wp2_with fail
   all_goals
    first | subst h | (have HX:Hid _:=h;clear h)
    refine (HCU.out _ _ (by intro hp;first | rfl | (exfalso;omega))).mono ?_
    rintro e w2 ⟨⟨u2,rfl⟩,hN2,hb2⟩
    have B2:Hid (Below w.heap.size w w2):=B1.out.trans hb2
    have N2:Hid (Nums w2 w.heap.size _ _):=hN2
    clear hb2 hN2
    go_wp2_with fail
   all_goals
    first | subst h | (have HY:Hid _:=h;clear h)
    refine (HA1.out _ _ w2 N2.out (by intro hp;first | rfl | (exfalso;omega))).mono ?_
    rintro e w3 ⟨⟨u3,rfl⟩,hN3,hb3⟩
    rw[rowOf_length] at hN3
    have B3:Hid (Below w.heap.size w w3):=B2.out.trans hb3
    have N3:Hid (Nums w3 w.heap.size _ _):=hN3
    clear hb3 hN3
    go_wp2_with fail
    refine (HA0.out _ w3 N3.out).mono ?_
    rintro e w4 ⟨⟨u4,rfl⟩,hN4,hb4⟩
    rw[rowOf_length] at hN4
    have B4:Hid (Below w.heap.size w w4):=B3.out.trans hb4
    have N4:Hid (Nums w4 w.heap.size _ (rowT v)):=HTL.out w4 B4.out hN4
    clear hb4 hN4 N2 N3 B2 B3 HA1 HA0 HCU HTL
    go_wp2_with fail
    go_region_held3 (fun _=>True) (exact True.intro) ((go_at_call 164;refine (cS w4.drew ((N4.out.heap rfl).lies)).mono ?_;rintro e w5 ⟨rfl,hb5⟩))
   all_goals
    have B5:Hid (Below w.heap.size w w5):=B4.out.drew.trans (hb5.mono B4.out.size)
    clear hb5
    go_wp2_with fail
    go_ret2
    exact ⟨⟨[],0,_,HANS.out,rfl,Nums.nil _ _⟩,B5.out⟩
 ·have HANS:Hid (RdAns showT rowT s (m:Int) [] 0):=RdAns.few hno
  clear hno
  go_wp2_with fail
  go_ret2
  exact ⟨⟨[],0,_,HANS.out,rfl,Nums.nil _ _⟩,B1.out⟩
end Go.Proofs.YtedmdilabbolaaaGreatDoor
namespace Go.Proofs.YtedmdilabbolaaaGreatDoor
open Go.ChangeShapes Go.WideShapes Go.ChangeAt Go.RowKit Go.PlainAid
set_option linter.unusedVariables false
theorem specReadValuesA (s:ByteArray) (n:Int) (w:World) (hs:s.size≤1048576):Calls Tryz.prog 118 #[.string s,.int .i64 n] w fun e w'=>(∃ l k u,RdAns showV rowV s n l k∧e=.returned (.tuple #[u,.int .i64 (k:Int)])∧Nums w' w.heap.size u l)∧Below w.heap.size w w':=by
 by_cases h:n<1∨60<n
 ·exact specReadValues_no s n w h
 ·obtain ⟨m,rfl⟩:∃ m:Nat,n=(m:Int):=⟨n.toNat,by omega⟩
  exact specReadValues s m w hs (by omega) (by omega)
theorem implReadValuesA (s:ByteArray) (n:Int) (w:World) (hs:s.size≤1048576):Calls Tryz.prog 142 #[.string s,.int .i64 n] w fun e w'=>(∃ l k u,RdAns showV rowV s n l k∧e=.returned (.tuple #[u,.int .i64 (k:Int)])∧Nums w' w.heap.size u l)∧Below w.heap.size w w':=by
 by_cases h:n<1∨60<n
 ·exact implReadValues_no s n w h
 ·obtain ⟨m,rfl⟩:∃ m:Nat,n=(m:Int):=⟨n.toNat,by omega⟩
  exact implReadValues s m w hs (by omega) (by omega)
theorem specReadTimesA (s:ByteArray) (n:Int) (w:World) (hs:s.size≤1048576):Calls Tryz.prog 117 #[.string s,.int .i64 n] w fun e w'=>(∃ l k u,RdAns showT rowT s n l k∧e=.returned (.tuple #[u,.int .i64 (k:Int)])∧Nums w' w.heap.size u l)∧Below w.heap.size w w':=by
 by_cases h:n<1∨60<n
 ·exact specReadTimes_no s n w h
 ·obtain ⟨m,rfl⟩:∃ m:Nat,n=(m:Int):=⟨n.toNat,by omega⟩
  exact specReadTimes s m w hs (by omega) (by omega)
theorem implReadTimesA (s:ByteArray) (n:Int) (w:World) (hs:s.size≤1048576):Calls Tryz.prog 141 #[.string s,.int .i64 n] w fun e w'=>(∃ l k u,RdAns showT rowT s n l k∧e=.returned (.tuple #[u,.int .i64 (k:Int)])∧Nums w' w.heap.size u l)∧Below w.heap.size w w':=by
 by_cases h:n<1∨60<n
 ·exact implReadTimes_no s n w h
 ·obtain ⟨m,rfl⟩:∃ m:Nat,n=(m:Int):=⟨n.toNat,by omega⟩
  exact implReadTimes s m w hs (by omega) (by omega)
end Go.Proofs.YtedmdilabbolaaaGreatDoor
namespace Go.Proofs.YtedmdilabbolaaaGreatDoor
open Go.ChangeShapes Go.WideShapes Go.ChangeAt Go.RowKit Go.PlainAid
set_option linter.unusedVariables false
theorem below_drewN (w:World) (n:Nat):Below w.heap.size w (w.drewN n):=⟨rfl,rfl,rfl,Nat.le_refl _,fun _ _=>rfl⟩
theorem below_drew (w:World):Below w.heap.size w w.drew:=⟨rfl,rfl,rfl,Nat.le_refl _,fun _ _=>rfl⟩
def badBody (p:Int) (a:Addr):Ending:=.returned (.tuple #[.string ⟨#[]⟩,wrapped p a])
set_option maxHeartbeats 400000 in
theorem body_short4 (s:ByteArray) (i:Nat) (w:World) (hi:i≤s.size) (hs:s.size≤1048576) (a0 a1 a2:Addr) (he:Errs w a0 a1 a2) (h4:(rest s i).size<4) :
  Calls Tryz.prog 159 #[.string s,.int .i64 (i:Int)] w fun e w'=>(∃ p,e=badBody p a0)∧Below w.heap.size w w':=by
 have c1:=impl_readFixed_no (rest s i) 4 w (by unfold maxLen;omega) (by omega)
 have hc:=he.c0
 have hr:s.extract i s.size=rest s i:=rfl
 have q1:(i:Int)≤(s.size:Int):=by omega
 have q2:(s.size:Int)≤1048576:=by omega
 clear he h4 hs
 generalize rest s i=r at *
 go_enter Tryz.func159,Tryz.ntmps159
 go_wp2_with fail
 refine c1.mono ?_
 rintro e w1 ⟨rfl,rfl⟩
 go_wp2_with fail
 go_quiet (fail)
 go_wp2_with fail
 go_ret2
 exact ⟨⟨_,rfl⟩,below_drewN w nq⟩
set_option maxHeartbeats 400000 in
theorem body_len (s:ByteArray) (i:Nat) (w:World) (hi:i≤s.size) (hs:s.size≤1048576) (a0 a1 a2:Addr) (he:Errs w a0 a1 a2) (h4:4≤(rest s i).size) (hl:rdv (rest s i) 4=0∨2000<rdv (rest s i) 4) :
  Calls Tryz.prog 159 #[.string s,.int .i64 (i:Int)] w fun e w'=>(∃ p,e=badBody p a1)∧Below w.heap.size w w':=by
 have hz:=rest_size s i
 have c1:=impl_readFixed (rest s i) 4 w (by unfold maxLen;omega) (by omega) (by omega) h4
 have hc:=he.c1
 have hr:s.extract i s.size=rest s i:=rfl
 have q1:(i:Int)≤(s.size:Int):=by omega
 have q2:(s.size:Int)≤1048576:=by omega
 clear he h4 hs hz
 generalize rdv (rest s i) 4=n at *
 generalize rest s i=r at *
 rcases hl with rfl | hl
 ·go_enter Tryz.func159,Tryz.ntmps159
  go_wp2_with fail
  refine c1.mono ?_
  rintro e w1 ⟨rfl,rfl⟩
  go_wp2_with fail
  go_quiet (fail)
  go_wp2_with fail
  go_ret2
  exact ⟨⟨_,rfl⟩,below_drewN w nq⟩
 ·have q3:(2000:Int)<(n:Int):=by omega
  have q4:((n:Int) == 0)=false:=by simp only[beq_eq_false_iff_ne,ne_eq];omega
  have q5:decide ((2000:Int)<(n:Int))=true:=decide_eq_true q3
  have q6:¬ (n:Int)=0:=by omega
  go_enter Tryz.func159,Tryz.ntmps159
  go_wp2_with fail
  refine c1.mono ?_
  rintro e w1 ⟨rfl,rfl⟩
  go_wp2_with fail
  go_quiet (fail)
  go_wp2_with fail
  go_ret2
  exact ⟨⟨_,rfl⟩,below_drewN w nq⟩
set_option maxHeartbeats 400000 in
theorem body_short8 (s:ByteArray) (i:Nat) (w:World) (hi:i≤s.size) (hs:s.size≤1048576) (a0 a1 a2:Addr) (he:Errs w a0 a1 a2) (h4:4≤(rest s i).size) (h1:1≤rdv (rest s i) 4) (h2:rdv (rest s i) 4≤2000) (h8:(rest s i).size<8+rdv (rest s i) 4) :
  Calls Tryz.prog 159 #[.string s,.int .i64 (i:Int)] w fun e w'=>(∃ p,e=badBody p a0)∧Below w.heap.size w w':=by
 have hz:=rest_size s i
 have c1:=impl_readFixed (rest s i) 4 w (by unfold maxLen;omega) (by omega) (by omega) h4
 have hc:=he.c0
 have hr:s.extract i s.size=rest s i:=rfl
 have q1:(i:Int)≤(s.size:Int):=by omega
 have q2:(s.size:Int)≤1048576:=by omega
 clear he h4 hs hz
 generalize rdv (rest s i) 4=n at *
 generalize rest s i=r at *
 have q3:(n:Int)≤2000:=by omega
 have q4:((n:Int) == 0)=false:=by simp only[beq_eq_false_iff_ne,ne_eq];omega
 have q5:decide ((2000:Int)<(n:Int))=false:=decide_eq_false (by omega)
 have q6:¬ (n:Int)=0:=by omega
 have q7:(r.size:Int)<8+(n:Int):=by omega
 go_enter Tryz.func159,Tryz.ntmps159
 go_wp2_with fail
 refine c1.mono ?_
 rintro e w1 ⟨rfl,rfl⟩
 go_wp2_with fail
 go_quiet (fail)
 go_wp2_with fail
 go_ret2
 exact ⟨⟨_,rfl⟩,below_drewN w nq⟩
end Go.Proofs.YtedmdilabbolaaaGreatDoor
namespace Go.Proofs.YtedmdilabbolaaaGreatDoor
open Go.ChangeShapes Go.WideShapes Go.ChangeAt Go.RowKit Go.PlainAid
set_option linter.unusedVariables false
set_option maxRecDepth 20000 in
set_option maxHeartbeats 1000000 in
theorem body_ok (s:ByteArray) (i:Nat) (w:World) (hi:i≤s.size) (hs:s.size≤1048576) (ht:SumTab w) (hcode:code (rest s i)=0) :
  Calls Tryz.prog 159 #[.string s,.int .i64 (i:Int)] w fun e w'=>e=.returned (.tuple #[.string (bodyOf (rest s i)),.nilIface])∧Below w.heap.size w w':=by
 obtain ⟨h4,h1,h2,h8,hsum⟩:=(code_zero _).1 hcode
 have hz:=rest_size s i
 have c1:=impl_readFixed (rest s i) 4 w (by unfold maxLen;omega) (by omega) (by omega) h4
 have hr:s.extract i s.size=rest s i:=rfl
 have q1:(i:Int)≤(s.size:Int):=by omega
 have q2:(s.size:Int)≤1048576:=by omega
 have q8:(rest s i).size≤1048576:=by omega
 unfold bodyOf at hsum ⊢
 clear hcode hs hz
 generalize rdv (rest s i) 4=n at *
 generalize rest s i=r at *
 have q3:(n:Int)≤2000:=by omega
 have q4:((n:Int) == 0)=false:=by simp only[beq_eq_false_iff_ne,ne_eq];omega
 have q5:decide ((2000:Int)<(n:Int))=false:=decide_eq_false (by omega)
 have q6:¬ (n:Int)=0:=by omega
 have q7:8+(n:Int)≤(r.size:Int):=by omega
 have q9:(8:Int)≤(r.size:Int):=by omega
 have HT:Hid (SumTab w):=ht
 have hm:(8+(n:Int)).toNat=8+n:=by omega
 have HB:Hid ((r.extract 0 4).size+(r.extract 8 (8+n)).size≤2097152):=by unfold Hid;rw[ByteArray.size_extract,ByteArray.size_extract];omega
 have HC:Hid ((r.extract 8 (8+n)).size≤281474976710656):=by unfold Hid;rw[ByteArray.size_extract];omega
 have HS:Hid (sumOf (r.extract 0 4) (r.extract 8 (8+n))=r.extract 4 8):=hsum
 clear ht hsum q8 h1 h2 h4
 go_enter Tryz.func159,Tryz.ntmps159
 go_wp2_with fail
 refine c1.mono ?_
 rintro e w1 ⟨rfl,rfl⟩
 go_wp2_with fail
 go_region_with (go_at_call 172;refine (impl_frameSum (r.extract 0 4) (r.extract 8 (8+n)) _ HB.out ?_).mono ?_;exact HT.out;rintro e w1 ⟨rfl,hb1⟩;rw[HS.out])
 all_goals go_wp2_with fail
 all_goals (refine (clone _ _ HC.out).mono ?_;rintro e w2 ⟨rfl,hb2⟩;go_wp2_with fail;go_ret2;exact ⟨rfl,((below_drew w).trans hb1).trans (hb2.mono hb1.size)⟩)
set_option maxRecDepth 20000 in
set_option maxHeartbeats 1000000 in
theorem body_sum (s:ByteArray) (i:Nat) (w:World) (hi:i≤s.size) (hs:s.size≤1048576) (ht:SumTab w) (a0 a1 a2:Addr) (he:Errs w a0 a1 a2) (h4:4≤(rest s i).size) (h1:1≤rdv (rest s i) 4) (h2:rdv (rest s i) 4≤2000) (h8:8+rdv (rest s i) 4≤(rest s i).size) (hsum:sumOf ((rest s i).extract 0 4) (bodyOf (rest s i))≠(rest s i).extract 4 8) :
  Calls Tryz.prog 159 #[.string s,.int .i64 (i:Int)] w fun e w'=>(∃ p,e=badBody p a2)∧Below w.heap.size w w':=by
 have hz:=rest_size s i
 have c1:=impl_readFixed (rest s i) 4 w (by unfold maxLen;omega) (by omega) (by omega) h4
 have hr:s.extract i s.size=rest s i:=rfl
 have q1:(i:Int)≤(s.size:Int):=by omega
 have q2:(s.size:Int)≤1048576:=by omega
 have q8:(rest s i).size≤1048576:=by omega
 unfold bodyOf at hsum
 have HE:Hid (Errs w a0 a1 a2):=he
 clear he hs hz
 generalize rdv (rest s i) 4=n at *
 generalize rest s i=r at *
 have q3:(n:Int)≤2000:=by omega
 have q4:((n:Int) == 0)=false:=by simp only[beq_eq_false_iff_ne,ne_eq];omega
 have q5:decide ((2000:Int)<(n:Int))=false:=decide_eq_false (by omega)
 have q6:¬ (n:Int)=0:=by omega
 have q7:8+(n:Int)≤(r.size:Int):=by omega
 have q9:(8:Int)≤(r.size:Int):=by omega
 have HT:Hid (SumTab w):=ht
 have hm:(8+(n:Int)).toNat=8+n:=by omega
 have HB:Hid ((r.extract 0 4).size+(r.extract 8 (8+n)).size≤2097152):=by unfold Hid;rw[ByteArray.size_extract,ByteArray.size_extract];omega
 have HC:Hid ((r.extract 8 (8+n)).size≤281474976710656):=by unfold Hid;rw[ByteArray.size_extract];omega
 have e1:((sumOf (r.extract 0 4) (r.extract 8 (8+n))).toList == (r.extract 4 8).toList)=false:=by
  rw[beq_eq_false_iff_ne,Lib.toList_data,Lib.toList_data]
  intro h
  exact hsum (ByteArray.ext (Array.toList_inj.1 h))
 have q10:wrap64 ((i:Int)+4)=(i:Int)+4:=by unfold wrap64;omega
 clear ht hsum q8 h1 h2 h4
 go_enter Tryz.func159,Tryz.ntmps159
 go_wp2_with fail
 refine c1.mono ?_
 rintro e w1 ⟨rfl,rfl⟩
 go_wp2_with fail
 go_region_with (go_at_call 172;refine (impl_frameSum (r.extract 0 4) (r.extract 8 (8+n)) _ HB.out ?_).mono ?_;exact HT.out;rintro e w1 ⟨rfl,hb1⟩)
 all_goals go_wp2_with fail
 have hb:Below w.heap.size w w1:=(below_drew w).trans hb1
 have hc:=(HE.out.on hb).c2
 go_quiet (fail)
 go_wp2_with fail
 go_ret2
 exact ⟨⟨_,rfl⟩,hb.trans ((below_drewN w1 nq).mono hb.size)⟩
end Go.Proofs.YtedmdilabbolaaaGreatDoor
namespace Go.Proofs.YtedmdilabbolaaaGreatDoor
open Go.ChangeShapes Go.WideShapes Go.ChangeAt Go.RowKit Go.PlainAid
set_option linter.unusedVariables false
theorem body_bad (s:ByteArray) (i:Nat) (w:World) (hi:i≤s.size) (hs:s.size≤1048576) (ht:SumTab w) (a0 a1 a2:Addr) (he:Errs w a0 a1 a2) (hcode:code (rest s i)≠0) :
  Calls Tryz.prog 159 #[.string s,.int .i64 (i:Int)] w fun e w'=>(∃ p a,e=badBody p a∧(code (rest s i)=1∧a=a0∨code (rest s i)=2∧(a=a1∨a=a2)))∧Below w.heap.size w w':=by
 by_cases h4:(rest s i).size<4
 ·refine (body_short4 s i w hi hs a0 a1 a2 he h4).mono ?_
  rintro e w' ⟨⟨p,rfl⟩,hb⟩
  exact ⟨⟨p,a0,rfl,.inl ⟨by rw[code,if_pos h4],rfl⟩⟩,hb⟩
 by_cases hl:rdv (rest s i) 4=0∨2000<rdv (rest s i) 4
 ·refine (body_len s i w hi hs a0 a1 a2 he (by omega) hl).mono ?_
  rintro e w' ⟨⟨p,rfl⟩,hb⟩
  exact ⟨⟨p,a1,rfl,.inr ⟨by rw[code,if_neg h4,if_pos hl],.inl rfl⟩⟩,hb⟩
 by_cases h8:(rest s i).size<8+rdv (rest s i) 4
 ·refine (body_short8 s i w hi hs a0 a1 a2 he (by omega) (by omega) (by omega) h8).mono ?_
  rintro e w' ⟨⟨p,rfl⟩,hb⟩
  exact ⟨⟨p,a0,rfl,.inl ⟨by rw[code,if_neg h4,if_neg hl,if_pos h8],rfl⟩⟩,hb⟩
 have hsum:sumOf ((rest s i).extract 0 4) (bodyOf (rest s i))≠(rest s i).extract 4 8:=fun h=>hcode (by rw[code,if_neg h4,if_neg hl,if_neg h8,if_pos h])
 refine (body_sum s i w hi hs ht a0 a1 a2 he (by omega) (by omega) (by omega) (by omega) hsum).mono ?_
 rintro e w' ⟨⟨p,rfl⟩,hb⟩
 exact ⟨⟨p,a2,rfl,.inr ⟨by rw[code,if_neg h4,if_neg hl,if_neg h8,if_neg hsum],.inr rfl⟩⟩,hb⟩
def unf (s:ByteArray):Array Value:=if code s=0 then #[.string (bodyOf s),.int .i64 ((8+rdv s 4:Nat):Int),.int .i64 0] else #[.string ⟨#[]⟩,.int .i64 0,.int .i64 (code s:Int)]
set_option maxHeartbeats 1000000 in
theorem impl_unframe (s:ByteArray) (w:World) (hs:s.size≤1048576) (ht:SumTab w) (a0 a1 a2:Addr) (he:Errs w a0 a1 a2) :
  Calls Tryz.prog 139 #[.string s] w fun e w'=>e=.returned (.tuple (unf s))∧Below w.heap.size w w':=by
 have HE:Hid (Errs w a0 a1 a2):=he
 by_cases hcode:code s=0
 ·have c1:=body_ok s 0 w (by omega) hs ht (by rw[rest_zero];exact hcode)
  rw[rest_zero,show ((0:Nat):Int)=0 from rfl] at c1
  obtain ⟨h4,h1,h2,h8,hsum⟩:=(code_zero _).1 hcode
  have hz:=bodyOf_size s h8
  have EU:Hid (unf s=#[.string (bodyOf s),.int .i64 ((8+rdv s 4:Nat):Int),.int .i64 0]):=by unfold Hid;rw[unf,if_pos hcode]
  have q1:((bodyOf s).size:Int)=(rdv s 4:Int):=by rw[hz]
  have q2:(rdv s 4:Int)≤2000:=by omega
  clear hcode hsum ht he h4 h1 h2 h8 hs hz
  generalize rdv s 4=n at *
  generalize bodyOf s=b at *
  go_enter Tryz.func139,Tryz.ntmps139
  go_wp2_with fail
  refine c1.mono ?_
  rintro e w1 ⟨rfl,hb1⟩
  go_wp2_with fail
  go_ret3
  exact ⟨by rw[EU.out];go_num,hb1⟩
 ·have c1:=body_bad s 0 w (by omega) hs ht a0 a1 a2 he (by rw[rest_zero];exact hcode)
  rw[rest_zero,show ((0:Nat):Int)=0 from rfl] at c1
  have EU:Hid (unf s=#[.string ⟨#[]⟩,.int .i64 0,.int .i64 (code s:Int)]):=by unfold Hid;rw[unf,if_neg hcode]
  clear ht he hs hcode
  simp only[badBody,wrapped] at c1
  generalize code s=k at *
  go_enter Tryz.func139,Tryz.ntmps139
  go_wp2_with fail
  refine c1.mono ?_
  rintro e w1 ⟨⟨p,a,rfl,ha⟩,hb1⟩
  have he1:=HE.out.on hb1
  rcases ha with ⟨rfl,rfl⟩ | ⟨rfl,ha⟩
  ·have c2:=code_short p a a1 a2 w1 he1
   simp only[wrapped] at c2
   clear he1
   go_wp2_with fail
   refine c2.mono ?_
   rintro e w2 ⟨rfl,hb2⟩
   go_wp2_with fail
   go_ret3
   exact ⟨by rw[EU.out];rfl,hb1.trans (hb2.mono hb1.size)⟩
  ·have c2:=code_bad p a a0 a1 a2 w1 he1 ha
   simp only[wrapped] at c2
   clear he1 ha
   go_wp2_with fail
   refine c2.mono ?_
   rintro e w2 ⟨rfl,hb2⟩
   go_wp2_with fail
   go_ret3
   exact ⟨by rw[EU.out];rfl,hb1.trans (hb2.mono hb1.size)⟩
set_option maxRecDepth 20000 in
set_option maxHeartbeats 1000000 in
theorem spec_unframe (s:ByteArray) (w:World) (hs:s.size≤1048576) :
  Calls Tryz.prog 116 #[.string s] w fun e w'=>e=.returned (.tuple (unf s))∧Below w.heap.size w w':=by
 by_cases h4:s.size<4
 ·have c1:=spec_readFixed_no s 4 w (by unfold maxLen;omega) (by omega)
  have EU:Hid (unf s=#[.string ⟨#[]⟩,.int .i64 0,.int .i64 1]):=by
   have:code s=1:=by rw[code,if_pos h4]
   unfold Hid;rw[unf,this];rfl
  clear hs h4
  go_enter Tryz.func116,Tryz.ntmps116
  go_wp2_with fail
  refine c1.mono ?_
  rintro e w1 ⟨rfl,rfl⟩
  go_wp2_with fail
  go_ret3
  exact ⟨by rw[EU.out];rfl,Below.refl _ _⟩
 have c1:=spec_readFixed s 4 w (by unfold maxLen;omega) (by omega) (by omega) (by omega)
 by_cases hl:rdv s 4=0∨2000<rdv s 4
 ·have EU:Hid (unf s=#[.string ⟨#[]⟩,.int .i64 0,.int .i64 2]):=by
   have:code s=2:=by rw[code,if_neg h4,if_pos hl]
   unfold Hid;rw[unf,this];rfl
  clear hs h4
  generalize rdv s 4=n at *
  rcases hl with rfl | hl
  ·go_enter Tryz.func116,Tryz.ntmps116
   go_wp2_with fail
   refine c1.mono ?_
   rintro e w1 ⟨rfl,rfl⟩
   go_wp2_with fail
   go_ret3
   exact ⟨by rw[EU.out];rfl,Below.refl _ _⟩
  ·have q3:(2000:Int)<(n:Int):=by omega
   have q4:((n:Int) == 0)=false:=by simp only[beq_eq_false_iff_ne,ne_eq];omega
   have q5:decide ((2000:Int)<(n:Int))=true:=decide_eq_true q3
   have q6:¬ (n:Int)=0:=by omega
   go_enter Tryz.func116,Tryz.ntmps116
   go_wp2_with fail
   refine c1.mono ?_
   rintro e w1 ⟨rfl,rfl⟩
   go_wp2_with fail
   go_ret3
   exact ⟨by rw[EU.out];rfl,Below.refl _ _⟩
 by_cases h8:s.size<8+rdv s 4
 ·have EU:Hid (unf s=#[.string ⟨#[]⟩,.int .i64 0,.int .i64 1]):=by
   have:code s=1:=by rw[code,if_neg h4,if_neg hl,if_pos h8]
   unfold Hid;rw[unf,this];rfl
  have q2:(s.size:Int)≤1048576:=by omega
  clear hs h4
  generalize rdv s 4=n at *
  have q3:(n:Int)≤2000:=by omega
  have q4:((n:Int) == 0)=false:=by simp only[beq_eq_false_iff_ne,ne_eq];omega
  have q5:decide ((2000:Int)<(n:Int))=false:=decide_eq_false (by omega)
  have q6:¬ (n:Int)=0:=by omega
  have q7:(s.size:Int)<8+(n:Int):=by omega
  clear hl
  go_enter Tryz.func116,Tryz.ntmps116
  go_wp2_with fail
  refine c1.mono ?_
  rintro e w1 ⟨rfl,rfl⟩
  go_wp2_with fail
  go_ret3
  exact ⟨by rw[EU.out];rfl,Below.refl _ _⟩
 have hz:=bodyOf_size s (by omega)
 have c2:=fun wx=>spec_frame (bodyOf s) wx (by omega)
 have hfit:=frame_fits s (by omega) (by omega) (by omega) (by omega)
 have hb0:s.extract 8 (8+rdv s 4)=bodyOf s:=rfl
 have q2:(s.size:Int)≤1048576:=by omega
 by_cases hsum:sumOf (s.extract 0 4) (bodyOf s)=s.extract 4 8
 ·have EU:Hid (unf s=#[.string (bodyOf s),.int .i64 ((8+rdv s 4:Nat):Int),.int .i64 0]):=by
   have:code s=0:=by rw[code,if_neg h4,if_neg hl,if_neg h8,if_pos hsum]
   unfold Hid;rw[unf,if_pos this]
  have HF:Hid (frame (bodyOf s)=s.extract 0 (8+rdv s 4)):=hfit.2 hsum
  clear hfit hsum hs h4 hz
  generalize bodyOf s=b at *
  generalize rdv s 4=n at *
  have q3:(n:Int)≤2000:=by omega
  have q4:((n:Int) == 0)=false:=by simp only[beq_eq_false_iff_ne,ne_eq];omega
  have q5:decide ((2000:Int)<(n:Int))=false:=decide_eq_false (by omega)
  have q6:¬ (n:Int)=0:=by omega
  have q7:8+(n:Int)≤(s.size:Int):=by omega
  have hm:(8+(n:Int)).toNat=8+n:=by omega
  have q8:(0:Int)≤8+(n:Int):=by omega
  have w1:IntKind.i64.wrap (8+(n:Int))=8+(n:Int):=by rw[IntKind.wrap_i64];omega
  have w2:wrap64 (8+(n:Int))=8+(n:Int):=by unfold wrap64;omega
  clear hl h8
  go_enter Tryz.func116,Tryz.ntmps116
  go_wp2_with fail
  refine c1.mono ?_
  rintro e w1 ⟨rfl,rfl⟩
  go_wp2_with fail
  go_region_with (go_at_call 130;refine (c2 _).mono ?_;rintro e w1 ⟨rfl,hb1⟩;rw[HF.out])
  all_goals go_wp2_with fail
  all_goals (go_ret3;exact ⟨by rw[EU.out];go_num,(below_drew w).trans hb1⟩)
 ·have EU:Hid (unf s=#[.string ⟨#[]⟩,.int .i64 0,.int .i64 2]):=by
   have:code s=2:=by rw[code,if_neg h4,if_neg hl,if_neg h8,if_neg hsum]
   unfold Hid;rw[unf,this];rfl
  have e1:((frame (bodyOf s)).toList == (s.extract 0 (8+rdv s 4)).toList)=false:=by
   rw[beq_eq_false_iff_ne,Lib.toList_data,Lib.toList_data]
   intro h
   exact hsum (hfit.1 (ByteArray.ext (Array.toList_inj.1 h)))
  clear hfit hsum hs h4 hz
  generalize bodyOf s=b at *
  generalize rdv s 4=n at *
  have q3:(n:Int)≤2000:=by omega
  have q4:((n:Int) == 0)=false:=by simp only[beq_eq_false_iff_ne,ne_eq];omega
  have q5:decide ((2000:Int)<(n:Int))=false:=decide_eq_false (by omega)
  have q6:¬ (n:Int)=0:=by omega
  have q7:8+(n:Int)≤(s.size:Int):=by omega
  have hm:(8+(n:Int)).toNat=8+n:=by omega
  have q8:(0:Int)≤8+(n:Int):=by omega
  have w1:IntKind.i64.wrap (8+(n:Int))=8+(n:Int):=by rw[IntKind.wrap_i64];omega
  have w2:wrap64 (8+(n:Int))=8+(n:Int):=by unfold wrap64;omega
  clear hl h8
  go_enter Tryz.func116,Tryz.ntmps116
  go_wp2_with fail
  refine c1.mono ?_
  rintro e w1 ⟨rfl,rfl⟩
  go_wp2_with fail
  go_region_with (go_at_call 130;refine (c2 _).mono ?_;rintro e w1 ⟨rfl,hb1⟩)
  all_goals go_wp2_with fail
  all_goals (go_ret3;exact ⟨by rw[EU.out];rfl,(below_drew w).trans hb1⟩)
end Go.Proofs.YtedmdilabbolaaaGreatDoor
