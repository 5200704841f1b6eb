/- BtReadVS BtReadVI BtReadTS BtReadTI BtRdA BodyAt BodyFit Unframe BkRead -/
import Derived.Test.YtedmdilabbolaaaDoorRows
import Derived.Test.YtedmdilabbolaaaDoorQc2
import Derived.Test.YtedmdilabbolaaaDoorQc3
import Derived.Test.YtedmdilabbolaaaDoorQc1
import Derived.Test.YtedmdilabbolaaaDoorQc0
import Derived.WalkKit
import Derived.ProofKit
import Derived.OpenShut
import Derived.Below
import Derived.WalkSmall
import Derived.WalkLawsBesides
import Derived.Outline
import Derived.BigQuiet
import Derived.Deep.QuietTactic
import Derived.Deep.RegionWith
import Derived.Laws.DeepStrings4
import Derived.OwnWalk
open List (setIfInBounds_toArray set_cons_zero set_cons_succ)
namespace Go.Proofs.YtedmdilabbolaaaDoor
open Go.ChangeShapes Go.WideShapes Go.ChangeAt Go.RowKit Go.PlainAid
set_option linter.unusedVariables false
set_option maxHeartbeats 400000 in
theorem spec_l7Un (z:Int) (w:World) (hn1:-9223372036854775808≤z) (hn2:z≤9223372036854775807):Calls Tryd.prog 31 #[.int .i64 z] w fun e w'=>e=.returned (.int .i64 (unz z))∧w=w':=by
 have c:=fun wx=>spec_unz z wx hn1 hn2
 generalize unz z=y at *
 generalize zok z=b at *
 go_enter Tryd.func31,Tryd.ntmps31
 go_wp2_with fail
 refine (c _).mono ?_
 rintro e w1 ⟨rfl,rfl⟩
 go_wp2_with fail
 go_ret
 exact ⟨rfl,rfl⟩
theorem rv_prv (v:List Int) (k:Nat):(if k=0 then 0 else rv v (k - 1))+unz (v.getD k 0)=rv v k:=by
 cases k with
 | zero=>rw[if_pos rfl];unfold rv;omega
 | succ k=>rw[if_neg (by omega)];rfl
set_option maxHeartbeats 2000000 in
theorem specReadValues_no (s:ByteArray) (n:Int) (w:World) (h:n<1∨60<n):Calls Tryd.prog 20 #[.string s,.int .i64 n] w fun e w'=>(∃ l k u,RdAns showV rowV s n l k∧e=.returned (.tuple #[u,.int .i64 (k:Int)])∧Nums w' w.heap.size u l)∧Below w.heap.size w w':=by
 have c:=fun wx=>in_no n 1 60 wx h
 have H:Hid (n<1∨60<n):=h
 clear h
 go_enter Tryd.func20,Tryd.ntmps20
 go_wp2_with fail
 refine (c _).mono ?_
 rintro e w1 ⟨rfl,rfl⟩
 go_wp2_with fail
 go_ret2
 exact ⟨⟨[],0,_,RdAns.none H.out,rfl,Nums.empty _ _ (Nat.le_refl _)⟩,(Below.refl _ _).alloc (Nat.le_refl _) _⟩
set_option maxHeartbeats 2000000 in
theorem specReadValues (s:ByteArray) (m:Nat) (w:World) (hs:s.size≤1048576) (h1:1≤m) (h2:m≤60):Calls Tryd.prog 20 #[.string s,.int .i64 (m:Int)] w fun e w'=>(∃ l k u,RdAns showV rowV s (m:Int) l k∧e=.returned (.tuple #[u,.int .i64 (k:Int)])∧Nums w' w.heap.size u l)∧Below w.heap.size w w':=by
 have c:=fun wx=>in_yes (m:Int) 1 60 wx (by omega) (by omega)
 have cR:=fun wx=>specReadVars s m wx hs h1 h2
 have q1:(1:Int)≤(m:Int):=by omega
 have q2:(m:Int)≤60:=by omega
 have q3:(s.size:Int)≤1048576:=by omega
 have HM:Hid (1≤m∧m≤60):=⟨h1,h2⟩
 have N0:=Nums.empty w w.heap.size (Nat.le_refl _)
 have b0:Below w.heap.size w (w.alloc (.cells #[] 3)):=(Below.refl _ _).alloc (Nat.le_refl _) _
 have z0:w.heap.size<(w.alloc (.cells #[] 3)).heap.size:=by simp
 clear hs
 go_enter Tryd.func20,Tryd.ntmps20
 go_wp2_with fail
 refine (c _).mono ?_
 rintro e w0 ⟨rfl,rfl⟩
 go_wp2_with fail
 generalize w.alloc (.cells #[] 3)=W at *
 refine (cR _).mono ?_
 rintro e w1 ⟨hR,hb1⟩
 have B1:Hid (Below w.heap.size w w1):=b0.trans (hb1.mono b0.size)
 have E1:Hid (Nums w1 w.heap.size (.slice (some ⟨w.heap.size,0,none⟩) 0 0) []):=N0.on hb1
 have Z1:Hid (w.heap.size<w1.heap.size):=Nat.lt_of_lt_of_le z0 hb1.size
 have ZW:Hid (w.heap.size≤W.heap.size):=b0.size
 clear hb1 cR c N0 b0 z0
 rcases hR with ⟨v,k,u,hR,rfl,hNv⟩ | ⟨hno,u,rfl⟩
 ·have HR:Hid (Rd s m v k):=hR
  have HNV:Hid (Nums w1 W.heap.size u v):=hNv
  obtain ⟨Av,cv,rfl,_,_⟩:=hNv.shape
  have hvl:=hR.length
  have HVL:Hid (v.length=m):=hvl
  rw[hvl] at HNV
  rw[hvl]
  have hkk:=hR.le
  have q4:(0:Int)≤(k:Int):=by omega
  have q5:(k:Int)≤(s.size:Int):=by omega
  have HK:Hid (1≤k∧k≤s.size):=⟨by omega,by omega⟩
  have N2:=Nums.empty w1 w1.heap.size (Nat.le_refl _)
  have b2:Below w1.heap.size w1 (w1.alloc (.cells #[] 3)):=(Below.refl _ _).alloc (Nat.le_refl _) _
  have ST:Hid (Nums (w1.alloc (.cells #[] 3)) w1.heap.size (.slice (some ⟨w1.heap.size,0,none⟩) 0 0) []∧Below w1.heap.size w1 (w1.alloc (.cells #[] 3))):=⟨N2,b2⟩
  clear hR hNv hvl hkk N2 b2
  go_wp2_with fail
  generalize w1.alloc (.cells #[] 3)=W2 at *
  go_loopw [9,10,11] (fun v9 v10 v11 wr=>∃ j:Nat,j≤m∧v11=.int .i64 (j:Int)∧v10=.int .i64 (if j=0 then 0 else rv v (j - 1))∧Nums wr w1.heap.size v9 (rowOf (rv v) j)∧Below w1.heap.size w1 wr) (fun _ _ i _=>m - (intOf i).toNat)
  case atStart=>exact ⟨0,by omega,rfl,rfl,ST.out.1,ST.out.2⟩
  case round =>
   obtain ⟨j,hj,rfl,rfl,hN,hb⟩:=hrel
   have HB:Hid (Below w1.heap.size w1 wr):=hb
   have HN:Hid (Nums wr w1.heap.size _ (rowOf (rv v) j)):=hN
   obtain ⟨A9,c9,rfl,_,_⟩:=hN.shape
   rw[rowOf_length] at HN
   rw[rowOf_length]
   clear hN
   by_cases hlt:j<m
   ·have q6:(j:Int)<(m:Int):=by omega
    have hNv:=HNV.out.on hb
    obtain ⟨gv,rfl,_,_⟩:=hNv.block (by rw[HVL.out];omega)
    have e1:=hNv.cell j (by rw[HVL.out];exact hlt)
    have hbd:=HR.out.boundD j
    have cU:=fun wx=>spec_l7Un (v.getD j 0) wx (by omega) (by omega)
    have er:=rv_prv v j
    have hub:=unz_range (v.getD j 0)
    have hrb:=rv_bound v j
    have HRV:Hid (rowOf (rv v) (j+1)=rowOf (rv v) j++[rv v j]):=rowOf_succ _ _
    have HNX:Hid ((if j+1=0 then 0 else rv v (j+1 - 1))=rv v j):=by unfold Hid;rw[if_neg (by omega),Nat.add_sub_cancel]
    have HLJ:Hid ((rowOf (rv v) j).length≤2097152):=by unfold Hid;rw[rowOf_length];omega
    have HZR:Hid (w1.heap.size≤wr.heap.size):=hb.size
    generalize unz (v.getD j 0)=uu at *
    generalize v.getD j 0=x at *
    generalize (if j=0 then 0 else rv v (j - 1))=la at *
    have g1:wrap64 (la+uu)=rv v j:=by unfold wrap64;omega
    have er2:la+uu=rv v j:=er
    clear hNv hb er hbd
    by_cases hin:rv v j < -1099511627776∨1099511627776<rv v j
    ·have cI:=fun wx=>in_no (rv v j) (-1099511627776) 1099511627776 wx hin
     have HANS:Hid (RdAns showV rowV s (m:Int) [] 0):=RdAns.other HR.out (by rw[showV_out v j (by rw[HVL.out];exact hlt) hin];exact extract_ne s k HK.out.1 HK.out.2)
     have E3:Hid (Nums wr w.heap.size (.slice (some ⟨w.heap.size,0,none⟩) 0 0) []):=E1.out.under (Nat.le_refl _) HB.out
     have B3:Hid (Below w.heap.size w wr):=B1.out.trans (HB.out.mono (Nat.le_of_lt Z1.out))
     clear hin
     generalize rv v j=rj at *
     go_wp2_with fail
     refine (cU _).mono ?_
     rintro e w3 ⟨rfl,rfl⟩
     go_wp2_with fail
     refine (cI _).mono ?_
     rintro e w3 ⟨rfl,rfl⟩
     go_wp2_with fail
     go_ret2
     exact ⟨⟨[],0,_,HANS.out,rfl,E3.out⟩,B3.out⟩
    ·have cI:=fun wx=>in_yes (rv v j) (-1099511627776) 1099511627776 wx (by omega) (by omega)
     clear hin
     generalize rv v j=rj at *
     go_wp2_with fail
     refine (cU _).mono ?_
     rintro e w3 ⟨rfl,rfl⟩
     go_wp2_with fail
     refine (cI _).mono ?_
     rintro e w3 ⟨rfl,rfl⟩
     go_wp2_with (at_builtin;refine wpList_append_num rfl (.tmp 43) (.tmp 45) 41 rfl Tryd.underlying41 Tryd.infoInt w1.heap.size _ (rowOf (rv v) j) rfl HN.out rj rfl HLJ.out HZR.out ?_;intro v' w4 hN4 hb4 hk4)
     go_roundw
     case rel=>exact ⟨j+1,by omega,by go_num,by rw[HNX.out],by rw[HRV.out];exact hN4,HB.out.trans hb4⟩
     case measure=>simp[intOf];omega
   ·obtain rfl:j=m:=by omega
    have HROW:Hid (rowOf (rv v) j=rowV v):=by unfold Hid rowV;rw[HVL.out]
    have HN9:Hid (Nums wr w1.heap.size (.slice A9 j c9) (rowV v)):=by unfold Hid;rw[← HROW.out];exact HN.out
    have cS:=fun wx hx=>specShowValues (rowV v) (.slice A9 j c9) wx wx.heap.size hx (by rw[rowV_length,HVL.out];have:=HM.out;omega) (Nat.le_refl _)
    have B3:Hid (Below w.heap.size w wr):=B1.out.trans (HB.out.mono (Nat.le_of_lt Z1.out))
    have E3:Hid (Nums wr w.heap.size (.slice (some ⟨w.heap.size,0,none⟩) 0 0) []):=E1.out.under (Nat.le_refl _) HB.out
    clear hb
    by_cases heq:showV (rowV v)=s.extract 0 k
    ·have HANS:Hid (RdAns showV rowV s (j:Int) (rowV v) k):=RdAns.yes HM.out.1 HM.out.2 HR.out heq
     have hq:=bytes_eq heq
     clear heq
     generalize showV (rowV v)=sv at *
     go_wp2_with fail
     go_region_held3 (fun _=>True) (exact True.intro) ((go_at_call 33;refine (cS wr.drew ((HN9.out.heap rfl).lies)).mono ?_;rintro e w5 ⟨rfl,hb5⟩))
     all_goals
      have B5:Hid (Below w.heap.size w w5):=B3.out.drew.trans (hb5.mono B3.out.size)
      have N5:Hid (Nums w5 w1.heap.size (.slice A9 j c9) (rowV v)):=(HN9.out.heap (w':=wr.drew) rfl).on hb5
      clear hb5
      go_wp2_with fail
      go_ret2
      exact ⟨⟨_,k,_,HANS.out,rfl,N5.out.mono (Nat.le_of_lt Z1.out)⟩,B5.out⟩
    ·have HANS:Hid (RdAns showV rowV s (j:Int) [] 0):=RdAns.other HR.out heq
     have hq:=bytes_ne heq
     clear heq
     generalize showV (rowV v)=sv at *
     go_wp2_with fail
     go_region_held3 (fun _=>True) (exact True.intro) ((go_at_call 33;refine (cS wr.drew ((HN9.out.heap rfl).lies)).mono ?_;rintro e w5 ⟨rfl,hb5⟩))
     all_goals
      have B5:Hid (Below w.heap.size w w5):=B3.out.drew.trans (hb5.mono B3.out.size)
      have E5:Hid (Nums w5 w.heap.size (.slice (some ⟨w.heap.size,0,none⟩) 0 0) []):=(E3.out.heap (w':=wr.drew) rfl).on hb5
      clear hb5
      go_wp2_with fail
      go_ret2
      exact ⟨⟨[],0,_,HANS.out,rfl,E5.out⟩,B5.out⟩
 ·have HANS:Hid (RdAns showV rowV s (m:Int) [] 0):=RdAns.few hno
  clear hno
  go_wp2_with fail
  go_ret2
  exact ⟨⟨[],0,_,HANS.out,rfl,E1.out⟩,B1.out⟩
end Go.Proofs.YtedmdilabbolaaaDoor
namespace Go.Proofs.YtedmdilabbolaaaDoor
open Go.ChangeShapes Go.WideShapes Go.ChangeAt Go.RowKit Go.PlainAid
set_option linter.unusedVariables false
set_option maxHeartbeats 2000000 in
theorem implReadValues_no (s:ByteArray) (n:Int) (w:World) (h:n<1∨60<n):Calls Tryd.prog 24 #[.string s,.int .i64 n] w fun e w'=>(∃ l k u,RdAns showV rowV s n l k∧e=.returned (.tuple #[u,.int .i64 (k:Int)])∧Nums w' w.heap.size u l)∧Below w.heap.size w w':=by
 have c:=fun wx=>implReadVars_no s n wx h
 have H:Hid (n<1∨60<n):=h
 clear h
 go_enter Tryd.func24,Tryd.ntmps24
 go_wp2_with fail
 refine (c _).mono ?_
 rintro e w1 ⟨rfl,rfl⟩
 go_wp2_with fail
 go_ret2
 exact ⟨⟨[],0,_,RdAns.none H.out,rfl,Nums.nil _ _⟩,Below.refl _ _⟩
set_option maxHeartbeats 2000000 in
theorem implReadValues (s:ByteArray) (m:Nat) (w:World) (hs:s.size≤1048576) (h1:1≤m) (h2:m≤60):Calls Tryd.prog 24 #[.string s,.int .i64 (m:Int)] w fun e w'=>(∃ l k u,RdAns showV rowV s (m:Int) l k∧e=.returned (.tuple #[u,.int .i64 (k:Int)])∧Nums w' w.heap.size u l)∧Below w.heap.size w w':=by
 have cR:=fun wx=>implReadVars s m wx hs h1 h2
 have q1:(1:Int)≤(m:Int):=by omega
 have q2:(m:Int)≤60:=by omega
 have q3:(s.size:Int)≤1048576:=by omega
 have HM:Hid (1≤m∧m≤60):=⟨h1,h2⟩
 clear hs
 go_enter Tryd.func24,Tryd.ntmps24
 go_wp2_with fail
 refine (cR _).mono ?_
 rintro e w1 ⟨hR,hb1⟩
 have B1:Hid (Below w.heap.size w w1):=hb1
 clear hb1 cR
 rcases hR with ⟨v,k,u,hR,rfl,hNv⟩ | ⟨hno,rfl⟩
 ·have HR:Hid (Rd s m v k):=hR
  have hvl:=hR.length
  obtain ⟨Av,cv,rfl,_,_⟩:=hNv.shape
  obtain ⟨gv,rfl,hgv,_⟩:=hNv.block (by omega)
  have HVL:Hid (v.length=m):=hvl
  rw[hvl] at hNv
  rw[hvl]
  have HNV:Hid (Nums w1 w.heap.size (.slice (some ⟨gv,0,none⟩) m cv) v):=hNv
  have HGV:Hid (w.heap.size≤gv):=hgv
  have hkk:=hR.le
  have q4:(0:Int)≤(k:Int):=by omega
  have q5:(k:Int)≤(s.size:Int):=by omega
  have q6:¬ (k:Int)=0:=by omega
  have q7:¬ k=0:=by omega
  have HK:Hid (1≤k∧k≤s.size):=⟨by omega,by omega⟩
  have HBD:Hid (∀ j,-9223372036854775808≤v.getD j 0∧v.getD j 0≤9223372036854775807):=fun j=>by have:=hR.boundD j;omega
  clear hR hNv hvl hkk hgv
  go_wp2_with fail
  refine (unzigAllV 0 m v gv cv w.heap.size m (some ⟨gv,0,none⟩) cv w1 HNV.out (by rw[HVL.out];omega) (fun _=>rfl) (by have:=HM.out;omega) HGV.out HBD.out).mono ?_
  rintro e w2 ⟨⟨u2,rfl⟩,hN2,hb2⟩
  have B2:Hid (Below w.heap.size w w2):=B1.out.trans hb2
  have N2:Hid (Nums w2 w.heap.size (.slice (some ⟨gv,0,none⟩) m cv) (rowOf (uzF 0 v) v.length)):=hN2
  clear hb2 hN2
  go_wp2_with fail
  refine (addUpV 0 m (rowOf (uzF 0 v) v.length) gv cv w.heap.size m (some ⟨gv,0,none⟩) cv w2 N2.out (by rw[rowOf_length,HVL.out];omega) (fun _=>rfl) (by have:=HM.out;omega) HGV.out ?_).mono ?_
  ·intro j hj
   rw[rowOf_length] at hj
   have h:(rowOf (auF 0 (rowOf (uzF 0 v) v.length)) v.length).getD j 0=(rowV v).getD j 0:=by rw[rowV_made]
   rw[rowOf_get _ _ _ hj,rowV,rowOf_get _ _ _ hj] at h
   rw[h]
   have:=rv_bound v j
   have:=HM.out
   have:=HVL.out
   omega
  rintro e w3 ⟨⟨u3,rfl⟩,hN3,hb3⟩
  have B3:Hid (Below w.heap.size w w3):=B2.out.trans hb3
  have N3:Hid (Nums w3 w.heap.size (.slice (some ⟨gv,0,none⟩) m cv) (rowV v)):=by
   rw[rowOf_length,rowV_made] at hN3
   exact hN3
  have cS:=fun wx hx=>implShowValues (rowV v) (.slice (some ⟨gv,0,none⟩) m cv) wx wx.heap.size hx (by rw[rowV_length,HVL.out];have:=HM.out;omega) (Nat.le_refl _)
  clear hb3 hN3
  by_cases heq:showV (rowV v)=s.extract 0 k
  ·have HANS:Hid (RdAns showV rowV s (m:Int) (rowV v) k):=RdAns.yes HM.out.1 HM.out.2 HR.out heq
   have hq:=bytes_eq heq
   clear heq
   generalize showV (rowV v)=sv at *
   go_wp2_with fail
   go_region_held3 (fun _=>True) (exact True.intro) ((go_at_call 40;refine (cS w3.drew ((N3.out.heap rfl).lies)).mono ?_;rintro e w5 ⟨rfl,hb5⟩))
   all_goals
    have B5:Hid (Below w.heap.size w w5):=B3.out.drew.trans (hb5.mono B3.out.size)
    have N5:Hid (Nums w5 w.heap.size (.slice (some ⟨gv,0,none⟩) m cv) (rowV v)):=(N3.out.heap (w':=w3.drew) rfl).on hb5
    clear hb5
    go_wp2_with fail
    go_ret2
    exact ⟨⟨_,k,_,HANS.out,rfl,N5.out⟩,B5.out⟩
  ·have HANS:Hid (RdAns showV rowV s (m:Int) [] 0):=RdAns.other HR.out heq
   have hq:=bytes_ne heq
   clear heq
   generalize showV (rowV v)=sv at *
   go_wp2_with fail
   go_region_held3 (fun _=>True) (exact True.intro) ((go_at_call 40;refine (cS w3.drew ((N3.out.heap rfl).lies)).mono ?_;rintro e w5 ⟨rfl,hb5⟩))
   all_goals
    have B5:Hid (Below w.heap.size w w5):=B3.out.drew.trans (hb5.mono B3.out.size)
    clear hb5
    go_wp2_with fail
    go_ret2
    exact ⟨⟨[],0,_,HANS.out,rfl,Nums.nil _ _⟩,B5.out⟩
 ·have HANS:Hid (RdAns showV rowV s (m:Int) [] 0):=RdAns.few hno
  clear hno
  go_wp2_with fail
  go_ret2
  exact ⟨⟨[],0,_,HANS.out,rfl,Nums.nil _ _⟩,B1.out⟩
end Go.Proofs.YtedmdilabbolaaaDoor
namespace Go.Proofs.YtedmdilabbolaaaDoor
open Go.ChangeShapes Go.WideShapes Go.ChangeAt Go.RowKit Go.PlainAid
set_option linter.unusedVariables false
theorem rt_step (v:List Int) (j:Nat) (h:2≤j):rt v (j - 1) - rt v (j - 2)+unz (v.getD j 0)=gp v j:=by
 obtain ⟨i,rfl⟩:∃ i,j=i+2:=⟨j - 2,by omega⟩
 have e1:rt v (i+1)=rt v i+gp v (i+1):=rfl
 have e2:gp v (i+2)=gp v (i+1)+unz (v.getD (i+2) 0):=by
  conv=>lhs;unfold gp
  rw[if_neg (by omega)]
 rw[show i+2 - 1=i+1 by omega,show i+2 - 2=i by omega]
 omega
theorem rt_next (v:List Int) (j:Nat) (h:1≤j):rt v (j - 1)+gp v j=rt v j:=by
 obtain ⟨i,rfl⟩:∃ i,j=i+1:=⟨j - 1,by omega⟩
 rfl
theorem gp_one (v:List Int):gp v 1=v.getD 1 0:=by simp[gp]
set_option maxHeartbeats 2000000 in
theorem specReadTimes_no (s:ByteArray) (n:Int) (w:World) (h:n<1∨60<n):Calls Tryd.prog 19 #[.string s,.int .i64 n] w fun e w'=>(∃ l k u,RdAns showT rowT s n l k∧e=.returned (.tuple #[u,.int .i64 (k:Int)])∧Nums w' w.heap.size u l)∧Below w.heap.size w w':=by
 have c:=fun wx=>in_no n 1 60 wx h
 have H:Hid (n<1∨60<n):=h
 clear h
 go_enter Tryd.func19,Tryd.ntmps19
 go_wp2_with fail
 refine (c _).mono ?_
 rintro e w1 ⟨rfl,rfl⟩
 go_wp2_with fail
 go_ret2
 exact ⟨⟨[],0,_,RdAns.none H.out,rfl,Nums.empty _ _ (Nat.le_refl _)⟩,(Below.refl _ _).alloc (Nat.le_refl _) _⟩
set_option maxHeartbeats 2000000 in
theorem specReadTimes (s:ByteArray) (m:Nat) (w:World) (hs:s.size≤1048576) (h1:1≤m) (h2:m≤60):Calls Tryd.prog 19 #[.string s,.int .i64 (m:Int)] w fun e w'=>(∃ l k u,RdAns showT rowT s (m:Int) l k∧e=.returned (.tuple #[u,.int .i64 (k:Int)])∧Nums w' w.heap.size u l)∧Below w.heap.size w w':=by
 have c:=fun wx=>in_yes (m:Int) 1 60 wx (by omega) (by omega)
 have cR:=fun wx=>specReadVars s m wx hs h1 h2
 have q1:(1:Int)≤(m:Int):=by omega
 have q2:(m:Int)≤60:=by omega
 have q3:(s.size:Int)≤1048576:=by omega
 have HM:Hid (1≤m∧m≤60):=⟨h1,h2⟩
 have N0:=Nums.empty w w.heap.size (Nat.le_refl _)
 have b0:Below w.heap.size w (w.alloc (.cells #[] 3)):=(Below.refl _ _).alloc (Nat.le_refl _) _
 have z0:w.heap.size<(w.alloc (.cells #[] 3)).heap.size:=by simp
 clear hs
 go_enter Tryd.func19,Tryd.ntmps19
 go_wp2_with fail
 refine (c _).mono ?_
 rintro e w0 ⟨rfl,rfl⟩
 go_wp2_with fail
 generalize w.alloc (.cells #[] 3)=W at *
 refine (cR _).mono ?_
 rintro e w1 ⟨hR,hb1⟩
 have B1:Hid (Below w.heap.size w w1):=b0.trans (hb1.mono b0.size)
 have E1:Hid (Nums w1 w.heap.size (.slice (some ⟨w.heap.size,0,none⟩) 0 0) []):=N0.on hb1
 have Z1:Hid (w.heap.size<w1.heap.size):=Nat.lt_of_lt_of_le z0 hb1.size
 have ZW:Hid (w.heap.size≤W.heap.size):=b0.size
 clear hb1 cR c N0 b0 z0
 rcases hR with ⟨v,k,u,hR,rfl,hNv⟩ | ⟨hno,u,rfl⟩
 ·have HR:Hid (Rd s m v k):=hR
  have HNV:Hid (Nums w1 W.heap.size u v):=hNv
  obtain ⟨Av,cv,rfl,_,_⟩:=hNv.shape
  have hvl:=hR.length
  have HVL:Hid (v.length=m):=hvl
  rw[hvl] at HNV
  rw[hvl]
  have hkk:=hR.le
  have q4:(0:Int)≤(k:Int):=by omega
  have q5:(k:Int)≤(s.size:Int):=by omega
  have HK:Hid (1≤k∧k≤s.size):=⟨by omega,by omega⟩
  have hq1:0<v.length:=by omega
  obtain ⟨gv,rfl,hgv,_⟩:=HNV.out.block hq1
  have hv0:=HNV.out.cell 0 hq1
  have N2:=Nums.one w1 w1.heap.size (v.getD 0 0) (Nat.le_refl _)
  have b2:Below w1.heap.size w1 (w1.alloc (.cells #[.int .i64 (v.getD 0 0)] 3)):=(Below.refl _ _).alloc (Nat.le_refl _) _
  have ST:Hid (Nums (w1.alloc (.cells #[.int .i64 (v.getD 0 0)] 3)) w1.heap.size (.slice (some ⟨w1.heap.size,0,none⟩) 1 1) (rowOf (rt v) 1)∧Below w1.heap.size w1 (w1.alloc (.cells #[.int .i64 (v.getD 0 0)] 3))):=⟨N2,b2⟩
  clear hR hNv hvl hkk N2 b2 hgv
  generalize v.getD 0 0=x0 at *
  go_wp2_with fail
  generalize w1.alloc (.cells #[.int .i64 x0] 3)=W2 at *
  go_loopw [9,10] (fun v9 v10 wr=>∃ j:Nat,1≤j∧j≤m∧v10=.int .i64 (j:Int)∧Nums wr w1.heap.size v9 (rowOf (rt v) j)∧Below w1.heap.size w1 wr∧Hid (∀ i,1≤i→i<j→0≤rt v i∧rt v i≤1099511627776)) (fun _ i _=>m - (intOf i).toNat)
  case atStart=>exact ⟨1,by omega,by omega,rfl,ST.out.1,ST.out.2,fun i h1 h2=>by omega⟩
  case round =>
   obtain ⟨j,hj1,hj,rfl,hN,hb,HIN⟩:=hrel
   have HB:Hid (Below w1.heap.size w1 wr):=hb
   have HN:Hid (Nums wr w1.heap.size _ (rowOf (rt v) j)):=hN
   obtain ⟨A9,c9,rfl,_,_⟩:=hN.shape
   rw[rowOf_length] at HN
   rw[rowOf_length]
   clear hN
   by_cases hlt:j<m
   ·have q6:(j:Int)<(m:Int):=by omega
    have q61:(1:Int)≤(j:Int):=by omega
    have hNv:=HNV.out.on hb
    have e1:=hNv.cell j (by rw[HVL.out];exact hlt)
    obtain ⟨g9,rfl,_,_⟩:=HN.out.block (by rw[rowOf_length];omega)
    have f1:=HN.out.cell (j - 1) (by rw[rowOf_length];omega)
    rw[rowOf_get _ _ _ (show j - 1<j by omega)] at f1
    have hbd:=HR.out.boundD j
    have hbd0:=HR.out.boundD 0
    have hub:=unz_range (v.getD j 0)
    have hr1:=rt_bound v HR.out.boundD j (by have:=HM.out;omega)
    have hr2:=rt_bound v HR.out.boundD (j - 1) (by have:=HM.out;omega)
    have hgb:=gp_bound v HR.out.boundD j
    have en:=rt_next v j hj1
    have HRV:Hid (rowOf (rt v) (j+1)=rowOf (rt v) j++[rt v j]):=rowOf_succ _ _
    have HLJ:Hid ((rowOf (rt v) j).length≤2097152):=by unfold Hid;rw[rowOf_length];omega
    have HZR:Hid (w1.heap.size≤wr.heap.size):=hb.size
    have t1:((j:Int) - 1).toNat=j - 1:=by omega
    have g1:IntKind.i64.wrap ((j:Int) - 1)=(j:Int) - 1:=by rw[IntKind.wrap_i64];omega
    have g3:(0:Int)≤(j:Int) - 1:=by omega
    have g4:(j:Int) - 1<(j:Int):=by omega
    have gn:wrap64 (rt v (j - 1)+gp v j)=rt v j:=by unfold wrap64;omega
    have gn2:IntKind.i64.wrap (rt v (j - 1)+gp v j)=rt v j:=by rw[IntKind.wrap_i64];omega
    have E3:Hid (Nums wr w.heap.size (.slice (some ⟨w.heap.size,0,none⟩) 0 0) []):=E1.out.under (Nat.le_refl _) HB.out
    have B3:Hid (Below w.heap.size w wr):=B1.out.trans (HB.out.mono (Nat.le_of_lt Z1.out))
    have HNO:Hid ((rt v j<0∨1099511627776<rt v j)→RdAns showT rowT s (m:Int) [] 0):=fun hin=>RdAns.other HR.out (by rw[showT_out v j (by rw[HVL.out];exact hlt) hin];exact extract_ne s k HK.out.1 HK.out.2)
    by_cases hj2:j=1
    ·have ed:gp v j=v.getD j 0:=by rw[hj2];exact gp_one v
     have HJ:Hid (j=1):=hj2
     rw[← ed] at e1
     have d0:decide ((1:Int)<(j:Int))=false:=decide_eq_false (by omega)
     have d1:decide (1<j)=false:=decide_eq_false (by omega)
     clear hNv hb hj2 ed hbd hbd0 hub hj1 q61 en
     generalize gp v j=gj at *
     by_cases hin:rt v j<0∨1099511627776<rt v j
     ·have cI:=fun wx=>in_no (rt v j) 0 1099511627776 wx hin
      have HANS:Hid (RdAns showT rowT s (m:Int) [] 0):=HNO.out hin
      clear hin
      generalize rt v j=rj at *
      generalize rt v (j - 1)=rp at *
      go_wp2_with fail
      refine (cI _).mono ?_
      rintro e w3 ⟨rfl,rfl⟩
      go_wp2_with fail
      go_ret2
      exact ⟨⟨[],0,_,HANS.out,rfl,E3.out⟩,B3.out⟩
     ·have cI:=fun wx=>in_yes (rt v j) 0 1099511627776 wx (by omega) (by omega)
      have HIJ:Hid (0≤rt v j∧rt v j≤1099511627776):=⟨by omega,by omega⟩
      clear hin
      have HIJ2:Hid (∀ i,1≤i→i<j+1→0≤rt v i∧rt v i≤1099511627776):=fun i h1 h2=>by
       by_cases e:i=j
       ·subst e;exact HIJ.out
       ·exact HIN.out i h1 (by omega)
      generalize rt v j=rj at *
      generalize rt v (j - 1)=rp at *
      go_wp2_with fail
      refine (cI _).mono ?_
      rintro e w3 ⟨rfl,rfl⟩
      go_wp2_with (at_builtin;refine wpList_append_num rfl (.tmp 70) (.tmp 72) 41 rfl Tryd.underlying41 Tryd.infoInt w1.heap.size _ (rowOf (rt v) j) rfl HN.out rj rfl HLJ.out HZR.out ?_;intro v' w4 hN4 hb4 hk4)
      go_roundw
      case rel=>exact ⟨j+1,by omega,by omega,by go_num,by rw[HRV.out];exact hN4,HB.out.trans hb4,HIJ2⟩
      case measure=>simp[intOf];omega
    ·have f2:=HN.out.cell (j - 2) (by rw[rowOf_length];omega)
     rw[rowOf_get _ _ _ (show j - 2<j by omega)] at f2
     have hr3:=rt_bound v HR.out.boundD (j - 2) (by have:=HM.out;omega)
     have es:=rt_step v j (by omega)
     have cU:=fun wx=>spec_l7Un (v.getD j 0) wx (by omega) (by omega)
     have t2:((j:Int) - 2).toNat=j - 2:=by omega
     have g5:IntKind.i64.wrap ((j:Int) - 2)=(j:Int) - 2:=by rw[IntKind.wrap_i64];omega
     have g6:(0:Int)≤(j:Int) - 2:=by omega
     have g7:(j:Int) - 2<(j:Int):=by omega
     have q62:(2:Int)≤(j:Int):=by omega
     have d0:(1:Int)<(j:Int):=by omega
     have d1:1<j:=by omega
     have gs:IntKind.i64.wrap (rt v (j - 1) - rt v (j - 2))=rt v (j - 1) - rt v (j - 2):=by rw[IntKind.wrap_i64];omega
     have gs2:wrap64 (rt v (j - 1) - rt v (j - 2))=rt v (j - 1) - rt v (j - 2):=by unfold wrap64;omega
     have gt:IntKind.i64.wrap (rt v (j - 1) - rt v (j - 2)+unz (v.getD j 0))=gp v j:=by rw[IntKind.wrap_i64];omega
     have gt2:wrap64 (rt v (j - 1) - rt v (j - 2)+unz (v.getD j 0))=gp v j:=by unfold wrap64;omega
     clear hNv hb hj2 hbd hbd0 hub en es hj1
     generalize gp v j=gj at *
     generalize unz (v.getD j 0)=uu at *
     generalize v.getD j 0=x at *
     by_cases hin:rt v j<0∨1099511627776<rt v j
     ·have cI:=fun wx=>in_no (rt v j) 0 1099511627776 wx hin
      have HANS:Hid (RdAns showT rowT s (m:Int) [] 0):=HNO.out hin
      clear hin
      generalize rt v j=rj at *
      generalize rt v (j - 1)=rp at *
      generalize rt v (j - 2)=rq at *
      go_wp2_with fail
      go_quiet ((go_at_call 31;exact Calls.quiet_of_same ((cU _).mono fun _ _ h=>⟨h.1,h.2.symm⟩)))
      go_wp2_with fail
      refine (cI _).mono ?_
      rintro e w3 ⟨rfl,rfl⟩
      go_wp2_with fail
      go_ret2
      exact ⟨⟨[],0,_,HANS.out,rfl,E3.out.heap rfl⟩,B3.out.trans (((Like.refl wr).drewN _).below.mono B3.out.size)⟩
     ·have cI:=fun wx=>in_yes (rt v j) 0 1099511627776 wx (by omega) (by omega)
      have HIJ:Hid (0≤rt v j∧rt v j≤1099511627776):=⟨by omega,by omega⟩
      clear hin
      have HIJ2:Hid (∀ i,1≤i→i<j+1→0≤rt v i∧rt v i≤1099511627776):=fun i h1 h2=>by
       by_cases e:i=j
       ·subst e;exact HIJ.out
       ·exact HIN.out i h1 (by omega)
      generalize rt v j=rj at *
      generalize rt v (j - 1)=rp at *
      generalize rt v (j - 2)=rq at *
      go_wp2_with fail
      go_quiet ((go_at_call 31;exact Calls.quiet_of_same ((cU _).mono fun _ _ h=>⟨h.1,h.2.symm⟩)))
      go_wp2_with fail
      refine (cI _).mono ?_
      rintro e w3 ⟨rfl,rfl⟩
      go_wp2_with (at_builtin;refine wpList_append_num rfl (.tmp 70) (.tmp 72) 41 rfl Tryd.underlying41 Tryd.infoInt w1.heap.size _ (rowOf (rt v) j) rfl (HN.out.heap rfl) rj rfl HLJ.out HZR.out ?_;intro v' w4 hN4 hb4 hk4)
      go_roundw
      case rel=>exact ⟨j+1,by omega,by omega,by go_num,by rw[HRV.out];exact hN4,(HB.out.trans (((Like.refl wr).drewN _).below.mono HB.out.size)).trans hb4,HIJ2⟩
      case measure=>simp[intOf];omega
   ·obtain rfl:j=m:=by omega
    have HROW:Hid (rowOf (rt v) j=rowT v):=by unfold Hid rowT;rw[HVL.out]
    have HN9:Hid (Nums wr w1.heap.size (.slice A9 j c9) (rowT v)):=by unfold Hid;rw[← HROW.out];exact HN.out
    have cS:=fun wx hx=>specShowTimes (rowT v) (.slice A9 j c9) wx wx.heap.size hx (by rw[rowT_length,HVL.out];have:=HM.out;omega) (Nat.le_refl _)
    have B3:Hid (Below w.heap.size w wr):=B1.out.trans (HB.out.mono (Nat.le_of_lt Z1.out))
    have E3:Hid (Nums wr w.heap.size (.slice (some ⟨w.heap.size,0,none⟩) 0 0) []):=E1.out.under (Nat.le_refl _) HB.out
    clear hb
    by_cases heq:showT (rowT v)=s.extract 0 k
    ·have HANS:Hid (RdAns showT rowT s (j:Int) (rowT v) k):=RdAns.yes HM.out.1 HM.out.2 HR.out heq
     have hq:=bytes_eq heq
     clear heq
     generalize showT (rowT v)=sv at *
     go_wp2_with fail
     go_region_held3 (fun _=>True) (exact True.intro) ((go_at_call 32;refine (cS wr.drew ((HN9.out.heap rfl).lies)).mono ?_;rintro e w5 ⟨rfl,hb5⟩))
     all_goals
      have B5:Hid (Below w.heap.size w w5):=B3.out.drew.trans (hb5.mono B3.out.size)
      have N5:Hid (Nums w5 w1.heap.size (.slice A9 j c9) (rowT v)):=(HN9.out.heap (w':=wr.drew) rfl).on hb5
      clear hb5
      go_wp2_with fail
      go_ret2
      exact ⟨⟨_,k,_,HANS.out,rfl,N5.out.mono (Nat.le_of_lt Z1.out)⟩,B5.out⟩
    ·have HANS:Hid (RdAns showT rowT s (j:Int) [] 0):=RdAns.other HR.out heq
     have hq:=bytes_ne heq
     clear heq
     generalize showT (rowT v)=sv at *
     go_wp2_with fail
     go_region_held3 (fun _=>True) (exact True.intro) ((go_at_call 32;refine (cS wr.drew ((HN9.out.heap rfl).lies)).mono ?_;rintro e w5 ⟨rfl,hb5⟩))
     all_goals
      have B5:Hid (Below w.heap.size w w5):=B3.out.drew.trans (hb5.mono B3.out.size)
      have E5:Hid (Nums w5 w.heap.size (.slice (some ⟨w.heap.size,0,none⟩) 0 0) []):=(E3.out.heap (w':=wr.drew) rfl).on hb5
      clear hb5
      go_wp2_with fail
      go_ret2
      exact ⟨⟨[],0,_,HANS.out,rfl,E5.out⟩,B5.out⟩
 ·have HANS:Hid (RdAns showT rowT s (m:Int) [] 0):=RdAns.few hno
  clear hno
  go_wp2_with fail
  go_ret2
  exact ⟨⟨[],0,_,HANS.out,rfl,E1.out⟩,B1.out⟩
end Go.Proofs.YtedmdilabbolaaaDoor
namespace Go.Proofs.YtedmdilabbolaaaDoor
open Go.ChangeShapes Go.WideShapes Go.ChangeAt Go.RowKit Go.PlainAid
set_option linter.unusedVariables false
set_option maxHeartbeats 2000000 in
theorem implReadTimes_no (s:ByteArray) (n:Int) (w:World) (h:n<1∨60<n):Calls Tryd.prog 23 #[.string s,.int .i64 n] w fun e w'=>(∃ l k u,RdAns showT rowT s n l k∧e=.returned (.tuple #[u,.int .i64 (k:Int)])∧Nums w' w.heap.size u l)∧Below w.heap.size w w':=by
 have c:=fun wx=>implReadVars_no s n wx h
 have H:Hid (n<1∨60<n):=h
 clear h
 go_enter Tryd.func23,Tryd.ntmps23
 go_wp2_with fail
 refine (c _).mono ?_
 rintro e w1 ⟨rfl,rfl⟩
 go_wp2_with fail
 go_ret2
 exact ⟨⟨[],0,_,RdAns.none H.out,rfl,Nums.nil _ _⟩,Below.refl _ _⟩
set_option maxHeartbeats 8000000 in
theorem implReadTimes (s:ByteArray) (m:Nat) (w:World) (hs:s.size≤1048576) (h1:1≤m) (h2:m≤60):Calls Tryd.prog 23 #[.string s,.int .i64 (m:Int)] w fun e w'=>(∃ l k u,RdAns showT rowT s (m:Int) l k∧e=.returned (.tuple #[u,.int .i64 (k:Int)])∧Nums w' w.heap.size u l)∧Below w.heap.size w w':=by
 have cR:=fun wx=>implReadVars s m wx hs h1 h2
 have q1:(1:Int)≤(m:Int):=by omega
 have q2:(m:Int)≤60:=by omega
 have q3:(s.size:Int)≤1048576:=by omega
 have HM:Hid (1≤m∧m≤60):=⟨h1,h2⟩
 clear hs
 go_enter Tryd.func23,Tryd.ntmps23
 go_wp2_with fail
 refine (cR _).mono ?_
 rintro e w1 ⟨hR,hb1⟩
 have B1:Hid (Below w.heap.size w w1):=hb1
 clear hb1 cR
 rcases hR with ⟨v,k,u,hR,rfl,hNv⟩ | ⟨hno,rfl⟩
 ·have HR:Hid (Rd s m v k):=hR
  have hvl:=hR.length
  obtain ⟨Av,cv,rfl,_,_⟩:=hNv.shape
  obtain ⟨gv,rfl,hgv,_⟩:=hNv.block (by omega)
  have HVL:Hid (v.length=m):=hvl
  rw[hvl] at hNv
  rw[hvl]
  have HNV:Hid (Nums w1 w.heap.size (.slice (some ⟨gv,0,none⟩) m cv) v):=hNv
  have HGV:Hid (w.heap.size≤gv):=hgv
  have hkk:=hR.le
  have q4:(0:Int)≤(k:Int):=by omega
  have q5:(k:Int)≤(s.size:Int):=by omega
  have q6:¬ (k:Int)=0:=by omega
  have q7:¬ k=0:=by omega
  have HK:Hid (1≤k∧k≤s.size):=⟨by omega,by omega⟩
  have HBD:Hid (∀ j,-9223372036854775808≤v.getD j 0∧v.getD j 0≤9223372036854775807):=fun j=>by have:=hR.boundD j;omega
  clear hR hNv hvl hkk hgv
  obtain ⟨mm,hmm⟩:∃ mm,mm=min 2 v.length:=⟨_,rfl⟩
  have hmin:min (2:Int) (m:Int)=(mm:Int):=by rw[hmm,HVL.out];omega
  have hmle:mm≤m:=by rw[hmm,HVL.out];omega
  have hm1:1≤mm:=by rw[hmm,HVL.out];omega
  have qm:(mm:Int)≤(m:Int):=by omega
  have hcv:m≤cv:=by have:=HVL.out;omega
  have qc1:(m:Int)≤(cv:Int):=by omega
  have cU:=fun A c hA=>unzigAllV mm (m - mm) v gv cv w.heap.size m A c w1 HNV.out (by rw[HVL.out];omega) hA (by omega) HGV.out HBD.out
  have cA1:=fun A c wx hx hA=>addUpV 1 (m - 1) (rowOf (uzF mm v) v.length) gv cv w.heap.size m A c wx hx (by rw[rowOf_length,HVL.out];have:=HM.out;omega) hA (by have:=HM.out;omega) HGV.out (fun j hj=>by
   rw[rowOf_length] at hj
   have h1:=HM.out
   have h2:=HVL.out
   rw[hmm]
   by_cases hj0:j=0
   ·subst hj0
    rw[gaps_zero v (by omega)]
    have:=HR.out.boundD 0
    omega
   ·rw[gaps_made v (by omega) j hj (by omega)]
    have:=gp_bound v HR.out.boundD j
    omega)
  have cA0:=fun c wx hx=>addUpV 0 m (rowOf (auF 1 (rowOf (uzF mm v) v.length)) v.length) gv cv w.heap.size m (some ⟨gv,0,none⟩) c wx hx (by rw[rowOf_length,HVL.out];omega) (fun _=>rfl) (by have:=HM.out;omega) HGV.out (fun j hj=>by
   rw[rowOf_length] at hj
   have h1:=HM.out
   have h2:=HVL.out
   rw[hmm,times_made v (by omega) j hj]
   have:=rt_bound v HR.out.boundD j (by omega)
   omega)
  have HMM:Hid (mm=min 2 v.length):=hmm
  have HCU:Hid (∀ A c,(0<m - mm→A=some ⟨gv,mm,none⟩)→Calls Tryd.prog 37 #[.slice A (m - mm) c] w1 fun e w'=>(∃ u,e=.returned u)∧Nums w' w.heap.size (.slice (some ⟨gv,0,none⟩) m cv) (rowOf (uzF mm v) v.length)∧Below w.heap.size w1 w'):=cU
  have cS:=fun wx hx=>implShowTimes (rowT v) (.slice (some ⟨gv,0,none⟩) m cv) wx wx.heap.size hx (by rw[rowT_length,HVL.out];have:=HM.out;omega) (Nat.le_refl _)
  have HTL:Hid (∀ wx,Below w.heap.size w wx→Nums wx w.heap.size (.slice (some ⟨gv,0,none⟩) m cv) (rowOf (auF 0 (rowOf (auF 1 (rowOf (uzF mm v) v.length)) v.length)) v.length)→Nums wx w.heap.size (.slice (some ⟨gv,0,none⟩) m cv) (rowT v)):=fun wx _ hx=>by
   rw[HMM.out,rowT_made v (by have:=HVL.out;have:=HM.out;omega)] at hx
   exact hx
  have HA1:Hid (∀ A c wx,Nums wx w.heap.size (.slice (some ⟨gv,0,none⟩) m cv) (rowOf (uzF mm v) v.length)→(0<m - 1→A=some ⟨gv,1,none⟩)→Calls Tryd.prog 38 #[.slice A (m - 1) c] wx fun e w'=>(∃ u,e=.returned u)∧Nums w' w.heap.size (.slice (some ⟨gv,0,none⟩) m cv) (rowOf (auF 1 (rowOf (uzF mm v) v.length)) (rowOf (uzF mm v) v.length).length)∧Below w.heap.size wx w'):=cA1
  have HA0:Hid (∀ c wx,Nums wx w.heap.size (.slice (some ⟨gv,0,none⟩) m cv) (rowOf (auF 1 (rowOf (uzF mm v) v.length)) v.length)→Calls Tryd.prog 38 #[.slice (some ⟨gv,0,none⟩) m c] wx fun e w'=>(∃ u,e=.returned u)∧Nums w' w.heap.size (.slice (some ⟨gv,0,none⟩) m cv) (rowOf (auF 0 (rowOf (auF 1 (rowOf (uzF mm v) v.length)) v.length)) (rowOf (auF 1 (rowOf (uzF mm v) v.length)) v.length).length)∧Below w.heap.size wx w'):=cA0
  clear cU hmm cA1 cA0
  by_cases heq:showT (rowT v)=s.extract 0 k
  ·have HANS:Hid (RdAns showT rowT s (m:Int) (rowT v) k):=RdAns.yes HM.out.1 HM.out.2 HR.out heq
   have hq:=bytes_eq heq
   clear heq
   generalize showT (rowT v)=sv at *
   go_wp2_with fail
   all_goals
    first | subst h | (have HX:Hid _:=h;clear h)
    refine (HCU.out _ _ (by intro hp;first | rfl | (exfalso;omega))).mono ?_
    rintro e w2 ⟨⟨u2,rfl⟩,hN2,hb2⟩
    have B2:Hid (Below w.heap.size w w2):=B1.out.trans hb2
    have N2:Hid (Nums w2 w.heap.size _ _):=hN2
    clear hb2 hN2
    go_wp2_with fail
   all_goals
    first | subst h | (have HY:Hid _:=h;clear h)
    refine (HA1.out _ _ w2 N2.out (by intro hp;first | rfl | (exfalso;omega))).mono ?_
    rintro e w3 ⟨⟨u3,rfl⟩,hN3,hb3⟩
    rw[rowOf_length] at hN3
    have B3:Hid (Below w.heap.size w w3):=B2.out.trans hb3
    have N3:Hid (Nums w3 w.heap.size _ _):=hN3
    clear hb3 hN3
    go_wp2_with fail
    refine (HA0.out _ w3 N3.out).mono ?_
    rintro e w4 ⟨⟨u4,rfl⟩,hN4,hb4⟩
    rw[rowOf_length] at hN4
    have B4:Hid (Below w.heap.size w w4):=B3.out.trans hb4
    have N4:Hid (Nums w4 w.heap.size _ (rowT v)):=HTL.out w4 B4.out hN4
    clear hb4 hN4 N2 N3 B2 B3 HA1 HA0 HCU HTL
    go_wp2_with fail
    go_region_held3 (fun _=>True) (exact True.intro) ((go_at_call 39;refine (cS w4.drew ((N4.out.heap rfl).lies)).mono ?_;rintro e w5 ⟨rfl,hb5⟩))
   all_goals
    have B5:Hid (Below w.heap.size w w5):=B4.out.drew.trans (hb5.mono B4.out.size)
    have N5:Hid (Nums w5 w.heap.size _ (rowT v)):=(N4.out.heap (w':=w4.drew) rfl).on hb5
    clear hb5
    go_wp2_with fail
    go_ret2
    exact ⟨⟨_,k,_,HANS.out,rfl,N5.out⟩,B5.out⟩
  ·have HANS:Hid (RdAns showT rowT s (m:Int) [] 0):=RdAns.other HR.out heq
   have hq:=bytes_ne heq
   clear heq
   generalize showT (rowT v)=sv at *
   go_wp2_with fail
   all_goals
    first | subst h | (have HX:Hid _:=h;clear h)
    refine (HCU.out _ _ (by intro hp;first | rfl | (exfalso;omega))).mono ?_
    rintro e w2 ⟨⟨u2,rfl⟩,hN2,hb2⟩
    have B2:Hid (Below w.heap.size w w2):=B1.out.trans hb2
    have N2:Hid (Nums w2 w.heap.size _ _):=hN2
    clear hb2 hN2
    go_wp2_with fail
   all_goals
    first | subst h | (have HY:Hid _:=h;clear h)
    refine (HA1.out _ _ w2 N2.out (by intro hp;first | rfl | (exfalso;omega))).mono ?_
    rintro e w3 ⟨⟨u3,rfl⟩,hN3,hb3⟩
    rw[rowOf_length] at hN3
    have B3:Hid (Below w.heap.size w w3):=B2.out.trans hb3
    have N3:Hid (Nums w3 w.heap.size _ _):=hN3
    clear hb3 hN3
    go_wp2_with fail
    refine (HA0.out _ w3 N3.out).mono ?_
    rintro e w4 ⟨⟨u4,rfl⟩,hN4,hb4⟩
    rw[rowOf_length] at hN4
    have B4:Hid (Below w.heap.size w w4):=B3.out.trans hb4
    have N4:Hid (Nums w4 w.heap.size _ (rowT v)):=HTL.out w4 B4.out hN4
    clear hb4 hN4 N2 N3 B2 B3 HA1 HA0 HCU HTL
    go_wp2_with fail
    go_region_held3 (fun _=>True) (exact True.intro) ((go_at_call 39;refine (cS w4.drew ((N4.out.heap rfl).lies)).mono ?_;rintro e w5 ⟨rfl,hb5⟩))
   all_goals
    have B5:Hid (Below w.heap.size w w5):=B4.out.drew.trans (hb5.mono B4.out.size)
    clear hb5
    go_wp2_with fail
    go_ret2
    exact ⟨⟨[],0,_,HANS.out,rfl,Nums.nil _ _⟩,B5.out⟩
 ·have HANS:Hid (RdAns showT rowT s (m:Int) [] 0):=RdAns.few hno
  clear hno
  go_wp2_with fail
  go_ret2
  exact ⟨⟨[],0,_,HANS.out,rfl,Nums.nil _ _⟩,B1.out⟩
end Go.Proofs.YtedmdilabbolaaaDoor
namespace Go.Proofs.YtedmdilabbolaaaDoor
open Go.ChangeShapes Go.WideShapes Go.ChangeAt Go.RowKit Go.PlainAid
set_option linter.unusedVariables false
theorem specReadValuesA (s:ByteArray) (n:Int) (w:World) (hs:s.size≤1048576):Calls Tryd.prog 20 #[.string s,.int .i64 n] w fun e w'=>(∃ l k u,RdAns showV rowV s n l k∧e=.returned (.tuple #[u,.int .i64 (k:Int)])∧Nums w' w.heap.size u l)∧Below w.heap.size w w':=by
 by_cases h:n<1∨60<n
 ·exact specReadValues_no s n w h
 ·obtain ⟨m,rfl⟩:∃ m:Nat,n=(m:Int):=⟨n.toNat,by omega⟩
  exact specReadValues s m w hs (by omega) (by omega)
theorem implReadValuesA (s:ByteArray) (n:Int) (w:World) (hs:s.size≤1048576):Calls Tryd.prog 24 #[.string s,.int .i64 n] w fun e w'=>(∃ l k u,RdAns showV rowV s n l k∧e=.returned (.tuple #[u,.int .i64 (k:Int)])∧Nums w' w.heap.size u l)∧Below w.heap.size w w':=by
 by_cases h:n<1∨60<n
 ·exact implReadValues_no s n w h
 ·obtain ⟨m,rfl⟩:∃ m:Nat,n=(m:Int):=⟨n.toNat,by omega⟩
  exact implReadValues s m w hs (by omega) (by omega)
theorem specReadTimesA (s:ByteArray) (n:Int) (w:World) (hs:s.size≤1048576):Calls Tryd.prog 19 #[.string s,.int .i64 n] w fun e w'=>(∃ l k u,RdAns showT rowT s n l k∧e=.returned (.tuple #[u,.int .i64 (k:Int)])∧Nums w' w.heap.size u l)∧Below w.heap.size w w':=by
 by_cases h:n<1∨60<n
 ·exact specReadTimes_no s n w h
 ·obtain ⟨m,rfl⟩:∃ m:Nat,n=(m:Int):=⟨n.toNat,by omega⟩
  exact specReadTimes s m w hs (by omega) (by omega)
theorem implReadTimesA (s:ByteArray) (n:Int) (w:World) (hs:s.size≤1048576):Calls Tryd.prog 23 #[.string s,.int .i64 n] w fun e w'=>(∃ l k u,RdAns showT rowT s n l k∧e=.returned (.tuple #[u,.int .i64 (k:Int)])∧Nums w' w.heap.size u l)∧Below w.heap.size w w':=by
 by_cases h:n<1∨60<n
 ·exact implReadTimes_no s n w h
 ·obtain ⟨m,rfl⟩:∃ m:Nat,n=(m:Int):=⟨n.toNat,by omega⟩
  exact implReadTimes s m w hs (by omega) (by omega)
end Go.Proofs.YtedmdilabbolaaaDoor
namespace Go.Proofs.YtedmdilabbolaaaDoor
open Go.ChangeShapes Go.WideShapes Go.ChangeAt Go.RowKit Go.PlainAid
set_option linter.unusedVariables false
theorem below_drewN (w:World) (n:Nat):Below w.heap.size w (w.drewN n):=⟨rfl,rfl,rfl,Nat.le_refl _,fun _ _=>rfl⟩
theorem below_drew (w:World):Below w.heap.size w w.drew:=⟨rfl,rfl,rfl,Nat.le_refl _,fun _ _=>rfl⟩
def badBody (p:Int) (a:Addr):Ending:=.returned (.tuple #[.string ⟨#[]⟩,wrapped p a])
set_option maxHeartbeats 400000 in
theorem body_short4 (s:ByteArray) (i:Nat) (w:World) (hi:i≤s.size) (hs:s.size≤1048576) (a0 a1 a2:Addr) (he:Errs w a0 a1 a2) (h4:(rest s i).size<4) :
  Calls Tryd.prog 34 #[.string s,.int .i64 (i:Int)] w fun e w'=>(∃ p,e=badBody p a0)∧Below w.heap.size w w':=by
 have c1:=impl_readFixed_no (rest s i) 4 w (by unfold maxLen;omega) (by omega)
 have hc:=he.c0
 have hr:s.extract i s.size=rest s i:=rfl
 have q1:(i:Int)≤(s.size:Int):=by omega
 have q2:(s.size:Int)≤1048576:=by omega
 clear he h4 hs
 generalize rest s i=r at *
 go_enter Tryd.func34,Tryd.ntmps34
 go_wp2_with fail
 refine c1.mono ?_
 rintro e w1 ⟨rfl,rfl⟩
 go_wp2_with fail
 go_quiet (fail)
 go_wp2_with fail
 go_ret2
 exact ⟨⟨_,rfl⟩,below_drewN w nq⟩
set_option maxHeartbeats 400000 in
theorem body_len (s:ByteArray) (i:Nat) (w:World) (hi:i≤s.size) (hs:s.size≤1048576) (a0 a1 a2:Addr) (he:Errs w a0 a1 a2) (h4:4≤(rest s i).size) (hl:rdv (rest s i) 4=0∨2000<rdv (rest s i) 4) :
  Calls Tryd.prog 34 #[.string s,.int .i64 (i:Int)] w fun e w'=>(∃ p,e=badBody p a1)∧Below w.heap.size w w':=by
 have hz:=rest_size s i
 have c1:=impl_readFixed (rest s i) 4 w (by unfold maxLen;omega) (by omega) (by omega) h4
 have hc:=he.c1
 have hr:s.extract i s.size=rest s i:=rfl
 have q1:(i:Int)≤(s.size:Int):=by omega
 have q2:(s.size:Int)≤1048576:=by omega
 clear he h4 hs hz
 generalize rdv (rest s i) 4=n at *
 generalize rest s i=r at *
 rcases hl with rfl | hl
 ·go_enter Tryd.func34,Tryd.ntmps34
  go_wp2_with fail
  refine c1.mono ?_
  rintro e w1 ⟨rfl,rfl⟩
  go_wp2_with fail
  go_quiet (fail)
  go_wp2_with fail
  go_ret2
  exact ⟨⟨_,rfl⟩,below_drewN w nq⟩
 ·have q3:(2000:Int)<(n:Int):=by omega
  have q4:((n:Int) == 0)=false:=by simp only[beq_eq_false_iff_ne,ne_eq];omega
  have q5:decide ((2000:Int)<(n:Int))=true:=decide_eq_true q3
  have q6:¬ (n:Int)=0:=by omega
  go_enter Tryd.func34,Tryd.ntmps34
  go_wp2_with fail
  refine c1.mono ?_
  rintro e w1 ⟨rfl,rfl⟩
  go_wp2_with fail
  go_quiet (fail)
  go_wp2_with fail
  go_ret2
  exact ⟨⟨_,rfl⟩,below_drewN w nq⟩
set_option maxHeartbeats 400000 in
theorem body_short8 (s:ByteArray) (i:Nat) (w:World) (hi:i≤s.size) (hs:s.size≤1048576) (a0 a1 a2:Addr) (he:Errs w a0 a1 a2) (h4:4≤(rest s i).size) (h1:1≤rdv (rest s i) 4) (h2:rdv (rest s i) 4≤2000) (h8:(rest s i).size<8+rdv (rest s i) 4) :
  Calls Tryd.prog 34 #[.string s,.int .i64 (i:Int)] w fun e w'=>(∃ p,e=badBody p a0)∧Below w.heap.size w w':=by
 have hz:=rest_size s i
 have c1:=impl_readFixed (rest s i) 4 w (by unfold maxLen;omega) (by omega) (by omega) h4
 have hc:=he.c0
 have hr:s.extract i s.size=rest s i:=rfl
 have q1:(i:Int)≤(s.size:Int):=by omega
 have q2:(s.size:Int)≤1048576:=by omega
 clear he h4 hs hz
 generalize rdv (rest s i) 4=n at *
 generalize rest s i=r at *
 have q3:(n:Int)≤2000:=by omega
 have q4:((n:Int) == 0)=false:=by simp only[beq_eq_false_iff_ne,ne_eq];omega
 have q5:decide ((2000:Int)<(n:Int))=false:=decide_eq_false (by omega)
 have q6:¬ (n:Int)=0:=by omega
 have q7:(r.size:Int)<8+(n:Int):=by omega
 go_enter Tryd.func34,Tryd.ntmps34
 go_wp2_with fail
 refine c1.mono ?_
 rintro e w1 ⟨rfl,rfl⟩
 go_wp2_with fail
 go_quiet (fail)
 go_wp2_with fail
 go_ret2
 exact ⟨⟨_,rfl⟩,below_drewN w nq⟩
end Go.Proofs.YtedmdilabbolaaaDoor
namespace Go.Proofs.YtedmdilabbolaaaDoor
open Go.ChangeShapes Go.WideShapes Go.ChangeAt Go.RowKit Go.PlainAid
set_option linter.unusedVariables false
set_option maxRecDepth 20000 in
set_option maxHeartbeats 1000000 in
theorem body_ok (s:ByteArray) (i:Nat) (w:World) (hi:i≤s.size) (hs:s.size≤1048576) (ht:SumTab w) (hcode:code (rest s i)=0) :
  Calls Tryd.prog 34 #[.string s,.int .i64 (i:Int)] w fun e w'=>e=.returned (.tuple #[.string (bodyOf (rest s i)),.nilIface])∧Below w.heap.size w w':=by
 obtain ⟨h4,h1,h2,h8,hsum⟩:=(code_zero _).1 hcode
 have hz:=rest_size s i
 have c1:=impl_readFixed (rest s i) 4 w (by unfold maxLen;omega) (by omega) (by omega) h4
 have hr:s.extract i s.size=rest s i:=rfl
 have q1:(i:Int)≤(s.size:Int):=by omega
 have q2:(s.size:Int)≤1048576:=by omega
 have q8:(rest s i).size≤1048576:=by omega
 unfold bodyOf at hsum ⊢
 clear hcode hs hz
 generalize rdv (rest s i) 4=n at *
 generalize rest s i=r at *
 have q3:(n:Int)≤2000:=by omega
 have q4:((n:Int) == 0)=false:=by simp only[beq_eq_false_iff_ne,ne_eq];omega
 have q5:decide ((2000:Int)<(n:Int))=false:=decide_eq_false (by omega)
 have q6:¬ (n:Int)=0:=by omega
 have q7:8+(n:Int)≤(r.size:Int):=by omega
 have q9:(8:Int)≤(r.size:Int):=by omega
 have HT:Hid (SumTab w):=ht
 have hm:(8+(n:Int)).toNat=8+n:=by omega
 have HB:Hid ((r.extract 0 4).size+(r.extract 8 (8+n)).size≤2097152):=by unfold Hid;rw[ByteArray.size_extract,ByteArray.size_extract];omega
 have HC:Hid ((r.extract 8 (8+n)).size≤281474976710656):=by unfold Hid;rw[ByteArray.size_extract];omega
 have HS:Hid (sumOf (r.extract 0 4) (r.extract 8 (8+n))=r.extract 4 8):=hsum
 clear ht hsum q8 h1 h2 h4
 go_enter Tryd.func34,Tryd.ntmps34
 go_wp2_with fail
 refine c1.mono ?_
 rintro e w1 ⟨rfl,rfl⟩
 go_wp2_with fail
 go_region_with (go_at_call 52;refine (impl_frameSum (r.extract 0 4) (r.extract 8 (8+n)) _ HB.out ?_).mono ?_;exact HT.out;rintro e w1 ⟨rfl,hb1⟩;rw[HS.out])
 all_goals go_wp2_with fail
 all_goals (refine (clone _ _ HC.out).mono ?_;rintro e w2 ⟨rfl,hb2⟩;go_wp2_with fail;go_ret2;exact ⟨rfl,((below_drew w).trans hb1).trans (hb2.mono hb1.size)⟩)
set_option maxRecDepth 20000 in
set_option maxHeartbeats 1000000 in
theorem body_sum (s:ByteArray) (i:Nat) (w:World) (hi:i≤s.size) (hs:s.size≤1048576) (ht:SumTab w) (a0 a1 a2:Addr) (he:Errs w a0 a1 a2) (h4:4≤(rest s i).size) (h1:1≤rdv (rest s i) 4) (h2:rdv (rest s i) 4≤2000) (h8:8+rdv (rest s i) 4≤(rest s i).size) (hsum:sumOf ((rest s i).extract 0 4) (bodyOf (rest s i))≠(rest s i).extract 4 8) :
  Calls Tryd.prog 34 #[.string s,.int .i64 (i:Int)] w fun e w'=>(∃ p,e=badBody p a2)∧Below w.heap.size w w':=by
 have hz:=rest_size s i
 have c1:=impl_readFixed (rest s i) 4 w (by unfold maxLen;omega) (by omega) (by omega) h4
 have hr:s.extract i s.size=rest s i:=rfl
 have q1:(i:Int)≤(s.size:Int):=by omega
 have q2:(s.size:Int)≤1048576:=by omega
 have q8:(rest s i).size≤1048576:=by omega
 unfold bodyOf at hsum
 have HE:Hid (Errs w a0 a1 a2):=he
 clear he hs hz
 generalize rdv (rest s i) 4=n at *
 generalize rest s i=r at *
 have q3:(n:Int)≤2000:=by omega
 have q4:((n:Int) == 0)=false:=by simp only[beq_eq_false_iff_ne,ne_eq];omega
 have q5:decide ((2000:Int)<(n:Int))=false:=decide_eq_false (by omega)
 have q6:¬ (n:Int)=0:=by omega
 have q7:8+(n:Int)≤(r.size:Int):=by omega
 have q9:(8:Int)≤(r.size:Int):=by omega
 have HT:Hid (SumTab w):=ht
 have hm:(8+(n:Int)).toNat=8+n:=by omega
 have HB:Hid ((r.extract 0 4).size+(r.extract 8 (8+n)).size≤2097152):=by unfold Hid;rw[ByteArray.size_extract,ByteArray.size_extract];omega
 have HC:Hid ((r.extract 8 (8+n)).size≤281474976710656):=by unfold Hid;rw[ByteArray.size_extract];omega
 have e1:((sumOf (r.extract 0 4) (r.extract 8 (8+n))).toList == (r.extract 4 8).toList)=false:=by
  rw[beq_eq_false_iff_ne,Lib.toList_data,Lib.toList_data]
  intro h
  exact hsum (ByteArray.ext (Array.toList_inj.1 h))
 have q10:wrap64 ((i:Int)+4)=(i:Int)+4:=by unfold wrap64;omega
 clear ht hsum q8 h1 h2 h4
 go_enter Tryd.func34,Tryd.ntmps34
 go_wp2_with fail
 refine c1.mono ?_
 rintro e w1 ⟨rfl,rfl⟩
 go_wp2_with fail
 go_region_with (go_at_call 52;refine (impl_frameSum (r.extract 0 4) (r.extract 8 (8+n)) _ HB.out ?_).mono ?_;exact HT.out;rintro e w1 ⟨rfl,hb1⟩)
 all_goals go_wp2_with fail
 have hb:Below w.heap.size w w1:=(below_drew w).trans hb1
 have hc:=(HE.out.on hb).c2
 go_quiet (fail)
 go_wp2_with fail
 go_ret2
 exact ⟨⟨_,rfl⟩,hb.trans ((below_drewN w1 nq).mono hb.size)⟩
end Go.Proofs.YtedmdilabbolaaaDoor
namespace Go.Proofs.YtedmdilabbolaaaDoor
open Go.ChangeShapes Go.WideShapes Go.ChangeAt Go.RowKit Go.PlainAid
set_option linter.unusedVariables false
theorem body_bad (s:ByteArray) (i:Nat) (w:World) (hi:i≤s.size) (hs:s.size≤1048576) (ht:SumTab w) (a0 a1 a2:Addr) (he:Errs w a0 a1 a2) (hcode:code (rest s i)≠0) :
  Calls Tryd.prog 34 #[.string s,.int .i64 (i:Int)] w fun e w'=>(∃ p a,e=badBody p a∧(code (rest s i)=1∧a=a0∨code (rest s i)=2∧(a=a1∨a=a2)))∧Below w.heap.size w w':=by
 by_cases h4:(rest s i).size<4
 ·refine (body_short4 s i w hi hs a0 a1 a2 he h4).mono ?_
  rintro e w' ⟨⟨p,rfl⟩,hb⟩
  exact ⟨⟨p,a0,rfl,.inl ⟨by rw[code,if_pos h4],rfl⟩⟩,hb⟩
 by_cases hl:rdv (rest s i) 4=0∨2000<rdv (rest s i) 4
 ·refine (body_len s i w hi hs a0 a1 a2 he (by omega) hl).mono ?_
  rintro e w' ⟨⟨p,rfl⟩,hb⟩
  exact ⟨⟨p,a1,rfl,.inr ⟨by rw[code,if_neg h4,if_pos hl],.inl rfl⟩⟩,hb⟩
 by_cases h8:(rest s i).size<8+rdv (rest s i) 4
 ·refine (body_short8 s i w hi hs a0 a1 a2 he (by omega) (by omega) (by omega) h8).mono ?_
  rintro e w' ⟨⟨p,rfl⟩,hb⟩
  exact ⟨⟨p,a0,rfl,.inl ⟨by rw[code,if_neg h4,if_neg hl,if_pos h8],rfl⟩⟩,hb⟩
 have hsum:sumOf ((rest s i).extract 0 4) (bodyOf (rest s i))≠(rest s i).extract 4 8:=fun h=>hcode (by rw[code,if_neg h4,if_neg hl,if_neg h8,if_pos h])
 refine (body_sum s i w hi hs ht a0 a1 a2 he (by omega) (by omega) (by omega) (by omega) hsum).mono ?_
 rintro e w' ⟨⟨p,rfl⟩,hb⟩
 exact ⟨⟨p,a2,rfl,.inr ⟨by rw[code,if_neg h4,if_neg hl,if_neg h8,if_neg hsum],.inr rfl⟩⟩,hb⟩
def unf (s:ByteArray):Array Value:=if code s=0 then #[.string (bodyOf s),.int .i64 ((8+rdv s 4:Nat):Int),.int .i64 0] else #[.string ⟨#[]⟩,.int .i64 0,.int .i64 (code s:Int)]
set_option maxHeartbeats 1000000 in
theorem impl_unframe (s:ByteArray) (w:World) (hs:s.size≤1048576) (ht:SumTab w) (a0 a1 a2:Addr) (he:Errs w a0 a1 a2) :
  Calls Tryd.prog 21 #[.string s] w fun e w'=>e=.returned (.tuple (unf s))∧Below w.heap.size w w':=by
 have HE:Hid (Errs w a0 a1 a2):=he
 by_cases hcode:code s=0
 ·have c1:=body_ok s 0 w (by omega) hs ht (by rw[rest_zero];exact hcode)
  rw[rest_zero,show ((0:Nat):Int)=0 from rfl] at c1
  obtain ⟨h4,h1,h2,h8,hsum⟩:=(code_zero _).1 hcode
  have hz:=bodyOf_size s h8
  have EU:Hid (unf s=#[.string (bodyOf s),.int .i64 ((8+rdv s 4:Nat):Int),.int .i64 0]):=by unfold Hid;rw[unf,if_pos hcode]
  have q1:((bodyOf s).size:Int)=(rdv s 4:Int):=by rw[hz]
  have q2:(rdv s 4:Int)≤2000:=by omega
  clear hcode hsum ht he h4 h1 h2 h8 hs hz
  generalize rdv s 4=n at *
  generalize bodyOf s=b at *
  go_enter Tryd.func21,Tryd.ntmps21
  go_wp2_with fail
  refine c1.mono ?_
  rintro e w1 ⟨rfl,hb1⟩
  go_wp2_with fail
  go_ret3
  exact ⟨by rw[EU.out];go_num,hb1⟩
 ·have c1:=body_bad s 0 w (by omega) hs ht a0 a1 a2 he (by rw[rest_zero];exact hcode)
  rw[rest_zero,show ((0:Nat):Int)=0 from rfl] at c1
  have EU:Hid (unf s=#[.string ⟨#[]⟩,.int .i64 0,.int .i64 (code s:Int)]):=by unfold Hid;rw[unf,if_neg hcode]
  clear ht he hs hcode
  simp only[badBody,wrapped] at c1
  generalize code s=k at *
  go_enter Tryd.func21,Tryd.ntmps21
  go_wp2_with fail
  refine c1.mono ?_
  rintro e w1 ⟨⟨p,a,rfl,ha⟩,hb1⟩
  have he1:=HE.out.on hb1
  rcases ha with ⟨rfl,rfl⟩ | ⟨rfl,ha⟩
  ·have c2:=code_short p a a1 a2 w1 he1
   simp only[wrapped] at c2
   clear he1
   go_wp2_with fail
   refine c2.mono ?_
   rintro e w2 ⟨rfl,hb2⟩
   go_wp2_with fail
   go_ret3
   exact ⟨by rw[EU.out];rfl,hb1.trans (hb2.mono hb1.size)⟩
  ·have c2:=code_bad p a a0 a1 a2 w1 he1 ha
   simp only[wrapped] at c2
   clear he1 ha
   go_wp2_with fail
   refine c2.mono ?_
   rintro e w2 ⟨rfl,hb2⟩
   go_wp2_with fail
   go_ret3
   exact ⟨by rw[EU.out];rfl,hb1.trans (hb2.mono hb1.size)⟩
set_option maxRecDepth 20000 in
set_option maxHeartbeats 1000000 in
theorem spec_unframe (s:ByteArray) (w:World) (hs:s.size≤1048576) :
  Calls Tryd.prog 17 #[.string s] w fun e w'=>e=.returned (.tuple (unf s))∧Below w.heap.size w w':=by
 by_cases h4:s.size<4
 ·have c1:=spec_readFixed_no s 4 w (by unfold maxLen;omega) (by omega)
  have EU:Hid (unf s=#[.string ⟨#[]⟩,.int .i64 0,.int .i64 1]):=by
   have:code s=1:=by rw[code,if_pos h4]
   unfold Hid;rw[unf,this];rfl
  clear hs h4
  go_enter Tryd.func17,Tryd.ntmps17
  go_wp2_with fail
  refine c1.mono ?_
  rintro e w1 ⟨rfl,rfl⟩
  go_wp2_with fail
  go_ret3
  exact ⟨by rw[EU.out];rfl,Below.refl _ _⟩
 have c1:=spec_readFixed s 4 w (by unfold maxLen;omega) (by omega) (by omega) (by omega)
 by_cases hl:rdv s 4=0∨2000<rdv s 4
 ·have EU:Hid (unf s=#[.string ⟨#[]⟩,.int .i64 0,.int .i64 2]):=by
   have:code s=2:=by rw[code,if_neg h4,if_pos hl]
   unfold Hid;rw[unf,this];rfl
  clear hs h4
  generalize rdv s 4=n at *
  rcases hl with rfl | hl
  ·go_enter Tryd.func17,Tryd.ntmps17
   go_wp2_with fail
   refine c1.mono ?_
   rintro e w1 ⟨rfl,rfl⟩
   go_wp2_with fail
   go_ret3
   exact ⟨by rw[EU.out];rfl,Below.refl _ _⟩
  ·have q3:(2000:Int)<(n:Int):=by omega
   have q4:((n:Int) == 0)=false:=by simp only[beq_eq_false_iff_ne,ne_eq];omega
   have q5:decide ((2000:Int)<(n:Int))=true:=decide_eq_true q3
   have q6:¬ (n:Int)=0:=by omega
   go_enter Tryd.func17,Tryd.ntmps17
   go_wp2_with fail
   refine c1.mono ?_
   rintro e w1 ⟨rfl,rfl⟩
   go_wp2_with fail
   go_ret3
   exact ⟨by rw[EU.out];rfl,Below.refl _ _⟩
 by_cases h8:s.size<8+rdv s 4
 ·have EU:Hid (unf s=#[.string ⟨#[]⟩,.int .i64 0,.int .i64 1]):=by
   have:code s=1:=by rw[code,if_neg h4,if_neg hl,if_pos h8]
   unfold Hid;rw[unf,this];rfl
  have q2:(s.size:Int)≤1048576:=by omega
  clear hs h4
  generalize rdv s 4=n at *
  have q3:(n:Int)≤2000:=by omega
  have q4:((n:Int) == 0)=false:=by simp only[beq_eq_false_iff_ne,ne_eq];omega
  have q5:decide ((2000:Int)<(n:Int))=false:=decide_eq_false (by omega)
  have q6:¬ (n:Int)=0:=by omega
  have q7:(s.size:Int)<8+(n:Int):=by omega
  clear hl
  go_enter Tryd.func17,Tryd.ntmps17
  go_wp2_with fail
  refine c1.mono ?_
  rintro e w1 ⟨rfl,rfl⟩
  go_wp2_with fail
  go_ret3
  exact ⟨by rw[EU.out];rfl,Below.refl _ _⟩
 have hz:=bodyOf_size s (by omega)
 have c2:=fun wx=>spec_frame (bodyOf s) wx (by omega)
 have hfit:=frame_fits s (by omega) (by omega) (by omega) (by omega)
 have hb0:s.extract 8 (8+rdv s 4)=bodyOf s:=rfl
 have q2:(s.size:Int)≤1048576:=by omega
 by_cases hsum:sumOf (s.extract 0 4) (bodyOf s)=s.extract 4 8
 ·have EU:Hid (unf s=#[.string (bodyOf s),.int .i64 ((8+rdv s 4:Nat):Int),.int .i64 0]):=by
   have:code s=0:=by rw[code,if_neg h4,if_neg hl,if_neg h8,if_pos hsum]
   unfold Hid;rw[unf,if_pos this]
  have HF:Hid (frame (bodyOf s)=s.extract 0 (8+rdv s 4)):=hfit.2 hsum
  clear hfit hsum hs h4 hz
  generalize bodyOf s=b at *
  generalize rdv s 4=n at *
  have q3:(n:Int)≤2000:=by omega
  have q4:((n:Int) == 0)=false:=by simp only[beq_eq_false_iff_ne,ne_eq];omega
  have q5:decide ((2000:Int)<(n:Int))=false:=decide_eq_false (by omega)
  have q6:¬ (n:Int)=0:=by omega
  have q7:8+(n:Int)≤(s.size:Int):=by omega
  have hm:(8+(n:Int)).toNat=8+n:=by omega
  have q8:(0:Int)≤8+(n:Int):=by omega
  have w1:IntKind.i64.wrap (8+(n:Int))=8+(n:Int):=by rw[IntKind.wrap_i64];omega
  have w2:wrap64 (8+(n:Int))=8+(n:Int):=by unfold wrap64;omega
  clear hl h8
  go_enter Tryd.func17,Tryd.ntmps17
  go_wp2_with fail
  refine c1.mono ?_
  rintro e w1 ⟨rfl,rfl⟩
  go_wp2_with fail
  go_region_with (go_at_call 28;refine (c2 _).mono ?_;rintro e w1 ⟨rfl,hb1⟩;rw[HF.out])
  all_goals go_wp2_with fail
  all_goals (go_ret3;exact ⟨by rw[EU.out];go_num,(below_drew w).trans hb1⟩)
 ·have EU:Hid (unf s=#[.string ⟨#[]⟩,.int .i64 0,.int .i64 2]):=by
   have:code s=2:=by rw[code,if_neg h4,if_neg hl,if_neg h8,if_neg hsum]
   unfold Hid;rw[unf,this];rfl
  have e1:((frame (bodyOf s)).toList == (s.extract 0 (8+rdv s 4)).toList)=false:=by
   rw[beq_eq_false_iff_ne,Lib.toList_data,Lib.toList_data]
   intro h
   exact hsum (hfit.1 (ByteArray.ext (Array.toList_inj.1 h)))
  clear hfit hsum hs h4 hz
  generalize bodyOf s=b at *
  generalize rdv s 4=n at *
  have q3:(n:Int)≤2000:=by omega
  have q4:((n:Int) == 0)=false:=by simp only[beq_eq_false_iff_ne,ne_eq];omega
  have q5:decide ((2000:Int)<(n:Int))=false:=decide_eq_false (by omega)
  have q6:¬ (n:Int)=0:=by omega
  have q7:8+(n:Int)≤(s.size:Int):=by omega
  have hm:(8+(n:Int)).toNat=8+n:=by omega
  have q8:(0:Int)≤8+(n:Int):=by omega
  have w1:IntKind.i64.wrap (8+(n:Int))=8+(n:Int):=by rw[IntKind.wrap_i64];omega
  have w2:wrap64 (8+(n:Int))=8+(n:Int):=by unfold wrap64;omega
  clear hl h8
  go_enter Tryd.func17,Tryd.ntmps17
  go_wp2_with fail
  refine c1.mono ?_
  rintro e w1 ⟨rfl,rfl⟩
  go_wp2_with fail
  go_region_with (go_at_call 28;refine (c2 _).mono ?_;rintro e w1 ⟨rfl,hb1⟩)
  all_goals go_wp2_with fail
  all_goals (go_ret3;exact ⟨by rw[EU.out];rfl,(below_drew w).trans hb1⟩)
end Go.Proofs.YtedmdilabbolaaaDoor
namespace Go.Proofs.YtedmdilabbolaaaDoor
open Go.ChangeShapes Go.WideShapes Go.ChangeAt Go.RowKit Go.PlainAid
set_option linter.unusedVariables false
theorem cell_alloc_keep {w:World} {p:Addr} {x:Value} (h:w.cell? p=some x) (o:Obj):(w.alloc o).cell? p=some x:=by
 rw[((Below.refl w.heap.size w).alloc (Nat.le_refl _) o).cell (World.block_lt_of_cell? _ _ h)]
 exact h
theorem ptR_snoc' (l:List Pnt) (p:Pnt):ptR (l++[p])=ptR l++[[.int .i64 p.t,.int .i64 p.v]]:=ptR_append l [p]
theorem pt_cells (x y:Int):∀ u∈([.int .i64 x,.int .i64 y]:List Value),u.oneCell'=true:=by
 intro u hu
 simp at hu
 rcases hu with rfl | rfl<;>rfl
set_option maxRecDepth 20000 in
set_option maxHeartbeats 2000000 in
theorem implPointsOf (t v:List Int) (ut uv:Value) (w:World) (ht:NumsV w w.heap.size ut t) (hv:NumsV w w.heap.size uv v) (hlt:t.length≤1000) (hlv:v.length≤1000):Calls Tryd.prog 25 #[ut,uv] w fun e w'=>(∃ u,e=.returned u∧Owns w' w.heap.size 45 2 u (ptR (zipP t v)))∧Below w.heap.size w w':=by
 obtain ⟨At,ct,rfl,_,_,h1⟩:=ht
 obtain ⟨Av,cv,rfl,_,_,h2⟩:=hv
 have HT:Hid (∀ j,j<t.length→∃ g off,At=some ⟨g,off,none⟩∧g<w.heap.size∧w.cell? ⟨g,off+j,none⟩=some (.int .i64 (t.getD j 0))):=h1
 have HV:Hid (∀ j,j<v.length→∃ g off,Av=some ⟨g,off,none⟩∧g<w.heap.size∧w.cell? ⟨g,off+j,none⟩=some (.int .i64 (v.getD j 0))):=h2
 have HZL:Hid ((zipP t v).length=min t.length v.length):=zipP_length t v
 have HZG:Hid (∀ k,k<t.length→k<v.length→(zipP t v).take (k+1)=(zipP t v).take k++[⟨t.getD k 0,v.getD k 0⟩]):=zipP_get t v
 have q1:(t.length:Int)≤1000:=by omega
 have q2:(v.length:Int)≤1000:=by omega
 have hmn:min (t.length:Int) (v.length:Int)=((min t.length v.length:Nat):Int):=by omega
 have hmn2:(if (v.length:Int)<(t.length:Int) then (v.length:Int) else (t.length:Int))=((min t.length v.length:Nat):Int):=by split<;>omega
 clear h1 h2 hlt hlv
 generalize hn:t.length=n at *
 generalize hm:v.length=m at *
 generalize hN:min n m=N at *
 have HN:Hid (N≤n∧N≤m∧N≤1000):=by unfold Hid;omega
 clear hn hm
 go_enter Tryd.func25,Tryd.ntmps25
 go_wp2_with fail
 go_loopw [5,12] (fun v5 v12 wr=>∃ k:Nat,k≤N∧v12=.int .i64 (k:Int)∧Owns wr w.heap.size 45 2 v5 (ptR ((zipP t v).take k))∧Below w.heap.size w wr) (fun _ i _=>N - (intOf i).toNat)
 case atStart=>exact ⟨0,by omega,rfl,by rw[List.take_zero];exact Owns.nil _ _ _ _,Below.refl _ _⟩
 case round =>
  obtain ⟨k,hk,rfl,hO,hb⟩:=hrel
  have HO:Hid (Owns wr w.heap.size 45 2 u5 (ptR ((zipP t v).take k))):=hO
  have HB1:Hid (Below w.heap.size w wr):=hb
  clear hO hb
  by_cases hlt:k<N
  ·have q3:(k:Int)<(N:Int):=by omega
   have hkn:=HN.out
   have q4:(k:Int)<(n:Int):=by omega
   have q5:(k:Int)<(m:Int):=by omega
   obtain ⟨gt,ot,rfl,hgt,hc1⟩:=HT.out k (by omega)
   obtain ⟨gv,ov,rfl,hgv,hc2⟩:=HV.out k (by omega)
   have HZ:Hid ((zipP t v).take (k+1)=(zipP t v).take k++[⟨t.getD k 0,v.getD k 0⟩]):=HZG.out k (by omega) (by omega)
   rw[← HB1.out.cell (p:=⟨_,_,none⟩) hgt] at hc1
   rw[← HB1.out.cell (p:=⟨_,_,none⟩) hgv] at hc2
   generalize t.getD k 0=x at *
   generalize v.getD k 0=y at *
   have hz:w.heap.size≤wr.drew.heap.size:=HB1.out.size
   obtain ⟨nA,nm,nc,w5,r5,hO5,hb5,hk5,_⟩:=run_append_row (P:=Tryd.prog) wr.drew 32 32 45 (.agg #[.int .i64 0,.int .i64 0]) 2 16 Tryd.underlying32 Tryd.infoPt rfl (by omega) w.heap.size u5 (ptR ((zipP t v).take k)) (HO.out.kept fun _ _ _=>rfl) [.int .i64 x,.int .i64 y] rfl (pt_cells x y) (by rw[ptR_length,List.length_take];omega) (by omega) hz
   have B5:Hid (Below w.heap.size w w5):=(HB1.out.drew).trans hb5
   have O5:Hid (Owns w5 w.heap.size 45 2 (.slice nA nm nc) (ptR ((zipP t v).take (k+1)))):=by unfold Hid;rw[HZ.out,ptR_snoc'];exact hO5
   have S0:Hid (wr.drew.cell? ⟨gt,ot+k,none⟩=some (.int .i64 x)∧wr.drew.cell? ⟨gv,ov+k,none⟩=some (.int .i64 y)):=⟨hc1,hc2⟩
   clear hc1 hc2 hO5 hb5 hk5
   clear hgt hgv
   go_wp2_with fail
   refine wp_region_until (fun w'=>w'.cell? ⟨gt,ot+k,none⟩=some (.int .i64 x)∧w'.cell? ⟨gv,ov+k,none⟩=some (.int .i64 y)) (fun i=>i == 11||i == 12) 13 (by rfl) (by kernel_rfl) ?_
   refine tKf 0 S0.out ?_
   refine tKf 1 S0.out ?_
   refine tKf 2 S0.out ?_
   refine tKf 3 S0.out ?_
   refine tKf 4 S0.out ?_
   refine tKf 5 S0.out ?_
   refine tKf 6 S0.out ?_
   refine tKf 7 S0.out ?_
   refine tKf 8 S0.out ?_
   refine tKf 9 S0.out ?_
   refine uNe 10 (fun K hK=>?_)
   go_simp
   refine hK.out _ _ (fun _ h=>⟨cell_alloc_keep h.1 _,cell_alloc_keep h.2 _⟩) ?_
   clear hK K
   try simp only[Act.put,zQ1,zQ2,zQ3]
   refine uNe 11 (fun K hK=>?_)
   refine step_append_run (by rfl) (.tmp 15) (.tmp 25) 32 (by rfl) _ _ _ _ (by rfl) (by rfl) r5 ?_
   refine hK.out _ _ (fun h=>by cases h) ?_
   clear hK K
   try simp only[Act.put,zQ1,zQ2,zQ3]
   refine uNe 12 (fun K hK=>?_)
   go_simp
   refine hK.out _ _ (fun h=>by cases h) ?_
   clear hK K
   try simp only[Act.put,zQ1,zQ2,zQ3]
   refine until_done (by kernel_rfl) ?_ _
   go_wp2_with fail
   go_roundw
   case rel=>exact ⟨k+1,by omega,by go_num,O5.out,B5.out⟩
   case measure=>simp[intOf];omega
  ·obtain rfl:k=N:=by omega
   have hF:=HO.out
   rw[List.take_of_length_le (by rw[HZL.out];exact Nat.le_refl _)] at hF
   have HF:Hid (Owns wr w.heap.size 45 2 u5 (ptR (zipP t v))):=hF
   clear hF HO
   go_wp2_with fail
   go_ret
   exact ⟨⟨_,rfl,HF.out⟩,HB1.out⟩
theorem unf_body (s:ByteArray):∃ k c:Nat,unf s=#[.string (bodyR s),.int .i64 (k:Int),.int .i64 (c:Int)]∧((code s=0∧k=8+rdv s 4)∨(code s≠0∧k=0∧bodyR s=⟨#[]⟩)):=by
 by_cases h:code s=0
 ·refine ⟨8+rdv s 4,0,?_,.inl ⟨h,rfl⟩⟩
  rw[unf,if_pos h,bodyR,if_pos h]
  rfl
 ·refine ⟨0,code s,?_,.inr ⟨h,rfl,by rw[bodyR,if_neg h]⟩⟩
  rw[unf,if_neg h,bodyR,if_neg h]
  rfl
set_option maxHeartbeats 4000000 in
theorem implReadBlock (s:ByteArray) (w:World) (hs:s.size≤1048576) (hst:SumTab w) (a0 a1 a2:Addr) (he:Errs w a0 a1 a2):Calls Tryd.prog 15 #[.string s] w fun e w'=>(∃ u l ok,RbAns s l ok∧e=.returned (.tuple #[u,.bool ok])∧Owns w' w.heap.size 45 2 u (ptR l))∧Below w.heap.size w w':=by
 have ST:Hid (SumTab w):=hst
 have cU:=impl_unframe s w hs hst a0 a1 a2 he
 obtain ⟨k0,c0,hu,_⟩:=unf_body s
 rw[hu] at cU
 have hbz:=bodyR_size s
 have qs:(s.size:Int)≤1048576:=by omega
 clear hst he hu
 go_enter Tryd.func15,Tryd.ntmps15
 go_wp2_with fail
 refine cU.mono ?_
 rintro e w1 ⟨rfl,hb⟩
 have B1:Hid (Below w.heap.size w w1):=hb
 clear hb cU
 have cV:=impl_readVar (bodyR s) w1 (by omega)
 go_wp2_with fail
 refine cV.mono ?_
 rintro e w1' ⟨hRV,rfl⟩
 obtain ⟨n,k,hRd,rfl⟩:=hRV.rd
 have hle:=hRd.le
 have HR:Hid (RdV (bodyR s) n k):=hRd
 have hsz:((bodyR s).extract k (bodyR s).size).size≤2000:=by rw[ByteArray.size_extract];omega
 have cT:=implReadTimesA ((bodyR s).extract k (bodyR s).size) n w1 (by omega)
 have qk:(k:Int)≤7:=by omega
 have qb:((bodyR s).size:Int)≤2000:=by omega
 have qkb:(k:Int)≤((bodyR s).size:Int):=by omega
 have hkb:k≤(bodyR s).size:=hle.1
 clear hRd hRV cV hle
 go_wp2_with fail
 refine cT.mono ?_
 rintro e w2 ⟨⟨t,a,ut,hAT,rfl,hNT⟩,hb⟩
 have HAT:Hid (RdAns showT rowT ((bodyR s).extract k (bodyR s).size) n t a):=hAT
 have hsh:=hAT.short rowT_length
 have LT:Hid (t.length≤60):=hsh.1
 have hak:k+a≤(bodyR s).size:=by have h2:=hsh.2;rw[ByteArray.size_extract] at h2;omega
 have B2:Hid (Below w.heap.size w w2):=B1.out.trans (hb.mono B1.out.size)
 have NT:Hid (Nums w2 w1.heap.size ut t):=hNT
 have cW:=implReadValuesA ((bodyR s).extract (k+a) (bodyR s).size) n w2 (by rw[ByteArray.size_extract];omega)
 have qa:(k:Int)+(a:Int)≤((bodyR s).size:Int):=by omega
 have qa1:(a:Int)≤2000:=by omega
 have ena:((k:Int)+(a:Int)).toNat=k+a:=by omega
 clear hAT hNT hb cT hsh hsz
 go_wp2_with fail
 refine cW.mono ?_
 rintro e w3 ⟨⟨v,b,uv,hAV,rfl,hNV⟩,hb⟩
 have HST:Hid (Steps s n k t a v b):=⟨HR.out,HAT.out,hAV⟩
 have LV:Hid (v.length≤60):=(hAV.short rowV_length).1
 have B3:Hid (Below w.heap.size w w3):=B2.out.trans (hb.mono B2.out.size)
 have NT3:Hid (Nums w3 w1.heap.size ut t):=NT.out.on hb
 have NV3:Hid (Nums w3 w2.heap.size uv v):=hNV
 clear hAV hNV hb cW NT
 have cP:=implPointsOf t v ut uv w3 NT3.out.lies NV3.out.lies (by have:=LT.out;omega) (by have:=LV.out;omega)
 go_wp2_with fail
 refine cP.mono ?_
 rintro e w4 ⟨⟨up,rfl,hO⟩,hb⟩
 have B4:Hid (Below w.heap.size w w4):=B3.out.trans (hb.mono B3.out.size)
 have OP:Hid (Owns w4 w3.heap.size 45 2 up (ptR (zipP t v))):=hO
 have LZ:Hid ((zipP t v).length≤60):=by unfold Hid;rw[zipP_length];have:=LT.out;omega
 clear hO hb cP
 have cS:=implShowBlock (zipP t v) up w4 w4.heap.size OP.out.lies (by have:=LZ.out;omega) (Nat.le_refl _) (ST.out.on B4.out)
 obtain ⟨Ap,cp,rfl,_⟩:=pt_look OP.out.lies
 have HG1:Hid (∀ m,Good s m→zipP t v=m):=fun m hm=>(HST.out.good hm).1
 have HG2:Hid (1≤(zipP t v).length→showB (zipP t v)=s→Good s (zipP t v)):=fun h1 h2=>HST.out.shown h1 h2
 have qz:((zipP t v).length:Int)≤60:=by have:=LZ.out;omega
 generalize zipP t v=l at *
 by_cases h0:l.length=0
 ·have HNO:Hid (∀ m,¬ Good s m):=fun m hm=>by have e:=HG1.out m hm;subst e;have:=hm.1;omega
  rw[h0]
  clear h0 qz
  go_wp2_with fail
  go_ret2
  exact ⟨⟨_,[],false,.inr ⟨rfl,rfl,HNO.out⟩,rfl,Owns.nil _ _ _ _⟩,B4.out⟩
 have d0:decide (l.length=0)=false:=decide_eq_false h0
 have d1:((l.length:Int) == 0)=false:=by rw[beq_eq_false_iff_ne];omega
 have H1:Hid (1≤l.length):=by unfold Hid;omega
 have HLL:Hid (Owns w4 w3.heap.size 45 2 (.slice Ap l.length cp) (ptR l)):=OP.out
 generalize hln:l.length=ln at *
 by_cases hsh:showB l=s
 ·have HG:Hid (Good s l):=HG2.out (by have:=H1.out;omega) hsh
  have db:=bytes_eq hsh
  go_wp2_with fail
  refine cS.mono ?_
  rintro e w5 ⟨rfl,hb5⟩
  have B5:Hid (Below w.heap.size w w5):=B4.out.trans (hb5.mono B4.out.size)
  have O5:Hid (Owns w5 w.heap.size 45 2 (.slice Ap ln cp) (ptR l)):=(HLL.out.on hb5).mono B3.out.size
  clear hb5 cS
  rw[hsh]
  go_wp2_with fail
  go_ret2
  exact ⟨⟨_,l,true,.inl ⟨rfl,HG.out⟩,rfl,O5.out⟩,B5.out⟩
 ·have HNO:Hid (∀ m,¬ Good s m):=fun m hm=>by have e:=HG1.out m hm;subst e;exact hsh hm.2.2
  have db:=bytes_ne hsh
  go_wp2_with fail
  refine cS.mono ?_
  rintro e w5 ⟨rfl,hb5⟩
  have B5:Hid (Below w.heap.size w w5):=B4.out.trans (hb5.mono B4.out.size)
  clear hb5 cS hsh
  go_wp2_with fail
  go_ret2
  exact ⟨⟨_,[],false,.inr ⟨rfl,rfl,HNO.out⟩,rfl,Owns.nil _ _ _ _⟩,B5.out⟩
end Go.Proofs.YtedmdilabbolaaaDoor
