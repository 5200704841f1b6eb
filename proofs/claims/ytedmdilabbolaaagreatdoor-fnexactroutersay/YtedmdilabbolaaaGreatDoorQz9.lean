/- RtLegI RtCallI RtWkI RtOkI RtSayI -/
import Derived.Test.YtedmdilabbolaaaGreatDoorRows
import Derived.Test.YtedmdilabbolaaaGreatDoorQz7
import Derived.Test.YtedmdilabbolaaaGreatDoorQz2
import Derived.Test.YtedmdilabbolaaaGreatDoorQz6
import Derived.Test.YtedmdilabbolaaaGreatDoorQz1
import Derived.Lib.OwnKind
import Derived.Deep.Cut
import Derived.Deep.CutRange
import Derived.Deep.CutBlock
import Derived.Test.YtedmdilabbolaaaGreatDoorQz8
import Derived.Test.YtedmdilabbolaaaGreatDoorQr0
import Derived.Test.YtedmdilabbolaaaGreatDoorQr1
import Derived.Test.YtedmdilabbolaaaGreatDoorQr2
import Derived.Test.YtedmdilabbolaaaGreatDoorQr3
import Derived.Test.YtedmdilabbolaaaGreatDoorQr4
import Derived.Test.YtedmdilabbolaaaGreatDoorQr5
import Derived.Test.YtedmdilabbolaaaGreatDoorQr6
import Derived.Test.YtedmdilabbolaaaGreatDoorQr7
open List (setIfInBounds_toArray set_cons_zero set_cons_succ)
namespace Go.Proofs.YtedmdilabbolaaaGreatDoor
open Go.ChangeShapes Go.WideShapes Go.ChangeAt Go.RowKit Go.PlainAid
set_option linter.unusedVariables false
end Go.Proofs.YtedmdilabbolaaaGreatDoor
namespace Go.Proofs.YtedmdilabbolaaaGreatDoor
open Go.ChangeShapes Go.WideShapes Go.ChangeAt Go.RowKit Go.PlainAid
set_option linter.unusedVariables false
end Go.Proofs.YtedmdilabbolaaaGreatDoor
namespace Go.Proofs.YtedmdilabbolaaaGreatDoor
open Go.ChangeShapes Go.WideShapes Go.ChangeAt Go.RowKit Go.PlainAid
set_option linter.unusedVariables false
end Go.Proofs.YtedmdilabbolaaaGreatDoor
namespace Go.Proofs.YtedmdilabbolaaaGreatDoor
open Go.ChangeShapes Go.WideShapes Go.ChangeAt Go.RowKit Go.PlainAid
set_option linter.unusedVariables false
end Go.Proofs.YtedmdilabbolaaaGreatDoor
namespace Go.Proofs.YtedmdilabbolaaaGreatDoor
open Go.ChangeShapes Go.WideShapes Go.ChangeAt Go.RowKit Go.PlainAid
set_option linter.unusedVariables false
theorem isServerR (a:Int) (w:World):Calls Tryz.prog 47 #[.int .i64 a] w fun e w'=>e=.returned (.bool (srvB a))∧w=w':=by
 have c1:=inI a 0 4
 have HE:Hid (srvB a=inRg a 0 4):=rfl
 generalize srvB a=s at *
 generalize inRg a 0 4=b at *
 go_enter Tryz.func47,Tryz.ntmps47
 go_wp2_with fail
 refine (c1 _).mono ?_
 rintro e w' ⟨rfl,rfl⟩
 go_wp2_with fail
 go_ret
 exact ⟨by rw[HE.out];rfl,rfl⟩
set_option maxRecDepth 20000 in
set_option maxHeartbeats 8000000 in
theorem implRouterSay (x:Rtr) (d:Int) (v:Value) (w:World) (B:Nat) (hv:RtrV w B v x) (hB:B≤w.heap.size) (hk:x.call.key.size≤maxLen) (hd:x.call.data.size≤1048576) (hn:x.sers.length≤1048576) (hl:x.legs.length≤1048576) (ht:x.todo.length≤1048576) (hlx:∀ y∈x.legs,y.key.size≤maxLen∧y.data.size≤1048576∧y.told.size≤maxLen) (htx:∀ y∈x.todo,y.key.size≤maxLen∧y.data.size≤1048576) (hst:SumTab w) (e0 e1 e2:Addr) (he:Errs w e0 e1 e2) :
  Calls Tryz.prog 12 #[v,.int .i64 d] w fun e w'=>e=.returned (.tuple #[.int .i64 (sayG x d),vMg (sayM x d) (.slice none 0 0),.bool (sayB x d)])∧Below w.heap.size w w':=by
 have HVV:=Hid.mkQ hv
 obtain ⟨us,ul,ut,rfl,h1,h2,h3⟩:=hv
 obtain ⟨U,cu,rfl,hcu,-,hu⟩:=h1
 obtain ⟨L,cl,rfl,hl1⟩:=lgx_look h2
 obtain ⟨T,ct,rfl,ht1⟩:=tdo_look h3
 have HU:=Hid.mkQ hu
 have HTD:=Hid.mkQ ht1
 have HTX:=Hid.mkQ htx
 have HBB:=Hid.mkQ hB
 have HST:=Hid.mkQ hst
 have HER:=Hid.mkQ he
 have qs:(x.sers.length:Int)≤1048576:=by omega
 have qt:(x.todo.length:Int)≤1048576:=by omega
 have HSB:Hid (sayB x d=(rtOk x&&x.busy&&srvB d)):=rfl
 unfold vRtr
 obtain ⟨X,hX⟩:∃ X,X=(w.alloc (.cells #[.int .i64 x.id,.slice U x.sers.length cu,.bool x.busy,.int .i64 x.call.kind,.string x.call.key,.int .i64 x.call.frm,.int .i64 x.call.til,.string x.call.data,.int .i64 x.begun,.slice L x.legs.length cl,.slice T x.todo.length ct] 35)).alloc (.cells #[.int .i64 0,.int .i64 0,.int .i64 0,.int .i64 0,.int .i64 0,.int .i64 0,.int .i64 0,.bool false,.slice none 0 0,.string ⟨#[]⟩] 41):=⟨_,rfl⟩
 have BX:Hid (Below w.heap.size w X):=by unfold Hid;rw[hX];exact below_t2 w _ _
 have KX:Hid (Blk X w.heap.size #[.int .i64 x.id,.slice U x.sers.length cu,.bool x.busy,.int .i64 x.call.kind,.string x.call.key,.int .i64 x.call.frm,.int .i64 x.call.til,.string x.call.data,.int .i64 x.begun,.slice L x.legs.length cl,.slice T x.todo.length ct] 35):=by unfold Hid;rw[hX];exact (Blk.new w _ _).alloc _
 have RX:Hid (Blk X (w.heap.size+1) #[.int .i64 0,.int .i64 0,.int .i64 0,.int .i64 0,.int .i64 0,.int .i64 0,.int .i64 0,.bool false,.slice none 0 0,.string ⟨#[]⟩] 41):=by unfold Hid;rw[hX];have:=Blk.new (w.alloc (.cells #[.int .i64 x.id,.slice U x.sers.length cu,.bool x.busy,.int .i64 x.call.kind,.string x.call.key,.int .i64 x.call.frm,.int .i64 x.call.til,.string x.call.data,.int .i64 x.begun,.slice L x.legs.length cl,.slice T x.todo.length ct] 35)) #[.int .i64 0,.int .i64 0,.int .i64 0,.int .i64 0,.int .i64 0,.int .i64 0,.int .i64 0,.bool false,.slice none 0 0,.string ⟨#[]⟩] 41;rw[World.size_alloc] at this;exact this
 have cO:=implRouterOk x _ X B (HVV.out.on (BX.out.mono HBB.out)) (Nat.le_trans HBB.out BX.out.size) hk hd hn hl ht hlx htx (HST.out.on BX.out) e0 e1 e2 (HER.out.on BX.out)
 unfold vRtr at cO
 clear hu hl1 ht1 hlx htx hB h2 h3 hcu hk hd hn hl ht hst he
 obtain ⟨k0,k1,k2,k3,k4,k5,k6,k7,k8,k9,k10⟩:X.cell? ⟨w.heap.size,0,none⟩=some (.int .i64 x.id)∧X.cell? ⟨w.heap.size,1,none⟩=some (.slice U x.sers.length cu)∧X.cell? ⟨w.heap.size,2,none⟩=some (.bool x.busy)∧X.cell? ⟨w.heap.size,3,none⟩=some (.int .i64 x.call.kind)∧X.cell? ⟨w.heap.size,4,none⟩=some (.string x.call.key)∧X.cell? ⟨w.heap.size,5,none⟩=some (.int .i64 x.call.frm)∧X.cell? ⟨w.heap.size,6,none⟩=some (.int .i64 x.call.til)∧X.cell? ⟨w.heap.size,7,none⟩=some (.string x.call.data)∧X.cell? ⟨w.heap.size,8,none⟩=some (.int .i64 x.begun)∧X.cell? ⟨w.heap.size,9,none⟩=some (.slice L x.legs.length cl)∧X.cell? ⟨w.heap.size,10,none⟩=some (.slice T x.todo.length ct):=⟨KX.out.cell 0 _ rfl,KX.out.cell 1 _ rfl,KX.out.cell 2 _ rfl,KX.out.cell 3 _ rfl,KX.out.cell 4 _ rfl,KX.out.cell 5 _ rfl,KX.out.cell 6 _ rfl,KX.out.cell 7 _ rfl,KX.out.cell 8 _ rfl,KX.out.cell 9 _ rfl,KX.out.cell 10 _ rfl⟩
 rw[hX] at k0 k1 k2 k3 k4 k5 k6 k7 k8 k9 k10
 go_enter Tryz.func12,Tryz.ntmps12
 go_wp2_with fail
 rw[← hX]
 rw[← hX] at k0 k1 k2 k3 k4 k5 k6 k7 k8 k9 k10
 clear hX
 refine cO.mono ?_
 rintro e w1 ⟨rfl,hb⟩
 have B1:Hid (Below w.heap.size w w1):=BX.out.trans (hb.mono BX.out.size)
 have K1:=Hid.mkQ (KX.out.on hb KX.out.lt)
 have R1:=Hid.mkQ (RX.out.on hb RX.out.lt)
 clear hb cO KX RX k0 k1 k2 k3 k4 k5 k6 k7 k8 k9 k10
 obtain ⟨m0,m1,m2,m3,m4,m5,m6,m7,m8,m9,m10⟩:w1.cell? ⟨w.heap.size,0,none⟩=some (.int .i64 x.id)∧w1.cell? ⟨w.heap.size,1,none⟩=some (.slice U x.sers.length cu)∧w1.cell? ⟨w.heap.size,2,none⟩=some (.bool x.busy)∧w1.cell? ⟨w.heap.size,3,none⟩=some (.int .i64 x.call.kind)∧w1.cell? ⟨w.heap.size,4,none⟩=some (.string x.call.key)∧w1.cell? ⟨w.heap.size,5,none⟩=some (.int .i64 x.call.frm)∧w1.cell? ⟨w.heap.size,6,none⟩=some (.int .i64 x.call.til)∧w1.cell? ⟨w.heap.size,7,none⟩=some (.string x.call.data)∧w1.cell? ⟨w.heap.size,8,none⟩=some (.int .i64 x.begun)∧w1.cell? ⟨w.heap.size,9,none⟩=some (.slice L x.legs.length cl)∧w1.cell? ⟨w.heap.size,10,none⟩=some (.slice T x.todo.length ct):=⟨K1.out.cell 0 _ rfl,K1.out.cell 1 _ rfl,K1.out.cell 2 _ rfl,K1.out.cell 3 _ rfl,K1.out.cell 4 _ rfl,K1.out.cell 5 _ rfl,K1.out.cell 6 _ rfl,K1.out.cell 7 _ rfl,K1.out.cell 8 _ rfl,K1.out.cell 9 _ rfl,K1.out.cell 10 _ rfl⟩
 cases hok:rtOk x
 ·rw[hok] at HSB
  have hsb:Hid (sayB x d=false):=HSB.out
  obtain ⟨⟨r0,g0⟩,⟨r1,g1⟩,⟨r2,g2⟩,⟨r3,g3⟩,⟨r4,g4⟩,⟨r5,g5⟩,⟨r6,g6⟩,⟨r7,g7⟩,⟨r8,g8⟩,⟨r9,g9⟩,z0,z1,z2,z3,z4,z5,z6,z7,z8,z9⟩:=resC10 (x0:=.int .i64 0) (x1:=.int .i64 0) (x2:=.int .i64 0) (x3:=.int .i64 0) (x4:=.int .i64 0) (x5:=.int .i64 0) (x6:=.int .i64 0) (x7:=.bool false) (x8:=.slice none 0 0) (x9:=.string ⟨#[]⟩) R1.out
  have FB:=Hid.mkQ (belowC10 B1.out (show w.heap.size≤w.heap.size+1 by omega) (.int .i64 0) (.int .i64 0) (.int .i64 0) (.int .i64 0) (.int .i64 0) (.int .i64 0) (.int .i64 0) (.bool false) (.slice none 0 0) (.string ⟨#[]⟩))
  go_wp2_with fail
  exact bodyPost_ret (v:=.tuple #[.int .i64 0,.agg #[.int .i64 0,.int .i64 0,.int .i64 0,.int .i64 0,.int .i64 0,.int .i64 0,.int .i64 0,.bool false,.slice none 0 0,.string ⟨#[]⟩],.bool false]) (by simp[results,go_sem,z0,z1,z2,z3,z4,z5,z6,z7,z8,z9]) rfl ⟨by rw[sayM_no hsb.out,sayG_no hsb.out,hsb.out];rfl,FB.out⟩
 cases hbz:x.busy
 ·rw[hok,hbz] at HSB
  rw[hbz] at m2
  have hsb:Hid (sayB x d=false):=HSB.out
  obtain ⟨⟨r0,g0⟩,⟨r1,g1⟩,⟨r2,g2⟩,⟨r3,g3⟩,⟨r4,g4⟩,⟨r5,g5⟩,⟨r6,g6⟩,⟨r7,g7⟩,⟨r8,g8⟩,⟨r9,g9⟩,z0,z1,z2,z3,z4,z5,z6,z7,z8,z9⟩:=resC10 (x0:=.int .i64 0) (x1:=.int .i64 0) (x2:=.int .i64 0) (x3:=.int .i64 0) (x4:=.int .i64 0) (x5:=.int .i64 0) (x6:=.int .i64 0) (x7:=.bool false) (x8:=.slice none 0 0) (x9:=.string ⟨#[]⟩) R1.out
  have FB:=Hid.mkQ (belowC10 B1.out (show w.heap.size≤w.heap.size+1 by omega) (.int .i64 0) (.int .i64 0) (.int .i64 0) (.int .i64 0) (.int .i64 0) (.int .i64 0) (.int .i64 0) (.bool false) (.slice none 0 0) (.string ⟨#[]⟩))
  go_wp2_with fail
  exact bodyPost_ret (v:=.tuple #[.int .i64 0,.agg #[.int .i64 0,.int .i64 0,.int .i64 0,.int .i64 0,.int .i64 0,.int .i64 0,.int .i64 0,.bool false,.slice none 0 0,.string ⟨#[]⟩],.bool false]) (by simp[results,go_sem,z0,z1,z2,z3,z4,z5,z6,z7,z8,z9]) rfl ⟨by rw[sayM_no hsb.out,sayG_no hsb.out,hsb.out];rfl,FB.out⟩
 rw[hbz] at m2
 have cS:=fun wx=>isServerR d wx
 cases hsv:srvB d<;>rw[hsv] at cS
 ·rw[hok,hbz,hsv] at HSB
  have hsb:Hid (sayB x d=false):=HSB.out
  obtain ⟨⟨r0,g0⟩,⟨r1,g1⟩,⟨r2,g2⟩,⟨r3,g3⟩,⟨r4,g4⟩,⟨r5,g5⟩,⟨r6,g6⟩,⟨r7,g7⟩,⟨r8,g8⟩,⟨r9,g9⟩,z0,z1,z2,z3,z4,z5,z6,z7,z8,z9⟩:=resC10 (x0:=.int .i64 0) (x1:=.int .i64 0) (x2:=.int .i64 0) (x3:=.int .i64 0) (x4:=.int .i64 0) (x5:=.int .i64 0) (x6:=.int .i64 0) (x7:=.bool false) (x8:=.slice none 0 0) (x9:=.string ⟨#[]⟩) R1.out
  have FB:=Hid.mkQ (belowC10 B1.out (show w.heap.size≤w.heap.size+1 by omega) (.int .i64 0) (.int .i64 0) (.int .i64 0) (.int .i64 0) (.int .i64 0) (.int .i64 0) (.int .i64 0) (.bool false) (.slice none 0 0) (.string ⟨#[]⟩))
  go_wp2_with fail
  refine (cS _).mono ?_
  rintro e w' ⟨rfl,rfl⟩
  go_wp2_with fail
  exact bodyPost_ret (v:=.tuple #[.int .i64 0,.agg #[.int .i64 0,.int .i64 0,.int .i64 0,.int .i64 0,.int .i64 0,.int .i64 0,.int .i64 0,.bool false,.slice none 0 0,.string ⟨#[]⟩],.bool false]) (by simp[results,go_sem,z0,z1,z2,z3,z4,z5,z6,z7,z8,z9]) rfl ⟨by rw[sayM_no hsb.out,sayG_no hsb.out,hsb.out];rfl,FB.out⟩
 rw[hok,hbz,hsv] at HSB
 have hsb:sayB x d=true:=HSB.out
 have HM:=Hid.mkQ (sayM_yes hsb)
 have HG:=Hid.mkQ (sayG_yes hsb)
 have HB1:=Hid.mkQ hsb
 have HOK:=Hid.mkQ (rtOk_iff.1 hok)
 have HW:=Hid.mkQ (HOK.out.work hbz)
 rw[hbz] at K1
 clear hok hsb HSB
 have q4:(0:Int)<(x.todo.length:Int):=by have:=HW.out.one;omega
 have q4n:0<x.todo.length:=HW.out.one
 obtain ⟨g,off,rfl,hg2,c0,c1,c2,c3,c4,c5⟩:=HTD.out 0 HW.out.one
 rw[Nat.zero_mul,Nat.add_zero] at c0 c1 c2 c3 c4 c5
 have hm:x.todo.getD 0 default∈x.todo:=by
  rw[List.getD_eq_getElem?_getD,List.getElem?_eq_getElem HW.out.one]
  exact List.getElem_mem HW.out.one
 have hym:=HW.out.td _ hm
 have hyx:=HTX.out _ hm
 have HS3:=Hid.mkQ HOK.out.sn
 unfold fstT at HM HG
 generalize x.todo.getD 0 default=y at *
 obtain ⟨gn,hgn⟩:∃ gn:Nat,y.group=(gn:Int):=⟨y.group.toNat,by omega⟩
 have hgl:gn<x.sers.length:=by have:=HS3.out;omega
 obtain ⟨gu,ou,rfl,hgu,hcu⟩:=HU.out gn hgl
 have q7:(gn:Int)<(x.sers.length:Int):=by omega
 have HGN:Hid (y.group.toNat=gn):=by unfold Hid;omega
 rw[HGN.out] at HM
 rw[hgn] at c0
 rw[hgn] at HG
 generalize x.sers.getD gn 0=sv at *
 have qi:x.id≤4:=HOK.out.id.2
 have qi2:1≤x.id:=HOK.out.id.1
 have hw10:IntKind.i64.wrap (10+x.id)=10+x.id:=by rw[IntKind.wrap_i64];omega
 rw[← B1.out.cell (p:=⟨g,_,none⟩) (Nat.lt_of_lt_of_le hg2 HBB.out)] at c0
 rw[← B1.out.cell (p:=⟨g,_,none⟩) (Nat.lt_of_lt_of_le hg2 HBB.out)] at c1
 rw[← B1.out.cell (p:=⟨g,_,none⟩) (Nat.lt_of_lt_of_le hg2 HBB.out)] at c2
 rw[← B1.out.cell (p:=⟨g,_,none⟩) (Nat.lt_of_lt_of_le hg2 HBB.out)] at c3
 rw[← B1.out.cell (p:=⟨g,_,none⟩) (Nat.lt_of_lt_of_le hg2 HBB.out)] at c4
 rw[← B1.out.cell (p:=⟨g,_,none⟩) (Nat.lt_of_lt_of_le hg2 HBB.out)] at c5
 obtain ⟨Xt,hXt⟩:∃ Xt,Xt=w1.alloc (.cells #[.int .i64 (gn:Int),.int .i64 y.kind,.string y.key,.int .i64 y.frm,.int .i64 y.til,.string y.data] 67):=⟨_,rfl⟩
 have hbt:Below w1.heap.size w1 Xt:=by rw[hXt];exact below_a1 _ _
 have KT:Hid (Blk Xt w1.heap.size #[.int .i64 (gn:Int),.int .i64 y.kind,.string y.key,.int .i64 y.frm,.int .i64 y.til,.string y.data] 67):=by unfold Hid;rw[hXt];exact Blk.new w1 _ _
 have BT:=Hid.mkQ (B1.out.trans (hbt.mono B1.out.size))
 have hdr:=(Below.refl Xt.heap.size Xt).drew
 have BD:=Hid.mkQ (BT.out.trans (hdr.mono BT.out.size))
 have KD:Hid (Blk Xt.drew w.heap.size #[.int .i64 x.id,.slice (some ⟨gu,ou,none⟩) x.sers.length cu,.bool true,.int .i64 x.call.kind,.string x.call.key,.int .i64 x.call.frm,.int .i64 x.call.til,.string x.call.data,.int .i64 x.begun,.slice L x.legs.length cl,.slice (some ⟨g,off,none⟩) x.todo.length ct] 35):=(K1.out.on hbt K1.out.lt).on hdr (K1.out.on hbt K1.out.lt).lt
 have RD:Hid (Blk Xt.drew (w.heap.size+1) #[.int .i64 0,.int .i64 0,.int .i64 0,.int .i64 0,.int .i64 0,.int .i64 0,.int .i64 0,.bool false,.slice none 0 0,.string ⟨#[]⟩] 41):=(R1.out.on hbt R1.out.lt).on hdr (R1.out.on hbt R1.out.lt).lt
 have TD:=Hid.mkQ (KT.out.on hdr KT.out.lt)
 have HGU:=Hid.mkQ (Nat.lt_of_lt_of_le hgu HBB.out)
 have SF:Hid (∀ W,Below w.heap.size w W→Blk W w.heap.size #[.int .i64 x.id,.slice (some ⟨gu,ou,none⟩) x.sers.length cu,.bool true,.int .i64 x.call.kind,.string x.call.key,.int .i64 x.call.frm,.int .i64 x.call.til,.string x.call.data,.int .i64 x.begun,.slice L x.legs.length cl,.slice (some ⟨g,off,none⟩) x.todo.length ct] 35→Blk W w1.heap.size #[.int .i64 (gn:Int),.int .i64 y.kind,.string y.key,.int .i64 y.frm,.int .i64 y.til,.string y.data] 67→W.cell? ⟨w.heap.size,0,none⟩=some (.int .i64 x.id)∧W.cell? ⟨w.heap.size,1,none⟩=some (.slice (some ⟨gu,ou,none⟩) x.sers.length cu)∧W.cell? ⟨w1.heap.size,0,none⟩=some (.int .i64 (gn:Int))∧W.cell? ⟨w1.heap.size,1,none⟩=some (.int .i64 y.kind)∧W.cell? ⟨w1.heap.size,2,none⟩=some (.string y.key)∧W.cell? ⟨w1.heap.size,3,none⟩=some (.int .i64 y.frm)∧W.cell? ⟨w1.heap.size,4,none⟩=some (.int .i64 y.til)∧W.cell? ⟨w1.heap.size,5,none⟩=some (.string y.data)∧W.cell? ⟨gu,ou+gn,none⟩=some (.int .i64 sv)):=fun W hb hk ht=>⟨hk.cell 0 _ rfl,hk.cell 1 _ rfl,ht.cell 0 _ rfl,ht.cell 1 _ rfl,ht.cell 2 _ rfl,ht.cell 3 _ rfl,ht.cell 4 _ rfl,ht.cell 5 _ rfl,(hb.cell (p:=⟨gu,ou+gn,none⟩) HGU.out).trans hcu⟩
 have S0:=Hid.mkQ (SF.out _ BD.out KD.out TD.out)
 have cT:=implShowOp y.op Xt.drew hyx.1 hyx.2 (HST.out.on BD.out) e0 e1 e2 (HER.out.on BD.out)
 simp only[vOp,Tdo.op] at cT
 simp only[Tdo.op] at HM
 generalize opT ⟨y.kind,y.key,y.frm,y.til,y.data⟩=tx at *
 have HLT:Hid (w.heap.size+1<w1.heap.size):=R1.out.lt
 clear hym hyx hm hg2 hgu hbt hdr hcu
 go_wp2_with fail
 refine (cS _).mono ?_
 rintro e w' ⟨rfl,rfl⟩
 go_wp2_with fail
 rw[← hXt]
 clear hXt m0 m1 m2 m3 m4 m5 m6 m7 m8 m9 m10 c0 c1 c2 c3 c4 c5 cS KT K1 R1 B1 BT
 refine wp_region_until (fun w'=>w'.cell? ⟨w.heap.size,0,none⟩=some (.int .i64 x.id)∧w'.cell? ⟨w.heap.size,1,none⟩=some (.slice (some ⟨gu,ou,none⟩) x.sers.length cu)∧w'.cell? ⟨w1.heap.size,0,none⟩=some (.int .i64 (gn:Int))∧w'.cell? ⟨w1.heap.size,1,none⟩=some (.int .i64 y.kind)∧w'.cell? ⟨w1.heap.size,2,none⟩=some (.string y.key)∧w'.cell? ⟨w1.heap.size,3,none⟩=some (.int .i64 y.frm)∧w'.cell? ⟨w1.heap.size,4,none⟩=some (.int .i64 y.til)∧w'.cell? ⟨w1.heap.size,5,none⟩=some (.string y.data)∧w'.cell? ⟨gu,ou+gn,none⟩=some (.int .i64 sv)) (fun i=>false) 19 (by rfl) (by kernel_rfl) ?_
 refine pF 0 ?_
 refine tF 1 S0.out ?_
 refine pF 2 ?_
 refine tF 3 S0.out ?_
 refine pF 4 ?_
 refine pF 5 ?_
 refine pF 6 ?_
 refine tF 7 S0.out ?_
 refine pF 8 ?_
 refine tF 9 S0.out ?_
 refine pF 10 ?_
 refine tF 11 S0.out ?_
 refine pF 12 ?_
 refine tF 13 S0.out ?_
 refine uNe 14 (fun K hK=>?_)
 go_simp
 refine cT.mono ?_
 rintro e w5 ⟨rfl,hb⟩
 have B5:=Hid.mkQ (BD.out.trans (hb.mono BD.out.size))
 have K5:=Hid.mkQ (KD.out.on hb KD.out.lt)
 have T5:=Hid.mkQ (TD.out.on hb TD.out.lt)
 have R5:=Hid.mkQ (RD.out.on hb RD.out.lt)
 have S5:=Hid.mkQ (SF.out _ B5.out K5.out T5.out)
 clear hb cT
 go_wp2_with fail
 refine hK.out _ _ (fun _ _=>S5.out) ?_
 clear hK K
 try simp only[Act.put,zQ1,zQ2,zQ3]
 refine pF 15 ?_
 refine pF 16 ?_
 obtain ⟨⟨r0,g0⟩,⟨r1,g1⟩,⟨r2,g2⟩,⟨r3,g3⟩,⟨r4,g4⟩,⟨r5,g5⟩,⟨r6,g6⟩,⟨r7,g7⟩,⟨r8,g8⟩,⟨r9,g9⟩,z0,z1,z2,z3,z4,z5,z6,z7,z8,z9⟩:=resC10 (x0:=.int .i64 6) (x1:=.int .i64 (10+x.id)) (x2:=.int .i64 d) (x3:=.int .i64 0) (x4:=.int .i64 sv) (x5:=.int .i64 0) (x6:=.int .i64 0) (x7:=.bool false) (x8:=.slice none 0 0) (x9:=.string tx) R5.out
 have FB:=Hid.mkQ (belowC10 B5.out (show w.heap.size≤w.heap.size+1 by omega) (.int .i64 6) (.int .i64 (10+x.id)) (.int .i64 d) (.int .i64 0) (.int .i64 sv) (.int .i64 0) (.int .i64 0) (.bool false) (.slice none 0 0) (.string tx))
 refine uNe 17 (fun K hK=>?_)
 go_simp
 refine hK.out _ _ (fun _ _=>SF.out _ FB.out (otherR10 K5.out (by omega) (.int .i64 6) (.int .i64 (10+x.id)) (.int .i64 d) (.int .i64 0) (.int .i64 sv) (.int .i64 0) (.int .i64 0) (.bool false) (.slice none 0 0) (.string tx)) (otherR10 T5.out (by have:=HLT.out;omega) (.int .i64 6) (.int .i64 (10+x.id)) (.int .i64 d) (.int .i64 0) (.int .i64 sv) (.int .i64 0) (.int .i64 0) (.bool false) (.slice none 0 0) (.string tx))) ?_
 clear hK K
 try simp only[Act.put,zQ1,zQ2,zQ3]
 refine pF 18 ?_
 refine until_done (by kernel_rfl) ?_ _
 try go_wp2_with fail
 exact bodyPost_ret (v:=.tuple #[.int .i64 (gn:Int),.agg #[.int .i64 6,.int .i64 (10+x.id),.int .i64 d,.int .i64 0,.int .i64 sv,.int .i64 0,.int .i64 0,.bool false,.slice none 0 0,.string tx],.bool true]) (by simp[results,go_sem,z0,z1,z2,z3,z4,z5,z6,z7,z8,z9]) rfl ⟨by rw[HM.out,HG.out,HB1.out];rfl,FB.out⟩
end Go.Proofs.YtedmdilabbolaaaGreatDoor
