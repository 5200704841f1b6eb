/- RtSz RtArg BtOk BtRise BtDif BtTim -/
import Derived.Test.YtedmdilabbolaaaGreatDoorRows
import Derived.Test.YtedmdilabbolaaaGreatDoorQr3
import Derived.Test.YtedmdilabbolaaaGreatDoorQr0
import Derived.Deep.Cut
import Derived.Handy
import Derived.Deep.Slices
import Derived.ChangeSlices
import Derived.ChangeArms
import Derived.OpenShut
import Derived.Test.YtedmdilabbolaaaGreatDoorQr2
import Derived.Test.YtedmdilabbolaaaGreatDoorQr1
open List (setIfInBounds_toArray set_cons_zero set_cons_succ)
namespace Go.Proofs.YtedmdilabbolaaaGreatDoor
open Go.ChangeShapes Go.WideShapes Go.ChangeAt Go.RowKit Go.PlainAid
set_option linter.unusedVariables false
theorem belowA2 (w:World) (a b:Obj):Below w.heap.size w ((w.alloc a).alloc b):=((Below.refl _ w).alloc (Nat.le_refl _) a).alloc (by simp) b
theorem belowA3 (w:World) (a b c:Obj):Below w.heap.size w (((w.alloc a).alloc b).alloc c):=(((Below.refl _ w).alloc (Nat.le_refl _) a).alloc (by simp) b).alloc (by simp;omega) c
set_option maxHeartbeats 1000000 in
theorem szIntS (l:List Int) (A:Option Addr) (c:Nat) (left:Int) (w:World) (hn:l.length≤maxLen) (h0:0≤left) (h1:left≤1048576) :
  Calls Tryz.prog 25 #[.slice A l.length c,.int .i64 left] w fun e w'=>(∃ r,e=.returned (.int .i64 r)∧Hid (r=-1∨0≤r∧r+(l.length:Int)=left))∧w=w':=by
 unfold maxLen at hn
 generalize l.length=n at *
 have q1:(n:Int)≤9223372036854775807:=by omega
 have w2:IntKind.i64.wrap (left - (n:Int))=left - (n:Int):=by rw[IntKind.wrap_i64];omega
 by_cases hl:left<(n:Int)
 ·have HL:Hid (left<(n:Int)):=hl
  have q2:left - (n:Int)<0:=by omega
  clear hl
  go_enter Tryz.func25,Tryz.ntmps25
  go_wp2
  go_ret
  exact ⟨⟨_,rfl,.inl rfl⟩,rfl⟩
 ·have HL:Hid ((n:Int)≤left):=by unfold Hid;omega
  have q3:decide (left - (n:Int)<0)=false:=decide_eq_false (by omega)
  have q4:¬ left - (n:Int)<0:=by omega
  clear hl
  go_enter Tryz.func25,Tryz.ntmps25
  go_wp2
  go_ret
  exact ⟨⟨_,rfl,.inr ⟨by have:=HL.out;omega,by omega⟩⟩,rfl⟩
set_option maxHeartbeats 400000 in
theorem szCall (x:Opx) (left:Int) (w:World) (h0:0≤left) (h1:left≤1048576) (hx:OpFit x) :
  Calls Tryz.prog 26 #[vOp x,.int .i64 left] w fun e w'=>(∃ r,e=.returned (.int .i64 r)∧Hid (r=-1∨0≤r∧r+(x.key.size:Int)+(x.data.size:Int)=left))∧Below w.heap.size w w':=by
 unfold OpFit maxLen at hx
 unfold vOp
 obtain ⟨xk,xkey,xf,xt,xdata⟩:=x
 simp only at hx ⊢
 generalize hm:xkey.size=m at *
 generalize hn:xdata.size=n at *
 have q0:(m:Int)≤9223372036854775807:=by omega
 have q1:(n:Int)≤9223372036854775807:=by omega
 have w1:wrap64 (left - (m:Int))=left - (m:Int):=by unfold wrap64;omega
 by_cases hl:left<(m:Int)
 ·have HL:Hid (left<(m:Int)):=hl
  have q2:left - (m:Int)<0:=by omega
  go_enter Tryz.func26,Tryz.ntmps26
  go_wp2
  go_ret
  exact ⟨⟨_,rfl,.inl rfl⟩,(Below.refl _ _).alloc (Nat.le_refl _) _⟩
 ·have q2:0≤left - (m:Int):=by omega
  have q3:decide (left - (m:Int)<0)=false:=decide_eq_false (by omega)
  have w2:wrap64 (left - (m:Int) - (n:Int))=left - (m:Int) - (n:Int):=by unfold wrap64;omega
  by_cases hl2:left - (m:Int)<(n:Int)
  ·have q4:left - (m:Int) - (n:Int)<0:=by omega
   go_enter Tryz.func26,Tryz.ntmps26
   go_wp2
   go_ret
   exact ⟨⟨_,rfl,.inl rfl⟩,(Below.refl _ _).alloc (Nat.le_refl _) _⟩
  ·have HL:Hid (0≤left - (m:Int) - (n:Int)):=by unfold Hid;omega
   have q4:decide (left - (m:Int) - (n:Int)<0)=false:=decide_eq_false (by omega)
   go_enter Tryz.func26,Tryz.ntmps26
   go_wp2
   go_ret
   exact ⟨⟨_,rfl,.inr ⟨by have:=HL.out;omega,by omega⟩⟩,(Below.refl _ _).alloc (Nat.le_refl _) _⟩
set_option maxHeartbeats 400000 in
theorem toCall (x:Opx) (w:World):Calls Tryz.prog 35 #[vOp x] w fun e w'=>e=.returned (vOp x)∧Below w.heap.size w w':=by
 unfold vOp
 go_enter Tryz.func35,Tryz.ntmps35
 go_wp2
 exact bodyPost_ret (v:=.agg #[.int .i64 x.kind,.string x.key,.int .i64 x.frm,.int .i64 x.til,.string x.data]) (by simp[results,go_sem]) rfl ⟨rfl,below_a3 _ _ _ _⟩
theorem eqCallT (x:Opx) (w:World):Calls Tryz.prog 42 #[vOp x,vOp x] w fun e w'=>e=.returned (.bool true)∧Below w.heap.size w w':=by
 unfold vOp
 go_enter Tryz.func42,Tryz.ntmps42
 go_wp2
 go_ret
 exact ⟨rfl,below_t2 _ _ _⟩
def wtR (x:Rtr):Nat:=x.sers.length+(x.call.key.size+x.call.data.size)+(x.legs.length+wtG x.legs)+(x.todo.length+wtD x.todo)
structure ShortR (x:Rtr):Prop where
 s:x.sers.length≤1048576
 k:x.call.key.size≤1048576
 d:x.call.data.size≤1048576
 l:x.legs.length≤1048576
 t:x.todo.length≤1048576
 lx:∀ y∈x.legs,y.key.size≤1048576∧y.data.size≤1048576∧y.told.size≤1048576
 tx:∀ y∈x.todo,y.key.size≤1048576∧y.data.size≤1048576
theorem wtG_mem:∀ (l:List Lgx) (y:Lgx),y∈l→wtG1 y≤wtG l
 | x::r,y,h=>by
  unfold wtG
  rcases List.mem_cons.1 h with rfl | h
  ·omega
  ·have:=wtG_mem r y h;omega
theorem wtD_mem:∀ (l:List Tdo) (y:Tdo),y∈l→wtD1 y≤wtD l
 | x::r,y,h=>by
  unfold wtD
  rcases List.mem_cons.1 h with rfl | h
  ·omega
  ·have:=wtD_mem r y h;omega
theorem ShortR.of {x:Rtr} (h:wtR x≤1048576):ShortR x:=by
 unfold wtR at h
 refine ⟨by omega,by omega,by omega,by omega,by omega,fun y hy=>?_,fun y hy=>?_⟩
 ·have:=wtG_mem _ _ hy;unfold wtG1 at this;omega
 ·have:=wtD_mem _ _ hy;unfold wtD1 at this;omega
set_option maxHeartbeats 4000000 in
theorem szRouter (x:Rtr) (v:Value) (w:World) (B:Nat) (left:Int) (h0:0≤left) (h1:left≤1048576) (hv:RtrV w B v x) (hf:FitsR x) (hB:B≤w.heap.size) :
  Calls Tryz.prog 6 #[v,.int .i64 left] w fun e w'=>∃ r:Int,e=.returned (.int .i64 r)∧Hid (r=-1∨0≤r∧r+(wtR x:Int)=left)∧Below w.heap.size w w':=by
 obtain ⟨us,ul,ut,rfl,hs,hl,ht⟩:=hv
 unfold vRtr
 obtain ⟨A0,c0,rfl,-⟩:=hs
 obtain ⟨A1,c1,rfl,-⟩:=lgx_look hl
 obtain ⟨A2,c2,rfl,-⟩:=tdo_look ht
 have HF:Hid (FitsR x):=hf
 have HB:Hid (B≤w.heap.size):=hB
 have HL:=Hid.mkQ hl
 have HT:=Hid.mkQ ht
 have HW:Hid (wtR x=x.sers.length+(x.call.key.size+x.call.data.size)+(x.legs.length+wtG x.legs)+(x.todo.length+wtD x.todo)):=rfl
 have K0:=Hid.mkQ (Blk.new w #[.int .i64 x.id,.slice A0 x.sers.length c0,.bool x.busy,.int .i64 x.call.kind,.string x.call.key,.int .i64 x.call.frm,.int .i64 x.call.til,.string x.call.data,.int .i64 x.begun,.slice A1 x.legs.length c1,.slice A2 x.todo.length c2] 28)
 have B1:Hid (Below w.heap.size w (w.alloc (.cells #[.int .i64 x.id,.slice A0 x.sers.length c0,.bool x.busy,.int .i64 x.call.kind,.string x.call.key,.int .i64 x.call.frm,.int .i64 x.call.til,.string x.call.data,.int .i64 x.begun,.slice A1 x.legs.length c1,.slice A2 x.todo.length c2] 28))):=(Below.refl _ _).alloc (Nat.le_refl _) _
 clear hl ht hf hB
 go_enter Tryz.func6,Tryz.ntmps6
 go_wp2_with fail
 generalize hw1:w.alloc (.cells #[.int .i64 x.id,.slice A0 x.sers.length c0,.bool x.busy,.int .i64 x.call.kind,.string x.call.key,.int .i64 x.call.frm,.int .i64 x.call.til,.string x.call.data,.int .i64 x.begun,.slice A1 x.legs.length c1,.slice A2 x.todo.length c2] 28)=w1 at *
 refine (szIntS x.sers A0 c0 left w1 HF.out.n h0 h1).mono ?_
 rintro e w' ⟨⟨r1,rfl,HR1⟩,rfl⟩
 rcases HR1.out with rfl | ⟨hp1,hq1⟩
 ·go_wp2_with fail
  go_ret
  exact ⟨-1,rfl,.inl rfl,B1.out⟩
 have q1:decide (r1<0)=false:=decide_eq_false (by omega)
 have HQ1:Hid (r1+(x.sers.length:Int)=left):=hq1
 have qr1:r1≤1048576:=by omega
 clear hq1 HR1
 have g3:=K0.out.cell 3 _ rfl
 have g4:=K0.out.cell 4 _ rfl
 have g5:=K0.out.cell 5 _ rfl
 have g6:=K0.out.cell 6 _ rfl
 have g7:=K0.out.cell 7 _ rfl
 have cC:=szCall x.call r1 w1 hp1 qr1 ⟨HF.out.ck,HF.out.cd⟩
 unfold vOp at cC
 go_wp2_with fail
 refine cC.mono ?_
 rintro e w2 ⟨⟨r2,rfl,HR2⟩,hb2⟩
 have B2:Hid (Below w.heap.size w w2):=B1.out.trans (hb2.mono B1.out.size)
 have K2:=Hid.mkQ (K0.out.on hb2 K0.out.lt)
 clear hb2 hw1 K0 cC g3 g4 g5 g6 g7
 rcases HR2.out with rfl | ⟨hp2,hq2⟩
 ·go_wp2_with fail
  go_ret
  exact ⟨-1,rfl,.inl rfl,B2.out⟩
 have q2:decide (r2<0)=false:=decide_eq_false (by omega)
 have HQ2:Hid (r2+(x.call.key.size:Int)+(x.call.data.size:Int)=r1):=hq2
 have qr2:r2≤1048576:=by omega
 clear hq2 HR2
 have g9:=K2.out.cell 9 _ rfl
 go_wp2_with fail
 refine (szLegS x.legs _ r2 w2 B (HL.out.on (B2.out.mono HB.out)) HF.out.lx HF.out.l hp2 qr2 (Nat.le_trans HB.out B2.out.size)).mono ?_
 rintro e w3 ⟨r3,rfl,hr3,hb3⟩
 have B3:Hid (Below w.heap.size w w3):=B2.out.trans (hb3.mono B2.out.size)
 have K3:=Hid.mkQ (K2.out.on hb3 K2.out.lt)
 have HR3:=Hid.mkQ hr3
 clear hb3 K2 g9 hr3
 rcases HR3.out with rfl | ⟨hp3,hq3⟩
 ·go_wp2_with fail
  go_ret
  exact ⟨-1,rfl,.inl rfl,B3.out⟩
 have q3:decide (r3<0)=false:=decide_eq_false (by omega)
 have HQ3:Hid (r3+((x.legs.length+wtG x.legs:Nat):Int)=r2):=hq3
 have qr3:r3≤1048576:=by omega
 clear hq3 HR3
 have g10:=K3.out.cell 10 _ rfl
 go_wp2_with fail
 refine (szTodoS x.todo _ r3 w3 B (HT.out.on (B3.out.mono HB.out)) HF.out.tx HF.out.t hp3 qr3 (Nat.le_trans HB.out B3.out.size)).mono ?_
 rintro e w4 ⟨r4,rfl,hr4,hb4⟩
 have B4:Hid (Below w.heap.size w w4):=B3.out.trans (hb4.mono B3.out.size)
 have HR4:=Hid.mkQ hr4
 clear hb4 hr4
 rcases HR4.out with rfl | ⟨hp4,hq4⟩
 ·go_wp2_with fail
  go_ret
  exact ⟨-1,rfl,.inl rfl,B4.out⟩
 have q4:decide (r4<0)=false:=decide_eq_false (by omega)
 have HQ4:Hid (r4+((x.todo.length+wtD x.todo:Nat):Int)=r3):=hq4
 clear hq4 HR4
 go_wp2_with fail
 go_ret
 refine ⟨r4,rfl,.inr ⟨hp4,?_⟩,B4.out⟩
 have:=HQ1.out
 have:=HQ2.out
 have:=HQ3.out
 have:=HQ4.out
 rw[HW.out]
 omega
set_option maxHeartbeats 16000000 in
theorem toRouter (x:Rtr) (v:Value) (w:World) (B:Nat) (hv:RtrV w B v x) (hs:ShortR x) (hB:B≤w.heap.size) :
  Calls Tryz.prog 8 #[v] w fun e w'=>∃ us ul ut,e=.returned (vRtr x us ul ut)∧RtRows w' w.heap.size x us ul ut∧Below w.heap.size w w':=by
 obtain ⟨us,ul,ut,rfl,h1,h2,h3⟩:=hv
 unfold vRtr
 have HB:Hid (B≤w.heap.size):=hB
 have H1:=Hid.mkQ h1
 have H2:=Hid.mkQ h2
 have H3:=Hid.mkQ h3
 have HS:=Hid.mkQ hs
 clear h1 h2 h3 hs hB
 go_enter Tryz.func8,Tryz.ntmps8
 go_wp2_with fail
 have hb0:=belowA3 w (.cells #[.int .i64 x.id,us,.bool x.busy,.int .i64 x.call.kind,.string x.call.key,.int .i64 x.call.frm,.int .i64 x.call.til,.string x.call.data,.int .i64 x.begun,ul,ut] 28) (.cells #[.int .i64 0,.slice none 0 0,.bool false,.int .i64 0,.string ⟨#[]⟩,.int .i64 0,.int .i64 0,.string ⟨#[]⟩,.int .i64 0,.slice none 0 0,.slice none 0 0] 35) (.cells #[.int .i64 x.id,.slice none 0 0,.bool false,.int .i64 0,.string ⟨#[]⟩,.int .i64 0,.int .i64 0,.string ⟨#[]⟩,.int .i64 0,.slice none 0 0,.slice none 0 0] 35)
 have bI:=((Blk.new w #[.int .i64 x.id,us,.bool x.busy,.int .i64 x.call.kind,.string x.call.key,.int .i64 x.call.frm,.int .i64 x.call.til,.string x.call.data,.int .i64 x.begun,ul,ut] 28).alloc (.cells #[.int .i64 0,.slice none 0 0,.bool false,.int .i64 0,.string ⟨#[]⟩,.int .i64 0,.int .i64 0,.string ⟨#[]⟩,.int .i64 0,.slice none 0 0,.slice none 0 0] 35)).alloc (.cells #[.int .i64 x.id,.slice none 0 0,.bool false,.int .i64 0,.string ⟨#[]⟩,.int .i64 0,.int .i64 0,.string ⟨#[]⟩,.int .i64 0,.slice none 0 0,.slice none 0 0] 35)
 have bR:=(Blk.new (w.alloc (.cells #[.int .i64 x.id,us,.bool x.busy,.int .i64 x.call.kind,.string x.call.key,.int .i64 x.call.frm,.int .i64 x.call.til,.string x.call.data,.int .i64 x.begun,ul,ut] 28)) #[.int .i64 0,.slice none 0 0,.bool false,.int .i64 0,.string ⟨#[]⟩,.int .i64 0,.int .i64 0,.string ⟨#[]⟩,.int .i64 0,.slice none 0 0,.slice none 0 0] 35).alloc (.cells #[.int .i64 x.id,.slice none 0 0,.bool false,.int .i64 0,.string ⟨#[]⟩,.int .i64 0,.int .i64 0,.string ⟨#[]⟩,.int .i64 0,.slice none 0 0,.slice none 0 0] 35)
 have bO:=Blk.new ((w.alloc (.cells #[.int .i64 x.id,us,.bool x.busy,.int .i64 x.call.kind,.string x.call.key,.int .i64 x.call.frm,.int .i64 x.call.til,.string x.call.data,.int .i64 x.begun,ul,ut] 28)).alloc (.cells #[.int .i64 0,.slice none 0 0,.bool false,.int .i64 0,.string ⟨#[]⟩,.int .i64 0,.int .i64 0,.string ⟨#[]⟩,.int .i64 0,.slice none 0 0,.slice none 0 0] 35)) #[.int .i64 x.id,.slice none 0 0,.bool false,.int .i64 0,.string ⟨#[]⟩,.int .i64 0,.int .i64 0,.string ⟨#[]⟩,.int .i64 0,.slice none 0 0,.slice none 0 0] 35
 simp only[World.size_alloc] at bI bR bO
 generalize ((w.alloc (.cells #[.int .i64 x.id,us,.bool x.busy,.int .i64 x.call.kind,.string x.call.key,.int .i64 x.call.frm,.int .i64 x.call.til,.string x.call.data,.int .i64 x.begun,ul,ut] 28)).alloc (.cells #[.int .i64 0,.slice none 0 0,.bool false,.int .i64 0,.string ⟨#[]⟩,.int .i64 0,.int .i64 0,.string ⟨#[]⟩,.int .i64 0,.slice none 0 0,.slice none 0 0] 35)).alloc (.cells #[.int .i64 x.id,.slice none 0 0,.bool false,.int .i64 0,.string ⟨#[]⟩,.int .i64 0,.int .i64 0,.string ⟨#[]⟩,.int .i64 0,.slice none 0 0,.slice none 0 0] 35)=W1 at *
 have B1:Hid (Below w.heap.size w W1):=hb0
 have KI1:Hid (Blk W1 w.heap.size #[.int .i64 x.id,us,.bool x.busy,.int .i64 x.call.kind,.string x.call.key,.int .i64 x.call.frm,.int .i64 x.call.til,.string x.call.data,.int .i64 x.begun,ul,ut] 28):=bI
 have KR1:Hid (Blk W1 (w.heap.size+1) #[.int .i64 0,.slice none 0 0,.bool false,.int .i64 0,.string ⟨#[]⟩,.int .i64 0,.int .i64 0,.string ⟨#[]⟩,.int .i64 0,.slice none 0 0,.slice none 0 0] 35):=bR
 have KO1:Hid (Blk W1 (w.heap.size+1+1) #[.int .i64 x.id,.slice none 0 0,.bool false,.int .i64 0,.string ⟨#[]⟩,.int .i64 0,.int .i64 0,.string ⟨#[]⟩,.int .i64 0,.slice none 0 0,.slice none 0 0] 35):=bO
 have hlt:=bO.lt
 have HLT:Hid (w.heap.size+1+1<W1.heap.size):=hlt
 clear hb0 bI bR bO hlt
 have HZ1:Hid (w.heap.size+1+1+1≤W1.heap.size):=KO1.out.lt
 refine (toIntS x.sers us W1 B (H1.out.on (B1.out.mono HB.out)) HS.out.s (Nat.le_trans HB.out B1.out.size)).mono ?_
 rintro e W2 ⟨u0,rfl,hO,hb⟩
 have B2:Hid (Below w.heap.size w W2):=B1.out.trans (hb.mono B1.out.size)
 have KI2:Hid (Blk W2 w.heap.size #[.int .i64 x.id,us,.bool x.busy,.int .i64 x.call.kind,.string x.call.key,.int .i64 x.call.frm,.int .i64 x.call.til,.string x.call.data,.int .i64 x.begun,ul,ut] 28):=KI1.out.on hb KI1.out.lt
 have KR2:Hid (Blk W2 (w.heap.size+1) #[.int .i64 0,.slice none 0 0,.bool false,.int .i64 0,.string ⟨#[]⟩,.int .i64 0,.int .i64 0,.string ⟨#[]⟩,.int .i64 0,.slice none 0 0,.slice none 0 0] 35):=KR1.out.on hb KR1.out.lt
 have KO2:Hid (Blk W2 (w.heap.size+1+1) #[.int .i64 x.id,.slice none 0 0,.bool false,.int .i64 0,.string ⟨#[]⟩,.int .i64 0,.int .i64 0,.string ⟨#[]⟩,.int .i64 0,.slice none 0 0,.slice none 0 0] 35):=KO1.out.on hb KO1.out.lt
 obtain ⟨A0,k0,hu,-⟩:=hO.shape
 generalize x.sers.length=m0 at hu
 subst hu
 have P1_2:Hid (Nums W2 (w.heap.size+1+1+1) (.slice A0 m0 k0) x.sers):=hO.mono (show w.heap.size+1+1+1≤_ from HZ1.out)
 clear hO hb KI1 KR1 KO1 B1 HZ1
 have i2:=KI2.out.cell 2 _ rfl
 have i3:=KI2.out.cell 3 _ rfl
 have i4:=KI2.out.cell 4 _ rfl
 have i5:=KI2.out.cell 5 _ rfl
 have i6:=KI2.out.cell 6 _ rfl
 have i7:=KI2.out.cell 7 _ rfl
 have c1:=KO2.out.cell 1 _ rfl
 have f1:=KO2.out.free 1
 have c2:=(KO2.out.set 1 (.slice A0 m0 k0)).cell 2 _ rfl
 have f2:=(KO2.out.set 1 (.slice A0 m0 k0)).free 2
 obtain ⟨W3,hW3⟩:∃ W3,W3=((W2.setCell ⟨w.heap.size+1+1,1,none⟩ (.slice A0 m0 k0)).setCell ⟨w.heap.size+1+1,2,none⟩ (.bool x.busy)):=⟨_,rfl⟩
 have KO3:Hid (Blk W3 (w.heap.size+1+1) #[.int .i64 x.id,.slice A0 m0 k0,.bool x.busy,.int .i64 0,.string ⟨#[]⟩,.int .i64 0,.int .i64 0,.string ⟨#[]⟩,.int .i64 0,.slice none 0 0,.slice none 0 0] 35):=by unfold Hid;rw[hW3];exact ((KO2.out.set 1 (.slice A0 m0 k0)).set 2 (.bool x.busy))
 have KI3:Hid (Blk W3 w.heap.size #[.int .i64 x.id,us,.bool x.busy,.int .i64 x.call.kind,.string x.call.key,.int .i64 x.call.frm,.int .i64 x.call.til,.string x.call.data,.int .i64 x.begun,ul,ut] 28):=by unfold Hid;rw[hW3];exact ((KI2.out.other (show w.heap.size≠w.heap.size+1+1 by omega) 1 (.slice A0 m0 k0)).other (show w.heap.size≠w.heap.size+1+1 by omega) 2 (.bool x.busy))
 have KR3:Hid (Blk W3 (w.heap.size+1) #[.int .i64 0,.slice none 0 0,.bool false,.int .i64 0,.string ⟨#[]⟩,.int .i64 0,.int .i64 0,.string ⟨#[]⟩,.int .i64 0,.slice none 0 0,.slice none 0 0] 35):=by unfold Hid;rw[hW3];exact ((KR2.out.other (show w.heap.size+1≠w.heap.size+1+1 by omega) 1 (.slice A0 m0 k0)).other (show w.heap.size+1≠w.heap.size+1+1 by omega) 2 (.bool x.busy))
 have B3:Hid (Below w.heap.size w W3):=by unfold Hid;rw[hW3];exact ((B2.out.setCell (show w.heap.size≤w.heap.size+1+1 by omega) (.slice A0 m0 k0) (p:=⟨_,1,none⟩)).setCell (show w.heap.size≤w.heap.size+1+1 by omega) (.bool x.busy) (p:=⟨_,2,none⟩))
 have P1_3:Hid (Nums W3 (w.heap.size+1+1+1) (.slice A0 m0 k0) x.sers):=by unfold Hid;rw[hW3];exact ((P1_2.out.lowR (show w.heap.size+1+1<w.heap.size+1+1+1 by omega)).lowR (show w.heap.size+1+1<w.heap.size+1+1+1 by omega))
 have cC:=toCall x.call W3
 unfold vOp at cC
 clear KO2 KI2 KR2 B2 P1_2
 go_wp2_with fail
 rw[← hW3]
 clear hW3 c1 f1 c2 f2 i2 i3 i4 i5 i6 i7
 refine (cC).mono ?_
 rintro e W4 ⟨rfl,hb⟩
 have B4:Hid (Below w.heap.size w W4):=B3.out.trans (hb.mono B3.out.size)
 have KI4:Hid (Blk W4 w.heap.size #[.int .i64 x.id,us,.bool x.busy,.int .i64 x.call.kind,.string x.call.key,.int .i64 x.call.frm,.int .i64 x.call.til,.string x.call.data,.int .i64 x.begun,ul,ut] 28):=KI3.out.on hb KI3.out.lt
 have KR4:Hid (Blk W4 (w.heap.size+1) #[.int .i64 0,.slice none 0 0,.bool false,.int .i64 0,.string ⟨#[]⟩,.int .i64 0,.int .i64 0,.string ⟨#[]⟩,.int .i64 0,.slice none 0 0,.slice none 0 0] 35):=KR3.out.on hb KR3.out.lt
 have KO4:Hid (Blk W4 (w.heap.size+1+1) #[.int .i64 x.id,.slice A0 m0 k0,.bool x.busy,.int .i64 0,.string ⟨#[]⟩,.int .i64 0,.int .i64 0,.string ⟨#[]⟩,.int .i64 0,.slice none 0 0,.slice none 0 0] 35):=KO3.out.on hb KO3.out.lt
 have P1_4:Hid (Nums W4 (w.heap.size+1+1+1) (.slice A0 m0 k0) x.sers):=P1_3.out.on hb
 clear hb KI3 KR3 KO3 B3 P1_3 cC
 have i8:=KI4.out.cell 8 _ rfl
 have i9:=KI4.out.cell 9 _ rfl
 have c3:=KO4.out.cell 3 _ rfl
 have f3:=KO4.out.free 3
 have c4:=(KO4.out.set 3 (.int .i64 x.call.kind)).cell 4 _ rfl
 have f4:=(KO4.out.set 3 (.int .i64 x.call.kind)).free 4
 have c5:=((KO4.out.set 3 (.int .i64 x.call.kind)).set 4 (.string x.call.key)).cell 5 _ rfl
 have f5:=((KO4.out.set 3 (.int .i64 x.call.kind)).set 4 (.string x.call.key)).free 5
 have c6:=(((KO4.out.set 3 (.int .i64 x.call.kind)).set 4 (.string x.call.key)).set 5 (.int .i64 x.call.frm)).cell 6 _ rfl
 have f6:=(((KO4.out.set 3 (.int .i64 x.call.kind)).set 4 (.string x.call.key)).set 5 (.int .i64 x.call.frm)).free 6
 have c7:=((((KO4.out.set 3 (.int .i64 x.call.kind)).set 4 (.string x.call.key)).set 5 (.int .i64 x.call.frm)).set 6 (.int .i64 x.call.til)).cell 7 _ rfl
 have f7:=((((KO4.out.set 3 (.int .i64 x.call.kind)).set 4 (.string x.call.key)).set 5 (.int .i64 x.call.frm)).set 6 (.int .i64 x.call.til)).free 7
 have c8:=(((((KO4.out.set 3 (.int .i64 x.call.kind)).set 4 (.string x.call.key)).set 5 (.int .i64 x.call.frm)).set 6 (.int .i64 x.call.til)).set 7 (.string x.call.data)).cell 8 _ rfl
 have f8:=(((((KO4.out.set 3 (.int .i64 x.call.kind)).set 4 (.string x.call.key)).set 5 (.int .i64 x.call.frm)).set 6 (.int .i64 x.call.til)).set 7 (.string x.call.data)).free 8
 obtain ⟨W5,hW5⟩:∃ W5,W5=((((((W4.setCell ⟨w.heap.size+1+1,3,none⟩ (.int .i64 x.call.kind)).setCell ⟨w.heap.size+1+1,4,none⟩ (.string x.call.key)).setCell ⟨w.heap.size+1+1,5,none⟩ (.int .i64 x.call.frm)).setCell ⟨w.heap.size+1+1,6,none⟩ (.int .i64 x.call.til)).setCell ⟨w.heap.size+1+1,7,none⟩ (.string x.call.data)).setCell ⟨w.heap.size+1+1,8,none⟩ (.int .i64 x.begun)):=⟨_,rfl⟩
 have KO5:Hid (Blk W5 (w.heap.size+1+1) #[.int .i64 x.id,.slice A0 m0 k0,.bool x.busy,.int .i64 x.call.kind,.string x.call.key,.int .i64 x.call.frm,.int .i64 x.call.til,.string x.call.data,.int .i64 x.begun,.slice none 0 0,.slice none 0 0] 35):=by unfold Hid;rw[hW5];exact ((((((KO4.out.set 3 (.int .i64 x.call.kind)).set 4 (.string x.call.key)).set 5 (.int .i64 x.call.frm)).set 6 (.int .i64 x.call.til)).set 7 (.string x.call.data)).set 8 (.int .i64 x.begun))
 have KI5:Hid (Blk W5 w.heap.size #[.int .i64 x.id,us,.bool x.busy,.int .i64 x.call.kind,.string x.call.key,.int .i64 x.call.frm,.int .i64 x.call.til,.string x.call.data,.int .i64 x.begun,ul,ut] 28):=by unfold Hid;rw[hW5];exact ((((((KI4.out.other (show w.heap.size≠w.heap.size+1+1 by omega) 3 (.int .i64 x.call.kind)).other (show w.heap.size≠w.heap.size+1+1 by omega) 4 (.string x.call.key)).other (show w.heap.size≠w.heap.size+1+1 by omega) 5 (.int .i64 x.call.frm)).other (show w.heap.size≠w.heap.size+1+1 by omega) 6 (.int .i64 x.call.til)).other (show w.heap.size≠w.heap.size+1+1 by omega) 7 (.string x.call.data)).other (show w.heap.size≠w.heap.size+1+1 by omega) 8 (.int .i64 x.begun))
 have KR5:Hid (Blk W5 (w.heap.size+1) #[.int .i64 0,.slice none 0 0,.bool false,.int .i64 0,.string ⟨#[]⟩,.int .i64 0,.int .i64 0,.string ⟨#[]⟩,.int .i64 0,.slice none 0 0,.slice none 0 0] 35):=by unfold Hid;rw[hW5];exact ((((((KR4.out.other (show w.heap.size+1≠w.heap.size+1+1 by omega) 3 (.int .i64 x.call.kind)).other (show w.heap.size+1≠w.heap.size+1+1 by omega) 4 (.string x.call.key)).other (show w.heap.size+1≠w.heap.size+1+1 by omega) 5 (.int .i64 x.call.frm)).other (show w.heap.size+1≠w.heap.size+1+1 by omega) 6 (.int .i64 x.call.til)).other (show w.heap.size+1≠w.heap.size+1+1 by omega) 7 (.string x.call.data)).other (show w.heap.size+1≠w.heap.size+1+1 by omega) 8 (.int .i64 x.begun))
 have B5:Hid (Below w.heap.size w W5):=by unfold Hid;rw[hW5];exact ((((((B4.out.setCell (show w.heap.size≤w.heap.size+1+1 by omega) (.int .i64 x.call.kind) (p:=⟨_,3,none⟩)).setCell (show w.heap.size≤w.heap.size+1+1 by omega) (.string x.call.key) (p:=⟨_,4,none⟩)).setCell (show w.heap.size≤w.heap.size+1+1 by omega) (.int .i64 x.call.frm) (p:=⟨_,5,none⟩)).setCell (show w.heap.size≤w.heap.size+1+1 by omega) (.int .i64 x.call.til) (p:=⟨_,6,none⟩)).setCell (show w.heap.size≤w.heap.size+1+1 by omega) (.string x.call.data) (p:=⟨_,7,none⟩)).setCell (show w.heap.size≤w.heap.size+1+1 by omega) (.int .i64 x.begun) (p:=⟨_,8,none⟩))
 have P1_5:Hid (Nums W5 (w.heap.size+1+1+1) (.slice A0 m0 k0) x.sers):=by unfold Hid;rw[hW5];exact ((((((P1_4.out.lowR (show w.heap.size+1+1<w.heap.size+1+1+1 by omega)).lowR (show w.heap.size+1+1<w.heap.size+1+1+1 by omega)).lowR (show w.heap.size+1+1<w.heap.size+1+1+1 by omega)).lowR (show w.heap.size+1+1<w.heap.size+1+1+1 by omega)).lowR (show w.heap.size+1+1<w.heap.size+1+1+1 by omega)).lowR (show w.heap.size+1+1<w.heap.size+1+1+1 by omega))
 clear KO4 KI4 KR4 B4 P1_4
 go_wp2_with fail
 rw[← hW5]
 clear hW5 c3 f3 c4 f4 c5 f5 c6 f6 c7 f7 c8 f8 i8 i9
 have HZ5:Hid (w.heap.size+1+1+1≤W5.heap.size):=KO5.out.lt
 refine (toLegS x.legs ul W5 B (H2.out.on (B5.out.mono HB.out)) HS.out.l (Nat.le_trans HB.out B5.out.size)).mono ?_
 rintro e W6 ⟨u1,rfl,hO,hb⟩
 have B6:Hid (Below w.heap.size w W6):=B5.out.trans (hb.mono B5.out.size)
 have KI6:Hid (Blk W6 w.heap.size #[.int .i64 x.id,us,.bool x.busy,.int .i64 x.call.kind,.string x.call.key,.int .i64 x.call.frm,.int .i64 x.call.til,.string x.call.data,.int .i64 x.begun,ul,ut] 28):=KI5.out.on hb KI5.out.lt
 have KR6:Hid (Blk W6 (w.heap.size+1) #[.int .i64 0,.slice none 0 0,.bool false,.int .i64 0,.string ⟨#[]⟩,.int .i64 0,.int .i64 0,.string ⟨#[]⟩,.int .i64 0,.slice none 0 0,.slice none 0 0] 35):=KR5.out.on hb KR5.out.lt
 have KO6:Hid (Blk W6 (w.heap.size+1+1) #[.int .i64 x.id,.slice A0 m0 k0,.bool x.busy,.int .i64 x.call.kind,.string x.call.key,.int .i64 x.call.frm,.int .i64 x.call.til,.string x.call.data,.int .i64 x.begun,.slice none 0 0,.slice none 0 0] 35):=KO5.out.on hb KO5.out.lt
 have P1_6:Hid (Nums W6 (w.heap.size+1+1+1) (.slice A0 m0 k0) x.sers):=P1_5.out.on hb
 obtain ⟨A1,m1,k1,rfl⟩:=hO.shape
 have P2_6:Hid (Owns W6 (w.heap.size+1+1+1) 74 11 (.slice A1 m1 k1) (lgxR x.legs)):=hO.mono (show w.heap.size+1+1+1≤_ from HZ5.out)
 clear hO hb KI5 KR5 KO5 B5 P1_5 HZ5
 have i10:=KI6.out.cell 10 _ rfl
 have c9:=KO6.out.cell 9 _ rfl
 have f9:=KO6.out.free 9
 obtain ⟨W7,hW7⟩:∃ W7,W7=(W6.setCell ⟨w.heap.size+1+1,9,none⟩ (.slice A1 m1 k1)):=⟨_,rfl⟩
 have KO7:Hid (Blk W7 (w.heap.size+1+1) #[.int .i64 x.id,.slice A0 m0 k0,.bool x.busy,.int .i64 x.call.kind,.string x.call.key,.int .i64 x.call.frm,.int .i64 x.call.til,.string x.call.data,.int .i64 x.begun,.slice A1 m1 k1,.slice none 0 0] 35):=by unfold Hid;rw[hW7];exact (KO6.out.set 9 (.slice A1 m1 k1))
 have KI7:Hid (Blk W7 w.heap.size #[.int .i64 x.id,us,.bool x.busy,.int .i64 x.call.kind,.string x.call.key,.int .i64 x.call.frm,.int .i64 x.call.til,.string x.call.data,.int .i64 x.begun,ul,ut] 28):=by unfold Hid;rw[hW7];exact (KI6.out.other (show w.heap.size≠w.heap.size+1+1 by omega) 9 (.slice A1 m1 k1))
 have KR7:Hid (Blk W7 (w.heap.size+1) #[.int .i64 0,.slice none 0 0,.bool false,.int .i64 0,.string ⟨#[]⟩,.int .i64 0,.int .i64 0,.string ⟨#[]⟩,.int .i64 0,.slice none 0 0,.slice none 0 0] 35):=by unfold Hid;rw[hW7];exact (KR6.out.other (show w.heap.size+1≠w.heap.size+1+1 by omega) 9 (.slice A1 m1 k1))
 have B7:Hid (Below w.heap.size w W7):=by unfold Hid;rw[hW7];exact (B6.out.setCell (show w.heap.size≤w.heap.size+1+1 by omega) (.slice A1 m1 k1) (p:=⟨_,9,none⟩))
 have P1_7:Hid (Nums W7 (w.heap.size+1+1+1) (.slice A0 m0 k0) x.sers):=by unfold Hid;rw[hW7];exact (P1_6.out.lowR (show w.heap.size+1+1<w.heap.size+1+1+1 by omega))
 have P2_7:Hid (Owns W7 (w.heap.size+1+1+1) 74 11 (.slice A1 m1 k1) (lgxR x.legs)):=by unfold Hid;rw[hW7];exact (P2_6.out.lowR (show w.heap.size+1+1<w.heap.size+1+1+1 by omega))
 clear KO6 KI6 KR6 B6 P1_6 P2_6
 go_wp2_with fail
 rw[← hW7]
 clear hW7 c9 f9 i10
 have HZ7:Hid (w.heap.size+1+1+1≤W7.heap.size):=KO7.out.lt
 refine (toTodoS x.todo ut W7 B (H3.out.on (B7.out.mono HB.out)) HS.out.t (Nat.le_trans HB.out B7.out.size)).mono ?_
 rintro e W8 ⟨u2,rfl,hO,hb⟩
 have B8:Hid (Below w.heap.size w W8):=B7.out.trans (hb.mono B7.out.size)
 have KI8:Hid (Blk W8 w.heap.size #[.int .i64 x.id,us,.bool x.busy,.int .i64 x.call.kind,.string x.call.key,.int .i64 x.call.frm,.int .i64 x.call.til,.string x.call.data,.int .i64 x.begun,ul,ut] 28):=KI7.out.on hb KI7.out.lt
 have KR8:Hid (Blk W8 (w.heap.size+1) #[.int .i64 0,.slice none 0 0,.bool false,.int .i64 0,.string ⟨#[]⟩,.int .i64 0,.int .i64 0,.string ⟨#[]⟩,.int .i64 0,.slice none 0 0,.slice none 0 0] 35):=KR7.out.on hb KR7.out.lt
 have KO8:Hid (Blk W8 (w.heap.size+1+1) #[.int .i64 x.id,.slice A0 m0 k0,.bool x.busy,.int .i64 x.call.kind,.string x.call.key,.int .i64 x.call.frm,.int .i64 x.call.til,.string x.call.data,.int .i64 x.begun,.slice A1 m1 k1,.slice none 0 0] 35):=KO7.out.on hb KO7.out.lt
 have P1_8:Hid (Nums W8 (w.heap.size+1+1+1) (.slice A0 m0 k0) x.sers):=P1_7.out.on hb
 have P2_8:Hid (Owns W8 (w.heap.size+1+1+1) 74 11 (.slice A1 m1 k1) (lgxR x.legs)):=P2_7.out.on hb
 obtain ⟨A2,m2,k2,rfl⟩:=hO.shape
 have P3_8:Hid (Owns W8 (w.heap.size+1+1+1) 67 6 (.slice A2 m2 k2) (tdoR x.todo)):=hO.mono (show w.heap.size+1+1+1≤_ from HZ7.out)
 clear hO hb KI7 KR7 KO7 B7 P1_7 P2_7 HZ7
 have c10:=KO8.out.cell 10 _ rfl
 have f10:=KO8.out.free 10
 obtain ⟨W9,hW9⟩:∃ W9,W9=(W8.setCell ⟨w.heap.size+1+1,10,none⟩ (.slice A2 m2 k2)):=⟨_,rfl⟩
 have KO9:Hid (Blk W9 (w.heap.size+1+1) #[.int .i64 x.id,.slice A0 m0 k0,.bool x.busy,.int .i64 x.call.kind,.string x.call.key,.int .i64 x.call.frm,.int .i64 x.call.til,.string x.call.data,.int .i64 x.begun,.slice A1 m1 k1,.slice A2 m2 k2] 35):=by unfold Hid;rw[hW9];exact (KO8.out.set 10 (.slice A2 m2 k2))
 have KI9:Hid (Blk W9 w.heap.size #[.int .i64 x.id,us,.bool x.busy,.int .i64 x.call.kind,.string x.call.key,.int .i64 x.call.frm,.int .i64 x.call.til,.string x.call.data,.int .i64 x.begun,ul,ut] 28):=by unfold Hid;rw[hW9];exact (KI8.out.other (show w.heap.size≠w.heap.size+1+1 by omega) 10 (.slice A2 m2 k2))
 have KR9:Hid (Blk W9 (w.heap.size+1) #[.int .i64 0,.slice none 0 0,.bool false,.int .i64 0,.string ⟨#[]⟩,.int .i64 0,.int .i64 0,.string ⟨#[]⟩,.int .i64 0,.slice none 0 0,.slice none 0 0] 35):=by unfold Hid;rw[hW9];exact (KR8.out.other (show w.heap.size+1≠w.heap.size+1+1 by omega) 10 (.slice A2 m2 k2))
 have B9:Hid (Below w.heap.size w W9):=by unfold Hid;rw[hW9];exact (B8.out.setCell (show w.heap.size≤w.heap.size+1+1 by omega) (.slice A2 m2 k2) (p:=⟨_,10,none⟩))
 have P1_9:Hid (Nums W9 (w.heap.size+1+1+1) (.slice A0 m0 k0) x.sers):=by unfold Hid;rw[hW9];exact (P1_8.out.lowR (show w.heap.size+1+1<w.heap.size+1+1+1 by omega))
 have P2_9:Hid (Owns W9 (w.heap.size+1+1+1) 74 11 (.slice A1 m1 k1) (lgxR x.legs)):=by unfold Hid;rw[hW9];exact (P2_8.out.lowR (show w.heap.size+1+1<w.heap.size+1+1+1 by omega))
 have P3_9:Hid (Owns W9 (w.heap.size+1+1+1) 67 6 (.slice A2 m2 k2) (tdoR x.todo)):=by unfold Hid;rw[hW9];exact (P3_8.out.lowR (show w.heap.size+1+1<w.heap.size+1+1+1 by omega))
 clear KO8 KI8 KR8 B8 P1_8 P2_8 P3_8
 go_upto_region 9 with fail
 rw[← hW9]
 clear hW9 c10 f10 KI9
 have RW:Hid (RtRows W9 (w.heap.size+1+1+1) x (.slice A0 m0 k0) (.slice A1 m1 k1) (.slice A2 m2 k2)):=⟨P1_9.out,P2_9.out,P3_9.out⟩
 clear P1_9 P2_9 P3_9 H1 H2 H3 HS HB
 generalize hgo:w.heap.size+1+1=go at *
 have hgr:w.heap.size+1<go+1:=by omega
 generalize hgr2:w.heap.size+1=gr at *
 have HW0:Hid (w.heap.size≤gr):=by unfold Hid;omega
 have HW1:Hid (w.heap.size≤go+1):=by unfold Hid;omega
 clear hgo hgr2 HLT
 have HV:Hid (vRtr x (.slice A0 m0 k0) (.slice A1 m1 k1) (.slice A2 m2 k2)=.agg #[.int .i64 x.id,.slice A0 m0 k0,.bool x.busy,.int .i64 x.call.kind,.string x.call.key,.int .i64 x.call.frm,.int .i64 x.call.til,.string x.call.data,.int .i64 x.begun,.slice A1 m1 k1,.slice A2 m2 k2]):=rfl
 generalize x.id=x0 at *
 generalize x.busy=x2 at *
 generalize x.call.kind=x3 at *
 generalize x.call.key=x4 at *
 generalize x.call.frm=x5 at *
 generalize x.call.til=x6 at *
 generalize x.call.data=x7 at *
 generalize x.begun=x8 at *
 have c0:=KO9.out.cell 0 _ rfl
 have c1:=KO9.out.cell 1 _ rfl
 have c2:=KO9.out.cell 2 _ rfl
 have c3:=KO9.out.cell 3 _ rfl
 have c4:=KO9.out.cell 4 _ rfl
 have c5:=KO9.out.cell 5 _ rfl
 have c6:=KO9.out.cell 6 _ rfl
 have c7:=KO9.out.cell 7 _ rfl
 have c8:=KO9.out.cell 8 _ rfl
 have c9:=KO9.out.cell 9 _ rfl
 have c10:=KO9.out.cell 10 _ rfl
 obtain ⟨⟨r0,g0⟩,⟨r1,g1⟩,⟨r2,g2⟩,⟨r3,g3⟩,⟨r4,g4⟩,⟨r5,g5⟩,⟨r6,g6⟩,⟨r7,g7⟩,⟨r8,g8⟩,⟨r9,g9⟩,⟨r10,g10⟩,z0,z1,z2,z3,z4,z5,z6,z7,z8,z9,z10⟩:=resR11 (x0:=.int .i64 x0) (x1:=.slice A0 m0 k0) (x2:=.bool x2) (x3:=.int .i64 x3) (x4:=.string x4) (x5:=.int .i64 x5) (x6:=.int .i64 x6) (x7:=.string x7) (x8:=.int .i64 x8) (x9:=.slice A1 m1 k1) (x10:=.slice A2 m2 k2) KR9.out
 have FO:=Hid.mkQ (rowsR11 RW.out hgr (.int .i64 x0) (.slice A0 m0 k0) (.bool x2) (.int .i64 x3) (.string x4) (.int .i64 x5) (.int .i64 x6) (.string x7) (.int .i64 x8) (.slice A1 m1 k1) (.slice A2 m2 k2))
 have FB:=Hid.mkQ (belowR11 B9.out HW0.out (.int .i64 x0) (.slice A0 m0 k0) (.bool x2) (.int .i64 x3) (.string x4) (.int .i64 x5) (.int .i64 x6) (.string x7) (.int .i64 x8) (.slice A1 m1 k1) (.slice A2 m2 k2))
 clear KO9 KR9 RW B9
 go_wp2_with fail
 exact bodyPost_ret (v:=.agg #[.int .i64 x0,.slice A0 m0 k0,.bool x2,.int .i64 x3,.string x4,.int .i64 x5,.int .i64 x6,.string x7,.int .i64 x8,.slice A1 m1 k1,.slice A2 m2 k2]) (by simp[results,go_sem,z0,z1,z2,z3,z4,z5,z6,z7,z8,z9,z10]) rfl ⟨.slice A0 m0 k0,.slice A1 m1 k1,.slice A2 m2 k2,congrArg Ending.returned HV.out.symm,FO.out.mono HW1.out,FB.out⟩
set_option maxHeartbeats 8000000 in
theorem eqRouter (x:Rtr) (va vb:Value) (w:World) (B:Nat) (ha:RtrV w B va x) (hb:RtrV w B vb x) (hs:ShortR x) (hB:B≤w.heap.size) :
  Calls Tryz.prog 10 #[va,vb] w fun e w'=>e=.returned (.bool true)∧Below w.heap.size w w':=by
 obtain ⟨a_s,al,at_,rfl,a1,a2,a3⟩:=ha
 obtain ⟨bs,bl,bt,rfl,b1,b2,b3⟩:=hb
 unfold vRtr
 have HB:Hid (B≤w.heap.size):=hB
 have H1:=Hid.mkQ (show _∧_ from ⟨a1,b1⟩)
 have H2:=Hid.mkQ (show _∧_ from ⟨a2,b2⟩)
 have H3:=Hid.mkQ (show _∧_ from ⟨a3,b3⟩)
 have HS:=Hid.mkQ hs
 have HXX:Hid ((x.busy != x.busy)=false):=by unfold Hid;cases x.busy<;>rfl
 clear a1 a2 a3 b1 b2 b3 hB hs
 have hb0:=belowA2 w (.cells #[.int .i64 x.id,a_s,.bool x.busy,.int .i64 x.call.kind,.string x.call.key,.int .i64 x.call.frm,.int .i64 x.call.til,.string x.call.data,.int .i64 x.begun,al,at_] 35) (.cells #[.int .i64 x.id,bs,.bool x.busy,.int .i64 x.call.kind,.string x.call.key,.int .i64 x.call.frm,.int .i64 x.call.til,.string x.call.data,.int .i64 x.begun,bl,bt] 35)
 have bA:=(Blk.new w #[.int .i64 x.id,a_s,.bool x.busy,.int .i64 x.call.kind,.string x.call.key,.int .i64 x.call.frm,.int .i64 x.call.til,.string x.call.data,.int .i64 x.begun,al,at_] 35).alloc (.cells #[.int .i64 x.id,bs,.bool x.busy,.int .i64 x.call.kind,.string x.call.key,.int .i64 x.call.frm,.int .i64 x.call.til,.string x.call.data,.int .i64 x.begun,bl,bt] 35)
 have bB:=Blk.new (w.alloc (.cells #[.int .i64 x.id,a_s,.bool x.busy,.int .i64 x.call.kind,.string x.call.key,.int .i64 x.call.frm,.int .i64 x.call.til,.string x.call.data,.int .i64 x.begun,al,at_] 35)) #[.int .i64 x.id,bs,.bool x.busy,.int .i64 x.call.kind,.string x.call.key,.int .i64 x.call.frm,.int .i64 x.call.til,.string x.call.data,.int .i64 x.begun,bl,bt] 35
 simp only[World.size_alloc] at bA bB
 obtain ⟨W0,hW⟩:∃ W,W=(w.alloc (.cells #[.int .i64 x.id,a_s,.bool x.busy,.int .i64 x.call.kind,.string x.call.key,.int .i64 x.call.frm,.int .i64 x.call.til,.string x.call.data,.int .i64 x.begun,al,at_] 35)).alloc (.cells #[.int .i64 x.id,bs,.bool x.busy,.int .i64 x.call.kind,.string x.call.key,.int .i64 x.call.frm,.int .i64 x.call.til,.string x.call.data,.int .i64 x.begun,bl,bt] 35):=⟨_,rfl⟩
 rw[← hW] at hb0 bA bB
 have B0:Hid (Below w.heap.size w W0):=hb0
 have BA0:=Hid.mkQ bA
 have BB0:=Hid.mkQ bB
 clear hb0 bA bB
 go_enter Tryz.func10,Tryz.ntmps10
 go_wp2_with fail
 rw[← hW]
 clear hW
 refine (eqIntS x.sers a_s bs W0 B (H1.out.1.on (B0.out.mono HB.out)) (H1.out.2.on (B0.out.mono HB.out)) (Nat.le_trans HS.out.s (by omega))).mono ?_
 rintro e W1 ⟨rfl,hlk⟩
 have hb1:=hlk.below
 have B1:Hid (Below w.heap.size w W1):=B0.out.trans (hb1.mono B0.out.size)
 have BA1:=Hid.mkQ (BA0.out.on hb1 BA0.out.lt)
 have BB1:=Hid.mkQ (BB0.out.on hb1 BB0.out.lt)
 clear hb1 hlk BA0 BB0
 have hbb:=HXX.out
 have p2:=BA1.out.cell 2 _ rfl
 have q2:=BB1.out.cell 2 _ rfl
 have p3:=BA1.out.cell 3 _ rfl
 have q3:=BB1.out.cell 3 _ rfl
 have p4:=BA1.out.cell 4 _ rfl
 have q4:=BB1.out.cell 4 _ rfl
 have p5:=BA1.out.cell 5 _ rfl
 have q5:=BB1.out.cell 5 _ rfl
 have p6:=BA1.out.cell 6 _ rfl
 have q6:=BB1.out.cell 6 _ rfl
 have p7:=BA1.out.cell 7 _ rfl
 have q7:=BB1.out.cell 7 _ rfl
 have cC:=eqCallT x.call W1
 unfold vOp at cC
 go_wp2_with fail
 refine cC.mono ?_
 rintro e W2 ⟨rfl,hb1⟩
 have B2:Hid (Below w.heap.size w W2):=B1.out.trans (hb1.mono B1.out.size)
 have BA2:=Hid.mkQ (BA1.out.on hb1 BA1.out.lt)
 have BB2:=Hid.mkQ (BB1.out.on hb1 BB1.out.lt)
 clear hb1 BA1 BB1 cC hbb p2 q2 p3 q3 p4 q4 p5 q5 p6 q6 p7 q7
 have p8:=BA2.out.cell 8 _ rfl
 have q8:=BB2.out.cell 8 _ rfl
 have p9:=BA2.out.cell 9 _ rfl
 have q9:=BB2.out.cell 9 _ rfl
 go_wp2_with fail
 refine (eqLegS x.legs al bl W2 B (H2.out.1.on (B2.out.mono HB.out)) (H2.out.2.on (B2.out.mono HB.out)) HS.out.l (Nat.le_trans HB.out B2.out.size)).mono ?_
 rintro e W3 ⟨rfl,hb1⟩
 have B3:Hid (Below w.heap.size w W3):=B2.out.trans (hb1.mono B2.out.size)
 have BA3:=Hid.mkQ (BA2.out.on hb1 BA2.out.lt)
 have BB3:=Hid.mkQ (BB2.out.on hb1 BB2.out.lt)
 clear hb1 BA2 BB2 p8 q8 p9 q9
 have p10:=BA3.out.cell 10 _ rfl
 have q10:=BB3.out.cell 10 _ rfl
 go_wp2_with fail
 refine (eqTodoS x.todo at_ bt W3 B (H3.out.1.on (B3.out.mono HB.out)) (H3.out.2.on (B3.out.mono HB.out)) HS.out.t (Nat.le_trans HB.out B3.out.size)).mono ?_
 rintro e W4 ⟨rfl,hb1⟩
 have B4:Hid (Below w.heap.size w W4):=B3.out.trans (hb1.mono B3.out.size)
 clear hb1
 go_wp2_with fail
 go_ret
 exact ⟨rfl,B4.out⟩
end Go.Proofs.YtedmdilabbolaaaGreatDoor
namespace Go.Proofs.YtedmdilabbolaaaGreatDoor
open Go.ChangeShapes Go.WideShapes Go.ChangeAt Go.RowKit Go.PlainAid
set_option linter.unusedVariables false
section
variable {H:Type} {enc:TypeId×Value→H} {P:Program} {w:World} {base:Nat} {spare:Nat→Bool} {held:Bool}
theorem open_rowsR {α:Type} [Inhabited α] {t e:TypeId} {fuel:Nat} {v:Value} {x:DataW H×List MemPlace} (ht:P.underlying t=some (.slice e)) (sz:Nat) (hsz:P.cellsOf e=sz) (hpos:0<sz) (C:α→List Value) (hC:∀ y,(C y).length=sz) (G:α→Prop)
  (hel:∀ n cs y,DataW.trod enc P w base spare held n e cs=some y→∃ z,cs=C z∧G z)
  (h:DataW.trod enc P w base spare held fuel t [v]=some x):∃ l:List α,Lies w w.heap.size sz v (l.map C)∧l.length≤maxLen∧∀ z∈l,G z:=by
 rcases Go.Deep.open_slice ht h with ⟨hv,_⟩ | ⟨a,len,cap,m,n,D,Pl,hv,hb,hl,hm,hmm,_,hx⟩
 ·obtain rfl:v=.slice none 0 0:=by simpa using hv
  exact ⟨[],⟨none,0,rfl,⟨fun _=>rfl,Nat.le_refl _⟩,fun r hr=>(by cases hr),.inl rfl⟩,Nat.zero_le _,fun z hz=>(by cases hz)⟩
 ·obtain rfl:v=.slice (some a) len cap:=by simpa using hv
  have hlm:len≤m:=by rw[hmm];split<;>omega
  have hp:∀ i,i<len→∃ z,(∀ f,f<sz→w.cell? (a.add (i*sz+f))=(C z)[f]?)∧G z:=fun i hi=>by
   obtain ⟨cs',h1,h2⟩:=hx i (by omega)
   obtain ⟨_,hlen,hc⟩:=World.cells?_some h1
   obtain ⟨z,rfl,hg⟩:=hel n cs' _ h2
   refine ⟨z,fun f hf=>?_,hg⟩
   have:=hc f (by rw[hsz];exact hf)
   rw[hsz,Go.Deep.add_add] at this
   exact this
  obtain ⟨X,hX⟩:=Go.Deep.choose_lt (α:=α) (p:=fun i z=>(∀ f,f<sz→w.cell? (a.add (i*sz+f))=(C z)[f]?)∧G z) hp
  have hll:((List.range len).map X).length=len:=by simp
  refine ⟨(List.range len).map X,⟨some a,cap,by simp,⟨fun e=>(by cases e),by simpa using hl⟩,fun r hr=>?_,?_⟩,by rw[hll];omega,fun z hz=>?_⟩
  ·obtain ⟨y,_,rfl⟩:=List.mem_map.1 hr
   exact hC y
  ·by_cases h0:len=0
   ·exact .inl (by simp[h0])
   ·right
    obtain ⟨b,off,spot⟩:=a
    have hc0:=(hX 0 (by omega)).1 0 hpos
    have hlt0:0<(C (X 0)).length:=by rw[hC];exact hpos
    rw[List.getElem?_eq_getElem hlt0] at hc0
    have hspot:spot=none:=by simpa[Addr.add] using World.cell?_spot hc0
    subst hspot
    have hadd:∀ j,(⟨b,off,none⟩:Addr).add j=⟨b,off+j,none⟩:=by intro j;cases j<;>simp[Addr.add]
    refine ⟨b,off,rfl,?_,fun k x hk=>?_⟩
    ·rw[hadd] at hc0
     rcases Nat.lt_or_ge b w.heap.size with h | h
     ·exact h
     ·simp[World.cell?,Array.getElem?_eq_none h] at hc0
    ·have hkl:k<(((List.range len).map X).map C).flatten.length:=(List.getElem?_eq_some_iff.1 hk).1
     have hrow:∀ r∈((List.range len).map X).map C,r.length=sz:=fun r hr=>by
      obtain ⟨y,_,rfl⟩:=List.mem_map.1 hr
      exact hC y
     rw[flat_length sz _ hrow,List.length_map,hll] at hkl
     have hdiv:k / sz<len:=(Nat.div_lt_iff_lt_mul hpos).2 hkl
     have hmod:k % sz<sz:=Nat.mod_lt _ hpos
     have hke:k / sz*sz+k % sz=k:=by rw[Nat.mul_comm];exact Nat.div_add_mod k sz
     have hfa:=flat_at sz (((List.range len).map X).map C) hrow (k / sz) (k % sz) (by rw[List.length_map,hll];exact hdiv) hmod
     rw[hke,hk] at hfa
     have hcx:=(hX (k / sz) hdiv).1 (k % sz) hmod
     rw[hke,hadd] at hcx
     rw[hcx,hfa]
     simp
  ·obtain ⟨i,hi,rfl⟩:=List.mem_map.1 hz
   exact (hX i (by simpa using hi)).2
end
theorem cCall:Tryz.prog.cellsOf 24=5:=by kernel_rfl
section
variable {H:Type} {enc:TypeId×Value→H} {w:World} {base:Nat} {spare:Nat→Bool} {held:Bool}
end
theorem cIntR:Tryz.prog.cellsOf 3=1:=by kernel_rfl
theorem cOpR:Tryz.prog.cellsOf 107=5:=by kernel_rfl
theorem cAnsR:Tryz.prog.cellsOf 108=4:=by kernel_rfl
theorem cTdoR:Tryz.prog.cellsOf 113=6:=by kernel_rfl
theorem cLegR:Tryz.prog.cellsOf 110=11:=by kernel_rfl
theorem cRtrR:Tryz.prog.cellsOf 28=11:=by kernel_rfl
theorem listR2 {α:Type} {l:List α} (h:l.length=2):∃ a0 a1,l=[a0,a1]:=by
 match l,h with
 | [a0,a1],_=>exact ⟨a0,a1,rfl⟩
theorem listR4 {α:Type} {l:List α} (h:l.length=4):∃ a0 a1 a2 a3,l=[a0,a1,a2,a3]:=by
 match l,h with
 | [a0,a1,a2,a3],_=>exact ⟨a0,a1,a2,a3,rfl⟩
theorem listR5 {α:Type} {l:List α} (h:l.length=5):∃ a0 a1 a2 a3 a4,l=[a0,a1,a2,a3,a4]:=by
 match l,h with
 | [a0,a1,a2,a3,a4],_=>exact ⟨a0,a1,a2,a3,a4,rfl⟩
theorem listR6 {α:Type} {l:List α} (h:l.length=6):∃ a0 a1 a2 a3 a4 a5,l=[a0,a1,a2,a3,a4,a5]:=by
 match l,h with
 | [a0,a1,a2,a3,a4,a5],_=>exact ⟨a0,a1,a2,a3,a4,a5,rfl⟩
theorem listR7 {α:Type} {l:List α} (h:l.length=7):∃ a0 a1 a2 a3 a4 a5 a6,l=[a0,a1,a2,a3,a4,a5,a6]:=by
 match l,h with
 | [a0,a1,a2,a3,a4,a5,a6],_=>exact ⟨a0,a1,a2,a3,a4,a5,a6,rfl⟩
theorem listR11 {α:Type} {l:List α} (h:l.length=11):∃ a0 a1 a2 a3 a4 a5 a6 a7 a8 a9 a10,l=[a0,a1,a2,a3,a4,a5,a6,a7,a8,a9,a10]:=by
 match l,h with
 | [a0,a1,a2,a3,a4,a5,a6,a7,a8,a9,a10],_=>exact ⟨a0,a1,a2,a3,a4,a5,a6,a7,a8,a9,a10,rfl⟩
section
variable {H:Type} {enc:TypeId×Value→H} {w:World} {base:Nat} {spare:Nat→Bool} {held:Bool}
theorem open_numsR {fuel:Nat} {v:Value} {x:DataW H×List MemPlace} (h:DataW.trod enc Tryz.prog w base spare held fuel 22 [v]=some x):∃ l:List Int,NumsV w w.heap.size v l∧l.length≤maxLen:=by
 rcases open_ints Tryz.underlying22 Tryz.underlying3 cIntR h with ⟨hcs,_⟩ | ⟨a,len,cap,zs,hcs,_,hl,hm,hz,_,hcell,hwz⟩
 ·obtain rfl:v=.slice none 0 0:=by simpa using hcs
  exact ⟨[],⟨none,0,rfl,Nat.le_refl _,by unfold maxLen;omega,fun j hj=>by simp at hj⟩,by simp⟩
 ·obtain rfl:v=.slice (some a) len cap:=by simpa using hcs
  have hzl:len≤zs.length:=by rw[hz];split<;>omega
  have hlen:(zs.take len).length=len:=by rw[List.length_take];omega
  refine ⟨zs.take len,⟨some a,cap,by rw[hlen],by rw[hlen];exact hl,hm,fun j hj=>?_⟩,by rw[hlen];omega⟩
  rw[hlen] at hj
  have hc:=hcell j (by omega)
  obtain ⟨b,off,spot⟩:=a
  have hspot:spot=none:=by simpa[Addr.add] using World.cell?_spot (hcell 0 (by omega))
  subst hspot
  have hadd:(⟨b,off,none⟩:Addr).add j=⟨b,off+j,none⟩:=by cases j<;>simp[Addr.add]
  rw[hadd] at hc
  refine ⟨b,off,rfl,World.block_lt_of_cell? _ _ hc,?_⟩
  rw[hc]
  congr 2
  simp[List.getD,hj]
set_option maxRecDepth 100000 in
theorem open_callT (n:Nat) (cs:List Value) (y:DataW H×List MemPlace) (h:DataW.trod enc Tryz.prog w base spare held n 24 cs=some y):∃ z:Opx,cs=[.int .i64 z.kind,.string z.key,.int .i64 z.frm,.int .i64 z.til,.string z.data]∧OpFit z:=by
 obtain ⟨xs,m,_,_,hl,hlen,hf⟩:=DataW.trod_struct Tryz.underlying24 h
 rw[cCall] at hl
 obtain ⟨a0,a1,a2,a3,a4,rfl⟩:=list5 hl
 obtain ⟨x0,x1,x2,x3,x4,rfl⟩:=listR5 (show xs.length=5 from hlen)
 have f0:=hf 0 _ rfl
 have f1:=hf 1 _ rfl
 have f2:=hf 2 _ rfl
 have f3:=hf 3 _ rfl
 have f4:=hf 4 _ rfl
 simp only[List.getElem?_cons_zero,List.getElem?_cons_succ] at f0 f1 f2 f3 f4
 obtain ⟨i0,e0,_,w0⟩:=DataW.trod_int Tryz.underlying3 f0
 obtain ⟨s1,e1,_,hs1⟩:=DataW.trod_string Tryz.underlying9 f1
 obtain ⟨i2,e2,_,w2⟩:=DataW.trod_int Tryz.underlying3 f2
 obtain ⟨i3,e3,_,w3⟩:=DataW.trod_int Tryz.underlying3 f3
 obtain ⟨s4,e4,_,hs4⟩:=DataW.trod_string Tryz.underlying9 f4
 cases e0
 cases e1
 cases e2
 cases e3
 cases e4
 exact ⟨⟨i0,s1,i2,i3,s4⟩,rfl,hs1,hs4⟩
set_option maxRecDepth 100000 in
theorem open_opR (n:Nat) (cs:List Value) (y:DataW H×List MemPlace) (h:DataW.trod enc Tryz.prog w base spare held n 107 cs=some y):∃ z:Opx,cs=[.int .i64 z.kind,.string z.key,.int .i64 z.frm,.int .i64 z.til,.string z.data]∧OpFit z:=by
 obtain ⟨xs,m,_,_,hl,hlen,hf⟩:=DataW.trod_struct Tryz.underlying107 h
 rw[cOpR] at hl
 obtain ⟨a0,a1,a2,a3,a4,rfl⟩:=list5 hl
 obtain ⟨x0,x1,x2,x3,x4,rfl⟩:=listR5 (show xs.length=5 from hlen)
 have f0:=hf 0 _ rfl
 have f1:=hf 1 _ rfl
 have f2:=hf 2 _ rfl
 have f3:=hf 3 _ rfl
 have f4:=hf 4 _ rfl
 simp only[List.getElem?_cons_zero,List.getElem?_cons_succ] at f0 f1 f2 f3 f4
 obtain ⟨i0,e0,_,w0⟩:=DataW.trod_int Tryz.underlying3 f0
 obtain ⟨s1,e1,_,hs1⟩:=DataW.trod_string Tryz.underlying9 f1
 obtain ⟨i2,e2,_,w2⟩:=DataW.trod_int Tryz.underlying3 f2
 obtain ⟨i3,e3,_,w3⟩:=DataW.trod_int Tryz.underlying3 f3
 obtain ⟨s4,e4,_,hs4⟩:=DataW.trod_string Tryz.underlying9 f4
 cases e0
 cases e1
 cases e2
 cases e3
 cases e4
 exact ⟨⟨i0,s1,i2,i3,s4⟩,rfl,hs1,hs4⟩
set_option maxRecDepth 100000 in
theorem open_ansR (n:Nat) (cs:List Value) (y:DataW H×List MemPlace) (h:DataW.trod enc Tryz.prog w base spare held n 108 cs=some y):∃ z:Ans,cs=[.int .i64 z.code,.int .i64 z.index,.int .i64 z.mark,.string z.data]∧z.data.size≤maxLen:=by
 obtain ⟨xs,m,_,_,hl,hlen,hf⟩:=DataW.trod_struct Tryz.underlying108 h
 rw[cAnsR] at hl
 obtain ⟨a0,a1,a2,a3,rfl⟩:=listR4 hl
 obtain ⟨x0,x1,x2,x3,rfl⟩:=listR4 (show xs.length=4 from hlen)
 have f0:=hf 0 _ rfl
 have f1:=hf 1 _ rfl
 have f2:=hf 2 _ rfl
 have f3:=hf 3 _ rfl
 simp only[List.getElem?_cons_zero,List.getElem?_cons_succ] at f0 f1 f2 f3
 obtain ⟨i0,e0,_,w0⟩:=DataW.trod_int Tryz.underlying3 f0
 obtain ⟨i1,e1,_,w1⟩:=DataW.trod_int Tryz.underlying3 f1
 obtain ⟨i2,e2,_,w2⟩:=DataW.trod_int Tryz.underlying3 f2
 obtain ⟨s3,e3,_,hs3⟩:=DataW.trod_string Tryz.underlying9 f3
 cases e0
 cases e1
 cases e2
 cases e3
 exact ⟨⟨i0,i1,i2,s3⟩,rfl,hs3⟩
set_option maxRecDepth 100000 in
theorem open_tdoR (n:Nat) (cs:List Value) (y:DataW H×List MemPlace) (h:DataW.trod enc Tryz.prog w base spare held n 113 cs=some y):∃ z:Tdo,cs=tdoC z∧(z.key.size≤maxLen∧z.data.size≤maxLen):=by
 obtain ⟨xs,m,_,_,hl,hlen,hf⟩:=DataW.trod_struct Tryz.underlying113 h
 rw[cTdoR] at hl
 obtain ⟨a0,a1,a2,a3,a4,a5,rfl⟩:=listR6 hl
 obtain ⟨x0,x1,rfl⟩:=listR2 (show xs.length=2 from hlen)
 have f0:=hf 0 _ rfl
 have f1:=hf 1 _ rfl
 simp only[List.getElem?_cons_zero,List.getElem?_cons_succ] at f0 f1
 obtain ⟨i0,e0,_,w0⟩:=DataW.trod_int Tryz.underlying3 f0
 obtain ⟨z1,e1,hz1⟩:=open_opR _ _ _ f1
 cases e0
 cases e1
 exact ⟨⟨i0,z1.kind,z1.key,z1.frm,z1.til,z1.data⟩,rfl,hz1⟩
set_option maxRecDepth 100000 in
theorem open_legR (n:Nat) (cs:List Value) (y:DataW H×List MemPlace) (h:DataW.trod enc Tryz.prog w base spare held n 110 cs=some y):∃ z:Lgx,cs=lgxC z∧(z.key.size≤maxLen∧z.data.size≤maxLen∧z.told.size≤maxLen):=by
 obtain ⟨xs,m,_,_,hl,hlen,hf⟩:=DataW.trod_struct Tryz.underlying110 h
 rw[cLegR] at hl
 obtain ⟨a0,a1,a2,a3,a4,a5,a6,a7,a8,a9,a10,rfl⟩:=listR11 hl
 obtain ⟨x0,x1,x2,x3,rfl⟩:=listR4 (show xs.length=4 from hlen)
 have f0:=hf 0 _ rfl
 have f1:=hf 1 _ rfl
 have f2:=hf 2 _ rfl
 have f3:=hf 3 _ rfl
 simp only[List.getElem?_cons_zero,List.getElem?_cons_succ] at f0 f1 f2 f3
 obtain ⟨i0,e0,_,w0⟩:=DataW.trod_int Tryz.underlying3 f0
 obtain ⟨i1,e1,_,w1⟩:=DataW.trod_int Tryz.underlying3 f1
 obtain ⟨z2,e2,hz2⟩:=open_opR _ _ _ f2
 obtain ⟨z3,e3,hz3⟩:=open_ansR _ _ _ f3
 cases e0
 cases e1
 cases e2
 cases e3
 exact ⟨⟨i0,i1,z2.kind,z2.key,z2.frm,z2.til,z2.data,z3.code,z3.index,z3.mark,z3.data⟩,rfl,hz2.1,hz2.2,hz3⟩
set_option maxRecDepth 100000 in
theorem open_router {r:Reach} {b0:Nat} {v:Value} {dd:DataW H} {ps:List MemPlace} (hval:Value.okWide Tryz.prog w r b0 28 v) (hd:DataW.Trod enc Tryz.prog w base spare held 28 v dd ps):∃ x:Rtr,RtrV w w.heap.size v x∧FitsR x∧True:=by
 obtain ⟨cs,rfl,hsz⟩:=okWide_struct Tryz.underlying28 hval
 rw[cRtrR] at hsz
 obtain ⟨fuel,hf0⟩:=hd
 obtain ⟨xs,m,_,_,_,hlen,hf⟩:=DataW.trod_struct Tryz.underlying28 hf0
 obtain ⟨l⟩:=cs
 obtain ⟨a0,a1,a2,a3,a4,a5,a6,a7,a8,a9,a10,rfl⟩:=listR11 (show l.length=11 from hsz)
 obtain ⟨x0,x1,x2,x3,x4,x5,x6,rfl⟩:=listR7 (show xs.length=7 from hlen)
 have f0:=hf 0 _ rfl
 have f1:=hf 1 _ rfl
 have f2:=hf 2 _ rfl
 have f3:=hf 3 _ rfl
 have f4:=hf 4 _ rfl
 have f5:=hf 5 _ rfl
 have f6:=hf 6 _ rfl
 simp only[Value.cells,List.getElem?_cons_zero,List.getElem?_cons_succ] at f0 f1 f2 f3 f4 f5 f6
 obtain ⟨i0,e0,_,w0⟩:=DataW.trod_int Tryz.underlying3 f0
 obtain ⟨b2,e2,_⟩:=DataW.trod_bool Tryz.underlying4 f2
 obtain ⟨z3,e3,hz3⟩:=open_callT _ _ _ f3
 obtain ⟨i4,e4,_,w4⟩:=DataW.trod_int Tryz.underlying3 f4
 cases e0
 cases e2
 cases e3
 cases e4
 obtain ⟨ns,n1,n2⟩:=open_numsR f1
 obtain ⟨ls,l1,l2,l3⟩:=open_rowsR Tryz.underlying25 11 cLegR (by omega) lgxC (fun _=>rfl) _ open_legR f5
 obtain ⟨ts,t1,t2,t3⟩:=open_rowsR Tryz.underlying26 6 cTdoR (by omega) tdoC (fun _=>rfl) _ open_tdoR f6
 exact ⟨⟨i0,ns,b2,z3,i4,ls,ts⟩,⟨_,_,_,rfl,n1,l1,t1⟩,⟨n2,l2,t2,hz3.1,hz3.2,l3,t3⟩,trivial⟩
end
end Go.Proofs.YtedmdilabbolaaaGreatDoor
namespace Go.Proofs.YtedmdilabbolaaaGreatDoor
open Go.ChangeShapes Go.WideShapes Go.ChangeAt Go.RowKit Go.PlainAid
set_option linter.unusedVariables false
set_option maxHeartbeats 1000000 in
theorem implValuesOk (l:List Int) (v:Value) (w:World) (B:Nat) (hv:NumsV w B v l) (hn:l.length≤1048576):Calls Tryz.prog 182 #[v] w fun e w'=>e=.returned (.bool (decide (VOk l)))∧w=w':=by
 obtain ⟨A,cap,rfl,_,_,hl⟩:=hv
 have HL:Hid (∀ j,j<l.length→∃ g off,A=some ⟨g,off,none⟩∧g<B∧_):=hl
 have HD:Hid (∀ b,(b=true↔VOk l)→decide (VOk l)=b):=by
  intro b hb
  cases b
  ·exact decide_eq_false fun h=>by simp[h] at hb
  ·exact decide_eq_true (hb.1 rfl)
 have HV:Hid (VOk l↔1≤l.length∧l.length≤60∧∀ j,j<l.length→-1099511627776≤l.getD j 0∧l.getD j 0≤1099511627776):=Iff.rfl
 have q0:(l.length:Int)≤1048576:=by omega
 clear hl hn
 generalize hN:l.length=n at *
 clear hN
 by_cases h1:(n:Int)<1
 ·go_enter Tryz.func182,Tryz.ntmps182
  go_wp2
  go_ret
  refine ⟨?_,rfl⟩
  rw[HD.out false]
  ·rfl
  rw[HV.out]
  constructor
  ·intro h;cases h
  ·intro h;omega
 by_cases h2:(60:Int)<(n:Int)
 ·go_enter Tryz.func182,Tryz.ntmps182
  go_wp2
  go_ret
  refine ⟨?_,rfl⟩
  rw[HD.out false]
  ·rfl
  rw[HV.out]
  constructor
  ·intro h;cases h
  ·intro h;omega
 go_enter Tryz.func182,Tryz.ntmps182
 go_wp2
 go_loop [15] (fun v15=>∃ k:Nat,k≤n∧v15=.int .i64 (k:Int)∧Hid (∀ j,j<k→-1099511627776≤l.getD j 0∧l.getD j 0≤1099511627776)) (fun i=>n - (intOf i).toNat)
 case atStart=>exact ⟨0,by omega,rfl,fun j hj=>by omega⟩
 case round =>
  obtain ⟨k,hk,rfl,HJ⟩:=hrel
  by_cases hlt:k<n
  ·have q2:(k:Int)<(n:Int):=by omega
   obtain ⟨g,off,rfl,_,e1⟩:=HL.out k hlt
   have HX:Hid (l.getD k 0=l.getD k 0):=rfl
   generalize hx:l.getD k 0=x at *
   have HXX:Hid (l.getD k 0=x):=hx
   clear hx HX
   by_cases c1:x < -1099511627776
   ·go_wp2
    go_ret
    refine ⟨?_,rfl⟩
    rw[HD.out false]
    ·rfl
    rw[HV.out]
    constructor
    ·intro h;cases h
    ·intro h;have:=h.2.2 k hlt;rw[HXX.out] at this;omega
   by_cases c2:1099511627776<x
   ·go_wp2
    go_ret
    refine ⟨?_,rfl⟩
    rw[HD.out false]
    ·rfl
    rw[HV.out]
    constructor
    ·intro h;cases h
    ·intro h;have:=h.2.2 k hlt;rw[HXX.out] at this;omega
   go_wp2
   go_round
   case rel =>
    refine ⟨k+1,by omega,by go_num,fun j hj=>?_⟩
    by_cases e:j=k
    ·subst e;rw[HXX.out];omega
    ·exact HJ.out j (by omega)
   case measure=>simp[intOf];omega
  ·have hkk:k=n:=by omega
   subst hkk
   go_wp2
   go_ret
   refine ⟨?_,rfl⟩
   rw[HD.out true]
   ·rfl
   rw[HV.out]
   exact ⟨fun _=>⟨by omega,by omega,HJ.out⟩,fun _=>rfl⟩
set_option maxHeartbeats 1000000 in
theorem implTimesOk (l:List Int) (v:Value) (w:World) (B:Nat) (hv:NumsV w B v l) (hn:l.length≤1048576):Calls Tryz.prog 175 #[v] w fun e w'=>e=.returned (.bool (decide (TOk l)))∧w=w':=by
 obtain ⟨A,cap,rfl,_,_,hl⟩:=hv
 have HL:Hid (∀ j,j<l.length→∃ g off,A=some ⟨g,off,none⟩∧g<B∧_):=hl
 have HD:Hid (∀ b,(b=true↔TOk l)→decide (TOk l)=b):=by
  intro b hb
  cases b
  ·exact decide_eq_false fun h=>by simp[h] at hb
  ·exact decide_eq_true (hb.1 rfl)
 have HV:Hid (TOk l↔1≤l.length∧l.length≤60∧∀ j,j<l.length→(0≤l.getD j 0∧l.getD j 0≤1099511627776)∧(0<j→l.getD (j - 1) 0<l.getD j 0)):=Iff.rfl
 have q0:(l.length:Int)≤1048576:=by omega
 clear hl hn
 generalize hN:l.length=n at *
 clear hN
 by_cases h1:(n:Int)<1
 ·go_enter Tryz.func175,Tryz.ntmps175
  go_wp2
  go_ret
  refine ⟨?_,rfl⟩
  rw[HD.out false]
  ·rfl
  rw[HV.out]
  constructor
  ·intro h;cases h
  ·intro h;omega
 by_cases h2:(60:Int)<(n:Int)
 ·go_enter Tryz.func175,Tryz.ntmps175
  go_wp2
  go_ret
  refine ⟨?_,rfl⟩
  rw[HD.out false]
  ·rfl
  rw[HV.out]
  constructor
  ·intro h;cases h
  ·intro h;omega
 go_enter Tryz.func175,Tryz.ntmps175
 go_wp2
 go_loop [3,16] (fun v3 v16=>∃ (k:Nat) (m:Int),k≤n∧v16=.int .i64 (k:Int)∧v3=.int .i64 m∧0≤m∧m≤1099511627777∧Hid ((k=0→m=0)∧(0<k→m=l.getD (k - 1) 0+1))∧Hid (∀ j,j<k→(0≤l.getD j 0∧l.getD j 0≤1099511627776)∧(0<j→l.getD (j - 1) 0<l.getD j 0))) (fun _ i=>n - (intOf i).toNat)
 case atStart=>exact ⟨0,0,by omega,rfl,rfl,by omega,by omega,⟨fun _=>rfl,fun h=>by omega⟩,fun j hj=>by omega⟩
 case round =>
  obtain ⟨k,m,hk,rfl,rfl,hm0,hm1,HM,HJ⟩:=hrel
  by_cases hlt:k<n
  ·have q2:(k:Int)<(n:Int):=by omega
   obtain ⟨g,off,rfl,_,e1⟩:=HL.out k hlt
   generalize hx:l.getD k 0=x at *
   have HXX:Hid (l.getD k 0=x):=hx
   clear hx
   have HM2:Hid (m≤x↔(0≤x∧(0<k→l.getD (k - 1) 0<x))):=by
    obtain ⟨m1,m2⟩:=HM.out
    unfold Hid
    by_cases hk0:k=0
    ·rw[m1 hk0]
     constructor
     ·intro h;exact ⟨h,fun h=>by omega⟩
     ·intro h;exact h.1
    ·have:=m2 (by omega)
     constructor
     ·intro h;exact ⟨by omega,fun _=>by omega⟩
     ·intro h;have:=h.2 (by omega);omega
   by_cases c1:x<m
   ·go_wp2
    go_ret
    refine ⟨?_,rfl⟩
    rw[HD.out false]
    ·rfl
    rw[HV.out]
    constructor
    ·intro h;cases h
    ·intro h;have:=h.2.2 k hlt;rw[HXX.out] at this;have:=HM2.out.2 ⟨this.1.1,this.2⟩;omega
   by_cases c2:1099511627776<x
   ·go_wp2
    go_ret
    refine ⟨?_,rfl⟩
    rw[HD.out false]
    ·rfl
    rw[HV.out]
    constructor
    ·intro h;cases h
    ·intro h;have:=h.2.2 k hlt;rw[HXX.out] at this;omega
   go_wp2
   go_round
   case rel =>
    refine ⟨k+1,x+1,by omega,by go_num,by go_num,by omega,by omega,⟨fun h=>by omega,fun _=>by rw[Nat.add_sub_cancel,HXX.out]⟩,fun j hj=>?_⟩
    by_cases e:j=k
    ·subst e
     rw[HXX.out]
     have:=HM2.out.1 (by omega)
     exact ⟨⟨this.1,by omega⟩,this.2⟩
    ·exact HJ.out j (by omega)
   case measure=>simp[intOf];omega
  ·have hkk:k=n:=by omega
   subst hkk
   go_wp2
   go_ret
   refine ⟨?_,rfl⟩
   rw[HD.out true]
   ·rfl
   rw[HV.out]
   exact ⟨fun _=>⟨by omega,by omega,HJ.out⟩,fun _=>rfl⟩
set_option maxHeartbeats 1000000 in
theorem specValuesOk (l:List Int) (v:Value) (w:World) (B:Nat) (hv:NumsV w B v l) (hn:l.length≤1048576):Calls Tryz.prog 153 #[v] w fun e w'=>e=.returned (.bool (decide (VOk l)))∧w=w':=by
 obtain ⟨A,cap,rfl,_,_,hl⟩:=hv
 have HL:Hid (∀ j,j<l.length→∃ g off,A=some ⟨g,off,none⟩∧g<B∧_):=hl
 have HD:Hid (∀ b,(b=true↔VOk l)→decide (VOk l)=b):=by
  intro b hb
  cases b
  ·exact decide_eq_false fun h=>by simp[h] at hb
  ·exact decide_eq_true (hb.1 rfl)
 have HV:Hid (VOk l↔1≤l.length∧l.length≤60∧∀ j,j<l.length→-1099511627776≤l.getD j 0∧l.getD j 0≤1099511627776):=Iff.rfl
 have q0:(l.length:Int)≤1048576:=by omega
 clear hl hn
 generalize hN:l.length=n at *
 clear hN
 by_cases h1:(n:Int)<1∨(60:Int)<(n:Int)
 ·have c:=fun wx=>in_no (n:Int) 1 60 wx h1
  have H1:Hid ((n:Int)<1∨(60:Int)<(n:Int)):=h1
  clear h1
  go_enter Tryz.func153,Tryz.ntmps153
  go_wp2_with (go_at_call 29;refine (c _).mono ?_;rintro e w' ⟨rfl,rfl⟩)
  go_ret
  refine ⟨?_,rfl⟩
  rw[HD.out false]
  ·rfl
  rw[HV.out]
  constructor
  ·intro h;cases h
  ·intro h;have:=H1.out;omega
 have c:=fun wx=>in_yes (n:Int) 1 60 wx (by omega) (by omega)
 have q1:(n:Int)≤60:=by omega
 have q11:(1:Int)≤(n:Int):=by omega
 clear h1
 go_enter Tryz.func153,Tryz.ntmps153
 go_wp2_with (go_at_call 29;refine (c _).mono ?_;rintro e w' ⟨rfl,rfl⟩)
 go_loop [3] (fun v3=>∃ k:Nat,k≤n∧v3=.int .i64 (k:Int)∧Hid (∀ j,j<k→-1099511627776≤l.getD j 0∧l.getD j 0≤1099511627776)) (fun i=>n - (intOf i).toNat)
 case atStart=>exact ⟨0,by omega,rfl,fun j hj=>by omega⟩
 case round =>
  obtain ⟨k,hk,rfl,HJ⟩:=hrel
  by_cases hlt:k<n
  ·have q2:(k:Int)<(n:Int):=by omega
   obtain ⟨g,off,rfl,_,e1⟩:=HL.out k hlt
   generalize hx:l.getD k 0=x at *
   have HXX:Hid (l.getD k 0=x):=hx
   clear hx
   by_cases c1:x < -1099511627776∨1099511627776<x
   ·have c2:=fun wx=>in_no x (-1099511627776) 1099511627776 wx c1
    have H1:Hid (x < -1099511627776∨1099511627776<x):=c1
    clear c1
    go_wp2_with (go_at_call 29;refine (c2 _).mono ?_;rintro e w' ⟨rfl,rfl⟩)
    go_ret
    refine ⟨?_,rfl⟩
    rw[HD.out false]
    ·rfl
    rw[HV.out]
    constructor
    ·intro h;cases h
    ·intro h;have:=h.2.2 k hlt;rw[HXX.out] at this;have:=H1.out;omega
   have c2:=fun wx=>in_yes x (-1099511627776) 1099511627776 wx (by omega) (by omega)
   have H1:Hid (¬ (x < -1099511627776∨1099511627776<x)):=c1
   clear c1
   go_wp2_with (go_at_call 29;refine (c2 _).mono ?_;rintro e w' ⟨rfl,rfl⟩)
   go_round
   case rel =>
    refine ⟨k+1,by omega,by go_num,fun j hj=>?_⟩
    by_cases e:j=k
    ·subst e;rw[HXX.out];have:=H1.out;omega
    ·exact HJ.out j (by omega)
   case measure=>simp[intOf];omega
  ·have hkk:k=n:=by omega
   subst hkk
   go_wp2
   go_ret
   refine ⟨?_,rfl⟩
   rw[HD.out true]
   ·rfl
   rw[HV.out]
   exact ⟨fun _=>⟨by omega,by omega,HJ.out⟩,fun _=>rfl⟩
end Go.Proofs.YtedmdilabbolaaaGreatDoor
namespace Go.Proofs.YtedmdilabbolaaaGreatDoor
open Go.ChangeShapes Go.WideShapes Go.ChangeAt Go.RowKit Go.PlainAid
set_option linter.unusedVariables false
set_option maxHeartbeats 1000000 in
theorem specRise (l:List Int) (v:Value) (w:World) (B:Nat) (hv:NumsV w B v l) (hn:l.length≤1048576):Calls Tryz.prog 151 #[v] w fun e w'=>e=.returned (.bool (decide (TOk l)))∧Like w w':=by
 obtain ⟨A,cap,rfl,_,_,hl⟩:=hv
 have HL:Hid (∀ j,j<l.length→∃ g off,A=some ⟨g,off,none⟩∧g<B∧_):=hl
 have HD:Hid (∀ b,(b=true↔TOk l)→decide (TOk l)=b):=by
  intro b hb
  cases b
  ·exact decide_eq_false fun h=>by simp[h] at hb
  ·exact decide_eq_true (hb.1 rfl)
 have HV:Hid (TOk l↔1≤l.length∧l.length≤60∧∀ j,j<l.length→(0≤l.getD j 0∧l.getD j 0≤1099511627776)∧(0<j→l.getD (j - 1) 0<l.getD j 0)):=Iff.rfl
 have q0:(l.length:Int)≤1048576:=by omega
 clear hl hn
 generalize hN:l.length=n at *
 clear hN
 by_cases h1:(n:Int)<1∨(60:Int)<(n:Int)
 ·have c:=fun wx=>in_no (n:Int) 1 60 wx h1
  have H1:Hid ((n:Int)<1∨(60:Int)<(n:Int)):=h1
  clear h1
  go_enter Tryz.func151,Tryz.ntmps151
  go_wp2_with (go_at_call 29;refine (c _).mono ?_;rintro e w' ⟨rfl,rfl⟩)
  go_ret
  refine ⟨?_,Like.refl _⟩
  rw[HD.out false]
  ·rfl
  rw[HV.out]
  constructor
  ·intro h;cases h
  ·intro h;have:=H1.out;omega
 have c:=fun wx=>in_yes (n:Int) 1 60 wx (by omega) (by omega)
 have q1:(n:Int)≤60:=by omega
 have q11:(1:Int)≤(n:Int):=by omega
 clear h1
 go_enter Tryz.func151,Tryz.ntmps151
 go_wp2_with (go_at_call 29;refine (c _).mono ?_;rintro e w' ⟨rfl,rfl⟩)
 go_loopw [3] (fun v3 wr=>∃ k:Nat,k≤n∧v3=.int .i64 (k:Int)∧Like w wr∧Hid (∀ j,j<k→(0≤l.getD j 0∧l.getD j 0≤1099511627776)∧(0<j→l.getD (j - 1) 0<l.getD j 0))) (fun i _=>n - (intOf i).toNat)
 case atStart=>exact ⟨0,by omega,rfl,Like.refl _,fun j hj=>by omega⟩
 case round =>
  obtain ⟨k,hk,rfl,hLk,HJ⟩:=hrel
  by_cases hlt:k<n
  ·have q2:(k:Int)<(n:Int):=by omega
   obtain ⟨g,off,rfl,_,e1⟩:=HL.out k hlt
   obtain ⟨g',off',eA,_,e0⟩:=HL.out (k - 1) (by omega)
   injection eA with eA
   injection eA with eA1 eA2
   subst eA1
   subst eA2
   rw[← cell?_heap hLk.1] at e1 e0
   generalize hx:l.getD k 0=x at *
   have HXX:Hid (l.getD k 0=x):=hx
   clear hx
   generalize hy:l.getD (k - 1) 0=y at *
   have HYY:Hid (l.getD (k - 1) 0=y):=hy
   clear hy
   by_cases c1:x<0∨1099511627776<x
   ·have c2:=fun wx=>in_no x 0 1099511627776 wx c1
    have H1:Hid (x<0∨1099511627776<x):=c1
    clear c1
    go_wp2_with fail
    go_quiet ((go_at_call 29;exact Calls.quiet_of_same ((c2 _).mono fun _ _ h=>⟨h.1,h.2.symm⟩)))
    go_wp2_with fail
    go_ret
    refine ⟨?_,hLk.drewN _⟩
    rw[HD.out false]
    ·rfl
    rw[HV.out]
    constructor
    ·intro h;cases h
    ·intro h;have:=h.2.2 k hlt;rw[HXX.out] at this;have:=H1.out;omega
   have c2:=fun wx=>in_yes x 0 1099511627776 wx (by omega) (by omega)
   have H1:Hid (¬ (x<0∨1099511627776<x)):=c1
   clear c1
   by_cases hk0:k=0
   ·have d0:decide ((0:Int)<(k:Int))=false:=decide_eq_false (by omega)
    have d1:decide (0<k)=false:=decide_eq_false (by omega)
    have HK0:Hid (k=0):=hk0
    clear e0 hk0
    go_wp2_with fail
    go_quiet ((go_at_call 29;exact Calls.quiet_of_same ((c2 _).mono fun _ _ h=>⟨h.1,h.2.symm⟩)))
    go_wp2_with fail
    go_roundw
    case rel =>
     refine ⟨k+1,by omega,by go_num,hLk.drewN _,fun j hj=>?_⟩
     have hk0:=HK0.out
     obtain rfl:j=k:=by omega
     rw[HXX.out]
     have:=H1.out
     exact ⟨by omega,fun h=>by omega⟩
    case measure=>simp[intOf];omega
   have q3:(0:Int)<(k:Int):=by omega
   have q4:decide (0<k)=true:=decide_eq_true (by omega)
   have q5:0<k:=by omega
   have e3:((k:Int) - 1).toNat=k - 1:=by omega
   by_cases c3:x≤y
   ·go_wp2_with fail
    go_quiet ((go_at_call 29;exact Calls.quiet_of_same ((c2 _).mono fun _ _ h=>⟨h.1,h.2.symm⟩)))
    go_wp2_with fail
    go_ret
    refine ⟨?_,hLk.drewN _⟩
    rw[HD.out false]
    ·rfl
    rw[HV.out]
    constructor
    ·intro h;cases h
    ·intro h;have:=(h.2.2 k hlt).2 (by omega);rw[HXX.out,HYY.out] at this;omega
   ·have d1:decide (x≤y)=false:=decide_eq_false c3
    go_wp2_with fail
    go_quiet ((go_at_call 29;exact Calls.quiet_of_same ((c2 _).mono fun _ _ h=>⟨h.1,h.2.symm⟩)))
    go_wp2_with fail
    go_roundw
    case rel =>
     refine ⟨k+1,by omega,by go_num,hLk.drewN _,fun j hj=>?_⟩
     by_cases e:j=k
     ·subst e
      rw[HXX.out,HYY.out]
      have:=H1.out
      exact ⟨by omega,fun _=>by omega⟩
     ·exact HJ.out j (by omega)
    case measure=>simp[intOf];omega
  ·have hkk:k=n:=by omega
   subst hkk
   go_wp2
   go_ret
   refine ⟨?_,hLk⟩
   rw[HD.out true]
   ·rfl
   rw[HV.out]
   exact ⟨fun _=>⟨by omega,by omega,HJ.out⟩,fun _=>rfl⟩
end Go.Proofs.YtedmdilabbolaaaGreatDoor
namespace Go.Proofs.YtedmdilabbolaaaGreatDoor
open Go.ChangeShapes Go.WideShapes Go.ChangeAt Go.RowKit Go.PlainAid
set_option linter.unusedVariables false
set_option maxHeartbeats 1000000 in
theorem differencesV (l:List Int) (v:Value) (w:World) (B:Nat) (F:Nat) (caps:Array Value) (Inv:Nat→World→Prop)
  (hF:∀ args w,(callFunc F args).run Tryz.prog w=.ok (.enter F args) w) (hn:l.length≤1048576) (hd:∀ k,k<l.length→-4611686018427387904≤dif l k∧dif l k≤4611686018427387904)
  (hv:∀ k wx,Inv k wx→NumsV wx B v l) (h0:Inv 0 w)
  (hC:∀ k,k<l.length→∀ wx,Inv k wx→Calls Tryz.prog F (#[.int .i64 (k:Int),.int .i64 (dif l k)]++caps) wx fun e w'=>(∃ u,e=.returned u)∧Inv (k+1) w') :
  Calls Tryz.prog 176 #[v,.func (.func F) #[] caps] w fun e w'=>(∃ u,e=.returned u)∧Inv l.length w':=by
 have HV:Hid (∀ k wx,Inv k wx→NumsV wx B v l):=hv
 have HC:Hid (∀ k,k<l.length→∀ wx,Inv k wx→Calls Tryz.prog F (#[.int .i64 (k:Int),.int .i64 (dif l k)]++caps) wx fun e w'=>(∃ u,e=.returned u)∧Inv (k+1) w'):=hC
 have HD:Hid (∀ k,k<l.length→-4611686018427387904≤dif l k∧dif l k≤4611686018427387904):=hd
 obtain ⟨A,cap,rfl,_,_,hl⟩:=hv 0 w h0
 have q0:(l.length:Int)≤1048576:=by omega
 clear hl hn hd hv hC
 generalize hN:l.length=n at *
 have HN:Hid (l.length=n):=hN
 clear hN
 go_enter Tryz.func176,Tryz.ntmps176
 go_wp2
 go_loopw [4,9] (fun v4 v9 wr=>∃ k:Nat,k≤n∧v9=.int .i64 (k:Int)∧v4=.int .i64 (prv l k)∧Inv k wr) (fun _ i _=>n - (intOf i).toNat)
 case atStart=>exact ⟨0,by omega,rfl,rfl,h0⟩
 case round =>
  obtain ⟨k,hk,rfl,rfl,hI⟩:=hrel
  by_cases hlt:k<n
  ·have q2:(k:Int)<(n:Int):=by omega
   obtain ⟨A',cap',e',_,_,hl⟩:=HV.out k wr hI
   injection e' with ea eb ec
   subst ea
   subst ec
   obtain ⟨g,off,rfl,_,e1⟩:=hl k (by rw[HN.out];exact hlt)
   have hdk:=HD.out k hlt
   have cC:=HC.out k hlt wr hI
   have HP:Hid (prv l (k+1)=l.getD k 0):=prv_succ l k
   have ed:dif l k=l.getD k 0 - prv l k:=rfl
   rw[ed] at hdk cC
   generalize l.getD k 0=x at *
   generalize prv l k=y at *
   have hw:wrap64 (x - y)=x - y:=by unfold wrap64;omega
   clear hl eb ed
   go_wp2_with fail
   refine cC.mono ?_
   rintro e w1 ⟨⟨u,rfl⟩,hI1⟩
   go_wp2_with fail
   go_roundw
   case rel=>exact ⟨k+1,by omega,by go_num,by rw[HP.out],hI1⟩
   case measure=>simp[intOf];omega
  ·obtain rfl:k=n:=by omega
   go_wp2_with fail
   exact bodyPost_end (v:=.tuple #[]) (by simp[results,go_sem]) rfl ⟨⟨_,rfl⟩,hI⟩
theorem strCells_append (a b:ByteArray):Lib.strCells (a++b)=Lib.strCells a++Lib.strCells b:=by simp[Lib.strCells,ByteArray.data_append]
theorem strCells_txt (l m:List UInt8):Lib.strCells (txt (l++m))=Lib.strCells (txt l)++Lib.strCells (txt m):=by rw[← txt_cat,strCells_append]
theorem bld_on {w w':World} {B b:Nat} {bs:List Value} (h:Lib.IsBuilderF 208 5 B b bs w) (hb:Below w.heap.size w w'):Lib.IsBuilderF 208 5 B b bs w':=by
 have key:∀ p,Lib.BuilderAtF 208 5 B b p bs w→Lib.BuilderAtF 208 5 B b p bs w':=by
  rintro p ⟨hB,v,hh,hown,hne⟩
  refine ⟨hB,v,by rw[hb.block b (lt_of_block hh)];exact hh,⟨hown.1,?_⟩,hne⟩
  rcases hown.2 with h | ⟨g,cap,cur,fz,rfl,hbg,hg,rest⟩
  ·exact .inl h
  ·refine .inr ⟨g,cap,cur,fz,rfl,hbg,?_,rest⟩
   rw[hb.block g (Array.getElem?_eq_some_iff.1 hg).1]
   exact hg
 exact h.imp (key _) (key _)
theorem bld_new {w:World} {b:Nat} (h:w.heap[b]?=some (.cells #[.pointer none,.slice none 0 0] 208 (0,0))):Lib.IsBuilderF 208 5 b b (Lib.strCells ByteArray.empty) w :=
 .inl ⟨Nat.le_refl _,.slice none 0 0,h,⟨rfl,.inl ⟨rfl,rfl⟩⟩,fun e=>by cases e⟩
def Bld (gb:Nat) (l:List UInt8) (w:World):Prop:=Lib.IsBuilderF 208 5 gb gb (Lib.strCells (txt l)) w
theorem Bld.on {gb:Nat} {l:List UInt8} {w w':World} (h:Bld gb l w) (hb:Below w.heap.size w w'):Bld gb l w':=bld_on h hb
theorem bldWriteT (gb:Nat) (l m:List UInt8) (w:World) (h:Bld gb l w) (hlen:l.length+m.length≤1048576) (hBw:gb≤w.heap.size) :
  Calls Tryz.prog 178 #[.pointer (some ⟨gb,0,none⟩),.string (txt m)] w fun e w'=>e=.returned (.tuple #[.int .i64 (m.length:Int),.nilIface])∧Bld gb (l++m) w'∧Below gb w w'∧Lib.OthersKept 5 (some gb) w w':=by
 refine (bldWrite gb gb _ (txt m) w h (by rw[Lib.strCells_length];have h1:=txt_size l;have h2:=txt_size m;omega) hBw).mono ?_
 rintro e w' ⟨rfl,h1,h2,h3⟩
 refine ⟨by rw[txt_size],?_,h2,h3⟩
 unfold Bld
 rw[strCells_txt]
 exact .inr h1
theorem bldStringT (gb:Nat) (l:List UInt8) (w:World) (h:Bld gb l w) (hBw:gb≤w.heap.size) :
  Calls Tryz.prog 181 #[.pointer (some ⟨gb,0,none⟩)] w fun e w'=>e=.returned (.string (txt l))∧Below gb w w':=by
 have h':Lib.IsBuilderF 208 5 gb gb (Lib.byteCells l) w:=by
  have:Lib.strCells (txt l)=Lib.byteCells l:=by simp[Lib.strCells,Lib.byteCells,txt]
  rw[← this]
  exact h
 refine (bldString gb gb l w h' hBw).mono ?_
 rintro e w' ⟨rfl,_,h2,_⟩
 exact ⟨rfl,h2⟩
set_option maxHeartbeats 1000000 in
theorem specShowValues (l:List Int) (v:Value) (w:World) (B:Nat) (hv:NumsV w B v l) (hn:l.length≤1048576) (hB:B≤w.heap.size):Calls Tryz.prog 132 #[v] w fun e w'=>e=.returned (.string (showV l))∧Below w.heap.size w w':=by
 have c:=specValuesOk l v w B hv hn
 have HV:Hid (NumsV w B v l):=hv
 have HB:Hid (B≤w.heap.size):=hB
 obtain ⟨A,cap,rfl,_,_,_⟩:=hv
 by_cases ho:VOk l
 ·have HE:Hid (showV l=txt (cat (vPiece l) l.length)):=by unfold Hid showV;rw[if_pos ho]
  have HO:Hid (VOk l):=ho
  rw[decide_eq_true ho] at c
  have q0:(l.length:Int)≤60:=by have:=ho.2.1;omega
  clear ho hn hB
  generalize hN:l.length=n at *
  have HN:Hid (l.length=n):=hN
  clear hN
  go_enter Tryz.func132,Tryz.ntmps132
  go_wp2_with fail
  refine c.mono ?_
  rintro e w0 ⟨rfl,rfl⟩
  go_wp2_with fail
  go_loopw [3,4,5] (fun v3 v4 v5 wr=>∃ k:Nat,k≤n∧v5=.int .i64 (k:Int)∧v4=.int .i64 (prv l k)∧v3=.string (txt (cat (vPiece l) k))∧Below w.heap.size w wr) (fun _ _ i _=>n - (intOf i).toNat)
  case atStart=>exact ⟨0,by omega,rfl,rfl,rfl,Below.refl _ _⟩
  case round =>
   obtain ⟨k,hk,rfl,rfl,rfl,hb⟩:=hrel
   have HB1:Hid (Below w.heap.size w wr):=hb
   by_cases hlt:k<n
   ·have q2:(k:Int)<(n:Int):=by omega
    obtain ⟨A',cap',e',_,_,hl⟩:=HV.out.on (hb.mono HB.out)
    injection e' with ea eb ec
    subst ea
    subst ec
    obtain ⟨g,off,rfl,hgB,e1⟩:=hl k (by rw[HN.out];exact hlt)
    have hdk:=HO.out.dif k (by rw[HN.out];exact hlt)
    have cz:=fun wx=>spec_zig (dif l k) wx (by omega) (by omega)
    have hz0:=zig_pos (dif l k) (by omega) (by omega)
    have hz1:=(zig_range (dif l k)).2
    have cv:=fun wx=>spec_var (zig (dif l k)).toNat wx (by omega)
    rw[Int.toNat_of_nonneg hz0] at cv
    have HP:Hid (prv l (k+1)=l.getD k 0):=prv_succ l k
    have ed:dif l k=l.getD k 0 - prv l k:=rfl
    have ecat:cat (vPiece l) (k+1)=cat (vPiece l) k++vF 6 (zig (dif l k)).toNat:=cat_succ _ _
    have hl1:=cat_length (vPiece l) (vPiece_length l) k
    have hl2:=vF_length 6 (zig (dif l k)).toNat
    have HCT:Hid (txt (cat (vPiece l) (k+1))=txt (cat (vPiece l) k)++txt (vF 6 (zig (dif l k)).toNat)):=by unfold Hid;rw[ecat,txt_cat]
    have hs1:=txt_size (cat (vPiece l) k)
    have hs2:=txt_size (vF 6 (zig (dif l k)).toNat)
    generalize txt (cat (vPiece l) k)=sa at *
    generalize txt (vF 6 (zig (dif l k)).toNat)=sb at *
    have hsum:sa.size+sb.size≤9223372036854775807:=by omega
    generalize zig (dif l k)=z at *
    clear ecat hl1 hl2 hs1 hs2
    rw[ed] at hdk cz
    have he1:∀ wx,Below wr.heap.size wr wx→wx.cell? ⟨g,off+k,none⟩=some (.int .i64 (l.getD k 0)):=fun wx hx=>by rw[hx.cell (p:=⟨_,_,none⟩) (by have:=hb.size;have:=HB.out;show g<_;omega)];exact e1
    generalize l.getD k 0=x at *
    generalize prv l k=y at *
    have hw:wrap64 (x - y)=x - y:=by unfold wrap64;omega
    clear hl eb ed hb
    go_wp2_with fail
    refine (cz _).mono ?_
    rintro e w1 ⟨rfl,rfl⟩
    go_wp2_with fail
    refine (cv _).mono ?_
    rintro e w2 ⟨rfl,hb2⟩
    have e2:=he1 _ hb2
    have HB2:Hid (Below w.heap.size w w2):=HB1.out.trans (hb2.mono HB1.out.size)
    clear he1 hb2
    go_wp2_with fail
    go_roundw
    case rel=>exact ⟨k+1,by omega,by go_num,by rw[HP.out],by rw[HCT.out],HB2.out⟩
    case measure=>simp[intOf];omega
   ·obtain rfl:k=n:=by omega
    clear hb
    go_wp2_with fail
    go_ret
    exact ⟨by rw[HE.out];rfl,HB1.out⟩
 ·have HE:Hid (showV l=txt []):=by unfold Hid showV;rw[if_neg ho]
  rw[decide_eq_false ho] at c
  clear ho
  go_enter Tryz.func132,Tryz.ntmps132
  go_wp2_with fail
  refine c.mono ?_
  rintro e w0 ⟨rfl,rfl⟩
  go_wp2_with fail
  go_ret
  exact ⟨by rw[HE.out];rfl,Below.refl _ _⟩
set_option maxHeartbeats 1000000 in
theorem showVals1 (k:Nat) (d:Int) (gb:Nat) (l:List UInt8) (w:World) (h1:-140737488355328≤d) (h2:d≤140737488355328) (hb:Bld gb l w) (hl:l.length≤1000) (hg:gb≤w.heap.size) :
  Calls Tryz.prog 183 #[.int .i64 (k:Int),.int .i64 d,.pointer (some ⟨gb,0,none⟩)] w fun e w'=>(∃ u,e=.returned u)∧Bld gb (l++vF 6 (zig d).toNat) w'∧Below gb w w':=by
 have cz:=fun wx=>impl_zig d wx (by omega) (by omega)
 have hz0:=zig_pos d h1 h2
 have hz1:=(zig_range d).2
 have cv:=fun wx=>impl_var (zig d).toNat wx (by omega)
 rw[Int.toNat_of_nonneg hz0] at cv
 have HBD:Hid (Bld gb l w):=hb
 have HG:Hid (gb≤w.heap.size):=hg
 have hvl:=vF_length 6 (zig d).toNat
 have HL:Hid (l.length+(vF 6 (zig d).toNat).length≤1048576):=by unfold Hid;omega
 clear hb hg hl hvl
 generalize hvv:vF 6 (zig d).toNat=vv at *
 generalize zig d=z at *
 go_enter Tryz.func183,Tryz.ntmps183
 go_wp2_with fail
 refine (cz _).mono ?_
 rintro e w1 ⟨rfl,rfl⟩
 go_wp2_with fail
 refine (cv _).mono ?_
 rintro e w2 ⟨rfl,hb2⟩
 have HB2:Hid (Below gb w w2):=hb2.mono HG.out
 have Z2:Hid (gb≤w2.heap.size):=Nat.le_trans HG.out hb2.size
 have L2:Hid (Bld gb l w2):=HBD.out.on hb2
 clear hb2
 go_wp2_with fail
 refine (bldWriteT gb l vv w2 L2.out HL.out Z2.out).mono ?_
 rintro e w3 ⟨rfl,hB3,hb3,_⟩
 have HB3:Hid (Below gb w w3):=HB2.out.trans hb3
 clear hb3
 go_wp2_with fail
 exact bodyPost_end (v:=.tuple #[]) (by simp[results,go_sem]) rfl ⟨⟨_,rfl⟩,hB3,HB3.out⟩
set_option maxHeartbeats 1000000 in
theorem implShowValues (l:List Int) (v:Value) (w:World) (B:Nat) (hv:NumsV w B v l) (hn:l.length≤1048576) (hB:B≤w.heap.size):Calls Tryz.prog 165 #[v] w fun e w'=>e=.returned (.string (showV l))∧Below w.heap.size w w':=by
 have c:=implValuesOk l v w B hv hn
 have HV:Hid (NumsV w B v l):=hv
 have HB:Hid (B≤w.heap.size):=hB
 obtain ⟨A,cap,rfl,_,_,_⟩:=hv
 by_cases ho:VOk l
 ·have HE:Hid (showV l=txt (cat (vPiece l) l.length)):=by unfold Hid showV;rw[if_pos ho]
  have HO:Hid (VOk l):=ho
  have HN:Hid (l.length≤60):=ho.2.1
  rw[decide_eq_true ho] at c
  have k0:(w.alloc (.cells #[.pointer none,.slice none 0 0] 208)).heap[w.heap.size]?=some (.cells #[.pointer none,.slice none 0 0] 208 (0,0)):=heap_alloc_new w _
  have b0:Below w.heap.size w (w.alloc (.cells #[.pointer none,.slice none 0 0] 208)):=(Below.refl _ _).alloc (Nat.le_refl _) _
  clear ho hB
  go_enter Tryz.func165,Tryz.ntmps165
  go_wp2_with fail
  refine c.mono ?_
  rintro e w0 ⟨rfl,rfl⟩
  go_wp2_with fail
  generalize w.alloc (.cells #[.pointer none,.slice none 0 0] 208)=W at *
  have cD:=differencesV l (.slice A l.length cap) W B 183 #[.pointer (some ⟨w.heap.size,0,none⟩)] (fun k wx=>Below w.heap.size w wx∧Bld w.heap.size (cat (vPiece l) k) wx) (fun _ _=>by kernel_rfl) hn (fun k hk=>by have:=HO.out.dif k hk;omega) (fun k wx hx=>HV.out.on (hx.1.mono HB.out)) ⟨b0,bld_new k0⟩ (fun k hk wx hx=>by
   have hd:=HO.out.dif k hk
   have hc:=cat_length (vPiece l) (vPiece_length l) k
   have hN:=HN.out
   refine (showVals1 k (dif l k) w.heap.size (cat (vPiece l) k) wx (by omega) (by omega) hx.2 (by omega) hx.1.size).mono ?_
   rintro e w' ⟨hu,h1,h2⟩
   exact ⟨hu,hx.1.trans h2,by rw[cat_succ];exact h1⟩)
  refine cD.mono ?_
  rintro e w2 ⟨⟨u,rfl⟩,hb2,hB2⟩
  have cS:=bldStringT w.heap.size _ w2 hB2 hb2.size
  have HB2:Hid (Below w.heap.size w w2):=hb2
  clear hb2 hB2 cD b0 k0
  go_wp2_with fail
  refine cS.mono ?_
  rintro e w3 ⟨rfl,hb3⟩
  have HB3:Hid (Below w.heap.size w w3):=HB2.out.trans hb3
  clear hb3 cS
  go_wp2_with fail
  go_ret
  exact ⟨by rw[HE.out];rfl,HB3.out⟩
 ·have HE:Hid (showV l=txt []):=by unfold Hid showV;rw[if_neg ho]
  rw[decide_eq_false ho] at c
  clear ho
  go_enter Tryz.func165,Tryz.ntmps165
  go_wp2_with fail
  refine c.mono ?_
  rintro e w0 ⟨rfl,rfl⟩
  go_wp2_with fail
  go_ret
  exact ⟨by rw[HE.out];rfl,Below.refl _ _⟩
end Go.Proofs.YtedmdilabbolaaaGreatDoor
namespace Go.Proofs.YtedmdilabbolaaaGreatDoor
open Go.ChangeShapes Go.WideShapes Go.ChangeAt Go.RowKit Go.PlainAid
set_option linter.unusedVariables false
set_option maxHeartbeats 2000000 in
theorem specShowTimes (l:List Int) (v:Value) (w:World) (B:Nat) (hv:NumsV w B v l) (hn:l.length≤1048576) (hB:B≤w.heap.size):Calls Tryz.prog 131 #[v] w fun e w'=>e=.returned (.string (showT l))∧Below w.heap.size w w':=by
 have c:=specRise l v w B hv hn
 have HV:Hid (NumsV w B v l):=hv
 have HB:Hid (B≤w.heap.size):=hB
 by_cases ho:TOk l
 ·obtain ⟨g,off,cap,rfl,_,_,hg,hc0⟩:=hv.full ho.1
  have HC:Hid (∀ wx,Below w.heap.size w wx→∀ j,j<l.length→wx.cell? ⟨g,off+j,none⟩=some (.int .i64 (l.getD j 0))):=fun wx hx=>hc0 wx (hx.mono hB)
  have HE:Hid (showT l=txt (cat (tPiece l) l.length)):=by unfold Hid showT;rw[if_pos ho]
  have HO:Hid (TOk l):=ho
  rw[decide_eq_true ho] at c
  have q0:(l.length:Int)≤60:=by have:=ho.2.1;omega
  have q1:(1:Int)≤(l.length:Int):=by have:=ho.1;omega
  have hq1:1≤l.length:=by have:=ho.1;omega
  clear ho hn hB hc0 hv
  generalize hN:l.length=n at *
  have HN:Hid (l.length=n):=hN
  clear hN
  go_enter Tryz.func131,Tryz.ntmps131
  go_wp2_with fail
  refine c.mono ?_
  rintro e w0 ⟨rfl,hL0⟩
  have B0:Hid (Below w.heap.size w w0):=hL0.below
  have e1:=HC.out w0 B0.out 0 hq1
  have e00:off+0=off:=rfl
  rw[e00] at e1
  have hT0:=HO.out.turn 0 (by rw[HN.out];exact hq1)
  have ht0:turn l 0=l.getD 0 0:=by unfold turn dif prv;simp
  have cv0:=fun wx=>spec_var (turn l 0).toNat wx (by omega)
  rw[Int.toNat_of_nonneg hT0.1] at cv0
  have HC1:Hid (txt (cat (tPiece l) 1)=txt (vF 6 (turn l 0).toNat)):=by unfold Hid;rw[cat_succ,cat_zero];rfl
  generalize txt (vF 6 (turn l 0).toNat)=s1 at *
  rw[ht0] at cv0
  clear e00 hT0 ht0 hL0
  generalize l.getD 0 0=x0 at *
  go_wp2_with fail
  refine (cv0 _).mono ?_
  rintro e w1 ⟨rfl,hb1⟩
  have B1:Hid (Below w.heap.size w w1):=B0.out.trans (hb1.mono B0.out.size)
  clear hb1 cv0 e1
  go_wp2_with fail
  go_loopw [3,4] (fun v3 v4 wr=>∃ k:Nat,1≤k∧k≤n∧v4=.int .i64 (k:Int)∧v3=.string (txt (cat (tPiece l) k))∧Below w.heap.size w wr) (fun _ i _=>n - (intOf i).toNat)
  case atStart=>exact ⟨1,by omega,by omega,rfl,by rw[HC1.out],B1.out⟩
  case round =>
   obtain ⟨k,hk1,hk,rfl,rfl,hb⟩:=hrel
   have HB1:Hid (Below w.heap.size w wr):=hb
   by_cases hlt:k<n
   ·have q2:(k:Int)<(n:Int):=by omega
    have q3:(1:Int)≤(k:Int):=by omega
    have e1:=HC.out wr hb k hlt
    have e0:=HC.out wr hb (k - 1) (by omega)
    have hdk:=HO.out.dif k (by rw[HN.out];exact hlt)
    have hpk:=HO.out.2.2 k (by rw[HN.out];exact hlt)
    have hpj:=HO.out.2.2 (k - 1) (by rw[HN.out];omega)
    have ed:dif l k=l.getD k 0 - l.getD (k - 1) 0:=by unfold dif prv;rw[if_neg (by omega)]
    have hT:=HO.out.turn k (by rw[HN.out];exact hlt)
    have cv:=fun wx=>spec_var (turn l k).toNat wx (by omega)
    rw[Int.toNat_of_nonneg hT.1] at cv
    have ecat:cat (tPiece l) (k+1)=cat (tPiece l) k++vF 6 (turn l k).toNat:=cat_succ _ _
    have hl1:=cat_length (tPiece l) (tPiece_length l) k
    have hl2:=vF_length 6 (turn l k).toNat
    have HCT:Hid (txt (cat (tPiece l) (k+1))=txt (cat (tPiece l) k)++txt (vF 6 (turn l k).toNat)):=by unfold Hid;rw[ecat,txt_cat]
    have hs1:=txt_size (cat (tPiece l) k)
    have hs2:=txt_size (vF 6 (turn l k).toNat)
    generalize txt (cat (tPiece l) k)=sa at *
    generalize txt (vF 6 (turn l k).toNat)=sb at *
    have hsum:sa.size+sb.size≤9223372036854775807:=by omega
    have e3:((k:Int) - 1).toNat=k - 1:=by omega
    have ew:wrap64 (l.getD k 0 - l.getD (k - 1) 0)=l.getD k 0 - l.getD (k - 1) 0:=by unfold wrap64;omega
    clear ecat hl1 hl2 hs1 hs2
    by_cases hk1:k=1
    ·have et:turn l k=dif l k:=by unfold turn;rw[if_pos (by omega)]
     rw[et,ed] at cv
     clear et hT ed hdk hpk hpj
     subst hk1
     have e0':wr.cell? ⟨g,off,none⟩=some (.int .i64 (l.getD (1 - 1) 0)):=e0
     clear e0 e3
     generalize l.getD 1 0=x at *
     generalize l.getD (1 - 1) 0=y at *
     go_wp2_with fail
     go_quiet (fail)
     go_wp2_with fail
     refine (cv _).mono ?_
     rintro e w2 ⟨rfl,hb2⟩
     have HB2:Hid (Below w.heap.size w w2):=(HB1.out.trans (((Like.refl wr).drewN _).below.mono HB1.out.size)).trans (hb2.mono HB1.out.size)
     clear hb2
     go_wp2_with fail
     go_roundw
     case rel=>exact ⟨2,by omega,by omega,by go_num,by rw[HCT.out],HB2.out⟩
     case measure=>simp[intOf];omega
    ·have et:turn l k=zig (dif l k - dif l (k - 1)):=by unfold turn;rw[if_neg (by omega)]
     have ed2:dif l (k - 1)=l.getD (k - 1) 0 - l.getD (k - 2) 0:=by unfold dif prv;rw[if_neg (by omega),Nat.sub_sub]
     have hdj:=HO.out.dif (k - 1) (by rw[HN.out];omega)
     have cz:=fun wx=>spec_zig (dif l k - dif l (k - 1)) wx (by omega) (by omega)
     rw[← et] at cz
     rw[ed,ed2] at cz
     have f0:=HC.out wr hb (k - 2) (by omega)
     have hpi:=HO.out.2.2 (k - 2) (by rw[HN.out];omega)
     have e4:((k:Int) - 2).toNat=k - 2:=by omega
     have q5:¬ (k:Int)=1:=by omega
     have q6:(2:Int)≤(k:Int):=by omega
     have q7:decide ((k:Int)=1)=false:=decide_eq_false q5
     have q8:((k:Int) == 1)=false:=by simp;omega
     have ew2:wrap64 (l.getD (k - 1) 0 - l.getD (k - 2) 0)=l.getD (k - 1) 0 - l.getD (k - 2) 0:=by unfold wrap64;omega
     have ew3:wrap64 (l.getD k 0 - l.getD (k - 1) 0 - (l.getD (k - 1) 0 - l.getD (k - 2) 0))=l.getD k 0 - l.getD (k - 1) 0 - (l.getD (k - 1) 0 - l.getD (k - 2) 0):=by unfold wrap64;omega
     have HCY0:∀ wx,Below w.heap.size w wx→wx.cell? ⟨g,off+(k - 1),none⟩=some (.int .i64 (l.getD (k - 1) 0))∧wx.cell? ⟨g,off+(k - 2),none⟩=some (.int .i64 (l.getD (k - 2) 0)):=fun wx hx=>⟨HC.out wx hx (k - 1) (by omega),HC.out wx hx (k - 2) (by omega)⟩
     generalize turn l k=tt at *
     clear ed ed2 et hdk hdj
     generalize l.getD k 0=x at *
     generalize l.getD (k - 1) 0=y at *
     generalize l.getD (k - 2) 0=z at *
     go_wp2_with fail
     go_quiet (fail)
     go_wp2_with fail
     have g1:IntKind.i64.wrap ((k:Int) - 1)=(k:Int) - 1:=by rw[IntKind.wrap_i64];omega
     have g2:IntKind.i64.wrap ((k:Int) - 2)=(k:Int) - 2:=by rw[IntKind.wrap_i64];omega
     have g3:(0:Int)≤(k:Int) - 1:=by omega
     have g4:(k:Int) - 1<(n:Int):=by omega
     have g5:(0:Int)≤(k:Int) - 2:=by omega
     have g6:(k:Int) - 2<(n:Int):=by omega
     have g7:IntKind.i64.wrap (y - z)=y - z:=by rw[IntKind.wrap_i64];omega
     have g8:IntKind.i64.wrap (x - y - (y - z))=x - y - (y - z):=by rw[IntKind.wrap_i64];omega
     have g9:sa.size+sb.size≤maxLen:=by unfold maxLen;omega
     have g10:¬ maxLen<sa.size+sb.size:=by unfold maxLen;omega
     have S0:Hid (wr.cell? ⟨g,off+(k - 1),none⟩=some (.int .i64 y)∧wr.cell? ⟨g,off+(k - 2),none⟩=some (.int .i64 z)):=⟨e0,f0⟩
     have HCY:Hid (∀ wx,Below w.heap.size w wx→wx.cell? ⟨g,off+(k - 1),none⟩=some (.int .i64 y)∧wx.cell? ⟨g,off+(k - 2),none⟩=some (.int .i64 z)):=HCY0
     refine wp_region_until (fun w'=>w'.cell? ⟨g,off+(k - 1),none⟩=some (.int .i64 y)∧w'.cell? ⟨g,off+(k - 2),none⟩=some (.int .i64 z)) (fun i=>false) 18 (by rfl) (by kernel_rfl) ?_
     refine tKf 0 S0.out ?_
     refine tKf 1 S0.out ?_
     refine tKf 2 S0.out ?_
     refine tKf 3 S0.out ?_
     refine tKf 4 S0.out ?_
     refine tKf 5 S0.out ?_
     refine tKf 6 S0.out ?_
     refine tKf 7 S0.out ?_
     refine tKf 8 S0.out ?_
     refine tKf 9 S0.out ?_
     refine tKf 10 S0.out ?_
     refine tKf 11 S0.out ?_
     refine tKf 12 S0.out ?_
     refine tKf 13 S0.out ?_
     refine uNe 14 (fun K hK=>?_)
     go_simp
     refine (cz _).mono ?_
     rintro e w2 ⟨rfl,rfl⟩
     go_wp2_with fail
     refine hK.out _ _ (fun _ _=>S0.out) ?_
     clear hK K
     try simp only[Act.put,zQ1,zQ2,zQ3]
     refine uNe 15 (fun K hK=>?_)
     go_simp
     refine (cv _).mono ?_
     rintro e w2 ⟨rfl,hb2⟩
     have HB2:Hid (Below w.heap.size w w2):=((HB1.out.trans (((Like.refl wr).drewN _).below.mono HB1.out.size)).drew).trans (hb2.mono HB1.out.size)
     clear hb2
     go_wp2_with fail
     refine hK.out _ _ (fun _ _=>HCY.out w2 HB2.out) ?_
     clear hK K
     try simp only[Act.put,zQ1,zQ2,zQ3]
     refine uNe 16 (fun K hK=>?_)
     go_simp
     go_wp2_with fail
     refine hK.out _ _ (fun _ h=>h) ?_
     clear hK K
     try simp only[Act.put,zQ1,zQ2,zQ3]
     refine pUf 17 ?_
     refine until_done (by kernel_rfl) ?_ _
     go_wp2_with fail
     exact ⟨⟨k+1,by omega,by omega,by go_num,by rw[HCT.out],HB2.out⟩,by simp[intOf];omega⟩
   ·obtain rfl:k=n:=by omega
    clear hb
    go_wp2_with fail
    go_ret
    exact ⟨by rw[HE.out];rfl,HB1.out⟩
 ·obtain ⟨A,cap,rfl,_,_,_⟩:=hv
  have HE:Hid (showT l=txt []):=by unfold Hid showT;rw[if_neg ho]
  rw[decide_eq_false ho] at c
  clear ho
  go_enter Tryz.func131,Tryz.ntmps131
  go_wp2_with fail
  refine c.mono ?_
  rintro e w0 ⟨rfl,hL0⟩
  have B0:Hid (Below w.heap.size w w0):=hL0.below
  clear hL0
  go_wp2_with fail
  go_ret
  exact ⟨by rw[HE.out];rfl,B0.out⟩
end Go.Proofs.YtedmdilabbolaaaGreatDoor
