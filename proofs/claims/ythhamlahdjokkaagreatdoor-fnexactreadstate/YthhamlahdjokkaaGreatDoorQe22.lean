/- LawReadState -/
import Derived.Test.YthhamlahdjokkaaGreatDoorQe21
namespace Go.Proofs.YthhamlahdjokkaaGreatDoor
open Go.ChangeShapes Go.WideShapes Go.ChangeAt Go.RowKit Go.PlainAid
set_option linter.unusedVariables false
theorem wtT_leR (l:List ByteArray) (h:∀ s ∈ l,s.size≤5004):wtT l≤l.length * 5004:=by
 induction l with
 | nil=>simp [wtT]
 | cons x l ih =>
  have h1:=ih fun s hs=>h s (List.mem_cons_of_mem _ hs)
  have h2:=h x (List.mem_cons_self ..)
  simp only [wtT,List.map_cons,List.sum_cons,List.length_cons] at *
  omega
theorem wtS_leR (l:List Ser) (h:∀ x ∈ l,x.pts.length≤60∧x.key.size≤8):wtS l≤l.length * 68:=by
 induction l with
 | nil=>simp [wtS]
 | cons x l ih =>
  have h1:=ih fun s hs=>h s (List.mem_cons_of_mem _ hs)
  have h2:=h x (List.mem_cons_self ..)
  simp only [wtS,wtS1,List.map_cons,List.sum_cons,List.length_cons] at *
  omega
theorem StAn.few {s:ByteArray} {x:Sta} {b:Bool} (h:StAn s x b) {L:List (Ser × Value)} (hL:L.map Prod.fst=x.eng.cache):FewS x L:=by
 rcases h with ⟨h1,_⟩ | ⟨_,rfl,_⟩
 ·obtain ⟨_,_,_,a1,_,_,a2,a3,a4,a5,_⟩:=staOk_in h1.2
  obtain ⟨b1,_,b2⟩:=(SOk_iff _).1 a3
  have hl:L.length=x.eng.cache.length:=by rw [← hL,List.length_map]
  have e1:=wtS_leR x.eng.cache fun y hy=>⟨(b2 y hy).2.2.1,(b2 y hy).1.2.1⟩
  have e2:=wtT_leR x.eng.files fun y hy=>isF_size (a4 y hy)
  refine ⟨a1,by omega,fun q hq=>?_,a2,a5,?_⟩
  ·exact (b2 q.1 (by rw [← hL]; exact List.mem_map.2 ⟨q,hq,rfl⟩)).2.2.1
  ·unfold wtE
   omega
 ·obtain rfl:L=[]:=by
   cases L with
   | nil=>rfl
   | cons a l=>cases hL
  refine ⟨by decide,by decide,(fun q hq=>by cases hq),by decide,by decide,by decide⟩
theorem StAn.short {s:ByteArray} {x:Sta} {b:Bool} (h:StAn s x b) (hs:s.size≤1048576):StShort x:=by
 rcases h with ⟨h1,_⟩ | ⟨_,rfl,_⟩
 ·obtain ⟨⟨c,h1,h2⟩,_⟩:=h1
  exact h1.shortQ (h2.elim (fun q=>.inl q) (fun q=>.inr ⟨q.1,.inl q.2⟩)) hs
 ·refine ⟨by decide,⟨⟨by decide,(fun y hy=>by cases hy)⟩,(fun y hy=>by cases hy),by decide,(fun y hy=>by cases hy)⟩,by decide,(fun y hy=>by cases hy)⟩
theorem StaO.all {w:World} {base:Nat} {x:Sta} {vb vc vf vs:Value} (h:StaO w base (.agg #[.int .i64 x.kind,.int .i64 x.hold,.int .i64 x.mark,vb,.int .i64 x.eng.floor,vc,vf,vs]) x):∃ L,Owns w base 58 2 vb (ptR x.bks)∧L.map Prod.fst=x.eng.cache∧SerO w base vc L∧Strs w base vf x.eng.files∧Owns w base 53 6 vs (sesR x.ses):=by
 obtain ⟨vb',vc',vf',vs',L,e,h1,⟨h2,h3,h4⟩,h5⟩:=h
 unfold vSt at e
 cases e
 exact ⟨L,h1,h2,h3,h4,h5⟩
set_option maxRecDepth 20000 in
set_option maxHeartbeats 8000000 in
theorem law_fnExactReadState (s:ByteArray) (w:World) (hs:s.size≤maxLen) (hst:SumTab w) (a0 a1 a2:Addr) (he:Errs w a0 a1 a2):Calls Tryz.prog 5 #[.string s] w fun e w'=>e=.returned (.bool true)∧Below w.heap.size w w':=by
 have ST:=hQz hst
 have ER:=hQz he
 have q0:(s.size:Int)≤9223372036854775807:=by unfold maxLen at hs; omega
 clear hst he hs
 by_cases hbig:(1048576:Int) < (s.size:Int)
 ·go_enter Tryz.func5,Tryz.ntmps5
  go_wp2_with fail
  go_ret
  exact ⟨rfl,Below.refl _ _⟩
 have HS:Hid (s.size≤1048576):=by unfold Hid; omega
 have q1:(s.size:Int)≤1048576:=by omega
 clear hbig
 go_enter Tryz.func5,Tryz.ntmps5
 go_wp2_with fail
 refine (specReadState s w HS.out).mono ?_
 rintro e X1 ⟨hA,hb⟩
 have B1:=hQz hb
 obtain ⟨x,u1,ok,hN,rfl,hO⟩:=hA.form
 have HN:=Hid.mk hN
 have HSh:=Hid.mk (hN.short HS.out)
 obtain ⟨Ab1,nb1,cb1,Ac1,nc1,cc1,Af1,nf1,cf1,As1,ns1,cs1,rfl⟩:=hO.shape
 have HV:Hid (∀ vb vc vf vs,vSt x vb vc vf vs=.agg #[.int .i64 x.kind,.int .i64 x.hold,.int .i64 x.mark,vb,.int .i64 x.eng.floor,vc,vf,vs]):=fun _ _ _ _=>rfl
 rw [HV.out] at hO ⊢
 have HAL:Hid (∀ (wx:World) (base:Nat) (vb vc vf vs:Value),StaO wx base (.agg #[.int .i64 x.kind,.int .i64 x.hold,.int .i64 x.mark,vb,.int .i64 x.eng.floor,vc,vf,vs]) x → ∃ L,Owns wx base 58 2 vb (ptR x.bks)∧L.map Prod.fst=x.eng.cache∧SerO wx base vc L∧Strs wx base vf x.eng.files∧Owns wx base 53 6 vs (sesR x.ses)):=fun _ _ _ _ _ _ h=>h.all
 have cM:=fun vb vc vf vs L base w a b c d e f g=>markState x vb vc vf vs L base w a b c d e f g
 have cH:=fun vb vc vf vs L base w a b=>heldState x vb vc vf vs L base w a b
 have HQ:Hid (∀ L,L.map Prod.fst=x.eng.cache → FewS x L):=fun L hL=>HN.out.few hL
 have cI:∀ wx,Below w.heap.size w wx → Calls Tryz.prog 14 #[.string s] wx fun e w'=>(∃ vb vc vf vs,e=.returned (.tuple #[.agg #[.int .i64 x.kind,.int .i64 x.hold,.int .i64 x.mark,vb,.int .i64 x.eng.floor,vc,vf,vs],.bool ok])∧StaO w' wx.heap.size (.agg #[.int .i64 x.kind,.int .i64 x.hold,.int .i64 x.mark,vb,.int .i64 x.eng.floor,vc,vf,vs]) x)∧Below wx.heap.size wx w':=fun wx hx=>by
  refine (implReadState s wx HS.out (ST.out.on hx) a0 a1 a2 (ER.out.on hx)).mono ?_
  rintro e w' ⟨hA',hb'⟩
  obtain ⟨y,u,c,hN',rfl,hO'⟩:=hA'.form
  obtain ⟨e1,e2⟩:=hN'.one HN.out
  rw [e1] at hO'
  rw [e2]
  obtain ⟨Ab,nb,cb,Ac,nc,cc,Af,nf,cf,As,ns,cs,rfl⟩:=hO'.shape
  exact ⟨⟨_,_,_,_,rfl,hO'⟩,hb'⟩
 have cE:=fun (wx:World) (b1 b2:Nat) (u v:Value) (h1:StaO wx b1 u x) (h2:StaO wx b2 v x)=>eqState x u v b1 b2 wx h1 h2 HSh.out
 generalize x.kind=sk at *
 generalize x.hold=sh at *
 generalize x.mark=sm at *
 generalize x.eng.floor=sf at *
 clear hA hN HV hb HSh HN
 have hok:(ok != ok)=false:=by cases ok <;> rfl
 obtain ⟨X2,hX2⟩:∃ X2,X2=X1.alloc (.cells #[.int .i64 sk,.int .i64 sh,.int .i64 sm,.slice Ab1 nb1 cb1,.int .i64 sf,.slice Ac1 nc1 cc1,.slice Af1 nf1 cf1,.slice As1 ns1 cs1] 38):=⟨_,rfl⟩
 have BX:Below X1.heap.size X1 X2:=by rw [hX2]; exact (Below.refl _ _).alloc (Nat.le_refl _) _
 have B2:=hQz (B1.out.trans (BX.mono B1.out.size))
 have W2:=hQz (hO.on BX)
 have KW:Hid (Blk X2 X1.heap.size #[.int .i64 sk,.int .i64 sh,.int .i64 sm,.slice Ab1 nb1 cb1,.int .i64 sf,.slice Ac1 nc1 cc1,.slice Af1 nf1 cf1,.slice As1 ns1 cs1] 38):=by unfold Hid; rw [hX2]; exact Blk.new X1 _ _
 clear hO BX B1
 go_wp2_with fail
 rw [← hX2]
 clear hX2
 refine (cI _ B2.out).mono ?_
 rintro e X3 ⟨⟨vb2,vc2,vf2,vs2,rfl,hO⟩,hb⟩
 have C3:=hQz hb
 obtain ⟨L,hB,hL,hC,hF,hS⟩:=HAL.out _ _ _ _ _ _ hO
 have HL:=Hid.mk (HQ.out L hL)
 obtain ⟨Ab2,nb2,cb2,rfl⟩:=hB.shape
 obtain ⟨Ac2,nc2,cc2,rfl⟩:=hC.1.shape
 obtain ⟨Af2,nf2,cf2,rfl⟩:=(strs_owns hF).shape
 obtain ⟨As2,ns2,cs2,rfl⟩:=hS.shape
 obtain ⟨X4,hX4⟩:∃ X4,X4=X3.alloc (.cells #[.int .i64 sk,.int .i64 sh,.int .i64 sm,.slice Ab2 nb2 cb2,.int .i64 sf,.slice Ac2 nc2 cc2,.slice Af2 nf2 cf2,.slice As2 ns2 cs2] 38):=⟨_,rfl⟩
 have BX:Below X3.heap.size X3 X4:=by rw [hX4]; exact (Below.refl _ _).alloc (Nat.le_refl _) _
 have C4:=hQz (C3.out.trans (BX.mono C3.out.size))
 have G4:=hQz (hO.on BX)
 have P4:=Hid.mk (show _∧_∧_∧_∧_ from ⟨hB.on BX,hL,hC.on BX,hF.on BX,hS.on BX⟩)
 have KG:Hid (Blk X4 X3.heap.size #[.int .i64 sk,.int .i64 sh,.int .i64 sm,.slice Ab2 nb2 cb2,.int .i64 sf,.slice Ac2 nc2 cc2,.slice Af2 nf2 cf2,.slice As2 ns2 cs2] 38):=by unfold Hid; rw [hX4]; exact Blk.new X3 _ _
 have KW4:=Hid.mk (KW.out.on C4.out KW.out.lt)
 clear hO BX hb hB hL hC hF hS HQ HAL
 generalize X1.heap.size=GW at *
 have g0:=KG.out.cell 0 _ rfl
 have g1:=KG.out.cell 1 _ rfl
 have g2:=KG.out.cell 2 _ rfl
 have g3:=KG.out.cell 3 _ rfl
 have g4:=KG.out.cell 4 _ rfl
 have g5:=KG.out.cell 5 _ rfl
 have g6:=KG.out.cell 6 _ rfl
 have g7:=KG.out.cell 7 _ rfl
 have h0:=KW4.out.cell 0 _ rfl
 have h1:=KW4.out.cell 1 _ rfl
 have h2:=KW4.out.cell 2 _ rfl
 have h3:=KW4.out.cell 3 _ rfl
 have h4:=KW4.out.cell 4 _ rfl
 have h5:=KW4.out.cell 5 _ rfl
 have h6:=KW4.out.cell 6 _ rfl
 have h7:=KW4.out.cell 7 _ rfl
 rw [hX4] at g0 g1 g2 g3 g4 g5 g6 g7 h0 h1 h2 h3 h4 h5 h6 h7
 go_wp2_with fail
 rw [← hX4]
 clear hX4 g0 g1 g2 g3 g4 g5 g6 g7 h0 h1 h2 h3 h4 h5 h6 h7
 generalize X3.heap.size=G at *
 refine (cE _ _ _ _ _ G4.out (W2.out.on C4.out)).mono ?_
 rintro e X5 ⟨rfl,hb⟩
 have C5:=hQz (C4.out.trans (hb.mono C4.out.size))
 have P5:=Hid.mk (show _∧_∧_∧_∧_ from ⟨P4.out.1.on hb,P4.out.2.1,P4.out.2.2.1.on hb,P4.out.2.2.2.1.on hb,P4.out.2.2.2.2.on hb⟩)
 have K5:=Hid.mk (KG.out.on hb KG.out.lt)
 clear hb P4 G4 KG KW4
 have g0:=K5.out.cell 0 _ rfl
 have g1:=K5.out.cell 1 _ rfl
 have g2:=K5.out.cell 2 _ rfl
 have g3:=K5.out.cell 3 _ rfl
 have g4:=K5.out.cell 4 _ rfl
 have g5:=K5.out.cell 5 _ rfl
 have g6:=K5.out.cell 6 _ rfl
 have g7:=K5.out.cell 7 _ rfl
 have qk:=HL.out.k.2.2
 have HKE:Hid (∀ wx vb vc vf vs,StMk wx X2.heap.size x vb vc vf vs L → FewS x L):=fun _ _ _ _ _ _=>HL.out
 have cM2:=cM (.slice Ab2 nb2 cb2) (.slice Ac2 nc2 cc2) (.slice Af2 nf2 cf2) (.slice As2 ns2 cs2) L X2.heap.size X5 P5.out.1 P5.out.2.1 P5.out.2.2.1 P5.out.2.2.2.1 P5.out.2.2.2.2 HL.out C5.out.size
 have cH2:=fun wx h=>cH (.slice Ab2 nb2 cb2) (.slice Ac2 nc2 cc2) (.slice Af2 nf2 cf2) (.slice As2 ns2 cs2) L X2.heap.size wx h HL.out
 clear cM cH HKE
 generalize kEn x L=kk at *
 have dk:decide ((kk:Int) < 0)=false:=decide_eq_false (by omega)
 go_wp2_with fail
 refine cM2.mono ?_
 rintro e X6 ⟨rfl,hM,hb,hk⟩
 have C6:=hQz (C5.out.trans hb)
 have M6:=Hid.mk hM
 have K6:Hid (Blk X6 G #[.int .i64 sk,.int .i64 sh,.int .i64 sm,.slice Ab2 nb2 cb2,.int .i64 sf,.slice Ac2 nc2 cc2,.slice Af2 nf2 cf2,.slice As2 ns2 cs2] 38):=(hk _ K5.out.lt ⟨P5.out.1.notBlk K5.out (by decide),⟨P5.out.2.2.1.1.notBlk K5.out (by decide),fun j hj=>(P5.out.2.2.1.2.1 _ (getD_mem L j hj)).notBlk K5.out (by decide),(strs_owns P5.out.2.2.2.1).notBlk K5.out (by decide)⟩,P5.out.2.2.2.2.notBlk K5.out (by decide)⟩).trans K5.out
 clear hM hb hk cM2 P5 K5 g0 g1 g2 g3 g4 g5 g6 g7
 have g0:=K6.out.cell 0 _ rfl
 have g1:=K6.out.cell 1 _ rfl
 have g2:=K6.out.cell 2 _ rfl
 have g3:=K6.out.cell 3 _ rfl
 have g4:=K6.out.cell 4 _ rfl
 have g5:=K6.out.cell 5 _ rfl
 have g6:=K6.out.cell 6 _ rfl
 have g7:=K6.out.cell 7 _ rfl
 go_wp2_with fail
 refine (cH2 _ M6.out).mono ?_
 rintro e X7 ⟨rfl,hb⟩
 have C7:=hQz (C6.out.trans (hb.mono C6.out.size))
 have M7:=Hid.mk (M6.out.on hb)
 have K7:=Hid.mk (K6.out.on hb K6.out.lt)
 clear hb M6 K6 g0 g1 g2 g3 g4 g5 g6 g7
 go_wp2_with fail
 refine (cI _ (B2.out.trans (C7.out.mono B2.out.size))).mono ?_
 rintro e X8 ⟨⟨vb3,vc3,vf3,vs3,rfl,hO⟩,hb⟩
 have C8:=hQz (C7.out.trans (hb.mono C7.out.size))
 have M8:=Hid.mk (M7.out.on hb)
 have K8:=Hid.mk (K7.out.on hb K7.out.lt)
 obtain ⟨Ab3,nb3,cb3,Ac3,nc3,cc3,Af3,nf3,cf3,As3,ns3,cs3,e3⟩:=hO.shape
 unfold vSt at e3
 simp only [Value.agg.injEq,Array.mk.injEq,List.cons.injEq,and_true] at e3
 obtain ⟨_,_,_,rfl,_,rfl,rfl,rfl⟩:=e3
 obtain ⟨X9,hX9⟩:∃ X9,X9=X8.alloc (.cells #[.int .i64 sk,.int .i64 sh,.int .i64 sm,.slice Ab3 nb3 cb3,.int .i64 sf,.slice Ac3 nc3 cc3,.slice Af3 nf3 cf3,.slice As3 ns3 cs3] 38):=⟨_,rfl⟩
 have BX:Below X8.heap.size X8 X9:=by rw [hX9]; exact (Below.refl _ _).alloc (Nat.le_refl _) _
 have C9:=hQz (C8.out.trans (BX.mono C8.out.size))
 have M9:=Hid.mk (M8.out.on BX)
 have K9:=Hid.mk (K8.out.on BX K8.out.lt)
 have O9:=Hid.mk (hO.on BX)
 have KH:Hid (Blk X9 X8.heap.size #[.int .i64 sk,.int .i64 sh,.int .i64 sm,.slice Ab3 nb3 cb3,.int .i64 sf,.slice Ac3 nc3 cc3,.slice Af3 nf3 cf3,.slice As3 ns3 cs3] 38):=by unfold Hid; rw [hX9]; exact Blk.new X8 _ _
 have KW9:=Hid.mk (KW.out.on C9.out KW.out.lt)
 clear hO BX hb M7 M8 K7 K8
 have g0:=KH.out.cell 0 _ rfl
 have g1:=KH.out.cell 1 _ rfl
 have g2:=KH.out.cell 2 _ rfl
 have g3:=KH.out.cell 3 _ rfl
 have g4:=KH.out.cell 4 _ rfl
 have g5:=KH.out.cell 5 _ rfl
 have g6:=KH.out.cell 6 _ rfl
 have g7:=KH.out.cell 7 _ rfl
 have h0:=KW9.out.cell 0 _ rfl
 have h1:=KW9.out.cell 1 _ rfl
 have h2:=KW9.out.cell 2 _ rfl
 have h3:=KW9.out.cell 3 _ rfl
 have h4:=KW9.out.cell 4 _ rfl
 have h5:=KW9.out.cell 5 _ rfl
 have h6:=KW9.out.cell 6 _ rfl
 have h7:=KW9.out.cell 7 _ rfl
 rw [hX9] at g0 g1 g2 g3 g4 g5 g6 g7 h0 h1 h2 h3 h4 h5 h6 h7
 go_wp2_with fail
 rw [← hX9]
 clear hX9 g0 g1 g2 g3 g4 g5 g6 g7 h0 h1 h2 h3 h4 h5 h6 h7
 refine (cE _ _ _ _ _ O9.out (W2.out.on C9.out)).mono ?_
 rintro e X10 ⟨rfl,hb⟩
 have C10:=hQz (C9.out.trans (hb.mono C9.out.size))
 have M10:=Hid.mk (M9.out.on hb)
 have K10:=Hid.mk (K9.out.on hb K9.out.lt)
 clear hb M9 K9 O9 KH KW9
 have g0:=K10.out.cell 0 _ rfl
 have g1:=K10.out.cell 1 _ rfl
 have g2:=K10.out.cell 2 _ rfl
 have g3:=K10.out.cell 3 _ rfl
 have g4:=K10.out.cell 4 _ rfl
 have g5:=K10.out.cell 5 _ rfl
 have g6:=K10.out.cell 6 _ rfl
 have g7:=K10.out.cell 7 _ rfl
 go_wp2_with fail
 refine (cH2 _ M10.out).mono ?_
 rintro e X11 ⟨rfl,hb⟩
 have BF:=hQz (B2.out.trans ((C10.out.trans (hb.mono C10.out.size)).mono B2.out.size))
 clear hb
 go_wp2_with fail
 go_ret
 exact ⟨rfl,BF.out⟩
end Go.Proofs.YthhamlahdjokkaaGreatDoor
