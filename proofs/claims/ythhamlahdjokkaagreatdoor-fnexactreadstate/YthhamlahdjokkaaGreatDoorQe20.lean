/- IgCs IgCo IgTs IgRp StLaw2 IgMk IgPc -/
import Derived.Test.YthhamlahdjokkaaGreatDoorQe19
import Derived.Test.YthhamlahdjokkaaGreatDoorQe15
open List (setIfInBounds_toArray set_cons_zero set_cons_succ)
namespace Go.Proofs.YthhamlahdjokkaaGreatDoor
open Go.ChangeShapes Go.WideShapes Go.ChangeAt Go.RowKit Go.PlainAid
set_option linter.unusedVariables false
theorem ses_one (l:List Ses):∀ r ∈ sesR l,∀ y ∈ r,y.oneCell'=true:=by
 intro r hr y hy
 unfold sesR at hr
 obtain ⟨x,_,rfl⟩:=List.mem_map.1 hr
 unfold sesC at hy
 simp only [List.mem_cons,List.not_mem_nil,or_false] at hy
 rcases hy with rfl | rfl | rfl | rfl | rfl | rfl <;> rfl
set_option maxRecDepth 100000 in
set_option maxHeartbeats 1000000 in
theorem cloneBks (l:List Pnt) (v:Value) (w:World) (B:Nat) (hv:Lies w B 2 v (ptR l)) (hl:l.length≤1048576) (hn:l=[] → v=.slice none 0 0) :
  Calls Tryz.prog 137 #[v] w fun e w'=>(∃ u,e=.returned u∧Owns w' w.heap.size 58 2 u (ptR l))∧Below w.heap.size w w':=by
 by_cases h0:l=[]
 ·obtain rfl:=hn h0
  subst h0
  clear hv hl hn
  refine (AnyE.slices_Clone_nil Tryz.cloneBk 0 0 w).mono ?_
  intro e w' h
  first
   | (obtain ⟨rfl,rfl⟩:=h; exact ⟨⟨_,rfl,Owns.nil _ _ _ _⟩,Below.refl _ _⟩)
   | (obtain ⟨rfl,hb⟩:=h; exact ⟨⟨_,rfl,Owns.nil _ _ _ _⟩,hb⟩)
 have h1:1≤l.length:=by
  cases l with
  | nil=>exact absurd rfl h0
  | cons a b=>simp
 obtain ⟨i0,hi,hz0,hz1,hz2⟩:=info_parts Tryz.infoBk
 obtain ⟨A,cap,rfl,hz,hms,hm⟩:=hv
 rcases hm with h0 | ⟨g,off,rfl,hg,hc⟩
 ·rw [ptR_length] at h0
  omega
 ·refine (AnyE.slices_Clone Tryz.cloneBk i0 _ 2 16 hi hz0 hz1 hz2 rfl (by omega) Tryz.sizeOf58 g off (ptR l).length cap (ptR l).flatten w (flat_length 2 _ hms) (by rw [ptR_length]; unfold maxLen; omega) (by rw [ptR_length]; omega) hc ?_).mono ?_
  ·intro y hy
   obtain ⟨r,hr,hyr⟩:=List.mem_flatten.1 hy
   exact pt_one l r hr y hyr
  ·rintro e w' ⟨u,rfl,hO,_,hb⟩
   exact ⟨⟨u,rfl,hms,hO⟩,hb⟩
set_option maxRecDepth 100000 in
set_option maxHeartbeats 1000000 in
theorem cloneSes (l:List Ses) (v:Value) (w:World) (B:Nat) (hv:Lies w B 6 v (sesR l)) (hl:l.length≤1048576) (hn:l=[] → v=.slice none 0 0) :
  Calls Tryz.prog 139 #[v] w fun e w'=>(∃ u,e=.returned u∧Owns w' w.heap.size 53 6 u (sesR l))∧Below w.heap.size w w':=by
 by_cases h0:l=[]
 ·obtain rfl:=hn h0
  subst h0
  clear hv hl hn
  refine (AnyE.slices_Clone_nil Tryz.cloneSe 0 0 w).mono ?_
  intro e w' h
  first
   | (obtain ⟨rfl,rfl⟩:=h; exact ⟨⟨_,rfl,Owns.nil _ _ _ _⟩,Below.refl _ _⟩)
   | (obtain ⟨rfl,hb⟩:=h; exact ⟨⟨_,rfl,Owns.nil _ _ _ _⟩,hb⟩)
 have h1:1≤l.length:=by
  cases l with
  | nil=>exact absurd rfl h0
  | cons a b=>simp
 obtain ⟨i0,hi,hz0,hz1,hz2⟩:=info_parts Tryz.infoSes
 obtain ⟨A,cap,rfl,hz,hms,hm⟩:=hv
 rcases hm with h0 | ⟨g,off,rfl,hg,hc⟩
 ·rw [sesR_length] at h0
  omega
 ·refine (AnyE.slices_Clone Tryz.cloneSe i0 _ 6 56 hi hz0 hz1 hz2 rfl (by omega) Tryz.sizeOf53 g off (sesR l).length cap (sesR l).flatten w (flat_length 6 _ hms) (by rw [sesR_length]; unfold maxLen; omega) (by rw [sesR_length]; omega) hc ?_).mono ?_
  ·intro y hy
   obtain ⟨r,hr,hyr⟩:=List.mem_flatten.1 hy
   exact ses_one l r hr y hyr
  ·rintro e w' ⟨u,rfl,hO,_,hb⟩
   exact ⟨⟨u,rfl,hms,hO⟩,hb⟩
theorem setCell_id (w:World) (g i:Nat) (v:Value) (h:w.cell? ⟨g,i,none⟩=some v):w.setCell ⟨g,i,none⟩ v=w:=by
 have hh:(w.setCell ⟨g,i,none⟩ v).heap=w.heap:=by
  apply Array.ext_getElem?
  intro j
  by_cases e:j=g
  ·subst e
   simp only [World.cell?] at h
   simp only [World.setCell,Array.getElem?_modify]
   cases hj:w.heap[j]? with
   | none=>simp
   | some o =>
    rw [hj] at h
    cases o with
    | cells c t f =>
     simp only [Option.isSome_none,Bool.false_eq_true,if_false] at h
     obtain ⟨hl,hv⟩:=Array.getElem?_eq_some_iff.1 h
     have:c.setIfInBounds i v=c:=by
      apply Array.ext_getElem?
      intro k
      rw [Array.getElem?_setIfInBounds]
      by_cases e:i=k
      ·subst e
       simp [hl,hv]
      ·simp [e]
     simp [this]
    | _=>first | (cases h; done) | simp_all
  ·exact Below.heap_setCell _ _ _ _ e
 cases w
 simp only [World.setCell] at hh ⊢
 rw [hh]
theorem SerO.low {X:World} {bs g j:Nat} {v u:Value} {L:List (Ser × Value)} (h:SerO X bs u L) (hl:g < bs):SerO (X.setCell ⟨g,j,none⟩ v) bs u L:=h.kept fun b q hu hg ho=>other_heap X g j v b (by have:=h.from b q hu ho; omega)
theorem Owns.low {X:World} {bs g j sz:Nat} {e:TypeId} {v u:Value} {r:List (List Value)} (h:Owns X bs e sz u r) (hl:g < bs):Owns (X.setCell ⟨g,j,none⟩ v) bs e sz u r:=h.other (h.below hl) j v
theorem ses_own {X:World} {bs n d:Nat} {A:Option Addr} {ses:List Ses} (h:Owns X bs 53 6 (.slice A n d) (sesR ses)) (hn:ses.length=n) {i:Nat} (hi:i < n):∃ g,A=some ⟨g,0,none⟩∧bs≤g∧g < X.heap.size∧(∀ k,X.frozen? ⟨g,k,none⟩=false)∧X.cell? ⟨g,i * 6+2,none⟩=some (.int .i64 (ses.getD i default).code)∧X.cell? ⟨g,i * 6+3,none⟩=some (.int .i64 (ses.getD i default).index)∧X.cell? ⟨g,i * 6+4,none⟩=some (.int .i64 (ses.getD i default).mark)∧X.cell? ⟨g,i * 6+5,none⟩=some (.string (ses.getD i default).data):=by
 obtain ⟨A',cap,e,hl⟩:=ses_look h.lies
 cases e
 obtain ⟨g,off,rfl,hg,_,_,c2,c3,c4,c5⟩:=hl i (by omega)
 have hlen:(sesR ses).length=ses.length:=sesR_length ses
 have h0:off=0:=by
  rcases h.2.2 with ⟨e,h0⟩ | ⟨g',c,cur,e,_⟩
  ·cases e
  ·simp only [Value.slice.injEq,Option.some.injEq,Addr.mk.injEq] at e
   exact e.1.2.1
 subst h0
 have hO0:Owns X bs 53 6 (.slice (some ⟨g,0,none⟩) ses.length d) ((sesR ses).set i ((sesR ses)[i]'(by omega))):=by rw [set_self]; exact h
 simp only [Nat.zero_add] at c2 c3 c4 c5
 exact ⟨g,rfl,(h.lt g rfl).1,(h.lt g rfl).2,fun k=>hO0.free2 hlen k,c2,c3,c4,c5⟩
set_option maxRecDepth 20000 in
set_option maxHeartbeats 8000000 in
theorem copyStateV (x:Sta) (vb vc vf vs:Value) (w:World) (B:Nat) (hv:StaV w B (vSt x vb vc vf vs) x) (ho:staOk x=true) (hs:StShort x) (hB:B≤w.heap.size) (hnb:x.bks=[] → vb=.slice none 0 0) (hns:x.ses=[] → vs=.slice none 0 0):Calls Tryz.prog 93 #[vSt x vb vc vf vs] w fun e w'=>(∃ u,e=.returned u∧StaO w' w.heap.size u x)∧Below w.heap.size w w':=by
 obtain ⟨h1,h2,h3⟩:=hv.parts
 obtain ⟨Ab,nb,cb,Ac,nc,cc,Af,nf,cf,As,ns,cs,e⟩:=hv.shape
 unfold vSt at e
 simp only [Value.agg.injEq,Array.mk.injEq,List.cons.injEq,true_and,and_true] at e
 obtain ⟨rfl,rfl,rfl,rfl⟩:=e
 have hok:∀ y ∈ x.eng.cache,1≤y.pts.length∧y.key.size≤1000:=fun y hy=>by
  obtain ⟨_,_,b2⟩:=(SOk_iff _).1 (staOk_in ho).2.2.2.2.2.2.2.1
  obtain ⟨k1,k2,_⟩:=b2 y hy
  refine ⟨?_,by have:=k1.2.1; omega⟩
  cases hp:y.pts with
  | nil=>exact absurd hp k2
  | cons a l=>simp
 have c1:=fun wx (hx:Below w.heap.size w wx)=>cloneBks x.bks (.slice Ab nb cb) wx B (h1.on (hx.mono hB)) hs.1 hnb
 have c2:=fun wx (hx:Below w.heap.size w wx)=>implCopy x.eng (.agg #[.int .i64 x.eng.floor,.slice Ac nc cc,.slice Af nf cf]) wx B (h2.on (hx.mono hB)) hs.2.1 hok (Nat.le_trans hB hx.size)
 have c3:=fun wx (hx:Below w.heap.size w wx)=>cloneSes x.ses (.slice As ns cs) wx B (h3.on (hx.mono hB)) hs.2.2.1 hns
 have HSd:Hid (∀ s ∈ x.ses,s.data.size≤1048576):=hs.2.2.2
 have HN:Hid (x.ses.length≤1048576):=hs.2.2.1
 have HFin:Hid (∀ (X:World) (b:Nat) vb vc vf vs L,Owns X b 58 2 vb (ptR x.bks) → L.map Prod.fst=x.eng.cache → SerO X b vc L → Strs X b vf x.eng.files → Owns X b 53 6 vs (sesR x.ses) → StaO X b (.agg #[.int .i64 x.kind,.int .i64 x.hold,.int .i64 x.mark,vb,.int .i64 x.eng.floor,vc,vf,vs]) x):=fun X b vb vc vf vs L a1 a2 a3 a4 a5=>⟨vb,vc,vf,vs,L,rfl,a1,⟨a2,a3,a4⟩,a5⟩
 unfold EngO vE at c2
 clear h1 h2 h3 hv ho hs hnb hns hok hB
 unfold vSt
 have D0:Hid (Below w.heap.size w ((w.alloc (.cells #[.int .i64 x.kind,.int .i64 x.hold,.int .i64 x.mark,.slice Ab nb cb,.int .i64 x.eng.floor,.slice Ac nc cc,.slice Af nf cf,.slice As ns cs] 38)).alloc (.cells #[.int .i64 0,.int .i64 0,.int .i64 0,.slice none 0 0,.int .i64 0,.slice none 0 0,.slice none 0 0,.slice none 0 0] 38))):=((Below.refl _ _).alloc (Nat.le_refl _) _).alloc (by simp) _
 have K0:=Hid.mk ((Blk.new w #[.int .i64 x.kind,.int .i64 x.hold,.int .i64 x.mark,.slice Ab nb cb,.int .i64 x.eng.floor,.slice Ac nc cc,.slice Af nf cf,.slice As ns cs] 38).alloc (.cells #[.int .i64 0,.int .i64 0,.int .i64 0,.slice none 0 0,.int .i64 0,.slice none 0 0,.slice none 0 0,.slice none 0 0] 38))
 have R0:Hid (Blk ((w.alloc (.cells #[.int .i64 x.kind,.int .i64 x.hold,.int .i64 x.mark,.slice Ab nb cb,.int .i64 x.eng.floor,.slice Ac nc cc,.slice Af nf cf,.slice As ns cs] 38)).alloc (.cells #[.int .i64 0,.int .i64 0,.int .i64 0,.slice none 0 0,.int .i64 0,.slice none 0 0,.slice none 0 0,.slice none 0 0] 38)) (w.heap.size+1) #[.int .i64 0,.int .i64 0,.int .i64 0,.slice none 0 0,.int .i64 0,.slice none 0 0,.slice none 0 0,.slice none 0 0] 38):=by
  have h:=Blk.new (w.alloc (.cells #[.int .i64 x.kind,.int .i64 x.hold,.int .i64 x.mark,.slice Ab nb cb,.int .i64 x.eng.floor,.slice Ac nc cc,.slice Af nf cf,.slice As ns cs] 38)) #[.int .i64 0,.int .i64 0,.int .i64 0,.slice none 0 0,.int .i64 0,.slice none 0 0,.slice none 0 0,.slice none 0 0] 38
  rw [World.size_alloc] at h
  exact h
 generalize x.kind=sk at *
 generalize x.hold=sh at *
 generalize x.mark=sm at *
 generalize x.eng.floor=sf at *
 generalize x.eng.files=fs at *
 generalize x.eng.cache=ca at *
 generalize x.bks=bks at *
 generalize x.ses=ses at *
 obtain ⟨X0,hX0⟩:∃ X0,X0=(w.alloc (.cells #[.int .i64 sk,.int .i64 sh,.int .i64 sm,.slice Ab nb cb,.int .i64 sf,.slice Ac nc cc,.slice Af nf cf,.slice As ns cs] 38)).alloc (.cells #[.int .i64 0,.int .i64 0,.int .i64 0,.slice none 0 0,.int .i64 0,.slice none 0 0,.slice none 0 0,.slice none 0 0] 38):=⟨_,rfl⟩
 rw [← hX0] at D0 K0 R0
 obtain ⟨bs,hbs⟩:∃ bs,bs=X0.heap.size:=⟨_,rfl⟩
 have HBS:Hid (w.heap.size+1 < bs):=by rw [hbs]; exact R0.out.lt
 go_enter Tryz.func93,Tryz.ntmps93
 go_wp2_with fail
 rw [← hX0]
 clear hX0
 refine (c1 X0 D0.out).mono ?_
 rintro e X1 ⟨⟨u1,rfl,hO⟩,hb⟩
 obtain ⟨A1,n1,d1,rfl⟩:=hO.shape
 rw [← hbs] at hO
 have D1:Hid (Below w.heap.size w (X1.setCell ⟨w.heap.size,3,none⟩ (.slice A1 n1 d1))):=(D0.out.trans (hb.mono D0.out.size)).setCell (Nat.le_refl _) _
 have BZ:Hid (bs≤(X1.setCell ⟨w.heap.size,3,none⟩ (.slice A1 n1 d1)).heap.size):=by
  have:=hb.size
  unfold Hid
  rw [World.size_setCell]
  omega
 have K1:=Hid.mk (K0.out.on hb K0.out.lt)
 have R1:=Hid.mk ((R0.out.on hb R0.out.lt).other (show w.heap.size+1 ≠ w.heap.size by omega) 3 (.slice A1 n1 d1))
 have B1:=Hid.mk (hO.low (j:=3) (v:=.slice A1 n1 d1) (show w.heap.size < bs by have:=HBS.out; omega))
 clear hO hb K0 R0 D0 c1 hbs
 have k3:=K1.out.cell 3 _ rfl
 have k4:=K1.out.cell 4 _ rfl
 have k5:=K1.out.cell 5 _ rfl
 have k6:=K1.out.cell 6 _ rfl
 have f3:=K1.out.free 3
 go_wp2_with fail
 have KY:=Hid.mk (K1.out.set 3 (.slice A1 n1 d1))
 generalize X1.setCell ⟨w.heap.size,3,none⟩ (.slice A1 n1 d1)=Y1 at *
 clear K1 k3 k4 k5 k6 f3
 refine (c2 _ D1.out).mono ?_
 rintro e X2 ⟨⟨u2,rfl,vc2,vf2,L,rfl,hL,hS,hT⟩,hb⟩
 obtain ⟨A2,n2,d2,rfl⟩:=hS.1.shape
 obtain ⟨A4,n4,d4,rfl⟩:=(strs_owns hT).shape
 have HL:=Hid.mk hL
 have hlt:w.heap.size < bs:=by have:=HBS.out; omega
 have D2:Hid (Below w.heap.size w (((X2.setCell ⟨w.heap.size,4,none⟩ (.int .i64 sf)).setCell ⟨w.heap.size,5,none⟩ (.slice A2 n2 d2)).setCell ⟨w.heap.size,6,none⟩ (.slice A4 n4 d4))):=(((D1.out.trans (hb.mono D1.out.size)).setCell (Nat.le_refl _) _).setCell (Nat.le_refl _) _).setCell (Nat.le_refl _) _
 have BZ2:Hid (bs≤(((X2.setCell ⟨w.heap.size,4,none⟩ (.int .i64 sf)).setCell ⟨w.heap.size,5,none⟩ (.slice A2 n2 d2)).setCell ⟨w.heap.size,6,none⟩ (.slice A4 n4 d4)).heap.size):=by
  have:=hb.size
  have:=BZ.out
  unfold Hid
  rw [World.size_setCell,World.size_setCell,World.size_setCell]
  omega
 have K2:=Hid.mk (KY.out.on hb KY.out.lt)
 have R2:=Hid.mk ((((R1.out.on hb R1.out.lt).other (show w.heap.size+1 ≠ w.heap.size by omega) 4 (.int .i64 sf)).other (show w.heap.size+1 ≠ w.heap.size by omega) 5 (.slice A2 n2 d2)).other (show w.heap.size+1 ≠ w.heap.size by omega) 6 (.slice A4 n4 d4))
 have B2:=Hid.mk ((((B1.out.on hb).low (j:=4) (v:=.int .i64 sf) hlt).low (j:=5) (v:=.slice A2 n2 d2) hlt).low (j:=6) (v:=.slice A4 n4 d4) hlt)
 have S2:=Hid.mk ((((hS.mono BZ.out).low (j:=4) (v:=.int .i64 sf) hlt).low (j:=5) (v:=.slice A2 n2 d2) hlt).low (j:=6) (v:=.slice A4 n4 d4) hlt)
 have T2:=Hid.mk (((((strs_owns hT).mono BZ.out).low (j:=4) (v:=.int .i64 sf) hlt).low (j:=5) (v:=.slice A2 n2 d2) hlt).low (j:=6) (v:=.slice A4 n4 d4) hlt)
 clear hL hS hT hb KY R1 B1 D1 BZ c2 hlt
 have k4:=K2.out.cell 4 _ rfl
 have k5:=K2.out.cell 5 _ rfl
 have k6:=K2.out.cell 6 _ rfl
 have k7:=K2.out.cell 7 _ rfl
 have f4:=K2.out.free 4
 have f5:=(K2.out.set 4 (.int .i64 sf)).free 5
 have f6:=((K2.out.set 4 (.int .i64 sf)).set 5 (.slice A2 n2 d2)).free 6
 go_wp2_with fail
 have KY:Hid (Blk (((X2.setCell ⟨w.heap.size,4,none⟩ (.int .i64 sf)).setCell ⟨w.heap.size,5,none⟩ (.slice A2 n2 d2)).setCell ⟨w.heap.size,6,none⟩ (.slice A4 n4 d4)) w.heap.size #[.int .i64 sk,.int .i64 sh,.int .i64 sm,.slice A1 n1 d1,.int .i64 sf,.slice A2 n2 d2,.slice A4 n4 d4,.slice As ns cs] 38):=((K2.out.set 4 (.int .i64 sf)).set 5 (.slice A2 n2 d2)).set 6 (.slice A4 n4 d4)
 generalize ((X2.setCell ⟨w.heap.size,4,none⟩ (.int .i64 sf)).setCell ⟨w.heap.size,5,none⟩ (.slice A2 n2 d2)).setCell ⟨w.heap.size,6,none⟩ (.slice A4 n4 d4)=Y2 at *
 clear K2 k4 k5 k6 k7 f4 f5 f6
 refine (c3 _ D2.out).mono ?_
 rintro e X3 ⟨⟨u3,rfl,hO⟩,hb⟩
 obtain ⟨A3,d3,rfl,_⟩:=ses_look hO.lies
 generalize hn:ses.length=n at *
 have hlt:w.heap.size < bs:=by have:=HBS.out; omega
 have D3:Hid (Below w.heap.size w (X3.setCell ⟨w.heap.size,7,none⟩ (.slice A3 n d3))):=(D2.out.trans (hb.mono D2.out.size)).setCell (Nat.le_refl _) _
 have K3:=Hid.mk (KY.out.on hb KY.out.lt)
 have R3:=Hid.mk ((R2.out.on hb R2.out.lt).other (show w.heap.size+1 ≠ w.heap.size by omega) 7 (.slice A3 n d3))
 have I3:Hid (IgS (X3.setCell ⟨w.heap.size,7,none⟩ (.slice A3 n d3)) bs w.heap.size sk sh sm sf (.slice A1 n1 d1) (.slice A2 n2 d2) (.slice A4 n4 d4) (.slice A3 n d3) bks L fs ses):=⟨K3.out.set 7 (.slice A3 n d3),hlt,(B2.out.on hb).low hlt,(S2.out.on hb).low hlt,(T2.out.on hb).low hlt,(hO.mono BZ2.out).low hlt⟩
 clear hO hb KY R2 B2 S2 T2 D2 BZ2 c3
 have k7:=K3.out.cell 7 _ rfl
 have f7:=K3.out.free 7
 have q1:(n:Int)≤1048576:=by have:=HN.out; omega
 go_wp2_with fail
 generalize X3.setCell ⟨w.heap.size,7,none⟩ (.slice A3 n d3)=Y3 at *
 clear K3 k7 f7
 go_loopw [19] (fun v19 wr=>∃ i:Nat,i≤n∧v19=.int .i64 (i:Int)∧IgS wr bs w.heap.size sk sh sm sf (.slice A1 n1 d1) (.slice A2 n2 d2) (.slice A4 n4 d4) (.slice A3 n d3) bks L fs ses∧Blk wr (w.heap.size+1) #[.int .i64 0,.int .i64 0,.int .i64 0,.slice none 0 0,.int .i64 0,.slice none 0 0,.slice none 0 0,.slice none 0 0] 38∧Below w.heap.size w wr) (fun v _=>n - (intOf v).toNat)
 case atStart=>exact ⟨0,Nat.zero_le _,rfl,I3.out,R3.out,D3.out⟩
 case round =>
  obtain ⟨i,hi,rfl,hI,hR,hD⟩:=hrel
  have I:=Hid.mk hI
  have R:=Hid.mk hR
  have D:=Hid.mk hD
  clear hI hR hD I3 R3 D3
  by_cases hlt2:i < n
  ·have q4:(i:Int) < (n:Int):=by omega
   obtain ⟨g,rfl,hg1,hg2,hfr,e2,e3,e4,e5⟩:=ses_own I.out.os hn hlt2
   have hsd:(ses.getD i default).data.size≤1048576:=HSd.out _ (getD_mem _ i (by omega))
   have cA:=fun wx=>copyAns ⟨(ses.getD i default).code,(ses.getD i default).index,(ses.getD i default).mark,(ses.getD i default).data⟩ wx hsd
   unfold vAns at cA
   simp only at cA
   generalize (ses.getD i default).code=sc at *
   generalize (ses.getD i default).index=si at *
   generalize (ses.getD i default).mark=sa at *
   generalize (ses.getD i default).data=sd at *
   have e7:=I.out.box.cell 7 _ rfl
   have HS0:Hid (∀ wx,Below wr.heap.size wr wx → wx.cell? ⟨w.heap.size,7,none⟩=some (.slice (some ⟨g,0,none⟩) n d3)∧wx.cell? ⟨g,i * 6+2,none⟩=some (.int .i64 sc)∧wx.cell? ⟨g,i * 6+3,none⟩=some (.int .i64 si)∧wx.cell? ⟨g,i * 6+4,none⟩=some (.int .i64 sa)∧wx.cell? ⟨g,i * 6+5,none⟩=some (.string sd)):=fun wx hx=>⟨(hx.cell (p:=⟨w.heap.size,7,none⟩) I.out.box.lt).trans e7,(hx.cell (p:=⟨g,i * 6+2,none⟩) hg2).trans e2,(hx.cell (p:=⟨g,i * 6+3,none⟩) hg2).trans e3,(hx.cell (p:=⟨g,i * 6+4,none⟩) hg2).trans e4,(hx.cell (p:=⟨g,i * 6+5,none⟩) hg2).trans e5⟩
   have HFR:Hid (∀ wx,Below wr.heap.size wr wx → ∀ k,wx.frozen? ⟨g,k,none⟩=false):=fun wx hx k=>(hx.frozen (p:=⟨g,k,none⟩) hg2).trans (hfr k)
   have HG:Hid (g < wr.heap.size):=hg2
   clear hsd hg1 hg2 hfr
   go_wp2_with fail
   clear e2 e3 e4 e5 e7
   refine wp_region_until (fun w'=>w'.cell? ⟨w.heap.size,7,none⟩=some (.slice (some ⟨g,0,none⟩) n d3)∧w'.cell? ⟨g,i * 6+2,none⟩=some (.int .i64 sc)∧w'.cell? ⟨g,i * 6+3,none⟩=some (.int .i64 si)∧w'.cell? ⟨g,i * 6+4,none⟩=some (.int .i64 sa)∧w'.cell? ⟨g,i * 6+5,none⟩=some (.string sd)) (fun i=>i == 12) 13 (by rfl) (by kernel_rfl) ?_
   have V0:Hid (Below wr.heap.size wr wr.drew):=(Below.refl _ _).drew
   generalize wr.drew=Y0 at *
   have S0:=Hid.mk (HS0.out _ V0.out)
   refine tF 0 S0.out ?_
   refine tF 1 S0.out ?_
   refine tF 2 S0.out ?_
   refine tF 3 S0.out ?_
   refine tF 4 S0.out ?_
   refine tF 5 S0.out ?_
   refine tF 6 S0.out ?_
   refine tF 7 S0.out ?_
   refine tF 8 S0.out ?_
   refine uNe 9 (fun K hK=>?_)
   go_simp
   refine (cA Y0).mono ?_
   rintro b Y4 ⟨rfl,hb⟩
   have V1:=hQz (V0.out.trans (hb.mono V0.out.size))
   have S1:=Hid.mk (HS0.out _ V1.out)
   clear hb S0 cA
   refine hK.out _ _ (fun _ _=>S1.out) ?_
   clear hK K
   try simp only [Act.put,zQ1,zQ2,zQ3]
   refine tF 10 S1.out ?_
   refine tF 11 S1.out ?_
   refine uNe 12 (fun K hK=>?_)
   have s2:=S1.out.2.1
   have s3:=S1.out.2.2.1
   have s4:=S1.out.2.2.2.1
   have s5:=S1.out.2.2.2.2
   have t2:=HFR.out _ V1.out (i * 6+2)
   have t3:=HFR.out _ V1.out (i * 6+3)
   have t4:=HFR.out _ V1.out (i * 6+4)
   have t5:=HFR.out _ V1.out (i * 6+5)
   have E2:=setCell_id _ _ _ _ s2
   have E3:=setCell_id _ _ _ _ s3
   have E4:=setCell_id _ _ _ _ s4
   have E5:=setCell_id _ _ _ _ s5
   go_simp
   refine hK.out _ _ (fun h=>by cases h) ?_
   clear hK K s2 s3 s4 s5 t2 t3 t4 t5
   try simp only [Act.put,zQ1,zQ2,zQ3]
   try rw [E2]
   try rw [E3]
   try rw [E4]
   try rw [E5]
   clear E2 E3 E4 E5
   refine until_done (by kernel_rfl) ?_ _
   have I1:=Hid.mk (I.out.on V1.out)
   have R1:=Hid.mk (R.out.on V1.out R.out.lt)
   have D1:=hQz (D.out.trans (V1.out.mono D.out.size))
   clear I R D V1 V0 S1 HS0 HFR
   try go_wp2_with fail
   go_roundw
   case rel=>exact ⟨i+1,by omega,by go_num,I1.out,R1.out,D1.out⟩
   case measure=>simp [intOf]; omega
  ·obtain rfl:i=n:=by omega
   have b0:=I.out.box.cell 0 _ rfl
   have b1:=I.out.box.cell 1 _ rfl
   have b2:=I.out.box.cell 2 _ rfl
   have b3:=I.out.box.cell 3 _ rfl
   have b4:=I.out.box.cell 4 _ rfl
   have b5:=I.out.box.cell 5 _ rfl
   have b6:=I.out.box.cell 6 _ rfl
   have b7:=I.out.box.cell 7 _ rfl
   have OE0:=HFin.out _ _ _ _ _ _ L I.out.ob HL.out I.out.oc (owns_strs I.out.of) I.out.os
   obtain ⟨⟨r0,f0⟩,⟨r1,f1⟩,⟨r2,f2⟩,⟨r3,f3⟩,⟨r4,f4⟩,⟨r5,f5⟩,⟨r6,f6⟩,⟨r7,f7⟩,y0,y1,y2,y3,y4,y5,y6,y7⟩:=resC8 (x0:=.int .i64 sk) (x1:=.int .i64 sh) (x2:=.int .i64 sm) (x3:=.slice A1 n1 d1) (x4:=.int .i64 sf) (x5:=.slice A2 n2 d2) (x6:=.slice A4 n4 d4) (x7:=.slice A3 i d3) R.out
   have OE:=Hid.mk ((OE0.put8 (show w.heap.size+1 < bs from HBS.out) (.int .i64 sk) (.int .i64 sh) (.int .i64 sm) (.slice A1 n1 d1) (.int .i64 sf) (.slice A2 n2 d2) (.slice A4 n4 d4) (.slice A3 i d3)).mono (show w.heap.size≤bs by have:=HBS.out; omega))
   have DE:=Hid.mk (belowC8 D.out (show w.heap.size≤w.heap.size+1 by omega) (.int .i64 sk) (.int .i64 sh) (.int .i64 sm) (.slice A1 n1 d1) (.int .i64 sf) (.slice A2 n2 d2) (.slice A4 n4 d4) (.slice A3 i d3))
   clear OE0 I R D
   go_wp2_with fail
   exact bodyPost_ret (v:=.agg #[.int .i64 sk,.int .i64 sh,.int .i64 sm,.slice A1 n1 d1,.int .i64 sf,.slice A2 n2 d2,.slice A4 n4 d4,.slice A3 i d3]) (by simp [results,go_sem,y0,y1,y2,y3,y4,y5,y6,y7]) rfl ⟨⟨_,rfl,OE.out⟩,DE.out⟩
theorem looked {b2 b3 b5 b6 b9:Nat} {X:World} (h:X.heap[b9]?=some (.map (byKind b2 b3 b5 b6) 6)) :
  (Instr.lookup 142 (.map (some b9)) (.int .i64 0) false).run Tryz.prog X=.ok (.func (.func 128) #[] #[.pointer (some ⟨b2,0,none⟩),.pointer (some ⟨b3,0,none⟩)]) X∧(Instr.lookup 142 (.map (some b9)) (.int .i64 1) false).run Tryz.prog X=.ok (.func (.func 130) #[] #[.pointer (some ⟨b6,0,none⟩),.pointer (some ⟨b3,0,none⟩),.pointer (some ⟨b2,0,none⟩)]) X∧(Instr.lookup 142 (.map (some b9)) (.int .i64 2) false).run Tryz.prog X=.ok (.func (.func 131) #[] #[.pointer (some ⟨b2,0,none⟩),.pointer (some ⟨b3,0,none⟩)]) X∧(Instr.lookup 142 (.map (some b9)) (.int .i64 3) false).run Tryz.prog X=.ok (.func (.func 132) #[] #[.pointer (some ⟨b5,0,none⟩),.pointer (some ⟨b3,0,none⟩)]) X∧(Instr.lookup 142 (.map (some b9)) (.int .i64 4) false).run Tryz.prog X=.ok (.func (.func 134) #[] #[.pointer (some ⟨b6,0,none⟩),.pointer (some ⟨b3,0,none⟩),.pointer (some ⟨b5,0,none⟩)]) X∧(Instr.lookup 142 (.map (some b9)) (.int .i64 5) false).run Tryz.prog X=.ok (.func (.func 135) #[] #[.pointer (some ⟨b6,0,none⟩),.pointer (some ⟨b3,0,none⟩),.pointer (some ⟨b2,0,none⟩),.pointer (some ⟨b5,0,none⟩)]) X:=by
 refine ⟨?_,?_,?_,?_,?_,?_⟩
 ·have hf:Instr.findNow (.int .i64) (.int .i64 0) (byKind b2 b3 b5 b6).toList 0=some (some (0,(.func (.func 128) #[] #[.pointer (some ⟨b2,0,none⟩),.pointer (some ⟨b3,0,none⟩)]))):=by rfl
  simp [Instr.lookup,run_underlying Tryz.underlying142,MapKept.run_getObj_map h,key_fine,MapKept.run_findKey Tryz.underlying3 hf,Result.andThen]
 ·have hf:Instr.findNow (.int .i64) (.int .i64 1) (byKind b2 b3 b5 b6).toList 0=some (some (1,(.func (.func 130) #[] #[.pointer (some ⟨b6,0,none⟩),.pointer (some ⟨b3,0,none⟩),.pointer (some ⟨b2,0,none⟩)]))):=by rfl
  simp [Instr.lookup,run_underlying Tryz.underlying142,MapKept.run_getObj_map h,key_fine,MapKept.run_findKey Tryz.underlying3 hf,Result.andThen]
 ·have hf:Instr.findNow (.int .i64) (.int .i64 2) (byKind b2 b3 b5 b6).toList 0=some (some (2,(.func (.func 131) #[] #[.pointer (some ⟨b2,0,none⟩),.pointer (some ⟨b3,0,none⟩)]))):=by rfl
  simp [Instr.lookup,run_underlying Tryz.underlying142,MapKept.run_getObj_map h,key_fine,MapKept.run_findKey Tryz.underlying3 hf,Result.andThen]
 ·have hf:Instr.findNow (.int .i64) (.int .i64 3) (byKind b2 b3 b5 b6).toList 0=some (some (3,(.func (.func 132) #[] #[.pointer (some ⟨b5,0,none⟩),.pointer (some ⟨b3,0,none⟩)]))):=by rfl
  simp [Instr.lookup,run_underlying Tryz.underlying142,MapKept.run_getObj_map h,key_fine,MapKept.run_findKey Tryz.underlying3 hf,Result.andThen]
 ·have hf:Instr.findNow (.int .i64) (.int .i64 4) (byKind b2 b3 b5 b6).toList 0=some (some (4,(.func (.func 134) #[] #[.pointer (some ⟨b6,0,none⟩),.pointer (some ⟨b3,0,none⟩),.pointer (some ⟨b5,0,none⟩)]))):=by rfl
  simp [Instr.lookup,run_underlying Tryz.underlying142,MapKept.run_getObj_map h,key_fine,MapKept.run_findKey Tryz.underlying3 hf,Result.andThen]
 ·have hf:Instr.findNow (.int .i64) (.int .i64 5) (byKind b2 b3 b5 b6).toList 0=some (some (5,(.func (.func 135) #[] #[.pointer (some ⟨b6,0,none⟩),.pointer (some ⟨b3,0,none⟩),.pointer (some ⟨b2,0,none⟩),.pointer (some ⟨b5,0,none⟩)]))):=by rfl
  simp [Instr.lookup,run_underlying Tryz.underlying142,MapKept.run_getObj_map h,key_fine,MapKept.run_findKey Tryz.underlying3 hf,Result.andThen]
theorem NoP.rd {s:ByteArray} (h:NoP s):∀ x,¬ StaRd s x:=fun x hx=>by obtain ⟨⟨c,h1,_⟩,_⟩:=hx; exact h _ _ h1
theorem noHead {s:ByteArray} (h:∀ l n,¬ RdF s 1 2 l n):NoP s:=ref1no fun a b nb n1 h3 _=>by
 obtain ⟨l',n,z,g1,_⟩:=h3.last
 exact h _ _ g1
theorem noBks {s:ByteArray} {a b:Int} {n0:Nat} (h:RdF s 1 2 [a,b] n0) (hn:∀ z n1:Nat,RdF s n0 1 [(z:Int)] n1 → z≤12 → ∀ l n2,¬ RdL (BkRd s) n1 z l n2):NoP s:=by
 intro x c hx
 obtain ⟨m1,h1,h2,n2,h3,_⟩:=hx.qb
 obtain ⟨l',n,z,g1,g2,e⟩:=h1.last
 obtain ⟨rfl,rfl⟩:=g1.one h
 simp only [List.cons_append,List.nil_append,List.cons.injEq,and_true] at e
 rw [← e.2.2] at g2
 exact hn _ _ g2 h2 _ _ h3
theorem noCache {s:ByteArray} {a b f:Int} {nb n1 n2 n3:Nat} {bks:List Pnt} (h1:RdF s 1 3 [a,b,(nb:Int)] n1) (h2:RdL (BkRd s) n1 nb bks n2) (h3:RdF s n2 1 [f] n3) (hn:∀ c n' l,PcRd s n3 c n' → ¬ CaRd c l):∀ x,¬ StaRd s x:=by
 rintro x ⟨⟨c,hx,hc⟩,_⟩
 obtain ⟨m1,m2,m3,m4,m5,m6,m7,g1,g2,g3,g4,g5,g6,_⟩:=hx
 obtain ⟨e,rfl⟩:=g1.one h1
 simp only [List.cons.injEq,and_true] at e
 have el:x.bks.length=nb:=by omega
 rw [el] at g4
 obtain ⟨_,rfl⟩:=g4.one (BkRd.onep s) h2
 obtain ⟨_,rfl⟩:=g5.one h3
 exact hn _ _ _ g6 hc
theorem noFiles {s:ByteArray} {n4:Nat} (hn:∀ z n1:Nat,RdF s n4 1 [(z:Int)] n1 → z≤4 → ∀ l n2,¬ RdL (PcRd s) n1 z l n2):∀ fs ses,¬ Q5 s n4 fs ses:=by
 rintro fs ses ⟨n5,h1,h2,n6,h3,_⟩
 exact hn _ _ h1 h2 _ _ h3
theorem noSes {s:ByteArray} {n6:Nat} (hn:∀ z n1:Nat,RdF s n6 1 [(z:Int)] n1 → z≤4 → ∀ l n2,¬ RdL (SeRd s) n1 z l n2):∀ ses,¬ Q7 s n6 ses:=by
 rintro ses ⟨n7,h1,h2,h3⟩
 exact hn _ _ h1 h2 _ _ h3
theorem PKeep.c {gr gx:Nat} {w X Y:World} (h:PKeep gr w X) (hc:CKeep gr gx X Y) (hl:w.heap.size≤gx):PKeep gr w Y:=⟨h.1.trans hc.1,fun b hb hg=>(hc.2 b hb (Nat.lt_of_lt_of_le hg hl)).trans (h.2 b hb hg)⟩
set_option maxRecDepth 20000 in
set_option maxHeartbeats 8000000 in
theorem takeState (gr:Nat) (s:ByteArray) (w:World) (hp:Prt w gr s) (hs:s.size≤1048576) (w0:World) (hst:SumTab w0) (a0 a1 a2:Addr) (her:Errs w0 a0 a1 a2) (hb0:Below w0.heap.size w0 w) (hg0:w0.heap.size≤gr) :
  Calls Tryz.prog 48 #[.pointer (some ⟨gr,0,none⟩)] w fun e w'=>((∃ x u,StaRd s x∧e=.returned u∧StaO w' w.heap.size u x) ∨ ((∀ x,¬ StaRd s x)∧e=.panicked lackP))∧PKeep gr w w':=by
 have HS:Hid (s.size≤1048576):=hs
 have ST:=hQz hst
 have ER:=hQz her
 have HG0:Hid (w0.heap.size≤gr):=hg0
 have HGR:=hQz (hp.lt)
 have D0:Hid (PKeep gr w ((w.alloc (.cells #[.int .i64 0,.int .i64 0,.int .i64 0,.slice none 0 0,.int .i64 0,.slice none 0 0,.slice none 0 0,.slice none 0 0] 38)).alloc (.cells #[.int .i64 0,.int .i64 0,.int .i64 0,.slice none 0 0,.int .i64 0,.slice none 0 0,.slice none 0 0,.slice none 0 0] 38))):=((PKeep.refl gr w).alloc hp.lt _).alloc hp.lt _
 have R0:=Hid.mk ((Blk.new w #[.int .i64 0,.int .i64 0,.int .i64 0,.slice none 0 0,.int .i64 0,.slice none 0 0,.slice none 0 0,.slice none 0 0] 38).alloc (.cells #[.int .i64 0,.int .i64 0,.int .i64 0,.slice none 0 0,.int .i64 0,.slice none 0 0,.slice none 0 0,.slice none 0 0] 38))
 have I0:Hid (IgS ((w.alloc (.cells #[.int .i64 0,.int .i64 0,.int .i64 0,.slice none 0 0,.int .i64 0,.slice none 0 0,.slice none 0 0,.slice none 0 0] 38)).alloc (.cells #[.int .i64 0,.int .i64 0,.int .i64 0,.slice none 0 0,.int .i64 0,.slice none 0 0,.slice none 0 0,.slice none 0 0] 38)) (w.heap.size+2) (w.heap.size+1) 0 0 0 0 (.slice none 0 0) (.slice none 0 0) (.slice none 0 0) (.slice none 0 0) [] [] [] []):=by
  have h:=Blk.new (w.alloc (.cells #[.int .i64 0,.int .i64 0,.int .i64 0,.slice none 0 0,.int .i64 0,.slice none 0 0,.slice none 0 0,.slice none 0 0] 38)) #[.int .i64 0,.int .i64 0,.int .i64 0,.slice none 0 0,.int .i64 0,.slice none 0 0,.slice none 0 0,.slice none 0 0] 38
  rw [World.size_alloc] at h
  exact IgS.new _ _ _ h (by omega)
 have P0:Hid (Prt ((w.alloc (.cells #[.int .i64 0,.int .i64 0,.int .i64 0,.slice none 0 0,.int .i64 0,.slice none 0 0,.slice none 0 0,.slice none 0 0] 38)).alloc (.cells #[.int .i64 0,.int .i64 0,.int .i64 0,.slice none 0 0,.int .i64 0,.slice none 0 0,.slice none 0 0,.slice none 0 0] 38)) gr s):=(hp.alloc _).alloc _
 have B0:Hid (Below w0.heap.size w0 ((w.alloc (.cells #[.int .i64 0,.int .i64 0,.int .i64 0,.slice none 0 0,.int .i64 0,.slice none 0 0,.slice none 0 0,.slice none 0 0] 38)).alloc (.cells #[.int .i64 0,.int .i64 0,.int .i64 0,.slice none 0 0,.int .i64 0,.slice none 0 0,.slice none 0 0,.slice none 0 0] 38))):=(hb0.alloc hb0.size _).alloc (by rw [World.size_alloc]; have:=hb0.size; omega) _
 clear hs hst her hg0 hb0 hp
 go_enter Tryz.func48,Tryz.ntmps48
 go_wp2_with fail
 generalize (w.alloc (.cells #[.int .i64 0,.int .i64 0,.int .i64 0,.slice none 0 0,.int .i64 0,.slice none 0 0,.slice none 0 0,.slice none 0 0] 38)).alloc (.cells #[.int .i64 0,.int .i64 0,.int .i64 0,.slice none 0 0,.int .i64 0,.slice none 0 0,.slice none 0 0,.slice none 0 0] 38)=X0 at *
 refine (takers gr (w.heap.size+1) X0 (by have:=HGR.out; omega) I0.out.box.lt).mono ?_
 rintro e X1 ⟨b2,b3,b5,b6,b9,rfl,he,hb⟩
 have E1:=Hid.mk he
 have I1:=Hid.mk (I0.out.on hb)
 have R1:=Hid.mk (R0.out.on hb R0.out.lt)
 have P1:=Hid.mk (P0.out.on hb)
 have D1:=Hid.mk (D0.out.below HGR.out hb)
 have B1:=hQz (B0.out.trans (hb.mono B0.out.size))
 have HXG:Hid (gr < (w.heap.size+1)):=by have:=HGR.out; unfold Hid; omega
 clear he hb I0 R0 P0 D0 B0
 obtain ⟨l0,l1,l2,l3,l4,l5⟩:=looked E1.out.cm
 go_wp2_with fail
 refine wp_loop_rounds 7 ?_
 rw [rounds_succ]
 go_wp2_with fail
 refine (takeHead s _ _ _ _ _ _ _ _ X1 HS.out P1.out I1.out E1.out).mono ?_
 rintro e X2 ⟨hR,hc⟩
 have D2:=Hid.mk (D1.out.c hc (Nat.le_succ _))
 have R2:Hid (Blk X2 w.heap.size #[.int .i64 0,.int .i64 0,.int .i64 0,.slice none 0 0,.int .i64 0,.slice none 0 0,.slice none 0 0,.slice none 0 0] 38):=(hc.2 _ (by have:=HGR.out; omega) (Nat.lt_succ_self _)).trans R1.out
 have B2:Hid (Below w0.heap.size w0 X2):=B1.out.trans (hc.1.mono HG0.out)
 clear hc D1 R1 B1 I1 P1 E1 l0 l1 l2 l3 l4 l5
 rcases hR with ⟨h,m,n0,h1,hj,rfl,hp,hi,he⟩ | ⟨hno,rfl⟩
 rotate_left
 ·have HN:Hid (∀ x,¬ StaRd s x):=(noHead hno).rd
  clear hno
  go_wp2_with fail
  exact ⟨rfl,.inr ⟨HN.out,rfl⟩,D2.out⟩
 have P2:=Hid.mk hp
 have I2:=Hid.mk hi
 have E2:=Hid.mk he
 clear hp hi he
 have HJ:=Hid.mk hj
 have H1S:Hid (1≤s.size):=h1
 clear hj h1
 obtain ⟨l0,l1,l2,l3,l4,l5⟩:=looked E2.out.cm
 go_wp2_with fail
 rw [rounds_succ]
 go_wp2_with fail
 refine (takeBuckets s _ _ _ _ _ _ _ _ _ _ _ _ _ _ _ _ _ _ _ X2 HS.out P2.out I2.out E2.out (by have:=I2.out.box.lt; omega)).mono ?_
 rintro e X3 ⟨hR,hc⟩
 have D3:=Hid.mk (D2.out.c hc (Nat.le_succ _))
 have R3:Hid (Blk X3 w.heap.size #[.int .i64 0,.int .i64 0,.int .i64 0,.slice none 0 0,.int .i64 0,.slice none 0 0,.slice none 0 0,.slice none 0 0] 38):=(hc.2 _ (by have:=HGR.out; omega) (Nat.lt_succ_self _)).trans R2.out
 have B3:Hid (Below w0.heap.size w0 X3):=B2.out.trans (hc.1.mono HG0.out)
 clear hc D2 R2 B2 I2 P2 E2 l0 l1 l2 l3 l4 l5
 rcases hR with ⟨nb,n1,n2,vb,bks,hz,hzm,hrl,hnil,rfl,hp,hi,he⟩ | ⟨hno,rfl⟩
 rotate_left
 ·have HN:Hid (∀ x,¬ StaRd s x):=(noBks HJ.out hno).rd
  clear hno
  go_wp2_with fail
  exact ⟨rfl,.inr ⟨HN.out,rfl⟩,D3.out⟩
 have P3:=Hid.mk hp
 have I3:=Hid.mk hi
 have E3:=Hid.mk he
 clear hp hi he
 have HJ3:Hid (RdF s 1 3 [(h:Int),(m:Int),(nb:Int)] n1):=HJ.out.join hz
 have HNB:Hid (nb≤12):=hzm
 have HNIB:=Hid.mk hnil
 clear hnil
 have HRB:=Hid.mk hrl
 have HR2:Hid ((∀ fl c fs ses,¬ Q3 s n2 fl c fs ses) → NoP s):=fun hq=>ref1 HJ3.out (refb hrl hq)
 clear hz hzm hrl HJ
 obtain ⟨l0,l1,l2,l3,l4,l5⟩:=looked E3.out.cm
 go_wp2_with fail
 rw [rounds_succ]
 go_wp2_with fail
 refine (takeFloor s _ _ _ _ _ _ _ _ _ _ _ _ _ _ _ _ _ _ _ _ _ X3 HS.out P3.out I3.out E3.out).mono ?_
 rintro e X4 ⟨hR,hc⟩
 have D4:=Hid.mk (D3.out.c hc (Nat.le_succ _))
 have R4:Hid (Blk X4 w.heap.size #[.int .i64 0,.int .i64 0,.int .i64 0,.slice none 0 0,.int .i64 0,.slice none 0 0,.slice none 0 0,.slice none 0 0] 38):=(hc.2 _ (by have:=HGR.out; omega) (Nat.lt_succ_self _)).trans R3.out
 have B4:Hid (Below w0.heap.size w0 X4):=B3.out.trans (hc.1.mono HG0.out)
 clear hc D3 R3 B3 I3 P3 E3 l0 l1 l2 l3 l4 l5
 rcases hR with ⟨fl,n3,hf,rfl,hp,hi,he⟩ | ⟨hno,rfl⟩
 rotate_left
 ·have HN:Hid (∀ x,¬ StaRd s x):=(HR2.out (ref3no hno)).rd
  clear hno
  go_wp2_with fail
  exact ⟨rfl,.inr ⟨HN.out,rfl⟩,D4.out⟩
 have P4:=Hid.mk hp
 have I4:=Hid.mk hi
 have E4:=Hid.mk he
 clear hp hi he
 have HF:=Hid.mk hf
 have HR3:Hid ((∀ c fs ses,¬ Q4 s n3 c fs ses) → NoP s):=fun hq=>HR2.out (ref3 hf hq)
 clear hf HR2
 obtain ⟨l0,l1,l2,l3,l4,l5⟩:=looked E4.out.cm
 go_wp2_with fail
 rw [rounds_succ]
 go_wp2_with fail
 refine (takeCache s _ _ _ _ _ _ _ _ _ _ _ _ _ _ _ _ _ _ _ _ _ X4 HS.out P4.out I4.out E4.out (by have:=I4.out.box.lt; omega) w0 ST.out a0 a1 a2 ER.out B4.out HG0.out).mono ?_
 rintro e X5 ⟨hR,hc⟩
 have D5:=Hid.mk (D4.out.c hc (Nat.le_succ _))
 have R5:Hid (Blk X5 w.heap.size #[.int .i64 0,.int .i64 0,.int .i64 0,.slice none 0 0,.int .i64 0,.slice none 0 0,.slice none 0 0,.slice none 0 0] 38):=(hc.2 _ (by have:=HGR.out; omega) (Nat.lt_succ_self _)).trans R4.out
 have B5:Hid (Below w0.heap.size w0 X5):=B4.out.trans (hc.1.mono HG0.out)
 clear hc D4 R4 B4 I4 P4 E4 l0 l1 l2 l3 l4 l5
 rcases hR with ⟨c,n4,vc,L,hP,hC,rfl,hp,hi,he⟩ | ⟨hno,rfl⟩
 rotate_left
 ·have HN:=hQz (noCache HJ3.out HRB.out HF.out hno)
  clear hno
  go_wp2_with fail
  exact ⟨rfl,.inr ⟨HN.out,rfl⟩,D5.out⟩
 have P5:=Hid.mk hp
 have I5:=Hid.mk hi
 have E5:=Hid.mk he
 clear hp hi he
 have HP:=Hid.mk hP
 have HC:=Hid.mk hC
 have HR4:Hid ((∀ fs ses,¬ Q5 s n4 fs ses) → NoP s):=fun hq=>HR3.out (ref4 hP hq)
 clear hP hC HR3
 obtain ⟨l0,l1,l2,l3,l4,l5⟩:=looked E5.out.cm
 go_wp2_with fail
 rw [rounds_succ]
 go_wp2_with fail
 refine (takeFiles s _ _ _ _ _ _ _ _ _ _ _ _ _ _ _ _ _ _ _ X5 HS.out P5.out I5.out E5.out (by have:=I5.out.box.lt; omega)).mono ?_
 rintro e X6 ⟨hR,hc⟩
 have D6:=Hid.mk (D5.out.c hc (Nat.le_succ _))
 have R6:Hid (Blk X6 w.heap.size #[.int .i64 0,.int .i64 0,.int .i64 0,.slice none 0 0,.int .i64 0,.slice none 0 0,.slice none 0 0,.slice none 0 0] 38):=(hc.2 _ (by have:=HGR.out; omega) (Nat.lt_succ_self _)).trans R5.out
 have B6:Hid (Below w0.heap.size w0 X6):=B5.out.trans (hc.1.mono HG0.out)
 clear hc D5 R5 B5 I5 P5 E5 l0 l1 l2 l3 l4 l5
 rcases hR with ⟨nf,n5,n6,vf,fs,hz,hzm,hrl,-,rfl,hp,hi,he⟩ | ⟨hno,rfl⟩
 rotate_left
 ·have HN:Hid (∀ x,¬ StaRd s x):=(HR4.out (noFiles hno)).rd
  clear hno
  go_wp2_with fail
  exact ⟨rfl,.inr ⟨HN.out,rfl⟩,D6.out⟩
 have P6:=Hid.mk hp
 have I6:=Hid.mk hi
 have E6:=Hid.mk he
 clear hp hi he
 have HZF:=Hid.mk hz
 have HNF:Hid (nf≤4):=hzm
 have HRF:=Hid.mk hrl
 have HR6:Hid ((∀ ses,¬ Q7 s n6 ses) → NoP s):=fun hq=>HR4.out (ref5 hz (reff hrl hq))
 clear hz hzm hrl HR4
 obtain ⟨l0,l1,l2,l3,l4,l5⟩:=looked E6.out.cm
 go_wp2_with fail
 rw [rounds_succ]
 go_wp2_with fail
 refine (takeSessions s _ _ _ _ _ _ _ _ _ _ _ _ _ _ _ _ _ _ _ X6 HS.out P6.out I6.out E6.out (by have:=I6.out.box.lt; omega)).mono ?_
 rintro e X7 ⟨hR,hc⟩
 have D7:=Hid.mk (D6.out.c hc (Nat.le_succ _))
 have R7:Hid (Blk X7 w.heap.size #[.int .i64 0,.int .i64 0,.int .i64 0,.slice none 0 0,.int .i64 0,.slice none 0 0,.slice none 0 0,.slice none 0 0] 38):=(hc.2 _ (by have:=HGR.out; omega) (Nat.lt_succ_self _)).trans R6.out
 have B7:Hid (Below w0.heap.size w0 X7):=B6.out.trans (hc.1.mono HG0.out)
 clear hc D6 R6 B6 I6 P6 E6 l0 l1 l2 l3 l4 l5
 rcases hR with ⟨ns,n7,n8,vs,ses,hz,hzm,hrl,hnil,rfl,hp,hi,he⟩ | ⟨hno,rfl⟩
 rotate_left
 ·have HN:Hid (∀ x,¬ StaRd s x):=(HR6.out (noSes hno)).rd
  clear hno
  go_wp2_with fail
  exact ⟨rfl,.inr ⟨HN.out,rfl⟩,D7.out⟩
 have P7:=Hid.mk hp
 have I7:=Hid.mk hi
 have E7:=Hid.mk he
 clear hp hi he
 have HZS:=Hid.mk hz
 have HNS:Hid (ns≤4):=hzm
 have HNIS:=Hid.mk hnil
 clear hnil
 have HRS:=Hid.mk hrl
 have H8:Hid (n8≤s.size):=(hrl.text (s:=s) (T:=seT) (fun a y n h=>SeRd.text h) hz.inS.2).2.2
 have HR8:Hid (n8 ≠ s.size → NoP s):=fun hq=>HR6.out (ref7 hz (refs hrl hq))
 clear hz hzm hrl HR6
 have hcl:=P7.out.cell
 have HEM:Hid ((lf s n8).toList.isEmpty=decide (n8=s.size)):=by
  have hz:=lf_size s n8
  have h8:=H8.out
  unfold Hid
  by_cases e:n8=s.size
  ·have e0:lf s n8=ByteArray.empty:=ByteArray.size_eq_zero_iff.1 (by omega)
   rw [decide_eq_true e,e0,Lib.toList_data]; rfl
  ·rw [decide_eq_false e]
   cases hx:(lf s n8).toList with
   | nil =>
    rw [Lib.toList_data] at hx
    have:(lf s n8).size=0:=by show (lf s n8).data.size=0; rw [← Array.length_toList,hx]; rfl
    omega
   | cons a l=>rfl
 generalize lf s n8=lft at *
 obtain ⟨Ab,mb,cb,rfl⟩:=I7.out.ob.shape
 obtain ⟨Ac,mc,cc,rfl⟩:=I7.out.oc.1.shape
 obtain ⟨Af,mf,cf,rfl⟩:=I7.out.of.shape
 obtain ⟨As,ms,cs,rfl⟩:=I7.out.os.shape
 have HST:=Hid.mk I7.out.state
 have b0:=I7.out.box.cell 0 _ rfl
 have b1:=I7.out.box.cell 1 _ rfl
 have b2':=I7.out.box.cell 2 _ rfl
 have b3':=I7.out.box.cell 3 _ rfl
 have b4:=I7.out.box.cell 4 _ rfl
 have b5':=I7.out.box.cell 5 _ rfl
 have b6':=I7.out.box.cell 6 _ rfl
 have b7:=I7.out.box.cell 7 _ rfl
 by_cases h8:n8=s.size
 rotate_left
 ·have HN:Hid (∀ x,¬ StaRd s x):=(HR8.out h8).rd
  have te:lft.toList.isEmpty=false:=by rw [HEM.out]; exact decide_eq_false h8
  clear h8
  go_wp2_with fail
  rw [rounds_succ]
  go_wp2_with fail
  refine (need_no _).mono ?_
  rintro e X8 ⟨rfl,rfl⟩
  go_wp2_with fail
  exact ⟨rfl,.inr ⟨HN.out,rfl⟩,D7.out⟩
 have te:lft.toList.isEmpty=true:=by rw [HEM.out]; exact decide_eq_true h8
 have HSP:Hid (StaP s ⟨(kB s:Int),(h:Int),(m:Int),bks,⟨(fl:Int),L.map Prod.fst,fs⟩,ses⟩ c):=by
  have e1:=HRB.out.length
  have e2:=HRF.out.length
  have e3:=HRS.out.length
  refine StaP.of (n1:=n1) ?_ rfl ?_ ?_
  ·show RdF s 1 3 [(h:Int),(m:Int),(bks.length:Int)] n1
   rw [e1]; exact HJ3.out
  ·show bks.length≤12
   rw [e1]; exact HNB.out
  ·show Qb s n1 bks.length bks (fl:Int) c fs ses
   rw [e1]
   exact ⟨n2,HRB.out,n3,HF.out,n4,HP.out,n5,by rw [e2]; exact HZF.out,by rw [e2]; exact HNF.out,n6,by rw [e2]; exact HRF.out,n7,by rw [e3]; exact HZS.out,by rw [e3]; exact HNS.out,by rw [e3,← h8]; exact HRS.out⟩
 have HSh:Hid (StShort ⟨(kB s:Int),(h:Int),(m:Int),bks,⟨(fl:Int),L.map Prod.fst,fs⟩,ses⟩):=HSP.out.shortQ (HC.out.elim (fun q=>.inl q) (fun q=>.inr ⟨q.1,.inl q.2⟩)) HS.out
 have HNR:Hid (staOk ⟨(kB s:Int),(h:Int),(m:Int),bks,⟨(fl:Int),L.map Prod.fst,fs⟩,ses⟩=false → ∀ x,¬ StaRd s x):=by
  intro hf y hy
  have hq:StaRd s y:=hy
  obtain ⟨⟨d,g1,g2⟩,g3⟩:=hy
  obtain ⟨rfl,q1,q2,q3,q4,q5,q6,q7⟩:=HSP.out.same g1
  have qc:L.map Prod.fst=y.eng.cache:=by
   rcases HC.out with ⟨a,b⟩ | ⟨a,b⟩
   ·rcases g2 with ⟨a',b'⟩ | ⟨a',b'⟩
    ·rw [b,b']
    ·exact absurd a a'
   ·rcases g2 with ⟨a',b'⟩ | ⟨a',b'⟩
    ·exact absurd a' a
    ·exact b.one b'
  have exy:(⟨(kB s:Int),(h:Int),(m:Int),bks,⟨(fl:Int),L.map Prod.fst,fs⟩,ses⟩:Sta)=y:=by
   obtain ⟨k',h',m',bk',⟨f',ca',fs'⟩,se'⟩:=y
   simp only at q1 q2 q3 q4 q5 q6 q7 qc
   subst q4 q6 q7 qc
   rw [q1,q2,q3,q5]
  rw [exy,g3] at hf
  cases hf
 clear h8
 go_wp2_with fail
 rw [rounds_succ]
 go_wp2_with fail
 refine (implStateOk ⟨(kB s:Int),(h:Int),(m:Int),bks,⟨(fl:Int),L.map Prod.fst,fs⟩,ses⟩ _ X7 X7.heap.size HST.out.view HSh.out (Nat.le_refl _) (ST.out.on B7.out) a0 a1 a2 (ER.out.on B7.out)).mono ?_
 rintro e X8 ⟨rfl,hb⟩
 have D8:=Hid.mk (D7.out.below HGR.out hb)
 have R8:=Hid.mk (R7.out.on hb R7.out.lt)
 have I8:=Hid.mk (I7.out.on hb)
 have HST8:=Hid.mk I8.out.state
 clear hb D7 R7 I7 HST b0 b1 b2' b3' b4 b5' b6' b7 hcl te
 cases ho:staOk ⟨(kB s:Int),(h:Int),(m:Int),bks,⟨(fl:Int),L.map Prod.fst,fs⟩,ses⟩
 ·have HN:=hQz (HNR.out ho)
  clear ho
  go_wp2_with fail
  refine (need_no _).mono ?_
  rintro e X9 ⟨rfl,rfl⟩
  go_wp2_with fail
  exact ⟨rfl,.inr ⟨HN.out,rfl⟩,D8.out⟩
 have HRD:Hid (StaRd s ⟨(kB s:Int),(h:Int),(m:Int),bks,⟨(fl:Int),L.map Prod.fst,fs⟩,ses⟩):=⟨⟨c,HSP.out,HC.out⟩,ho⟩
 have HOK:Hid (staOk ⟨(kB s:Int),(h:Int),(m:Int),bks,⟨(fl:Int),L.map Prod.fst,fs⟩,ses⟩=true):=ho
 clear ho
 have b0:=I8.out.box.cell 0 _ rfl
 have b1:=I8.out.box.cell 1 _ rfl
 have b2':=I8.out.box.cell 2 _ rfl
 have b3':=I8.out.box.cell 3 _ rfl
 have b4:=I8.out.box.cell 4 _ rfl
 have b5':=I8.out.box.cell 5 _ rfl
 have b6':=I8.out.box.cell 6 _ rfl
 have b7:=I8.out.box.cell 7 _ rfl
 go_wp2_with fail
 refine (need_yes _).mono ?_
 rintro e X9 ⟨rfl,rfl⟩
 go_wp2_with fail
 refine (copyStateV ⟨(kB s:Int),(h:Int),(m:Int),bks,⟨(fl:Int),L.map Prod.fst,fs⟩,ses⟩ (.slice Ab mb cb) (.slice Ac mc cc) (.slice Af mf cf) (.slice As ms cs) X8 X8.heap.size HST8.out.view HOK.out HSh.out (Nat.le_refl _) HNIB.out HNIS.out).mono ?_
 rintro e X9 ⟨⟨u,rfl,hO⟩,hb⟩
 have D9:=Hid.mk (D8.out.below HGR.out hb)
 have R9:=Hid.mk (R8.out.on hb R8.out.lt)
 have Z9:=hQz (R8.out.lt)
 clear hb D8 R8 I8 HST8 b0 b1 b2' b3' b4 b5' b6' b7
 obtain ⟨Bb,nb2,cb2,Bc,nc2,cc2,Bf,nf2,cf2,Bs,ns2,cs2,rfl⟩:=hO.shape
 have HX:Hid (∀ vb vc vf vs,vSt ⟨(kB s:Int),(h:Int),(m:Int),bks,⟨(fl:Int),L.map Prod.fst,fs⟩,ses⟩ vb vc vf vs=.agg #[.int .i64 (kB s:Int),.int .i64 (h:Int),.int .i64 (m:Int),vb,.int .i64 (fl:Int),vc,vf,vs]):=fun _ _ _ _=>rfl
 rw [HX.out] at hO ⊢
 obtain ⟨⟨r0,f0⟩,⟨r1,f1⟩,⟨r2,f2⟩,⟨r3,f3⟩,⟨r4,f4⟩,⟨r5,f5⟩,⟨r6,f6⟩,⟨r7,f7⟩,y0,y1,y2,y3,y4,y5,y6,y7⟩:=resC8 (x0:=.int .i64 (kB s:Int)) (x1:=.int .i64 (h:Int)) (x2:=.int .i64 (m:Int)) (x3:=.slice Bb nb2 cb2) (x4:=.int .i64 (fl:Int)) (x5:=.slice Bc nc2 cc2) (x6:=.slice Bf nf2 cf2) (x7:=.slice Bs ns2 cs2) R9.out
 have OE:=Hid.mk (hO.put8 Z9.out (.int .i64 (kB s:Int)) (.int .i64 (h:Int)) (.int .i64 (m:Int)) (.slice Bb nb2 cb2) (.int .i64 (fl:Int)) (.slice Bc nc2 cc2) (.slice Bf nf2 cf2) (.slice Bs ns2 cs2))
 have DE:=Hid.mk (((((((((D9.out.setNew (Nat.le_refl _) (Nat.le_of_lt HGR.out) 0 (.int .i64 (kB s:Int))).setNew (Nat.le_refl _) (Nat.le_of_lt HGR.out) 1 (.int .i64 (h:Int))).setNew (Nat.le_refl _) (Nat.le_of_lt HGR.out) 2 (.int .i64 (m:Int))).setNew (Nat.le_refl _) (Nat.le_of_lt HGR.out) 3 (.slice Bb nb2 cb2)).setNew (Nat.le_refl _) (Nat.le_of_lt HGR.out) 4 (.int .i64 (fl:Int))).setNew (Nat.le_refl _) (Nat.le_of_lt HGR.out) 5 (.slice Bc nc2 cc2)).setNew (Nat.le_refl _) (Nat.le_of_lt HGR.out) 6 (.slice Bf nf2 cf2)).setNew (Nat.le_refl _) (Nat.le_of_lt HGR.out) 7 (.slice Bs ns2 cs2)))
 clear hO D9 R9
 go_wp2_with fail
 exact bodyPost_ret (v:=.agg #[.int .i64 (kB s:Int),.int .i64 (h:Int),.int .i64 (m:Int),.slice Bb nb2 cb2,.int .i64 (fl:Int),.slice Bc nc2 cc2,.slice Bf nf2 cf2,.slice Bs ns2 cs2]) (by simp [results,go_sem,y0,y1,y2,y3,y4,y5,y6,y7]) rfl ⟨.inl ⟨_,_,HRD.out,rfl,OE.out.mono (Nat.le_of_lt Z9.out)⟩,DE.out⟩
theorem catchSt_panicking (u:TypeId) (pv:Value) (older:List PanicEntry) (w:World) :
  CallsD Tryz.prog 90 #[] (.panicking ({ v:=.iface u pv,recovered:=false } :: older)) w fun e u' w' =>
   e=.returned (.tuple #[])∧u'=.panicking ({ v:=.iface u pv,recovered:=true } :: older)∧w'=w:=by
 refine callsD_of_wpS Tryz.func90 rfl fun c₀ cs hu=>?_
 apply wpS_region
 simp [wpOpsS,go_sem,recoverD,hu,Tryz.ntmps90,bodyPostS,results,Tryz.results90]
theorem catchSt_idle (w:World) :
  CallsD Tryz.prog 90 #[] .returning w fun e u' w'=>e=.returned (.tuple #[])∧u'=.returning∧w'=w:=by
 refine callsD_of_wpS Tryz.func90 rfl fun c₀ cs hu=>?_
 apply wpS_region
 simp [wpOpsS,go_sem,recoverD,hu,Tryz.ntmps90,bodyPostS,results,Tryz.results90]
 cases c₀
 simp_all
def StAn (s:ByteArray) (x:Sta) (b:Bool):Prop:=(StaRd s x∧b=true) ∨ ((∀ x,¬ StaRd s x)∧x=sta0∧b=false)
theorem StaA.form {s:ByteArray} {base:Nat} {e:Ending} {w:World} (h:StaA s base e w):∃ x u b,StAn s x b∧e=.returned (.tuple #[u,.bool b])∧StaO w base u x:=by
 rcases h with ⟨x,u,h1,h2,h3⟩ | ⟨h1,u,h2,h3⟩
 ·exact ⟨x,u,true,.inl ⟨h1,rfl⟩,h2,h3⟩
 ·exact ⟨_,u,false,.inr ⟨h1,rfl,rfl⟩,h2,h3⟩
theorem StAn.ans {s:ByteArray} {x:Sta} {b:Bool} (h:StAn s x b) {base:Nat} {u:Value} {w:World} (hO:StaO w base u x):StaA s base (.returned (.tuple #[u,.bool b])) w:=by
 rcases h with ⟨h1,rfl⟩ | ⟨h1,rfl,rfl⟩
 ·exact .inl ⟨x,u,h1,rfl,hO⟩
 ·exact .inr ⟨h1,u,rfl,hO⟩
theorem StAn.one {s:ByteArray} {x y:Sta} {b c:Bool} (h:StAn s x b) (h':StAn s y c):x=y∧b=c:=by
 rcases h with ⟨h1,rfl⟩ | ⟨h1,rfl,rfl⟩
 ·rcases h' with ⟨h2,rfl⟩ | ⟨h2,_,_⟩
  ·exact ⟨h1.one h2,rfl⟩
  ·exact absurd h1 (h2 _)
 ·rcases h' with ⟨h2,_⟩ | ⟨_,rfl,rfl⟩
  ·exact absurd h2 (h1 _)
  ·exact ⟨rfl,rfl⟩
set_option maxHeartbeats 4000000 in
theorem partsSt (s:ByteArray) (w:World) (hs:s.size≤1048576) (hst:SumTab w) (a0 a1 a2:Addr) (he:Errs w a0 a1 a2) :
  Calls Tryz.prog 47 #[.string s,.func (.func 48) #[] #[]] w fun e w'=>StaA s w.heap.size e w'∧Below w.heap.size w w':=by
 have hmf:∀ (fn:Fn) (first cap:Array Value) (w:World),(Instr.makeFunc fn first cap).run Tryz.prog w=.ok (.func fn first cap) w:=fun _ _ _ _=>rfl
 have k0:=(Blk.new w #[.int .i64 0,.int .i64 0,.int .i64 0,.slice none 0 0,.int .i64 0,.slice none 0 0,.slice none 0 0,.slice none 0 0] 38).alloc (.cells #[.string s] 141)
 have p0:Prt ((w.alloc (.cells #[.int .i64 0,.int .i64 0,.int .i64 0,.slice none 0 0,.int .i64 0,.slice none 0 0,.slice none 0 0,.slice none 0 0] 38)).alloc (.cells #[.string s] 141)) (w.heap.size+1) s:=by
  have:=heap_alloc_new (w.alloc (.cells #[.int .i64 0,.int .i64 0,.int .i64 0,.slice none 0 0,.int .i64 0,.slice none 0 0,.slice none 0 0,.slice none 0 0] 38)) (.cells #[.string s] 141)
  rw [World.size_alloc] at this
  exact this
 have hb0:=below_c2 w (.cells #[.int .i64 0,.int .i64 0,.int .i64 0,.slice none 0 0,.int .i64 0,.slice none 0 0,.slice none 0 0,.slice none 0 0] 38) (.cells #[.string s] 141)
 go_enter_defers Tryz.func47,Tryz.ntmps47
 go_wp2_with fail
 generalize (w.alloc (.cells #[.int .i64 0,.int .i64 0,.int .i64 0,.slice none 0 0,.int .i64 0,.slice none 0 0,.slice none 0 0,.slice none 0 0] 38)).alloc (.cells #[.string s] 141)=X at *
 have ZX:=hQz (k0.lt)
 refine (takeState (w.heap.size+1) s X p0 hs w hst a0 a1 a2 he hb0 (by omega)).mono ?_
 rintro e w1 ⟨hR,hk⟩
 have k1:=hk.blk k0 (by omega)
 have B1:Hid (Below w.heap.size w w1):=hb0.trans (hk.1.mono (by omega))
 clear hk hb0 p0 k0 hs hst he
 rcases hR with ⟨x,u,hx,rfl,hO⟩ | ⟨hn,rfl⟩
 ·have HX:Hid (StaRd s x):=hx
  obtain ⟨Ab,nb,cb,Ac,nc,cc,Af,nf,cf,As,ns,cs,rfl⟩:=hO.shape
  have HV:Hid (∀ vb vc vf vs,vSt x vb vc vf vs=.agg #[.int .i64 x.kind,.int .i64 x.hold,.int .i64 x.mark,vb,.int .i64 x.eng.floor,vc,vf,vs]):=fun _ _ _ _=>rfl
  rw [HV.out] at hO ⊢
  obtain ⟨⟨r0,s0⟩,⟨r1,s1⟩,⟨r2,s2⟩,⟨r3,s3⟩,⟨r4,s4⟩,⟨r5,s5⟩,⟨r6,s6⟩,⟨r7,s7⟩,y0,y1,y2,y3,y4,y5,y6,y7⟩:=resC8 (x0:=.int .i64 x.kind) (x1:=.int .i64 x.hold) (x2:=.int .i64 x.mark) (x3:=.slice Ab nb cb) (x4:=.int .i64 x.eng.floor) (x5:=.slice Ac nc cc) (x6:=.slice Af nf cf) (x7:=.slice As ns cs) k1
  have B2:Hid (Below w.heap.size w _):=belowC8 B1.out (Nat.le_refl _) (.int .i64 x.kind) (.int .i64 x.hold) (.int .i64 x.mark) (.slice Ab nb cb) (.int .i64 x.eng.floor) (.slice Ac nc cc) (.slice Af nf cf) (.slice As ns cs)
  have OE:=Hid.mk ((hO.put8 ZX.out (.int .i64 x.kind) (.int .i64 x.hold) (.int .i64 x.mark) (.slice Ab nb cb) (.int .i64 x.eng.floor) (.slice Ac nc cc) (.slice Af nf cf) (.slice As ns cs)).mono (Nat.le_of_lt ZX.out))
  clear k1 hx hO
  go_wp2_with fail
  refine leaves_cons (f:=90) (args:=#[]) (by simp) (by simp [go_sem]) ?_
  refine (catchSt_idle _).mono ?_
  rintro e u' w'' ⟨rfl,rfl,rfl⟩
  refine ⟨.tuple #[.agg #[.int .i64 x.kind,.int .i64 x.hold,.int .i64 x.mark,.slice Ab nb cb,.int .i64 x.eng.floor,.slice Ac nc cc,.slice Af nf cf,.slice As ns cs],.bool true],?_,.inl ⟨x,_,HX.out,rfl,OE.out⟩,B2.out⟩
  simp [results,Tryz.results47,go_sem,y0,y1,y2,y3,y4,y5,y6,y7]
 ·have HN:Hid (∀ x,¬ StaRd s x):=hn
  clear hn
  have hz:=cellsC8 k1
  obtain ⟨y0,y1,y2,y3,y4,y5,y6,y7⟩:=hz
  clear k1
  go_wp2_with fail
  refine leaves_cons (f:=90) (args:=#[]) (by simp) (by simp [go_sem]) ?_
  refine (catchSt_panicking _ _ [] _).mono ?_
  rintro e u' w'' ⟨rfl,rfl,rfl⟩
  refine ⟨.tuple #[.agg #[.int .i64 0,.int .i64 0,.int .i64 0,.slice none 0 0,.int .i64 0,.slice none 0 0,.slice none 0 0,.slice none 0 0],.bool false],?_,.inr ⟨HN.out,_,rfl,StaO.zero _ _⟩,B1.out⟩
  simp [results,Tryz.results47,go_sem,y0,y1,y2,y3,y4,y5,y6,y7]
set_option maxHeartbeats 2000000 in
theorem implReadState (s:ByteArray) (w:World) (hs:s.size≤1048576) (hst:SumTab w) (a0 a1 a2:Addr) (he:Errs w a0 a1 a2) :
  Calls Tryz.prog 14 #[.string s] w fun e w'=>StaA s w.heap.size e w'∧Below w.heap.size w w':=by
 have c:=fun wx (hb:Below w.heap.size w wx)=>partsSt s wx hs (hst.on hb) a0 a1 a2 (he.on hb)
 have k0:=Blk.new w #[.int .i64 0,.int .i64 0,.int .i64 0,.slice none 0 0,.int .i64 0,.slice none 0 0,.slice none 0 0,.slice none 0 0] 38
 have hb0:=(Below.refl w.heap.size w).alloc (Nat.le_refl _) (.cells #[.int .i64 0,.int .i64 0,.int .i64 0,.slice none 0 0,.int .i64 0,.slice none 0 0,.slice none 0 0,.slice none 0 0] 38)
 clear hs hst he
 go_enter Tryz.func14,Tryz.ntmps14
 go_wp2_with fail
 generalize w.alloc (.cells #[.int .i64 0,.int .i64 0,.int .i64 0,.slice none 0 0,.int .i64 0,.slice none 0 0,.slice none 0 0,.slice none 0 0] 38)=X at *
 have ZX:=hQz (k0.lt)
 refine (c _ hb0).mono ?_
 rintro e w1 ⟨hR,hb1⟩
 have k1:=k0.on hb1 k0.lt
 have B1:=hQz (hb0.trans (hb1.mono hb0.size))
 obtain ⟨x,u,b,hA,rfl,hO⟩:=hR.form
 have HA:Hid (StAn s x b):=hA
 obtain ⟨Ab,nb,cb,Ac,nc,cc,Af,nf,cf,As,ns,cs,rfl⟩:=hO.shape
 have HV:Hid (∀ vb vc vf vs,vSt x vb vc vf vs=.agg #[.int .i64 x.kind,.int .i64 x.hold,.int .i64 x.mark,vb,.int .i64 x.eng.floor,vc,vf,vs]):=fun _ _ _ _=>rfl
 rw [HV.out] at hO ⊢
 clear hb0 hb1 c k0 hR hA
 obtain ⟨⟨r0,s0⟩,⟨r1,s1⟩,⟨r2,s2⟩,⟨r3,s3⟩,⟨r4,s4⟩,⟨r5,s5⟩,⟨r6,s6⟩,⟨r7,s7⟩,y0,y1,y2,y3,y4,y5,y6,y7⟩:=resC8 (x0:=.int .i64 x.kind) (x1:=.int .i64 x.hold) (x2:=.int .i64 x.mark) (x3:=.slice Ab nb cb) (x4:=.int .i64 x.eng.floor) (x5:=.slice Ac nc cc) (x6:=.slice Af nf cf) (x7:=.slice As ns cs) k1
 have B2:Hid (Below w.heap.size w _):=belowC8 B1.out (Nat.le_refl _) (.int .i64 x.kind) (.int .i64 x.hold) (.int .i64 x.mark) (.slice Ab nb cb) (.int .i64 x.eng.floor) (.slice Ac nc cc) (.slice Af nf cf) (.slice As ns cs)
 have OE:=Hid.mk ((hO.put8 ZX.out (.int .i64 x.kind) (.int .i64 x.hold) (.int .i64 x.mark) (.slice Ab nb cb) (.int .i64 x.eng.floor) (.slice Ac nc cc) (.slice Af nf cf) (.slice As ns cs)).mono (Nat.le_of_lt ZX.out))
 clear k1 B1 hO
 go_wp2_with fail
 exact bodyPost_ret (v:=.tuple #[.agg #[.int .i64 x.kind,.int .i64 x.hold,.int .i64 x.mark,.slice Ab nb cb,.int .i64 x.eng.floor,.slice Ac nc cc,.slice Af nf cf,.slice As ns cs],.bool b]) (by simp [results,go_sem,y0,y1,y2,y3,y4,y5,y6,y7]) rfl ⟨HA.out.ans OE.out,B2.out⟩
theorem StaO.parts {w:World} {base:Nat} {x:Sta} {vb vc vf vs:Value} (h:StaO w base (vSt x vb vc vf vs) x):Owns w base 58 2 vb (ptR x.bks)∧EngO w base (.agg #[.int .i64 x.eng.floor,vc,vf]) x.eng∧Owns w base 53 6 vs (sesR x.ses):=by
 obtain ⟨vb',vc',vf',vs',L,e,h1,⟨h2,h3,h4⟩,h5⟩:=h
 unfold vSt at e
 simp only [Value.agg.injEq,Array.mk.injEq,List.cons.injEq,true_and,and_true] at e
 obtain ⟨rfl,rfl,rfl,rfl⟩:=e
 exact ⟨h1,⟨_,_,L,rfl,h2,h3,h4⟩,h5⟩
set_option maxHeartbeats 2000000 in
theorem eqState (x:Sta) (va vb:Value) (b1 b2:Nat) (w:World) (ha:StaO w b1 va x) (hb:StaO w b2 vb x) (hs:StShort x) :
  Calls Tryz.prog 10 #[va,vb] w fun b w'=>b=.returned (.bool true)∧Below w.heap.size w w':=by
 obtain ⟨Ab1,nb1,cb1,Ac1,nc1,cc1,Af1,nf1,cf1,As1,ns1,cs1,rfl⟩:=ha.shape
 obtain ⟨Ab2,nb2,cb2,Ac2,nc2,cc2,Af2,nf2,cf2,As2,ns2,cs2,rfl⟩:=hb.shape
 obtain ⟨p1,p2,p3⟩:=ha.parts
 obtain ⟨o1,o2,o3⟩:=hb.parts
 have HS:Hid (StShort x):=hs
 have P2:=hQz p2
 have O2:=hQz o2
 have P3:=hQz p3
 have O3:=hQz o3
 unfold vSt
 generalize x.kind=sk at *
 generalize x.hold=sh at *
 generalize x.mark=sm at *
 generalize x.eng.floor=sf at *
 obtain ⟨X0,hX0⟩:∃ X0,X0=(w.alloc (.cells #[.int .i64 sk,.int .i64 sh,.int .i64 sm,.slice Ab1 nb1 cb1,.int .i64 sf,.slice Ac1 nc1 cc1,.slice Af1 nf1 cf1,.slice As1 ns1 cs1] 38)).alloc (.cells #[.int .i64 sk,.int .i64 sh,.int .i64 sm,.slice Ab2 nb2 cb2,.int .i64 sf,.slice Ac2 nc2 cc2,.slice Af2 nf2 cf2,.slice As2 ns2 cs2] 38):=⟨_,rfl⟩
 have BX:Hid (Below w.heap.size w X0):=by unfold Hid; rw [hX0]; exact below_s2 _ _ _
 have K1:Hid (Blk X0 w.heap.size #[.int .i64 sk,.int .i64 sh,.int .i64 sm,.slice Ab1 nb1 cb1,.int .i64 sf,.slice Ac1 nc1 cc1,.slice Af1 nf1 cf1,.slice As1 ns1 cs1] 38):=by unfold Hid; rw [hX0]; exact (Blk.new w _ _).alloc _
 have K2:Hid (Blk X0 (w.heap.size+1) #[.int .i64 sk,.int .i64 sh,.int .i64 sm,.slice Ab2 nb2 cb2,.int .i64 sf,.slice Ac2 nc2 cc2,.slice Af2 nf2 cf2,.slice As2 ns2 cs2] 38):=by
  unfold Hid
  rw [hX0]
  have:=Blk.new (w.alloc (.cells #[.int .i64 sk,.int .i64 sh,.int .i64 sm,.slice Ab1 nb1 cb1,.int .i64 sf,.slice Ac1 nc1 cc1,.slice Af1 nf1 cf1,.slice As1 ns1 cs1] 38)) #[.int .i64 sk,.int .i64 sh,.int .i64 sm,.slice Ab2 nb2 cb2,.int .i64 sf,.slice Ac2 nc2 cc2,.slice Af2 nf2 cf2,.slice As2 ns2 cs2] 38
  rw [World.size_alloc] at this
  exact this
 have c1:=eqBucketS x.bks (.slice Ab1 nb1 cb1) (.slice Ab2 nb2 cb2) X0 w.heap.size (p1.lies.on BX.out) (o1.lies.on BX.out) HS.out.1 BX.out.size
 have a0:=K1.out.cell 0 _ rfl
 have d0:=K2.out.cell 0 _ rfl
 have a1:=K1.out.cell 1 _ rfl
 have d1:=K2.out.cell 1 _ rfl
 have a2:=K1.out.cell 2 _ rfl
 have d2:=K2.out.cell 2 _ rfl
 have a3:=K1.out.cell 3 _ rfl
 have d3:=K2.out.cell 3 _ rfl
 clear ha hb p1 p2 p3 o1 o2 o3 hs
 go_enter Tryz.func10,Tryz.ntmps10
 go_wp2_with fail
 rw [← hX0]
 clear hX0
 refine c1.mono ?_
 rintro b X1 ⟨rfl,hb1⟩
 have B1:=hQz (BX.out.trans (hb1.mono BX.out.size))
 have G1:=hQz hb1
 have L1:=hQz (B1.out)
 clear a0 a1 a2 a3 d0 d1 d2 d3 c1 hb1
 have KA:=K1.out.on G1.out K1.out.lt
 have KB:=K2.out.on G1.out K2.out.lt
 have a4:=KA.cell 4 _ rfl
 have a5:=KA.cell 5 _ rfl
 have a6:=KA.cell 6 _ rfl
 have d4:=KB.cell 4 _ rfl
 have d5:=KB.cell 5 _ rfl
 have d6:=KB.cell 6 _ rfl
 have c2:=eqEngine x.eng _ _ b1 b2 X1 (P2.out.on B1.out) (O2.out.on B1.out) HS.out.2.1
 clear KA KB
 go_wp2_with fail
 refine c2.mono ?_
 rintro b X2 ⟨rfl,hb2⟩
 have B2:=hQz (B1.out.trans (hb2.mono B1.out.size))
 have G2:=hQz (G1.out.trans (hb2.mono G1.out.size))
 clear a4 a5 a6 d4 d5 d6 c2 hb2
 have a7:=(K1.out.on G2.out K1.out.lt).cell 7 _ rfl
 have d7:=(K2.out.on G2.out K2.out.lt).cell 7 _ rfl
 have c3:=eqSessionS x.ses (.slice As1 ns1 cs1) (.slice As2 ns2 cs2) X2 w.heap.size (P3.out.lies.on B2.out) (O3.out.lies.on B2.out) HS.out.2.2.1 B2.out.size
 go_wp2_with fail
 refine c3.mono ?_
 rintro b X3 ⟨rfl,hb3⟩
 have B3:=hQz (B2.out.trans (hb3.mono B2.out.size))
 clear hb3 c3
 go_wp2_with fail
 go_ret
 exact ⟨rfl,B3.out⟩
def mkSes (k j:Nat):List Value:=[.int .i64 (((k+6 * j:Nat):Int)),.int .i64 (((k+6 * j:Nat):Int)+1),.int .i64 (((k+6 * j:Nat):Int)+1+1),.int .i64 (((k+6 * j:Nat):Int)+1+1+1),.int .i64 (((k+6 * j:Nat):Int)+1+1+1+1),.string (mark (k+6 * j+5))]
set_option maxHeartbeats 2000000 in
theorem markSessionS (k base:Nat) (v:Value) (R:List (List Value)) (w:World) (hv:Owns w base 53 6 v R) (hl:R.length≤1048576) (h1:1≤k) (h2:k≤10000000) (hbase:base≤w.heap.size) :
  Calls Tryz.prog 51 #[v,.int .i64 (k:Int)] w fun e w'=>e=.returned (.int .i64 ((k+6 * R.length:Nat):Int))∧Owns w' base 53 6 v (newR (mkSes k) R.length)∧Below base w w'∧(∀ g,g < w.heap.size → v.ownBlock ≠ some g → w'.heap[g]?=w.heap[g]?):=by
 obtain ⟨A,ca,rfl⟩:∃ A ca,v=.slice A R.length ca:=by
  rcases hv.2.2 with ⟨rfl,h0⟩ | ⟨g,c,cur,rfl,_⟩
  ·exact ⟨none,0,by rw [h0]⟩
  ·exact ⟨_,_,rfl⟩
 have HV:=hQz hv
 have q1:(R.length:Int)≤1048576:=by omega
 have q3:(k:Int)≤10000000:=by omega
 clear hv hl
 generalize hn:R.length=n at *
 go_enter Tryz.func51,Tryz.ntmps51
 go_wp2_with fail
 go_loopw [1,5] (fun v1 v5 wr=>∃ j:Nat,j≤n∧v5=.int .i64 (j:Int)∧v1=.int .i64 ((k+6 * j:Nat):Int)∧Owns wr base 53 6 (.slice A n ca) (partR (mkSes k) R j)∧Below base w wr∧(∀ g,g < w.heap.size → (Value.slice A n ca).ownBlock ≠ some g → wr.heap[g]?=w.heap[g]?)) (fun _ i _=>n - (intOf i).toNat)
 case atStart=>exact ⟨0,by omega,rfl,by simp,by rw [partR_zero]; exact HV.out,Below.refl _ _,fun _ _ _=>rfl⟩
 case round =>
  obtain ⟨j,hj,rfl,rfl,hS,hB,hK⟩:=hrel
  have HS:=hQz hS
  have HB:=hQz hB
  have HK:Hid (∀ g,g < w.heap.size → (Value.slice A n ca).ownBlock ≠ some g → wr.heap[g]?=w.heap[g]?):=hK
  clear hS hB hK
  by_cases hlt:j < n
  ·have q2:(j:Int) < (n:Int):=by omega
   obtain ⟨g,rfl,hgb⟩:∃ g,A=some ⟨g,0,none⟩∧base≤g:=by
    rcases HS.out.2.2 with ⟨e,h0⟩ | ⟨g,c,cur,e,hg,_⟩
    ·rw [partR_length _ _ _ (by omega),hn] at h0; omega
    ·cases e; exact ⟨g,rfl,hg⟩
   have HG:Hid (base≤g):=hgb
   have hpl:(partR (mkSes k) R j).length=n:=by rw [partR_length _ _ _ (by omega),hn]
   have HN2:Hid ((partR (mkSes k) R j).length=n):=hpl
   have hO0:Owns wr base 53 6 (.slice (some ⟨g,0,none⟩) n ca) ((partR (mkSes k) R j).set j ((partR (mkSes k) R j)[j]'(by omega))):=by rw [set_self]; exact HS.out
   have hrl:((partR (mkSes k) R j)[j]'(by omega)).length=6:=HS.out.1 _ (List.getElem_mem _)
   have HF:Hid ((partR (mkSes k) R j).set j (mkSes k j)=partR (mkSes k) R (j+1)):=partR_set _ _ _ (by omega)
   obtain ⟨y0,y1,y2,y3,y4,y5,hy⟩:∃ y0 y1 y2 y3 y4 y5,(partR (mkSes k) R j)[j]'(by omega)=[y0,y1,y2,y3,y4,y5]:=by
    match hh:(partR (mkSes k) R j)[j]'(by omega),hrl with
    | [y0,y1,y2,y3,y4,y5],_=>exact ⟨y0,y1,y2,y3,y4,y5,rfl⟩
   rw [hy] at hO0
   have hmk:mkSes k j=[.int .i64 (((k+6 * j:Nat):Int)),.int .i64 (((k+6 * j:Nat):Int)+1),.int .i64 (((k+6 * j:Nat):Int)+1+1),.int .i64 (((k+6 * j:Nat):Int)+1+1+1),.int .i64 (((k+6 * j:Nat):Int)+1+1+1+1),.string (mark (k+6 * j+5))]:=rfl
   rw [hmk] at HF
   have HM:Hid (((k+6 * (j+1):Nat):Int)=((k+6 * j:Nat):Int)+6):=by unfold Hid; omega
   have q4:((k+6 * j:Nat):Int)≤20000000:=by omega
   have HM1:Hid (1≤k+6 * j):=by unfold Hid; omega
   have HM2:Hid (k+6 * j≤20000000):=by unfold Hid; omega
   clear hmk hpl hrl hy
   generalize k+6 * j=m at *
   generalize partR (mkSes k) R j=P at *
   have hsz:=HB.out.size
   have hgw:g < wr.heap.size:=(hO0.lt g rfl).2
   obtain ⟨z0,d0⟩:=hO0.cellAt2 HN2.out hlt 0 (by omega)
   have f0:=hO0.free2 HN2.out (j * 6)
   rw [Nat.add_zero] at d0
   obtain ⟨z1,d1⟩:=hO0.cellAt2 HN2.out hlt 1 (by omega)
   have f1:=hO0.free2 HN2.out (j * 6+1)
   obtain ⟨z2,d2⟩:=hO0.cellAt2 HN2.out hlt 2 (by omega)
   have f2:=hO0.free2 HN2.out (j * 6+2)
   obtain ⟨z3,d3⟩:=hO0.cellAt2 HN2.out hlt 3 (by omega)
   have f3:=hO0.free2 HN2.out (j * 6+3)
   obtain ⟨z4,d4⟩:=hO0.cellAt2 HN2.out hlt 4 (by omega)
   have f4:=hO0.free2 HN2.out (j * 6+4)
   have p0:=(hO0).pokeAt HN2.out hlt 0 (by omega) (.int .i64 ((m:Int)))
   rw [Nat.add_zero] at p0
   have p1:=(p0).pokeAt HN2.out hlt 1 (by omega) (.int .i64 ((m:Int)+1))
   have p2:=(p1).pokeAt HN2.out hlt 2 (by omega) (.int .i64 ((m:Int)+1+1))
   have p3:=(p2).pokeAt HN2.out hlt 3 (by omega) (.int .i64 ((m:Int)+1+1+1))
   have p4:=(p3).pokeAt HN2.out hlt 4 (by omega) (.int .i64 ((m:Int)+1+1+1+1))
   have Q0:=hQz p4
   have D0:Hid (Below base w ((((((wr).setCell ⟨g,j * 6,none⟩ (.int .i64 ((m:Int)))).setCell ⟨g,j * 6+1,none⟩ (.int .i64 ((m:Int)+1))).setCell ⟨g,j * 6+2,none⟩ (.int .i64 ((m:Int)+1+1))).setCell ⟨g,j * 6+3,none⟩ (.int .i64 ((m:Int)+1+1+1))).setCell ⟨g,j * 6+4,none⟩ (.int .i64 ((m:Int)+1+1+1+1)))):=(((((HB.out).setCell (show base≤g from HG.out) _).setCell (show base≤g from HG.out) _).setCell (show base≤g from HG.out) _).setCell (show base≤g from HG.out) _).setCell (show base≤g from HG.out) _
   have E0:Hid (∀ b,b < w.heap.size → (Value.slice (some ⟨g,0,none⟩) n ca).ownBlock ≠ some b → ((((((wr).setCell ⟨g,j * 6,none⟩ (.int .i64 ((m:Int)))).setCell ⟨g,j * 6+1,none⟩ (.int .i64 ((m:Int)+1))).setCell ⟨g,j * 6+2,none⟩ (.int .i64 ((m:Int)+1+1))).setCell ⟨g,j * 6+3,none⟩ (.int .i64 ((m:Int)+1+1+1))).setCell ⟨g,j * 6+4,none⟩ (.int .i64 ((m:Int)+1+1+1+1))).heap[b]?=w.heap[b]?):=fun b hb hne=>by rw [Below.heap_setCell _ _ _ _ (show b ≠ g from fun e=>hne (by rw [e]; rfl)),Below.heap_setCell _ _ _ _ (show b ≠ g from fun e=>hne (by rw [e]; rfl)),Below.heap_setCell _ _ _ _ (show b ≠ g from fun e=>hne (by rw [e]; rfl)),Below.heap_setCell _ _ _ _ (show b ≠ g from fun e=>hne (by rw [e]; rfl)),Below.heap_setCell _ _ _ _ (show b ≠ g from fun e=>hne (by rw [e]; rfl))]; exact HK.out b hb hne
   clear p0 p1 p2 p3 p4
   have hsz0:base≤((((((wr).setCell ⟨g,j * 6,none⟩ (.int .i64 ((m:Int)))).setCell ⟨g,j * 6+1,none⟩ (.int .i64 ((m:Int)+1))).setCell ⟨g,j * 6+2,none⟩ (.int .i64 ((m:Int)+1+1))).setCell ⟨g,j * 6+3,none⟩ (.int .i64 ((m:Int)+1+1+1))).setCell ⟨g,j * 6+4,none⟩ (.int .i64 ((m:Int)+1+1+1+1))).heap.size:=Nat.le_trans hbase D0.out.size
   have hwz0:w.heap.size≤((((((wr).setCell ⟨g,j * 6,none⟩ (.int .i64 ((m:Int)))).setCell ⟨g,j * 6+1,none⟩ (.int .i64 ((m:Int)+1))).setCell ⟨g,j * 6+2,none⟩ (.int .i64 ((m:Int)+1+1))).setCell ⟨g,j * 6+3,none⟩ (.int .i64 ((m:Int)+1+1+1))).setCell ⟨g,j * 6+4,none⟩ (.int .i64 ((m:Int)+1+1+1+1))).heap.size:=D0.out.size
   have c1:Calls Tryz.prog 96 #[.int .i64 ((m:Int)+1+1+1+1+1)] ((((((wr).setCell ⟨g,j * 6,none⟩ (.int .i64 ((m:Int)))).setCell ⟨g,j * 6+1,none⟩ (.int .i64 ((m:Int)+1))).setCell ⟨g,j * 6+2,none⟩ (.int .i64 ((m:Int)+1+1))).setCell ⟨g,j * 6+3,none⟩ (.int .i64 ((m:Int)+1+1+1))).setCell ⟨g,j * 6+4,none⟩ (.int .i64 ((m:Int)+1+1+1+1))) fun e w'=>e=.returned (.string (mark (m+5)))∧Below ((((((wr).setCell ⟨g,j * 6,none⟩ (.int .i64 ((m:Int)))).setCell ⟨g,j * 6+1,none⟩ (.int .i64 ((m:Int)+1))).setCell ⟨g,j * 6+2,none⟩ (.int .i64 ((m:Int)+1+1))).setCell ⟨g,j * 6+3,none⟩ (.int .i64 ((m:Int)+1+1+1))).setCell ⟨g,j * 6+4,none⟩ (.int .i64 ((m:Int)+1+1+1+1))).heap.size ((((((wr).setCell ⟨g,j * 6,none⟩ (.int .i64 ((m:Int)))).setCell ⟨g,j * 6+1,none⟩ (.int .i64 ((m:Int)+1))).setCell ⟨g,j * 6+2,none⟩ (.int .i64 ((m:Int)+1+1))).setCell ⟨g,j * 6+3,none⟩ (.int .i64 ((m:Int)+1+1+1))).setCell ⟨g,j * 6+4,none⟩ (.int .i64 ((m:Int)+1+1+1+1))) w':=by
    have h:=markText (m+5) ((((((wr).setCell ⟨g,j * 6,none⟩ (.int .i64 ((m:Int)))).setCell ⟨g,j * 6+1,none⟩ (.int .i64 ((m:Int)+1))).setCell ⟨g,j * 6+2,none⟩ (.int .i64 ((m:Int)+1+1))).setCell ⟨g,j * 6+3,none⟩ (.int .i64 ((m:Int)+1+1+1))).setCell ⟨g,j * 6+4,none⟩ (.int .i64 ((m:Int)+1+1+1+1))) (by have:=HM1.out; omega) (by have:=HM2.out; omega)
    rw [show ((m+5:Nat):Int)=(m:Int)+1+1+1+1+1 by omega] at h
    exact h
   go_wp2_with fail
   refine c1.mono ?_
   rintro e x1 ⟨rfl,hx1⟩
   have O1:=hQz (Q0.out.on hx1)
   have B1:=hQz ((D0.out).trans (hx1.mono hsz0))
   have K1:Hid (∀ b,b < w.heap.size → (Value.slice (some ⟨g,0,none⟩) n ca).ownBlock ≠ some b → x1.heap[b]?=w.heap[b]?):=fun b hb hne=>(hx1.block b (Nat.lt_of_lt_of_le hb hwz0)).trans (E0.out b hb hne)
   have hwz:w.heap.size≤x1.heap.size:=B1.out.size
   clear hx1 c1
   obtain ⟨z5,d5⟩:=O1.out.cellAt2 HN2.out hlt 5 (by omega)
   have f5:=O1.out.free2 HN2.out (j * 6+5)
   have p5:=(O1.out).pokeAt HN2.out hlt 5 (by omega) (.string (mark (m+5)))
   have Q1:=hQz p5
   have D1:Hid (Below base w ((x1).setCell ⟨g,j * 6+5,none⟩ (.string (mark (m+5))))):=(B1.out).setCell (show base≤g from HG.out) _
   have E1:Hid (∀ b,b < w.heap.size → (Value.slice (some ⟨g,0,none⟩) n ca).ownBlock ≠ some b → ((x1).setCell ⟨g,j * 6+5,none⟩ (.string (mark (m+5)))).heap[b]?=w.heap[b]?):=fun b hb hne=>by rw [Below.heap_setCell _ _ _ _ (show b ≠ g from fun e=>hne (by rw [e]; rfl))]; exact K1.out b hb hne
   clear p5
   go_wp2_with fail
   go_roundw
   case rel=>exact ⟨j+1,by omega,by go_num,by rw [HM.out]; go_num,by rw [← HF.out]; exact Q1.out,D1.out,E1.out⟩
   case measure=>simp [intOf]; omega
  ·obtain rfl:j=n:=by omega
   go_wp2_with fail
   go_ret
   refine ⟨rfl,?_,HB.out,HK.out⟩
   have:=HS.out
   rw [← hn,partR_all] at this
   rw [← hn]
   exact this
theorem mkSes_look {w:World} {B k n:Nat} {v:Value} (h:Lies w B 6 v (newR (mkSes k) n)):∃ A cap,v=.slice A n cap∧∀ j,j < n → ∃ g off,A=some ⟨g,off,none⟩∧g < B∧w.cell? ⟨g,off+j * 6,none⟩=some (.int .i64 (((k+6 * j:Nat):Int)))∧w.cell? ⟨g,off+j * 6+1,none⟩=some (.int .i64 (((k+6 * j:Nat):Int)+1))∧w.cell? ⟨g,off+j * 6+2,none⟩=some (.int .i64 (((k+6 * j:Nat):Int)+1+1))∧w.cell? ⟨g,off+j * 6+3,none⟩=some (.int .i64 (((k+6 * j:Nat):Int)+1+1+1))∧w.cell? ⟨g,off+j * 6+4,none⟩=some (.int .i64 (((k+6 * j:Nat):Int)+1+1+1+1))∧w.cell? ⟨g,off+j * 6+5,none⟩=some (.string (mark (k+6 * j+5))):=by
 obtain ⟨A,cap,e,h⟩:=h.look
 rw [newR_length] at e
 refine ⟨A,cap,e,fun j hj=>?_⟩
 obtain ⟨g,off,e,hg,hc⟩:=h j (by rw [newR_length]; exact hj)
 have hr:(newR (mkSes k) n)[j]'(by rw [newR_length]; exact hj)=mkSes k j:=by simp [newR]
 rw [hr] at hc
 refine ⟨g,off,e,hg,?_,?_,?_,?_,?_,?_⟩
 ·have:=hc 0 _ (by omega) rfl; simpa [Nat.add_assoc] using this
 ·have:=hc 1 _ (by omega) rfl; simpa [Nat.add_assoc] using this
 ·have:=hc 2 _ (by omega) rfl; simpa [Nat.add_assoc] using this
 ·have:=hc 3 _ (by omega) rfl; simpa [Nat.add_assoc] using this
 ·have:=hc 4 _ (by omega) rfl; simpa [Nat.add_assoc] using this
 ·have:=hc 5 _ (by omega) rfl; simpa [Nat.add_assoc] using this
set_option maxHeartbeats 2000000 in
theorem heldSessionS (k n:Nat) (v:Value) (w:World) (B:Nat) (hv:Lies w B 6 v (newR (mkSes k) n)) (hl:n≤1048576) (h1:1≤k) (h2:k≤10000000) (hB:B≤w.heap.size) :
  Calls Tryz.prog 54 #[v,.int .i64 (k:Int)] w fun e w'=>e=.returned (.int .i64 ((k+6 * n:Nat):Int))∧Below w.heap.size w w':=by
 obtain ⟨A,ca,rfl,hl'⟩:=mkSes_look hv
 have HL:Hid (∀ j,j < n → ∃ g off,A=some ⟨g,off,none⟩∧g < B∧_):=hl'
 have HB:Hid (B≤w.heap.size):=hB
 have q1:(n:Int)≤1048576:=by omega
 have q3:(k:Int)≤10000000:=by omega
 clear hv hl hl' hB
 go_enter Tryz.func54,Tryz.ntmps54
 go_wp2_with fail
 go_loopw [1,5] (fun v1 v5 wr=>∃ j:Nat,j≤n∧v5=.int .i64 (j:Int)∧v1=.int .i64 ((k+6 * j:Nat):Int)∧Below w.heap.size w wr) (fun _ i _=>n - (intOf i).toNat)
 case atStart=>exact ⟨0,by omega,rfl,by simp,Below.refl _ _⟩
 case round =>
  obtain ⟨j,hj,rfl,rfl,hb⟩:=hrel
  have HB1:=hQz hb
  clear hb
  by_cases hlt:j < n
  ·have q2:(j:Int) < (n:Int):=by omega
   obtain ⟨g,off,rfl,hg,d0,d1,d2,d3,d4,d5⟩:=HL.out j hlt
   have hgw:g < w.heap.size:=Nat.lt_of_lt_of_le hg HB.out
   rw [← HB1.out.cell (p:=⟨_,_,none⟩) hgw] at d0
   rw [← HB1.out.cell (p:=⟨_,_,none⟩) hgw] at d1
   rw [← HB1.out.cell (p:=⟨_,_,none⟩) hgw] at d2
   rw [← HB1.out.cell (p:=⟨_,_,none⟩) hgw] at d3
   rw [← HB1.out.cell (p:=⟨_,_,none⟩) hgw] at d4
   rw [← HB1.out.cell (p:=⟨_,_,none⟩) hgw] at d5
   have HM:Hid (((k+6 * (j+1):Nat):Int)=((k+6 * j:Nat):Int)+6):=by unfold Hid; omega
   have q4:((k+6 * j:Nat):Int)≤20000000:=by omega
   have HM1:Hid (1≤k+6 * j):=by unfold Hid; omega
   have HM2:Hid (k+6 * j≤20000000):=by unfold Hid; omega
   generalize k+6 * j=m at *
   have hsz:=HB1.out.size
   have hgl:=hQz (Nat.lt_of_lt_of_le hgw hsz)
   have c5:∀ wx:World,Calls Tryz.prog 96 #[.int .i64 ((m:Int)+1+1+1+1+1)] wx fun e w'=>e=.returned (.string (mark (m+5)))∧Below wx.heap.size wx w':=fun wx=>by
    have h:=markText (m+5) wx (by have:=HM1.out; omega) (by have:=HM2.out; omega)
    rw [show ((m+5:Nat):Int)=(m:Int)+1+1+1+1+1 by omega] at h
    exact h
   clear hgw HL
   go_wp2_with fail
   (go_region_with (go_at_call 96; refine (c5 _).mono ?_; rintro e x0 ⟨rfl,hx0⟩; have a5:=(hx0.cell (p:=⟨g,off+j * 6+5,none⟩) hgl.out).trans d5; have hg0:Hid (g < x0.heap.size):=Nat.lt_of_lt_of_le hgl.out hx0.size))
   all_goals go_wp2_with fail
   all_goals exact ⟨⟨j+1,by omega,by go_num,by rw [HM.out]; go_num,(HB1.out).trans (((Below.refl _ wr).drew.trans hx0).mono hsz)⟩,by simp [intOf]; omega⟩
  ·obtain rfl:j=n:=by omega
   go_wp2_with fail
   go_ret
   exact ⟨rfl,HB1.out⟩
def kSe (x:Sta) (L:List (Ser × Value)):Nat:=kAt (1+2 * x.bks.length) L L.length+x.eng.files.length
def kEn (x:Sta) (L:List (Ser × Value)):Nat:=kSe x L+6 * x.ses.length
def StMk (w:World) (base:Nat) (x:Sta) (vb vc vf vs:Value) (L:List (Ser × Value)):Prop:=Owns w base 58 2 vb (newR (mkPt 1) x.bks.length)∧EMk w base (1+2 * x.bks.length) (.agg #[.int .i64 x.eng.floor,vc,vf]) L x.eng.files.length∧Owns w base 53 6 vs (newR (mkSes (kSe x L)) x.ses.length)
theorem StMk.on {w w':World} {base:Nat} {x:Sta} {vb vc vf vs:Value} {L:List (Ser × Value)} (h:StMk w base x vb vc vf vs L) (hb:Below w.heap.size w w'):StMk w' base x vb vc vf vs L:=⟨h.1.on hb,h.2.1.on hb,h.2.2.on hb⟩
def NotS (vb vc vf vs:Value) (L:List (Ser × Value)) (b:Nat):Prop:=vb.ownBlock ≠ some b∧NotE vc vf L b∧vs.ownBlock ≠ some b
def FewS (x:Sta) (L:List (Ser × Value)):Prop:=x.bks.length≤12∧L.length≤5∧(∀ q ∈ L,q.1.pts.length≤60)∧x.eng.files.length≤4∧x.ses.length≤4∧wtE x.eng≤1048576
theorem FewS.k {x:Sta} {L:List (Ser × Value)} (h:FewS x L):1≤kSe x L∧kSe x L≤1000∧kEn x L≤1100:=by
 obtain ⟨h1,h2,h3,h4,h5,_⟩:=h
 have:=kAt_le (k:=1+2 * x.bks.length) h3 L.length (Nat.le_refl _)
 unfold kEn kSe
 omega
theorem EMk.keep {w w':World} {base k:Nat} {f:Int} {vc vf:Value} {L:List (Ser × Value)} {n:Nat} (h:EMk w base k (.agg #[.int .i64 f,vc,vf]) L n) (hk:∀ b,b < w.heap.size → (vc.ownBlock=some b ∨ (∃ j,j < L.length∧(L.getD j default).2.ownBlock=some b) ∨ vf.ownBlock=some b) → w'.heap[b]?=w.heap[b]?):EMk w' base k (.agg #[.int .i64 f,vc,vf]) L n:=by
 obtain ⟨f',vc',vf',h1,h2,h3⟩:=h
 unfold vE at h1
 cases h1
 exact ⟨_,_,_,rfl,⟨h2.1.kept fun g hg hv=>hk g hg (.inl hv),fun j hj=>(h2.2 j hj).kept fun g hg hv=>hk g hg (.inr (.inl ⟨j,hj,hv⟩))⟩,h3.kept fun g hg hv=>hk g hg (.inr (.inr hv))⟩
set_option maxHeartbeats 4000000 in
theorem markState (x:Sta) (vb vc vf vs:Value) (L:List (Ser × Value)) (base:Nat) (w:World) (hB:Owns w base 58 2 vb (ptR x.bks)) (hL:L.map Prod.fst=x.eng.cache) (hC:SerO w base vc L) (hF:Strs w base vf x.eng.files) (hS:Owns w base 53 6 vs (sesR x.ses)) (hn:FewS x L) (hbs:base≤w.heap.size) :
  Calls Tryz.prog 15 #[.agg #[.int .i64 x.kind,.int .i64 x.hold,.int .i64 x.mark,vb,.int .i64 x.eng.floor,vc,vf,vs],.int .i64 1] w fun e w'=>e=.returned (.int .i64 ((kEn x L:Nat):Int))∧StMk w' base x vb vc vf vs L∧Below base w w'∧(∀ b,b < w.heap.size → NotS vb vc vf vs L b → w'.heap[b]?=w.heap[b]?):=by
 obtain ⟨Ab,nb,cb,rfl⟩:=hB.shape
 obtain ⟨Ac,nc,cc,rfl⟩:=hC.1.shape
 obtain ⟨Af,nf,cf,rfl⟩:=(strs_owns hF).shape
 obtain ⟨As,ns,cs,rfl⟩:=hS.shape
 have HBs:Hid (base≤w.heap.size):=hbs
 have HN:=Hid.mk hn
 have HL:=Hid.mk hL
 obtain ⟨X0,hX0⟩:∃ X0,X0=w.alloc (.cells #[.int .i64 x.kind,.int .i64 x.hold,.int .i64 x.mark,.slice Ab nb cb,.int .i64 x.eng.floor,.slice Ac nc cc,.slice Af nf cf,.slice As ns cs] 38):=⟨_,rfl⟩
 have BX:Hid (Below w.heap.size w X0):=by unfold Hid; rw [hX0]; exact (Below.refl _ w).alloc (Nat.le_refl _) _
 have K0:Hid (Blk X0 w.heap.size #[.int .i64 x.kind,.int .i64 x.hold,.int .i64 x.mark,.slice Ab nb cb,.int .i64 x.eng.floor,.slice Ac nc cc,.slice Af nf cf,.slice As ns cs] 38):=by unfold Hid; rw [hX0]; exact Blk.new w _ _
 have B0:=Hid.mk (hB.on BX.out)
 have C0:=Hid.mk (hC.on BX.out)
 have F0:=Hid.mk (hF.on BX.out)
 have S0:=Hid.mk (hS.on BX.out)
 clear hB hC hF hS hn hL hbs
 have c1:=markBucketS 1 base _ _ X0 B0.out (by rw [ptR_length]; have:=HN.out.1; omega) (by omega)
 rw [ptR_length] at c1
 have hk1':1+2 * x.bks.length≤1000:=by have:=HN.out.1; omega
 have c2:=fun (wx:World) hc hf hb=>markEngine x.eng (.agg #[.int .i64 x.eng.floor,.slice Ac nc cc,.slice Af nf cf]) (.slice Ac nc cc) (.slice Af nf cf) L base (1+2 * x.bks.length) wx rfl HL.out hc hf (by omega) hk1' HN.out.2.2.2.2.2 hb
 have c3:=fun (wx:World) hs hb=>markSessionS (kSe x L) base (.slice As ns cs) (sesR x.ses) wx hs (by rw [sesR_length]; have:=HN.out.2.2.2.2.1; omega) HN.out.k.1 (by have:=HN.out.k.2.1; omega) hb
 rw [sesR_length] at c3
 have HE:Hid (kAt (1+2 * x.bks.length) L L.length+x.eng.files.length=kSe x L):=rfl
 have HE2:Hid (kSe x L+6 * x.ses.length=kEn x L):=rfl
 have qk:=HN.out.k
 rw [HE.out] at c2
 rw [HE2.out] at c3
 have HD:Hid (∀ wx,Owns wx base 58 2 (.slice Ab nb cb) (newR (mkPt 1) x.bks.length) → EMk wx base (1+2 * x.bks.length) (.agg #[.int .i64 x.eng.floor,.slice Ac nc cc,.slice Af nf cf]) L x.eng.files.length → Owns wx base 53 6 (.slice As ns cs) (newR (mkSes (kSe x L)) x.ses.length) → StMk wx base x (.slice Ab nb cb) (.slice Ac nc cc) (.slice Af nf cf) (.slice As ns cs) L):=fun wx a b c=>⟨a,b,c⟩
 generalize newR (mkPt 1) x.bks.length=RB at *
 generalize newR (mkSes (kSe x L)) x.ses.length=RSe at *
 generalize kSe x L=k2 at *
 generalize kEn x L=k3 at *
 generalize 1+2 * x.bks.length=k1 at *
 generalize x.eng.files.length=nfl at *
 generalize sesR x.ses=RS0 at *
 generalize ptR x.bks=RB0 at *
 generalize x.eng.files=fs at *
 generalize x.kind=sk at *
 generalize x.hold=sh at *
 generalize x.mark=sm at *
 generalize x.eng.floor=sf at *
 clear HE HE2 HL HN
 have q1:(k1:Int)≤1000:=by omega
 have q2:(k2:Int)≤1000:=by omega
 have q3:(k3:Int)≤1100:=by omega
 have g3:=K0.out.cell 3 _ rfl
 go_enter Tryz.func15,Tryz.ntmps15
 go_wp2_with fail
 rw [← hX0]
 clear hX0
 refine c1.mono ?_
 rintro b X1 ⟨rfl,hM,hb1,hk1⟩
 have HZ1:=hQz (hb1.size)
 have M1:=Hid.mk hM
 have D1:=hQz ((BX.out.mono HBs.out).trans hb1)
 have K1:Hid (Blk X1 w.heap.size #[.int .i64 sk,.int .i64 sh,.int .i64 sm,.slice Ab nb cb,.int .i64 sf,.slice Ac nc cc,.slice Af nf cf,.slice As ns cs] 38):=(hk1 _ (B0.out.notBlk K0.out (by decide))).trans K0.out
 have C1:Hid (SerO X1 base (.slice Ac nc cc) L):=⟨C0.out.1.kept fun g hg hv=>hk1 g fun h=>C0.out.1.apartT B0.out (by decide) g hv h,fun p hp=>(C0.out.2.1 p hp).kept fun g hg hv=>hk1 g fun h=>(C0.out.2.1 p hp).apartT B0.out (by decide) g hv h,C0.out.2.2⟩
 have F1:Hid (Strs X1 base (.slice Af nf cf) fs):=F0.out.kept fun g hg hv=>hk1 g fun h=>(strs_owns F0.out).apartT B0.out (by decide) g hv h
 have S1:Hid (Owns X1 base 53 6 (.slice As ns cs) RS0):=S0.out.kept fun g hg hv=>hk1 g fun h=>S0.out.apartT B0.out (by decide) g hv h
 have E1:Hid (∀ b,b < w.heap.size → NotS (.slice Ab nb cb) (.slice Ac nc cc) (.slice Af nf cf) (.slice As ns cs) L b → X1.heap[b]?=w.heap[b]?):=fun b hb hN=>(hk1 b hN.1).trans (BX.out.block b hb)
 clear hM hb1 hk1 c1 B0 C0 F0 S0 K0 g3
 have g4:=K1.out.cell 4 _ rfl
 have g5:=K1.out.cell 5 _ rfl
 have g6:=K1.out.cell 6 _ rfl
 go_wp2_with fail
 refine (c2 _ C1.out F1.out (Nat.le_trans HBs.out D1.out.size)).mono ?_
 rintro b X2 ⟨rfl,hM,hb2,hk2⟩
 have M2:=Hid.mk hM
 have D2:=hQz (D1.out.trans hb2)
 have HNE:∀ b,(∀ g,(Value.slice Ac nc cc).ownBlock=some g → g ≠ b) → (∀ q ∈ L,∀ g,q.2.ownBlock=some g → g ≠ b) → (∀ g,(Value.slice Af nf cf).ownBlock=some g → g ≠ b) → NotE (.slice Ac nc cc) (.slice Af nf cf) L b:=fun b h1 h2 h3=>⟨fun h=>h1 b h rfl,fun j hj h=>h2 _ (getD_mem L j hj) b h rfl,fun h=>h3 b h rfl⟩
 have hne:∀ (v:Value) (e:TypeId) (sz:Nat) (r:List (List Value)),Owns X1 base e sz v r → e ≠ 101 → e ≠ 98 → e ≠ 9 → Owns X2 base e sz v r:=fun v e sz r ho n1 n2 n3=>ho.kept fun g hg hv=>hk2 g hg (HNE g (fun g' h e'=>ho.apartT C1.out.1 n1 g hv (e' ▸ h)) (fun q hq g' h e'=>ho.apartT (C1.out.2.1 q hq) n2 g hv (e' ▸ h)) (fun g' h e'=>ho.apartT (strs_owns F1.out) n3 g hv (e' ▸ h)))
 have N1:Hid (Owns X2 base 58 2 (.slice Ab nb cb) RB):=hne _ _ _ _ M1.out (by decide) (by decide) (by decide)
 have S2:Hid (Owns X2 base 53 6 (.slice As ns cs) RS0):=hne _ _ _ _ S1.out (by decide) (by decide) (by decide)
 have K2:Hid (Blk X2 w.heap.size #[.int .i64 sk,.int .i64 sh,.int .i64 sm,.slice Ab nb cb,.int .i64 sf,.slice Ac nc cc,.slice Af nf cf,.slice As ns cs] 38):=(hk2 _ K1.out.lt ⟨C1.out.1.notBlk K1.out (by decide),fun j hj=>(C1.out.2.1 _ (getD_mem L j hj)).notBlk K1.out (by decide),(strs_owns F1.out).notBlk K1.out (by decide)⟩).trans K1.out
 have E2:Hid (∀ b,b < w.heap.size → NotS (.slice Ab nb cb) (.slice Ac nc cc) (.slice Af nf cf) (.slice As ns cs) L b → X2.heap[b]?=w.heap[b]?):=fun b hb hN=>(hk2 b (Nat.lt_of_lt_of_le hb D1.out.size) hN.2.1).trans (E1.out b hb hN)
 have AP:Hid (∀ g,(Value.slice As ns cs).ownBlock=some g → (Value.slice Ac nc cc).ownBlock ≠ some g∧(∀ j,j < L.length → (L.getD j default).2.ownBlock ≠ some g)∧(Value.slice Af nf cf).ownBlock ≠ some g):=fun g hg=>⟨fun h=>S1.out.apartT C1.out.1 (by decide) g hg h,fun j hj h=>S1.out.apartT (C1.out.2.1 _ (getD_mem L j hj)) (by decide) g hg h,fun h=>S1.out.apartT (strs_owns F1.out) (by decide) g hg h⟩
 clear hM hb2 hk2 c2 HNE hne C1 F1 S1 K1 E1 M1 g4 g5 g6
 have g7:=K2.out.cell 7 _ rfl
 go_wp2_with fail
 refine (c3 _ S2.out (Nat.le_trans HBs.out D2.out.size)).mono ?_
 rintro b X3 ⟨rfl,hM,hb3,hk3⟩
 have D3:=hQz (D2.out.trans hb3)
 have N2:Hid (Owns X3 base 58 2 (.slice Ab nb cb) RB):=N1.out.kept fun g hg hv=>hk3 g hg fun h=>N1.out.apartT S2.out (by decide) g hv h
 have M3:Hid (EMk X3 base k1 (.agg #[.int .i64 sf,.slice Ac nc cc,.slice Af nf cf]) L nfl):=M2.out.keep fun g hg hv=>hk3 g hg fun h=>by
  rcases hv with hv | ⟨j,hj,hv⟩ | hv
  ·exact (AP.out g h).1 hv
  ·exact (AP.out g h).2.1 j hj hv
  ·exact (AP.out g h).2.2 hv
 have E3:Hid (∀ b,b < w.heap.size → NotS (.slice Ab nb cb) (.slice Ac nc cc) (.slice Af nf cf) (.slice As ns cs) L b → X3.heap[b]?=w.heap[b]?):=fun b hb hN=>(hk3 b (Nat.lt_of_lt_of_le hb D2.out.size) hN.2.2).trans (E2.out b hb hN)
 have HM:=Hid.mk (HD.out _ N2.out M3.out hM)
 clear hM hb3 hk3 c3 g7
 go_wp2_with fail
 go_ret
 exact ⟨rfl,HM.out,D3.out,E3.out⟩
set_option maxHeartbeats 4000000 in
theorem heldState (x:Sta) (vb vc vf vs:Value) (L:List (Ser × Value)) (base:Nat) (w:World) (h:StMk w base x vb vc vf vs L) (hn:FewS x L) :
  Calls Tryz.prog 16 #[.agg #[.int .i64 x.kind,.int .i64 x.hold,.int .i64 x.mark,vb,.int .i64 x.eng.floor,vc,vf,vs],.int .i64 1] w fun e w'=>e=.returned (.int .i64 ((kEn x L:Nat):Int))∧Below w.heap.size w w':=by
 obtain ⟨h1,h2,h3⟩:=h
 obtain ⟨Ab,nb,cb,rfl⟩:=h1.shape
 obtain ⟨As,ns,cs,rfl⟩:=h3.shape
 obtain ⟨Ac,nc,cc,Af,nf,cf,rfl,rfl⟩:∃ Ac nc cc Af nf cf,vc=.slice Ac nc cc∧vf=.slice Af nf cf:=by
  obtain ⟨f',vc',vf',e,a,b⟩:=h2
  unfold vE at e
  cases e
  obtain ⟨Ac,nc,cc,rfl⟩:=a.1.shape
  obtain ⟨Af,nf,cf,rfl⟩:=(strs_owns b).shape
  exact ⟨_,_,_,_,_,_,rfl,rfl⟩
 have HN:=Hid.mk hn
 obtain ⟨X0,hX0⟩:∃ X0,X0=w.alloc (.cells #[.int .i64 x.kind,.int .i64 x.hold,.int .i64 x.mark,.slice Ab nb cb,.int .i64 x.eng.floor,.slice Ac nc cc,.slice Af nf cf,.slice As ns cs] 38):=⟨_,rfl⟩
 have BX:Hid (Below w.heap.size w X0):=by unfold Hid; rw [hX0]; exact (Below.refl _ w).alloc (Nat.le_refl _) _
 have K0:Hid (Blk X0 w.heap.size #[.int .i64 x.kind,.int .i64 x.hold,.int .i64 x.mark,.slice Ab nb cb,.int .i64 x.eng.floor,.slice Ac nc cc,.slice Af nf cf,.slice As ns cs] 38):=by unfold Hid; rw [hX0]; exact Blk.new w _ _
 have c1:=heldBucketS 1 x.bks.length _ X0 _ (h1.on BX.out).lies (by have:=hn.1; omega) (by omega)
 have H2:=Hid.mk (h2.on BX.out)
 have H3:=Hid.mk (h3.on BX.out)
 clear h1 h2 h3
 have c2:=fun (wx:World) hm=>heldEngine (.agg #[.int .i64 x.eng.floor,.slice Ac nc cc,.slice Af nf cf]) L base (1+2 * x.bks.length) x.eng.files.length wx hm HN.out.2.1 HN.out.2.2.1 (by omega) (by have:=HN.out.1; omega) (by have:=HN.out.2.2.2.1; omega)
 have c3:=fun (wx:World) hs=>heldSessionS (kSe x L) x.ses.length (.slice As ns cs) wx wx.heap.size hs (by have:=HN.out.2.2.2.2.1; omega) HN.out.k.1 (by have:=HN.out.k.2.1; omega) (Nat.le_refl _)
 have HE:Hid (kAt (1+2 * x.bks.length) L L.length+x.eng.files.length=kSe x L):=rfl
 have HE2:Hid (kSe x L+6 * x.ses.length=kEn x L):=rfl
 have qk:=HN.out.k
 have qb:=HN.out.1
 rw [HE.out] at c2
 rw [HE2.out] at c3
 generalize newR (mkSes (kSe x L)) x.ses.length=RSe at *
 generalize kSe x L=k2 at *
 generalize kEn x L=k3 at *
 generalize hk1:1+2 * x.bks.length=k1 at *
 generalize x.eng.files.length=nfl at *
 generalize x.kind=sk at *
 generalize x.hold=sh at *
 generalize x.mark=sm at *
 generalize x.eng.floor=sf at *
 have q1:(k1:Int)≤1000:=by omega
 have q2:(k2:Int)≤1000:=by omega
 have q3:(k3:Int)≤1100:=by omega
 have d1:decide ((k1:Int) < 0)=false:=decide_eq_false (by omega)
 have d2:decide ((k2:Int) < 0)=false:=decide_eq_false (by omega)
 have d3:decide ((k3:Int) < 0)=false:=decide_eq_false (by omega)
 clear HE HE2 HN hn hk1 qb
 have g3:=K0.out.cell 3 _ rfl
 go_enter Tryz.func16,Tryz.ntmps16
 go_wp2_with fail
 rw [← hX0]
 clear hX0
 refine c1.mono ?_
 rintro b X1 ⟨rfl,rfl⟩
 clear c1 g3
 have g4:=K0.out.cell 4 _ rfl
 have g5:=K0.out.cell 5 _ rfl
 have g6:=K0.out.cell 6 _ rfl
 go_wp2_with fail
 refine (c2 _ H2.out).mono ?_
 rintro b X2 ⟨rfl,hb2⟩
 have B2:=hQz (BX.out.trans (hb2.mono BX.out.size))
 have S2:=Hid.mk (H3.out.on hb2)
 have K2:=Hid.mk (K0.out.on hb2 K0.out.lt)
 clear hb2 c2 g4 g5 g6
 have g7:=K2.out.cell 7 _ rfl
 go_wp2_with fail
 refine (c3 _ S2.out.lies).mono ?_
 rintro b X3 ⟨rfl,hb3⟩
 have B3:=hQz (B2.out.trans (hb3.mono B2.out.size))
 clear hb3 c3 g7
 go_wp2_with fail
 go_ret
 exact ⟨rfl,B3.out⟩
theorem one_of {l:List Int} (h:l.length=1):∃ a,l=[a]:=by
 match l,h with
 | [a],_=>exact ⟨a,rfl⟩
theorem two_of {l:List Int} (h:l.length=2):∃ a b,l=[a,b]:=by
 match l,h with
 | [a,b],_=>exact ⟨a,b,rfl⟩
theorem three_of {l:List Int} (h:l.length=3):∃ a b c,l=[a,b,c]:=by
 match l,h with
 | [a,b,c],_=>exact ⟨a,b,c,rfl⟩
def PcA (s:ByteArray) (a:Nat) (e:Ending):Prop:=(∃ t n,PcRd s a t n∧e=.returned (.tuple #[.string t,.int .i64 ((n:Nat):Int)])) ∨ ((∀ t n,¬ PcRd s a t n)∧e=.returned (.tuple #[.string ⟨#[]⟩,.int .i64 (-1)]))
set_option maxHeartbeats 2000000 in
theorem specPieceAt (s:ByteArray) (a:Nat) (w:World) (hs:s.size≤1048576) (ha:a≤2097152) :
  Calls Tryz.prog 87 #[.string s,.int .i64 (a:Int)] w fun e w'=>PcA s a e∧Below w.heap.size w w':=by
 have c:=fun wx=>specVars s a 1 wx hs ha (by omega)
 have HS:Hid (s.size≤1048576):=hs
 clear hs ha
 go_enter Tryz.func87,Tryz.ntmps87
 go_wp2_with fail
 refine (c _).mono ?_
 rintro e w1 ⟨hR,hb1⟩
 have B1:=hQz hb1
 clear hb1 c
 rcases hR with ⟨l,n,u,hR,rfl,hN⟩ | ⟨hno,u,rfl⟩
 rotate_left
 ·have HN:Hid (∀ t n,¬ PcRd s a t n):=by
   rintro t n ⟨b,h1,_⟩
   exact hno _ _ h1
  clear hno
  go_wp2_with fail
  go_ret2
  exact ⟨.inr ⟨HN.out,rfl⟩,B1.out⟩
 obtain ⟨z,rfl⟩:=one_of hR.length
 have HR:=hQz hR
 have hns:=hR.ge.2 (by omega)
 have hz:=hR.bound z (by simp)
 obtain ⟨zn,rfl⟩:∃ zn:Nat,z=(zn:Int):=⟨_,(Int.toNat_of_nonneg hz.1).symm⟩
 obtain ⟨g,cap,rfl⟩:∃ g cap,u=.slice (some ⟨g,0,none⟩) 1 cap:=by
  rcases hN.form with ⟨_,h⟩ | ⟨g,cap,h,_⟩
  ·cases h
  ·exact ⟨g,cap,h⟩
 have e0:w1.cell? ⟨g,0,none⟩=some (.int .i64 (zn:Int)):=hN.cell 0 (by simp)
 have q0:¬ (n:Int) < 0:=by omega
 have q1:(n:Int)≤(s.size:Int):=by omega
 have q2:(s.size:Int)≤1048576:=by have:=HS.out; omega
 have e9:IntKind.i64.wrap ((s.size:Int) - (n:Int))=(s.size:Int) - (n:Int):=by rw [IntKind.wrap_i64]; omega
 have q4:(zn:Int)≤562949953421311:=hz.2
 have q5:(0:Int)≤(zn:Int):=by omega
 clear hR hN hz
 by_cases hzn:n+zn≤s.size
 rotate_left
 ·have HN:Hid (∀ t n,¬ PcRd s a t n):=by
   rintro t m ⟨b,h1,h2,h3,h4⟩
   obtain ⟨e,rfl⟩:=h1.one HR.out
   simp only [List.cons.injEq,and_true] at e
   omega
  have q3:(s.size:Int) - (n:Int) < (zn:Int):=by omega
  clear hzn hns
  go_wp2_with fail
  go_ret2
  exact ⟨.inr ⟨HN.out,rfl⟩,B1.out⟩
 have q3:¬ (s.size:Int) - (n:Int) < (zn:Int):=by omega
 have HP:Hid (PcRd s a (s.extract n (n+zn)) (n+zn)):=by
  have hsz:(s.extract n (n+zn)).size=zn:=by rw [ByteArray.size_extract]; omega
  refine ⟨n,?_,by rw [hsz],hzn,rfl⟩
  rw [hsz]
  exact HR.out
 have e8:IntKind.i64.wrap ((n:Int)+(zn:Int))=((n+zn:Nat):Int):=by rw [IntKind.wrap_i64]; omega
 have q6:(n:Int)≤((n+zn:Nat):Int):=by omega
 have q7:((n+zn:Nat):Int)≤(s.size:Int):=by omega
 generalize n+zn=m at *
 clear hzn hns
 go_wp2_with fail
 have S0:Hid (w1.drew.cell? ⟨g,0,none⟩=some (.int .i64 (zn:Int))):=e0
 have B2:Hid (Below w.heap.size w w1.drew):=B1.out.drew
 refine wp_region_until (fun w'=>w'.cell? ⟨g,0,none⟩=some (.int .i64 (zn:Int))) (fun _=>false) 15 (by rfl) (by kernel_rfl) ?_
 clear e0 B1
 generalize w1.drew=Y at *
 refine tF 0 S0.out ?_
 refine tF 1 S0.out ?_
 refine tF 2 S0.out ?_
 refine tF 3 S0.out ?_
 refine tF 4 S0.out ?_
 refine tF 5 S0.out ?_
 refine tF 6 S0.out ?_
 refine tF 7 S0.out ?_
 refine tF 8 S0.out ?_
 refine tF 9 S0.out ?_
 refine tF 10 S0.out ?_
 refine tF 11 S0.out ?_
 refine tF 12 S0.out ?_
 refine pF 13 ?_
 refine pF 14 ?_
 refine until_done (by kernel_rfl) ?_ _
 go_wp2_with fail
 go_ret2
 exact ⟨.inl ⟨_,m,HP.out,rfl⟩,B2.out⟩
end Go.Proofs.YthhamlahdjokkaaGreatDoor
