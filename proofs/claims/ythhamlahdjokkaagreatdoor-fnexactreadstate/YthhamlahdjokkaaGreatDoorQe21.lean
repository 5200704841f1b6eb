/- CmAnsP IgPar IgReS -/
import Derived.Test.YthhamlahdjokkaaGreatDoorQe20
import Derived.Deep.CutBlock
open List (setIfInBounds_toArray set_cons_zero set_cons_succ)
namespace Go.Proofs.YthhamlahdjokkaaGreatDoor
open Go.ChangeShapes Go.WideShapes Go.ChangeAt Go.RowKit Go.PlainAid
set_option linter.unusedVariables false
theorem ansT_back {s:ByteArray} {c i m:Int} {n:Nat} (h:RdF s 0 3 [c,i,m] n) (ho:ansOk ⟨c,i,m,lf s n⟩=true):ansT ⟨c,i,m,lf s n⟩=s:=by
 have h1:=h.text
 have h2:=cut_in_two s n (h.ge.2 (by omega))
 unfold ansT
 rw [if_pos ho]
 simp only
 conv=>rhs; rw [h2,h1]
 simp [varsT,ByteArray.append_assoc]
theorem text_neq {a b:ByteArray} (h:¬ a=b):¬ a.toList=b.toList∧(a.toList == b.toList)=false∧(a.toList != b.toList)=true:=by
 have:¬ a.toList=b.toList:=by
  intro e
  rw [Lib.toList_data,Lib.toList_data] at e
  exact h (ByteArray.ext (Array.toList_inj.1 e))
 exact ⟨this,by simpa using this,by simpa [bne] using this⟩
set_option maxHeartbeats 2000000 in
theorem specReadAnswer (s:ByteArray) (w:World) (hs:s.size≤1048576) :
  Calls Tryz.prog 89 #[.string s] w fun e w'=>AnsA s e∧Below w.heap.size w w':=by
 have c:=fun wx=>specVars s 0 3 wx hs (by omega) (by omega)
 have k0:=Blk.new w #[.int .i64 0,.int .i64 0,.int .i64 0,.string ⟨#[]⟩] 51
 have hb0:=(Below.refl w.heap.size w).alloc (Nat.le_refl _) (.cells #[.int .i64 0,.int .i64 0,.int .i64 0,.string ⟨#[]⟩] 51)
 have HS:Hid (s.size≤1048576):=hs
 clear hs
 go_enter Tryz.func89,Tryz.ntmps89
 go_wp2_with fail
 generalize w.alloc (.cells #[.int .i64 0,.int .i64 0,.int .i64 0,.string ⟨#[]⟩] 51)=X at *
 refine (c _).mono ?_
 rintro e w1 ⟨hR,hb1⟩
 have k1:=Hid.mk (k0.on hb1 k0.lt)
 have B1:=hQz (hb0.trans (hb1.mono hb0.size))
 clear hb1 k0 c
 rcases hR with ⟨l,n,u,hR,rfl,hN⟩ | ⟨hno,u,rfl⟩
 rotate_left
 ·have HN:Hid (∀ x,¬ AnsRd s x):=by
   rintro x ⟨c,i,m,n,h1,_⟩
   exact hno _ _ h1
  clear hno hb0
  obtain ⟨⟨r0,s0⟩,⟨r1,s1⟩,⟨r2,s2⟩,⟨r3,s3⟩,y0,y1,y2,y3⟩:=resC4 (x0:=.int .i64 0) (x1:=.int .i64 0) (x2:=.int .i64 0) (x3:=.string ⟨#[]⟩) k1.out
  have B2:Hid (Below w.heap.size w _):=belowC4 B1.out (Nat.le_refl _) (.int .i64 0) (.int .i64 0) (.int .i64 0) (.string ⟨#[]⟩)
  go_wp2_with fail
  exact bodyPost_ret (v:=.tuple #[.agg #[.int .i64 0,.int .i64 0,.int .i64 0,.string ⟨#[]⟩],.bool false]) (by simp [results,go_sem,y0,y1,y2,y3]) rfl ⟨.inr ⟨HN.out,rfl⟩,B2.out⟩
 have hl:=hR.length
 obtain ⟨z0,z1,z2,rfl⟩:∃ a b c,l=[a,b,c]:=by
  match l,hl with
  | [a,b,c],_=>exact ⟨a,b,c,rfl⟩
 have HR:=hQz hR
 have hns:=hR.ge.2 (by omega)
 have HB0:=hQz (hb0.size)
 have HNE:Hid (¬ s=⟨#[]⟩):=by
  intro e
  have:=hR.ge
  rw [e] at hns
  have h0:(⟨#[]⟩:ByteArray).size=0:=rfl
  omega
 obtain ⟨g,cap,rfl,hg1,hg2⟩:∃ g cap,u=.slice (some ⟨g,0,none⟩) 3 cap∧X.heap.size≤g∧g < w1.heap.size:=by
  rcases hN.form with ⟨_,h⟩ | ⟨g,cap,h,_,_,h1,h2⟩
  ·cases h
  ·exact ⟨g,cap,h,h1,h2⟩
 have e0:w1.cell? ⟨g,0,none⟩=some (.int .i64 z0):=hN.cell 0 (by simp)
 have e1:w1.cell? ⟨g,1,none⟩=some (.int .i64 z1):=hN.cell 1 (by simp)
 have e2:w1.cell? ⟨g,2,none⟩=some (.int .i64 z2):=hN.cell 2 (by simp)
 have SS:Hid (w1.drew.cell? ⟨g,0,none⟩=some (.int .i64 z0)∧w1.drew.cell? ⟨g,1,none⟩=some (.int .i64 z1)∧w1.drew.cell? ⟨g,2,none⟩=some (.int .i64 z2)):=⟨e0,e1,e2⟩
 have q1:(n:Int)≤(s.size:Int):=by omega
 have q2:(s.size:Int)≤1048576:=by have:=HS.out; omega
 have HL:Hid ((lf s n).size≤1048576):=by unfold Hid; rw [lf_size]; have:=HS.out; omega
 have HG:Hid (g < w1.heap.size):=hg2
 clear hR hl hN e0 e1 e2 hb0 hg1 hg2 hns
 have HEX:Hid (s.extract n s.size=lf s n):=rfl
 go_wp2_with fail
 refine wp_region_until (fun w'=>w'.cell? ⟨g,0,none⟩=some (.int .i64 z0)∧w'.cell? ⟨g,1,none⟩=some (.int .i64 z1)∧w'.cell? ⟨g,2,none⟩=some (.int .i64 z2)) (fun i=>i == 14) 15 (by rfl) (by kernel_rfl) ?_
 have B1':Hid (Below w.heap.size w w1.drew):=B1.out.drew
 have k1':Hid (Blk w1.drew w.heap.size #[.int .i64 0,.int .i64 0,.int .i64 0,.string ⟨#[]⟩] 51):=k1.out
 have HG':Hid (g < w1.drew.heap.size):=HG.out
 clear k1 B1 HG
 generalize w1.drew=Y at *
 refine pUf 0 ?_
 refine pUf 1 ?_
 refine tKf 2 SS.out ?_
 refine pUf 3 ?_
 refine pUf 4 ?_
 refine tKf 5 SS.out ?_
 refine pUf 6 ?_
 refine pUf 7 ?_
 refine tKf 8 SS.out ?_
 refine pUf 9 ?_
 refine pUf 10 ?_
 refine pUf 11 ?_
 refine pUf 12 ?_
 rw [HEX.out]
 clear HEX
 have HX1:Hid (ansOk ⟨z0,z1,z2,lf s n⟩=true → AnsRd s ⟨z0,z1,z2,lf s n⟩∧ansT ⟨z0,z1,z2,lf s n⟩=s):=fun h=>⟨⟨z0,z1,z2,n,HR.out,rfl,h⟩,ansT_back HR.out h⟩
 have HX2:Hid (ansOk ⟨z0,z1,z2,lf s n⟩=false → (∀ x,¬ AnsRd s x)∧ansT ⟨z0,z1,z2,lf s n⟩=⟨#[]⟩):=by
  intro h
  refine ⟨?_,by unfold ansT; rw [h]; rfl⟩
  rintro x ⟨c,i,m,n',h1,rfl,h3⟩
  obtain ⟨e,rfl⟩:=h1.one HR.out
  simp only [List.cons.injEq,and_true] at e
  obtain ⟨rfl,rfl,rfl⟩:=e
  rw [h] at h3
  cases h3
 generalize lf s n=d at *
 refine uNe 13 (fun K hK=>?_)
 go_simp
 have S2:Hid ((Y.alloc (.cells #[.int .i64 0,.int .i64 0,.int .i64 0,.string ⟨#[]⟩] 51)).cell? ⟨g,0,none⟩=some (.int .i64 z0)∧(Y.alloc (.cells #[.int .i64 0,.int .i64 0,.int .i64 0,.string ⟨#[]⟩] 51)).cell? ⟨g,1,none⟩=some (.int .i64 z1)∧(Y.alloc (.cells #[.int .i64 0,.int .i64 0,.int .i64 0,.string ⟨#[]⟩] 51)).cell? ⟨g,2,none⟩=some (.int .i64 z2)):=by
  have hb:=below_a1 Y (.cells #[.int .i64 0,.int .i64 0,.int .i64 0,.string ⟨#[]⟩] 51)
  exact ⟨by rw [hb.cell HG'.out]; exact SS.out.1,by rw [hb.cell HG'.out]; exact SS.out.2.1,by rw [hb.cell HG'.out]; exact SS.out.2.2⟩
 refine hK.out _ _ (fun _ _=>S2.out) ?_
 clear hK K
 try simp only [Act.put,zQ1,zQ2,zQ3]
 refine uNe 14 (fun K hK=>?_)
 go_simp
 refine hK.out _ _ (fun h=>by cases h) ?_
 clear hK K
 try simp only [Act.put,zQ1,zQ2,zQ3]
 refine until_done (by kernel_rfl) ?_ _
 have kA:=Blk.new Y #[.int .i64 z0,.int .i64 z1,.int .i64 z2,.string d] 51
 have kR:=k1'.out.alloc (.cells #[.int .i64 z0,.int .i64 z1,.int .i64 z2,.string d] 51)
 have hbA:=B1'.out.alloc B1'.out.size (.cells #[.int .i64 z0,.int .i64 z1,.int .i64 z2,.string d] 51)
 obtain ⟨c0,c1,c2,c3⟩:=cellsC4 kA
 clear S2 SS k1' B1'
 go_wp2_with fail
 generalize Y.alloc (.cells #[.int .i64 z0,.int .i64 z1,.int .i64 z2,.string d] 51)=V at *
 refine (specShowAnswer ⟨z0,z1,z2,d⟩ _ (by have:=HL.out; simp only [maxLen]; omega)).mono ?_
 rintro e w2 ⟨rfl,hb⟩
 have A2:=Hid.mk (kA.on hb kA.lt)
 have R2:=Hid.mk (kR.on hb kR.lt)
 have B2:=hQz (hbA.trans (hb.mono hbA.size))
 clear hb kA kR hbA c0 c1 c2 c3
 generalize ansT ⟨z0,z1,z2,d⟩=T at *
 cases ho:ansOk ⟨z0,z1,z2,d⟩
 ·obtain ⟨HN,hT⟩:=HX2.out ho
  have HN:Hid (∀ x,¬ AnsRd s x):=HN
  obtain ⟨hq1,hq2,hq3⟩:=text_neq (a:=T) (b:=s) (by rw [hT]; exact fun e=>HNE.out e.symm)
  clear hT ho HX1 HX2
  obtain ⟨⟨r0,s0⟩,⟨r1,s1⟩,⟨r2,s2⟩,⟨r3,s3⟩,y0,y1,y2,y3⟩:=resC4 (x0:=.int .i64 0) (x1:=.int .i64 0) (x2:=.int .i64 0) (x3:=.string ⟨#[]⟩) R2.out
  have B3:Hid (Below w.heap.size w _):=belowC4 B2.out (Nat.le_refl _) (.int .i64 0) (.int .i64 0) (.int .i64 0) (.string ⟨#[]⟩)
  go_wp2_with fail
  exact bodyPost_ret (v:=.tuple #[.agg #[.int .i64 0,.int .i64 0,.int .i64 0,.string ⟨#[]⟩],.bool false]) (by simp [results,go_sem,y0,y1,y2,y3]) rfl ⟨.inr ⟨HN.out,rfl⟩,B3.out⟩
 ·obtain ⟨hx,hT⟩:=HX1.out ho
  have HX:Hid (AnsRd s ⟨z0,z1,z2,d⟩):=hx
  subst hT
  clear hx ho HX1 HX2
  obtain ⟨c0,c1,c2,c3⟩:=cellsC4 A2.out
  obtain ⟨⟨r0,s0⟩,⟨r1,s1⟩,⟨r2,s2⟩,⟨r3,s3⟩,y0,y1,y2,y3⟩:=resC4 (x0:=.int .i64 z0) (x1:=.int .i64 z1) (x2:=.int .i64 z2) (x3:=.string d) R2.out
  have B3:Hid (Below w.heap.size w _):=belowC4 B2.out (Nat.le_refl _) (.int .i64 z0) (.int .i64 z1) (.int .i64 z2) (.string d)
  go_wp2_with fail
  exact bodyPost_ret (v:=.tuple #[.agg #[.int .i64 z0,.int .i64 z1,.int .i64 z2,.string d],.bool true]) (by simp [results,go_sem,y0,y1,y2,y3]) rfl ⟨.inl ⟨_,HX.out,rfl⟩,B3.out⟩
def ParA (s:ByteArray) (base:Nat) (e:Ending) (w':World):Prop:=(∃ x c u,StaP s x c∧CaSp c x.eng.cache∧e=.returned (.tuple #[u,.bool true])∧StaO w' base u x) ∨ (NoP s∧∃ (k h m f:Int) (A1 A2 A3 A4:Option Addr) (m1 c1 m2 c2 m3 c3 m4 c4:Nat),e=.returned (.tuple #[.agg #[.int .i64 k,.int .i64 h,.int .i64 m,.slice A1 m1 c1,.int .i64 f,.slice A2 m2 c2,.slice A3 m3 c3,.slice A4 m4 c4],.bool false]))
theorem IgS.put8 {X:World} {base gx:Nat} {k h m f:Int} {vb vc vf vs:Value} {bks:List Pnt} {L:List (Ser × Value)} {fs:List ByteArray} {ses:List Ses} (i:IgS X base gx k h m f vb vc vf vs bks L fs ses) {g:Nat} (hr:g < gx) (x0 x1 x2 x3 x4 x5 x6 x7:Value):IgS ((((((((X.setCell ⟨g,0,none⟩ x0).setCell ⟨g,1,none⟩ x1).setCell ⟨g,2,none⟩ x2).setCell ⟨g,3,none⟩ x3).setCell ⟨g,4,none⟩ x4).setCell ⟨g,5,none⟩ x5).setCell ⟨g,6,none⟩ x6).setCell ⟨g,7,none⟩ x7) base gx k h m f vb vc vf vs bks L fs ses :=
 (((((((i.put hr 0 x0).put hr 1 x1).put hr 2 x2).put hr 3 x3).put hr 4 x4).put hr 5 x5).put hr 6 x6).put hr 7 x7
theorem cell_other {X:World} {r j:Nat} {v x:Value} {g i:Nat} (h:X.cell? ⟨g,i,none⟩=some x) (hne:g ≠ r):(X.setCell ⟨r,j,none⟩ v).cell? ⟨g,i,none⟩=some x:=(World.cell?_of_block (w:=X) (other_heap X r j v g hne)).trans h
theorem ses_cells (a b c d e:Int) (t:ByteArray):∀ u ∈ ([.int .i64 a,.int .i64 b,.int .i64 c,.int .i64 d,.int .i64 e,.string t]:List Value),u.oneCell'=true:=by
 intro y hy
 simp only [List.mem_cons,List.not_mem_nil,or_false] at hy
 rcases hy with rfl | rfl | rfl | rfl | rfl | rfl <;> rfl
set_option maxRecDepth 20000 in
set_option maxHeartbeats 16000000 in
theorem specParse (s:ByteArray) (w:World) (hs:s.size≤1048576) :
  Calls Tryz.prog 46 #[.string s] w fun e w'=>ParA s w.heap.size e w'∧Below w.heap.size w w':=by
 have HS:Hid (s.size≤1048576):=hs
 have qs:(s.size:Int)≤1048576:=by omega
 clear hs
 have D0:Hid (Below w.heap.size w ((w.alloc (.cells #[.int .i64 0,.int .i64 0,.int .i64 0,.slice none 0 0,.int .i64 0,.slice none 0 0,.slice none 0 0,.slice none 0 0] 38)).alloc (.cells #[.int .i64 0,.int .i64 0,.int .i64 0,.slice none 0 0,.int .i64 0,.slice none 0 0,.slice none 0 0,.slice none 0 0] 38))):=((Below.refl _ w).alloc (Nat.le_refl _) _).alloc (by rw [World.size_alloc]; omega) _
 have R0:=Hid.mk ((Blk.new w #[.int .i64 0,.int .i64 0,.int .i64 0,.slice none 0 0,.int .i64 0,.slice none 0 0,.slice none 0 0,.slice none 0 0] 38).alloc (.cells #[.int .i64 0,.int .i64 0,.int .i64 0,.slice none 0 0,.int .i64 0,.slice none 0 0,.slice none 0 0,.slice none 0 0] 38))
 have I0:Hid (IgS ((w.alloc (.cells #[.int .i64 0,.int .i64 0,.int .i64 0,.slice none 0 0,.int .i64 0,.slice none 0 0,.slice none 0 0,.slice none 0 0] 38)).alloc (.cells #[.int .i64 0,.int .i64 0,.int .i64 0,.slice none 0 0,.int .i64 0,.slice none 0 0,.slice none 0 0,.slice none 0 0] 38)) (w.heap.size+2) (w.heap.size+1) 0 0 0 0 (.slice none 0 0) (.slice none 0 0) (.slice none 0 0) (.slice none 0 0) [] [] [] []):=by
  have h:=Blk.new (w.alloc (.cells #[.int .i64 0,.int .i64 0,.int .i64 0,.slice none 0 0,.int .i64 0,.slice none 0 0,.slice none 0 0,.slice none 0 0] 38)) #[.int .i64 0,.int .i64 0,.int .i64 0,.slice none 0 0,.int .i64 0,.slice none 0 0,.slice none 0 0,.slice none 0 0] 38
  rw [World.size_alloc] at h
  exact IgS.new _ _ _ h (by omega)
 have Z0:Hid ((w.heap.size+2)≤((w.alloc (.cells #[.int .i64 0,.int .i64 0,.int .i64 0,.slice none 0 0,.int .i64 0,.slice none 0 0,.slice none 0 0,.slice none 0 0] 38)).alloc (.cells #[.int .i64 0,.int .i64 0,.int .i64 0,.slice none 0 0,.int .i64 0,.slice none 0 0,.slice none 0 0,.slice none 0 0] 38)).heap.size):=by unfold Hid; rw [World.size_alloc,World.size_alloc]; omega
 go_enter Tryz.func46,Tryz.ntmps46
 go_wp2_with fail
 generalize (w.alloc (.cells #[.int .i64 0,.int .i64 0,.int .i64 0,.slice none 0 0,.int .i64 0,.slice none 0 0,.slice none 0 0,.slice none 0 0] 38)).alloc (.cells #[.int .i64 0,.int .i64 0,.int .i64 0,.slice none 0 0,.int .i64 0,.slice none 0 0,.slice none 0 0,.slice none 0 0] 38)=X0 at *
 refine (specVars s 1 3 X0 HS.out (by omega) (by omega)).mono ?_
 rintro e X1 ⟨hR,hb⟩
 have D1:Hid (Below w.heap.size w X1):=D0.out.trans (hb.mono D0.out.size)
 have R1:=Hid.mk (R0.out.on hb R0.out.lt)
 have I1:=Hid.mk (I0.out.on hb)
 have ZO:Hid ((w.heap.size+2)≤X0.heap.size):=Z0.out
 clear hb D0 R0 I0
 rcases hR with ⟨l,n1,u,hR,rfl,hN⟩ | ⟨hno,u,rfl⟩
 rotate_left
 ·clear ZO
  have HN:Hid (NoP s):=ref1no fun a b nb n1 h _=>hno _ _ h
  have b0:=I1.out.box.cell 0 _ rfl
  have b1:=I1.out.box.cell 1 _ rfl
  have b2:=I1.out.box.cell 2 _ rfl
  have b3:=I1.out.box.cell 3 _ rfl
  have b4:=I1.out.box.cell 4 _ rfl
  have b5:=I1.out.box.cell 5 _ rfl
  have b6:=I1.out.box.cell 6 _ rfl
  have b7:=I1.out.box.cell 7 _ rfl
  obtain ⟨⟨r0,f0⟩,⟨r1,f1⟩,⟨r2,f2⟩,⟨r3,f3⟩,⟨r4,f4⟩,⟨r5,f5⟩,⟨r6,f6⟩,⟨r7,f7⟩,y0,y1,y2,y3,y4,y5,y6,y7⟩:=resC8 (x0:=.int .i64 0) (x1:=.int .i64 0) (x2:=.int .i64 0) (x3:=.slice none 0 0) (x4:=.int .i64 0) (x5:=.slice none 0 0) (x6:=.slice none 0 0) (x7:=.slice none 0 0) R1.out
  have BE:=Hid.mk (belowC8 D1.out (Nat.le_refl _) (.int .i64 0) (.int .i64 0) (.int .i64 0) (.slice none 0 0) (.int .i64 0) (.slice none 0 0) (.slice none 0 0) (.slice none 0 0))
  go_wp2_with fail
  exact bodyPost_ret (v:=.tuple #[.agg #[.int .i64 0,.int .i64 0,.int .i64 0,.slice none 0 0,.int .i64 0,.slice none 0 0,.slice none 0 0,.slice none 0 0],.bool false]) (by simp [results,go_sem,y0,y1,y2,y3,y4,y5,y6,y7]) rfl ⟨.inr ⟨HN.out,_,_,_,_,_,_,_,_,_,_,_,_,_,_,_,_,rfl⟩,BE.out⟩
 obtain ⟨z0,z1,z2,rfl⟩:=three_of hR.length
 have hz0:=hR.bound z0 (by simp)
 have hz1:=hR.bound z1 (by simp)
 have hz2:=hR.bound z2 (by simp)
 have hns:=hR.inS
 have Hz:=Hid.mk hR
 obtain ⟨glz,capz,rfl,hgl⟩:∃ g cap,u=.slice (some ⟨g,0,none⟩) 3 cap∧(w.heap.size+2)≤g:=by
  rcases hN.form with ⟨_,h⟩ | ⟨g,cap,h,_,_,h1,_⟩
  ·cases h
  ·exact ⟨g,cap,h,Nat.le_trans ZO.out h1⟩
 have e0:X1.cell? ⟨glz,0,none⟩=some (.int .i64 z0):=hN.cell 0 (by simp)
 have e1:X1.cell? ⟨glz,1,none⟩=some (.int .i64 z1):=hN.cell 1 (by simp)
 have e2:X1.cell? ⟨glz,2,none⟩=some (.int .i64 z2):=hN.cell 2 (by simp)
 clear hR hN ZO
 obtain ⟨nb,rfl⟩:∃ nb:Nat,z2=(nb:Int):=⟨_,(Int.toNat_of_nonneg hz2.1).symm⟩
 have q0:¬ (n1:Int) < 0:=by omega
 by_cases h12:12 < nb
 ·have q1:(12:Int) < (nb:Int):=by omega
  clear h12
  have HN:Hid (NoP s):=ref1no fun a b nb2 n2 h h3=>by obtain ⟨e,rfl⟩:=h.one Hz.out; simp only [List.cons.injEq,and_true] at e; omega
  have b0:=I1.out.box.cell 0 _ rfl
  have b1:=I1.out.box.cell 1 _ rfl
  have b2:=I1.out.box.cell 2 _ rfl
  have b3:=I1.out.box.cell 3 _ rfl
  have b4:=I1.out.box.cell 4 _ rfl
  have b5:=I1.out.box.cell 5 _ rfl
  have b6:=I1.out.box.cell 6 _ rfl
  have b7:=I1.out.box.cell 7 _ rfl
  obtain ⟨⟨r0,f0⟩,⟨r1,f1⟩,⟨r2,f2⟩,⟨r3,f3⟩,⟨r4,f4⟩,⟨r5,f5⟩,⟨r6,f6⟩,⟨r7,f7⟩,y0,y1,y2,y3,y4,y5,y6,y7⟩:=resC8 (x0:=.int .i64 0) (x1:=.int .i64 0) (x2:=.int .i64 0) (x3:=.slice none 0 0) (x4:=.int .i64 0) (x5:=.slice none 0 0) (x6:=.slice none 0 0) (x7:=.slice none 0 0) R1.out
  have BE:=Hid.mk (belowC8 D1.out (Nat.le_refl _) (.int .i64 0) (.int .i64 0) (.int .i64 0) (.slice none 0 0) (.int .i64 0) (.slice none 0 0) (.slice none 0 0) (.slice none 0 0))
  go_wp2_with fail
  exact bodyPost_ret (v:=.tuple #[.agg #[.int .i64 0,.int .i64 0,.int .i64 0,.slice none 0 0,.int .i64 0,.slice none 0 0,.slice none 0 0,.slice none 0 0],.bool false]) (by simp [results,go_sem,y0,y1,y2,y3,y4,y5,y6,y7]) rfl ⟨.inr ⟨HN.out,_,_,_,_,_,_,_,_,_,_,_,_,_,_,_,_,rfl⟩,BE.out⟩
 have q1:¬ (12:Int) < (nb:Int):=by omega
 have H12:Hid (nb≤12):=by unfold Hid; omega
 have q2:(nb:Int)≤12:=by omega
 have hg0:=get_bn s 0
 have hsz:0 < s.size:=by omega
 have hsz':(0:Int) < (s.size:Int):=by omega
 have hl:=bn_lt s 0
 have HKB:Hid (kB s=bn s 0):=rfl
 generalize hkn:bn s 0=kn at *
 clear hkn
 have hgx:glz ≠ w.heap.size+1:=by omega
 have i1:=I1.out.setK (kn:Int)
 have i2:=i1.setH z0
 have i3:=i2.setM z1
 have b0:=I1.out.box.cell 0 _ rfl
 have f0:=I1.out.box.free 0
 have b1:=i1.box.cell 1 _ rfl
 have f1:=i1.box.free 1
 have b2:=i2.box.cell 2 _ rfl
 have f2:=i2.box.free 2
 have e0':(X1.setCell ⟨w.heap.size+1,0,none⟩ (.int .i64 (kn:Int))).cell? ⟨glz,0,none⟩=some (.int .i64 z0):=cell_other e0 hgx
 have e1':((X1.setCell ⟨w.heap.size+1,0,none⟩ (.int .i64 (kn:Int))).setCell ⟨w.heap.size+1,1,none⟩ (.int .i64 z0)).cell? ⟨glz,1,none⟩=some (.int .i64 z1):=cell_other (cell_other e1 hgx) hgx
 have e2':(((X1.setCell ⟨w.heap.size+1,0,none⟩ (.int .i64 (kn:Int))).setCell ⟨w.heap.size+1,1,none⟩ (.int .i64 z0)).setCell ⟨w.heap.size+1,2,none⟩ (.int .i64 z1)).cell? ⟨glz,2,none⟩=some (.int .i64 (nb:Int)):=cell_other (cell_other (cell_other e2 hgx) hgx) hgx
 have I2:=Hid.mk i3
 have D2:Hid (Below w.heap.size w (((X1.setCell ⟨w.heap.size+1,0,none⟩ (.int .i64 (kn:Int))).setCell ⟨w.heap.size+1,1,none⟩ (.int .i64 z0)).setCell ⟨w.heap.size+1,2,none⟩ (.int .i64 z1))):=((D1.out.setCell (p:=⟨_,_,none⟩) (Nat.le_succ _) _).setCell (p:=⟨_,_,none⟩) (Nat.le_succ _) _).setCell (p:=⟨_,_,none⟩) (Nat.le_succ _) _
 have R2:=Hid.mk (((R1.out.other (show w.heap.size ≠ w.heap.size+1 by omega) 0 (.int .i64 (kn:Int))).other (show w.heap.size ≠ w.heap.size+1 by omega) 1 (.int .i64 z0)).other (show w.heap.size ≠ w.heap.size+1 by omega) 2 (.int .i64 z1))
 have HN1:Hid (n1≤s.size):=hns.2
 have HZ2:Hid (0≤z0∧0≤z1):=⟨hz0.1,hz1.1⟩
 clear i1 i2 i3 hz0 hz1 hz2 hns hgl hgx h12
 go_upto_block 0 with fail
 generalize (((X1.setCell ⟨w.heap.size+1,0,none⟩ (.int .i64 (kn:Int))).setCell ⟨w.heap.size+1,1,none⟩ (.int .i64 z0)).setCell ⟨w.heap.size+1,2,none⟩ (.int .i64 z1))=X2 at *
 clear e0 e1 e2 e0' e1' e2' b0 b1 b2 f0 f1 f2 I1 D1 R1 hg0 hsz hsz' hl
 go_cut [6] from 52 to 77 (fun s6 wc=>∃ (n:Nat) (vb:Value) (bks:List Pnt),s6=.int .i64 (n:Int)∧RdL (BkRd s) n1 nb bks n∧n≤s.size∧Below w.heap.size w wc∧Blk wc w.heap.size #[.int .i64 0,.int .i64 0,.int .i64 0,.slice none 0 0,.int .i64 0,.slice none 0 0,.slice none 0 0,.slice none 0 0] 38∧IgS wc (w.heap.size+2) (w.heap.size+1) (kn:Int) z0 z1 0 vb (.slice none 0 0) (.slice none 0 0) (.slice none 0 0) bks [] [] [])
 case first =>
  go_wp2_with fail
  go_loopw [6,7] (fun v6 v7 wr=>∃ (k n:Nat) (vb:Value) (bks:List Pnt),k≤nb∧v7=.int .i64 ((nb - k:Nat):Int)∧v6=.int .i64 (n:Int)∧RdL (BkRd s) n1 k bks n∧n≤s.size∧Below w.heap.size w wr∧Blk wr w.heap.size #[.int .i64 0,.int .i64 0,.int .i64 0,.slice none 0 0,.int .i64 0,.slice none 0 0,.slice none 0 0,.slice none 0 0] 38∧IgS wr (w.heap.size+2) (w.heap.size+1) (kn:Int) z0 z1 0 vb (.slice none 0 0) (.slice none 0 0) (.slice none 0 0) bks [] [] []) (fun _ i _=>(intOf i).toNat)
  case atStart=>exact ⟨0,n1,_,[],by omega,rfl,rfl,RdL.zero _ _,HN1.out,D2.out,R2.out,I2.out⟩
  case round =>
   obtain ⟨k,n,vb,bks,hk,rfl,rfl,hrl,hn,hd,hr,hi⟩:=hrel
   obtain ⟨Ab,mb,cb,rfl⟩:=hi.ob.shape
   have HRL:=Hid.mk hrl
   have HNS:Hid (n≤s.size):=hn
   have D3:Hid (Below w.heap.size w wr):=hd
   have R3:=Hid.mk hr
   have I3:=Hid.mk hi
   clear hrl hn hd hr hi D2 R2 I2
   generalize wr=X3 at *
   have Z3:Hid ((w.heap.size+2)≤X3.heap.size):=by have:=I3.out.box.lt; unfold Hid; omega
   by_cases hlt:k < nb
   ·have q4:(0:Int) < ((nb - k:Nat):Int):=by omega
    have HE:Hid (IntKind.i64.wrap (((nb - k:Nat):Int) - 1)=((nb - (k+1):Nat):Int)):=by unfold Hid; rw [IntKind.wrap_i64]; omega
    have qk:((nb - k:Nat):Int)≤12:=by omega
    have HLT:Hid (k < nb):=hlt
    generalize hre:nb - k=rest at *
    have HRE:Hid (nb - k=rest):=hre
    clear hre
    go_wp2_with fail
    refine (specVars s n 2 X3 HS.out (by have:=HNS.out; have:=HS.out; omega) (by omega)).mono ?_
    rintro e X4 ⟨hR,hb⟩
    have D4:Hid (Below w.heap.size w X4):=D3.out.trans (hb.mono D3.out.size)
    have R4:=Hid.mk (R3.out.on hb R3.out.lt)
    have I4:=Hid.mk (I3.out.on hb)
    have ZO:Hid ((w.heap.size+2)≤X3.heap.size):=Z3.out
    clear hb D3 R3 I3
    rcases hR with ⟨l,n',u,hR,rfl,hN⟩ | ⟨hno,u,rfl⟩
    rotate_left
    ·clear ZO
     have HN:Hid (NoP s):=ref1 Hz.out (refbno (RdL.no (BkRd.onep s) HRL.out HLT.out fun y m h=>hno _ _ h))
     have b0:=I4.out.box.cell 0 _ rfl
     have b1:=I4.out.box.cell 1 _ rfl
     have b2:=I4.out.box.cell 2 _ rfl
     have b3:=I4.out.box.cell 3 _ rfl
     have b4:=I4.out.box.cell 4 _ rfl
     have b5:=I4.out.box.cell 5 _ rfl
     have b6:=I4.out.box.cell 6 _ rfl
     have b7:=I4.out.box.cell 7 _ rfl
     obtain ⟨⟨r0,f0⟩,⟨r1,f1⟩,⟨r2,f2⟩,⟨r3,f3⟩,⟨r4,f4⟩,⟨r5,f5⟩,⟨r6,f6⟩,⟨r7,f7⟩,y0,y1,y2,y3,y4,y5,y6,y7⟩:=resC8 (x0:=.int .i64 (kn:Int)) (x1:=.int .i64 z0) (x2:=.int .i64 z1) (x3:=.slice Ab mb cb) (x4:=.int .i64 0) (x5:=.slice none 0 0) (x6:=.slice none 0 0) (x7:=.slice none 0 0) R4.out
     have BE:=Hid.mk (belowC8 D4.out (Nat.le_refl _) (.int .i64 (kn:Int)) (.int .i64 z0) (.int .i64 z1) (.slice Ab mb cb) (.int .i64 0) (.slice none 0 0) (.slice none 0 0) (.slice none 0 0))
     go_wp2_with fail
     exact bodyPost_ret (v:=.tuple #[.agg #[.int .i64 (kn:Int),.int .i64 z0,.int .i64 z1,.slice Ab mb cb,.int .i64 0,.slice none 0 0,.slice none 0 0,.slice none 0 0],.bool false]) (by simp [results,go_sem,y0,y1,y2,y3,y4,y5,y6,y7]) rfl ⟨.inr ⟨HN.out,_,_,_,_,_,_,_,_,_,_,_,_,_,_,_,_,rfl⟩,BE.out⟩
    obtain ⟨t0,t1,rfl⟩:=two_of hR.length
    have hz0:=hR.bound t0 (by simp)
    have hz1:=hR.bound t1 (by simp)
    have hns:=hR.inS
    have Ht:=Hid.mk hR
    obtain ⟨glt,capt,rfl,hgl⟩:∃ g cap,u=.slice (some ⟨g,0,none⟩) 2 cap∧(w.heap.size+2)≤g:=by
     rcases hN.form with ⟨_,h⟩ | ⟨g,cap,h,_,_,h1,_⟩
     ·cases h
     ·exact ⟨g,cap,h,Nat.le_trans ZO.out h1⟩
    have e0:X4.cell? ⟨glt,0,none⟩=some (.int .i64 t0):=hN.cell 0 (by simp)
    have e1:X4.cell? ⟨glt,1,none⟩=some (.int .i64 t1):=hN.cell 1 (by simp)
    clear hR hN ZO
    have q5:¬ (n':Int) < 0:=by omega
    have HN4:Hid (n'≤s.size):=hns.2
    have HY:Hid (BkRd s n ⟨t0,t1⟩ n'):=Ht.out
    have HLB:Hid ((ptR bks).length≤2097152):=by unfold Hid; unfold ptR; rw [List.length_map,HRL.out.length]; have:=HLT.out; have:=H12.out; omega
    clear hz0 hz1 hns hgl q0 q1
    have b3:=I4.out.box.cell 3 _ rfl
    go_wp2_with fail
    have S0:Hid (X4.drew.cell? ⟨w.heap.size+1,3,none⟩=some (.slice Ab mb cb)∧X4.drew.cell? ⟨glt,0,none⟩=some (.int .i64 t0)∧X4.drew.cell? ⟨glt,1,none⟩=some (.int .i64 t1)):=⟨b3,e0,e1⟩
    have D5:Hid (Below w.heap.size w X4.drew):=D4.out.drew
    have R5:Hid (Blk X4.drew w.heap.size #[.int .i64 0,.int .i64 0,.int .i64 0,.slice none 0 0,.int .i64 0,.slice none 0 0,.slice none 0 0,.slice none 0 0] 38):=R4.out
    have I5:=Hid.mk I4.out.drew
    have Z5:Hid ((w.heap.size+2)≤X4.drew.heap.size):=by have:=I4.out.box.lt; unfold Hid; show w.heap.size+2≤X4.heap.size; omega
    refine wp_region_until (fun w'=>w'.cell? ⟨w.heap.size+1,3,none⟩=some (.slice Ab mb cb)∧w'.cell? ⟨glt,0,none⟩=some (.int .i64 t0)∧w'.cell? ⟨glt,1,none⟩=some (.int .i64 t1)) (fun i=>i == 10 || i == 12) 13 (by rfl) (by kernel_rfl) ?_
    clear b3 e0 e1 D4 R4 I4
    generalize X4.drew=Y at *
    obtain ⟨nA,nm,nc,w5,r5,hO5,hb5,hk5,-⟩:=run_append_row (P:=Tryz.prog) Y 32 32 58 (.agg #[.int .i64 0,.int .i64 0]) 2 16 Tryz.underlying32 Tryz.infoBk rfl (by omega) (w.heap.size+2) (.slice Ab mb cb) (ptR bks) I5.out.ob [.int .i64 t0,.int .i64 t1] rfl (pt_cells _ _) HLB.out (by omega) Z5.out
    refine tF 0 S0.out ?_
    refine tF 1 S0.out ?_
    refine tF 2 S0.out ?_
    refine tF 3 S0.out ?_
    refine tF 4 S0.out ?_
    refine tF 5 S0.out ?_
    refine tF 6 S0.out ?_
    refine tF 7 S0.out ?_
    refine pF 8 ?_
    refine uNe 9 (fun K hK=>?_)
    go_simp
    refine hK.out _ _ (fun _ h=>⟨cell_alloc_keep h.1 _,cell_alloc_keep h.2.1 _,cell_alloc_keep h.2.2 _⟩) ?_
    clear hK K
    try simp only [Act.put,zQ1,zQ2,zQ3]
    refine uNe 10 (fun K hK=>?_)
    refine step_append_run (by rfl) (.tmp 66) (.tmp 74) 32 (by rfl) _ _ _ _ (by rfl) (by rfl) r5 ?_
    refine hK.out _ _ (fun h=>by cases h) ?_
    clear hK K
    try simp only [Act.put,zQ1,zQ2,zQ3]
    refine pF 11 ?_
    have kb:Blk w5 (w.heap.size+1) #[.int .i64 (kn:Int),.int .i64 z0,.int .i64 z1,.slice Ab mb cb,.int .i64 0,.slice none 0 0,.slice none 0 0,.slice none 0 0] 38:=(hk5 _ I5.out.box.lt (I5.out.ob.below I5.out.lt)).trans I5.out.box
    have bk:=kb.cell 3 _ rfl
    have fk:=kb.free 3
    have I6:=Hid.mk (I5.out.appB (y:=⟨t0,t1⟩) (by rw [ptR_snoc']; exact hO5) hk5)
    have D6:Hid (Below w.heap.size w (w5.setCell ⟨w.heap.size+1,3,none⟩ (.slice nA nm nc))):=(D5.out.trans (hb5.mono (by omega))).setCell (p:=⟨_,_,none⟩) (Nat.le_succ _) _
    have R6:=Hid.mk ((R5.out.on hb5 (by omega)).other (show w.heap.size ≠ w.heap.size+1 by omega) 3 (.slice nA nm nc))
    refine uNe 12 (fun K hK=>?_)
    go_simp
    refine hK.out _ _ (fun h=>by cases h) ?_
    clear hK K kb bk fk
    try simp only [Act.put,zQ1,zQ2,zQ3]
    refine until_done (by kernel_rfl) ?_ _
    have HRL2:=Hid.mk (HRL.out.snoc HY.out)
    have HE':=HE.out
    clear hO5 hb5 hk5 r5 D5 R5 I5 S0
    go_wp2_with fail
    go_roundw
    case rel=>exact ⟨k+1,n',_,_,by have:=HLT.out; omega,by first | rfl | rw [HE.out],rfl,HRL2.out,HN4.out,D6.out,R6.out,I6.out⟩
    case measure=>have:=HRE.out; have:=HLT.out; simp [intOf]; omega
   ·obtain rfl:k=nb:=by omega
    have q4:¬ (0:Int) < ((k - k:Nat):Int):=by omega
    generalize ((k - k:Nat):Int)=zz7 at *
    go_wp2_with fail
    go_meet
    exact ⟨n,_,bks,rfl,HRL.out,HNS.out,D3.out,R3.out,I3.out⟩
 case rest =>
   obtain ⟨n,vb,bks,rfl,hrl,hn,hd,hr,hi⟩:=hcut
   obtain ⟨Ab,mb,cb,rfl⟩:=hi.ob.shape
   have HRL:=Hid.mk hrl
   have HNS:Hid (n≤s.size):=hn
   have D3:Hid (Below w.heap.size w wc):=hd
   have R3:=Hid.mk hr
   have I3:=Hid.mk hi
   clear hrl hn hd hr hi D2 R2 I2
   generalize wc=X3 at *
   have Z3:Hid ((w.heap.size+2)≤X3.heap.size):=by have:=I3.out.box.lt; unfold Hid; omega
   generalize nb=k at *
   have HR2:Hid ((∀ fl c fs ses,¬ Q3 s n fl c fs ses) → NoP s):=fun h=>ref1 Hz.out (refb HRL.out h)
   have HQB:Hid (∀ fl c fs ses,Q3 s n fl c fs ses → Qb s n1 k bks fl c fs ses):=fun fl c fs ses h=>⟨n,HRL.out,h⟩
   go_wp2_with fail
   refine (specVars s n 1 X3 HS.out (by have:=HNS.out; have:=HS.out; omega) (by omega)).mono ?_
   rintro e X4 ⟨hR,hb⟩
   have D4:Hid (Below w.heap.size w X4):=D3.out.trans (hb.mono D3.out.size)
   have R4:=Hid.mk (R3.out.on hb R3.out.lt)
   have I4:=Hid.mk (I3.out.on hb)
   have ZO:Hid ((w.heap.size+2)≤X3.heap.size):=Z3.out
   clear hb D3 R3 I3
   rcases hR with ⟨l,n3,u,hR,rfl,hN⟩ | ⟨hno,u,rfl⟩
   rotate_left
   ·clear ZO
    have HN:Hid (NoP s):=HR2.out (ref3no hno)
    have b0:=I4.out.box.cell 0 _ rfl
    have b1:=I4.out.box.cell 1 _ rfl
    have b2:=I4.out.box.cell 2 _ rfl
    have b3:=I4.out.box.cell 3 _ rfl
    have b4:=I4.out.box.cell 4 _ rfl
    have b5:=I4.out.box.cell 5 _ rfl
    have b6:=I4.out.box.cell 6 _ rfl
    have b7:=I4.out.box.cell 7 _ rfl
    obtain ⟨⟨r0,f0⟩,⟨r1,f1⟩,⟨r2,f2⟩,⟨r3,f3⟩,⟨r4,f4⟩,⟨r5,f5⟩,⟨r6,f6⟩,⟨r7,f7⟩,y0,y1,y2,y3,y4,y5,y6,y7⟩:=resC8 (x0:=.int .i64 (kn:Int)) (x1:=.int .i64 z0) (x2:=.int .i64 z1) (x3:=.slice Ab mb cb) (x4:=.int .i64 0) (x5:=.slice none 0 0) (x6:=.slice none 0 0) (x7:=.slice none 0 0) R4.out
    have BE:=Hid.mk (belowC8 D4.out (Nat.le_refl _) (.int .i64 (kn:Int)) (.int .i64 z0) (.int .i64 z1) (.slice Ab mb cb) (.int .i64 0) (.slice none 0 0) (.slice none 0 0) (.slice none 0 0))
    go_wp2_with fail
    exact bodyPost_ret (v:=.tuple #[.agg #[.int .i64 (kn:Int),.int .i64 z0,.int .i64 z1,.slice Ab mb cb,.int .i64 0,.slice none 0 0,.slice none 0 0,.slice none 0 0],.bool false]) (by simp [results,go_sem,y0,y1,y2,y3,y4,y5,y6,y7]) rfl ⟨.inr ⟨HN.out,_,_,_,_,_,_,_,_,_,_,_,_,_,_,_,_,rfl⟩,BE.out⟩
   obtain ⟨fl0,rfl⟩:=one_of hR.length
   have hz0:=hR.bound fl0 (by simp)
   have hns:=hR.inS
   have Hfl:=Hid.mk hR
   obtain ⟨glfl,capfl,rfl,hgl⟩:∃ g cap,u=.slice (some ⟨g,0,none⟩) 1 cap∧(w.heap.size+2)≤g:=by
    rcases hN.form with ⟨_,h⟩ | ⟨g,cap,h,_,_,h1,_⟩
    ·cases h
    ·exact ⟨g,cap,h,Nat.le_trans ZO.out h1⟩
   have e0:X4.cell? ⟨glfl,0,none⟩=some (.int .i64 fl0):=hN.cell 0 (by simp)
   clear hR hN ZO
   have q5:¬ (n3:Int) < 0:=by omega
   have HN4:Hid (n3≤s.size):=hns.2
   have HR3:Hid ((∀ c fs ses,¬ Q4 s n3 c fs ses) → NoP s):=fun h=>HR2.out (ref3 Hfl.out h)
   have HQ3:Hid (∀ c fs ses,Q4 s n3 c fs ses → Qb s n1 k bks fl0 c fs ses):=fun c fs ses h=>HQB.out _ _ _ _ ⟨n3,Hfl.out,h⟩
   have b4:=I4.out.box.cell 4 _ rfl
   have f4:=I4.out.box.free 4
   have I5:=Hid.mk (I4.out.setF fl0)
   have D5:Hid (Below w.heap.size w (X4.setCell ⟨w.heap.size+1,4,none⟩ (.int .i64 fl0))):=D4.out.setCell (p:=⟨_,_,none⟩) (Nat.le_succ _) _
   have R5:=Hid.mk (R4.out.other (show w.heap.size ≠ w.heap.size+1 by omega) 4 (.int .i64 fl0))
   have HBL:Hid (bks.length=k):=HRL.out.length
   clear hz0 hns hgl q0 q1 HRL HR2 HQB
   go_wp2_with fail
   generalize X4.setCell ⟨w.heap.size+1,4,none⟩ (.int .i64 fl0)=X5 at *
   clear b4 f4 e0 I4 D4 R4
   refine (specPieceAt s n3 X5 HS.out (by have:=HN4.out; have:=HS.out; omega)).mono ?_
   rintro e X6 ⟨hR,hb⟩
   have D6:Hid (Below w.heap.size w X6):=D5.out.trans (hb.mono D5.out.size)
   have R6:=Hid.mk (R5.out.on hb R5.out.lt)
   have I6:=Hid.mk (I5.out.on hb)
   clear hb D5 R5 I5
   rcases hR with ⟨ct,n4,hP,rfl⟩ | ⟨hno,rfl⟩
   rotate_left
   ·have HN:Hid (NoP s):=HR3.out (ref4no hno)
    have b0:=I6.out.box.cell 0 _ rfl
    have b1:=I6.out.box.cell 1 _ rfl
    have b2:=I6.out.box.cell 2 _ rfl
    have b3:=I6.out.box.cell 3 _ rfl
    have b4:=I6.out.box.cell 4 _ rfl
    have b5:=I6.out.box.cell 5 _ rfl
    have b6:=I6.out.box.cell 6 _ rfl
    have b7:=I6.out.box.cell 7 _ rfl
    obtain ⟨⟨r0,f0⟩,⟨r1,f1⟩,⟨r2,f2⟩,⟨r3,f3⟩,⟨r4,f4⟩,⟨r5,f5⟩,⟨r6,f6⟩,⟨r7,f7⟩,y0,y1,y2,y3,y4,y5,y6,y7⟩:=resC8 (x0:=.int .i64 (kn:Int)) (x1:=.int .i64 z0) (x2:=.int .i64 z1) (x3:=.slice Ab mb cb) (x4:=.int .i64 fl0) (x5:=.slice none 0 0) (x6:=.slice none 0 0) (x7:=.slice none 0 0) R6.out
    have BE:=Hid.mk (belowC8 D6.out (Nat.le_refl _) (.int .i64 (kn:Int)) (.int .i64 z0) (.int .i64 z1) (.slice Ab mb cb) (.int .i64 fl0) (.slice none 0 0) (.slice none 0 0) (.slice none 0 0))
    go_wp2_with fail
    exact bodyPost_ret (v:=.tuple #[.agg #[.int .i64 (kn:Int),.int .i64 z0,.int .i64 z1,.slice Ab mb cb,.int .i64 fl0,.slice none 0 0,.slice none 0 0,.slice none 0 0],.bool false]) (by simp [results,go_sem,y0,y1,y2,y3,y4,y5,y6,y7]) rfl ⟨.inr ⟨HN.out,_,_,_,_,_,_,_,_,_,_,_,_,_,_,_,_,rfl⟩,BE.out⟩
   have HNs:Hid (n4≤s.size):=hP.text.2.2
   have HCS:Hid (ct.size≤1048576):=by obtain ⟨_,_,h2,h3,_⟩:=hP; have:=HS.out; unfold Hid; omega
   have HR4:Hid ((∀ fs ses,¬ Q5 s n4 fs ses) → NoP s):=fun h=>HR3.out (ref4 hP h)
   have HQ4:Hid (∀ fs ses,Q5 s n4 fs ses → Qb s n1 k bks fl0 ct fs ses):=fun fs ses h=>HQ3.out _ _ _ ⟨n4,hP,h⟩
   have q6:¬ (n4:Int) < 0:=by omega
   clear hP HR3 HQ3
   go_upto_if 102 with fail
   generalize hci:ct.toList.isEmpty=ce at *
   have HCI:Hid (ct.toList.isEmpty=ce):=hci
   clear hci
   go_cut [] from 102 to 109 (fun wc=>∃ vc L,CaSp ct (L.map Prod.fst)∧Below w.heap.size w wc∧Blk wc w.heap.size #[.int .i64 0,.int .i64 0,.int .i64 0,.slice none 0 0,.int .i64 0,.slice none 0 0,.slice none 0 0,.slice none 0 0] 38∧IgS wc (w.heap.size+2) (w.heap.size+1) (kn:Int) z0 z1 fl0 (.slice Ab mb cb) vc (.slice none 0 0) (.slice none 0 0) bks L [] [])
   case first =>
    have HCE:Hid (ct=ByteArray.empty ↔ ce=true):=by
     refine ⟨fun e=>?_,fun e=>?_⟩
     ·rw [← HCI.out,e,Lib.toList_data]; rfl
     ·have h:=HCI.out
      rw [e,List.isEmpty_iff,Lib.toList_data] at h
      exact ByteArray.ext (Array.toList_inj.1 h)
    cases ce with
    | true =>
     have HC1:Hid (ct=ByteArray.empty):=HCE.out.2 rfl
     clear HCE
     go_wp2_with fail
     go_meet
     exact ⟨_,[],.inl ⟨HC1.out,rfl⟩,D6.out,R6.out,I6.out⟩
    | false =>
     have HC2:Hid (¬ ct=ByteArray.empty):=fun e=>by have:=HCE.out.1 e; cases this
     clear HCE
     go_wp2_with fail
     refine (specReadFile ct X6 HCS.out).mono ?_
     rintro e X7 ⟨⟨u,L,ok,hA,rfl,hSO⟩,hb⟩
     have D7:Hid (Below w.heap.size w X7):=D6.out.trans (hb.mono D6.out.size)
     have R7:=Hid.mk (R6.out.on hb R6.out.lt)
     have I7:=Hid.mk (I6.out.on hb)
     have HSO:Hid (SerO X7 (w.heap.size+2) u L):=hSO.mono (by have:=I6.out.box.lt; omega)
     have HCA:Hid (CaSp ct (L.map Prod.fst)):=.inr ⟨HC2.out,hA.elim (fun h=>.inl h.2) (fun h=>.inr h.2)⟩
     have I8:=Hid.mk (I7.out.setC HSO.out)
     have D8:Hid (Below w.heap.size w (X7.setCell ⟨w.heap.size+1,5,none⟩ u)):=D7.out.setCell (p:=⟨_,_,none⟩) (Nat.le_succ _) _
     have R8:=Hid.mk (R7.out.other (show w.heap.size ≠ w.heap.size+1 by omega) 5 u)
     have b5:=I7.out.box.cell 5 _ rfl
     have f5:=I7.out.box.free 5
     clear hb hA hSO D6 R6 I6
     obtain ⟨uA,um,uc,rfl⟩:=HSO.out.1.shape
     go_wp2_with fail
     go_meet
     exact ⟨_,L,HCA.out,D8.out,R8.out,I8.out⟩
   case rest =>
   obtain ⟨vc,L,hca,hd,hr,hi⟩:=hcut
   obtain ⟨Ac,mc,cc,rfl⟩:=hi.oc.1.shape
   have HCA:=Hid.mk hca
   have D7:Hid (Below w.heap.size w wc):=hd
   have R7:=Hid.mk hr
   have I7:=Hid.mk hi
   clear hca hd hr hi D6 R6 I6
   generalize wc=X7 at *
   have Z7:Hid ((w.heap.size+2)≤X7.heap.size):=by have:=I7.out.box.lt; unfold Hid; omega
   go_wp2_with fail
   refine (specVars s n4 1 X7 HS.out (by have:=HNs.out; have:=HS.out; omega) (by omega)).mono ?_
   rintro e X8 ⟨hR,hb⟩
   have D8:Hid (Below w.heap.size w X8):=D7.out.trans (hb.mono D7.out.size)
   have R8:=Hid.mk (R7.out.on hb R7.out.lt)
   have I8:=Hid.mk (I7.out.on hb)
   have ZO:Hid ((w.heap.size+2)≤X7.heap.size):=Z7.out
   clear hb D7 R7 I7
   rcases hR with ⟨l,n5,u,hR,rfl,hN⟩ | ⟨hno,u,rfl⟩
   rotate_left
   ·clear ZO
    have HN:Hid (NoP s):=HR4.out (ref5no fun nf n5 h _=>hno _ _ h)
    have b0:=I8.out.box.cell 0 _ rfl
    have b1:=I8.out.box.cell 1 _ rfl
    have b2:=I8.out.box.cell 2 _ rfl
    have b3:=I8.out.box.cell 3 _ rfl
    have b4:=I8.out.box.cell 4 _ rfl
    have b5:=I8.out.box.cell 5 _ rfl
    have b6:=I8.out.box.cell 6 _ rfl
    have b7:=I8.out.box.cell 7 _ rfl
    obtain ⟨⟨r0,f0⟩,⟨r1,f1⟩,⟨r2,f2⟩,⟨r3,f3⟩,⟨r4,f4⟩,⟨r5,f5⟩,⟨r6,f6⟩,⟨r7,f7⟩,y0,y1,y2,y3,y4,y5,y6,y7⟩:=resC8 (x0:=.int .i64 (kn:Int)) (x1:=.int .i64 z0) (x2:=.int .i64 z1) (x3:=.slice Ab mb cb) (x4:=.int .i64 fl0) (x5:=.slice Ac mc cc) (x6:=.slice none 0 0) (x7:=.slice none 0 0) R8.out
    have BE:=Hid.mk (belowC8 D8.out (Nat.le_refl _) (.int .i64 (kn:Int)) (.int .i64 z0) (.int .i64 z1) (.slice Ab mb cb) (.int .i64 fl0) (.slice Ac mc cc) (.slice none 0 0) (.slice none 0 0))
    go_wp2_with fail
    exact bodyPost_ret (v:=.tuple #[.agg #[.int .i64 (kn:Int),.int .i64 z0,.int .i64 z1,.slice Ab mb cb,.int .i64 fl0,.slice Ac mc cc,.slice none 0 0,.slice none 0 0],.bool false]) (by simp [results,go_sem,y0,y1,y2,y3,y4,y5,y6,y7]) rfl ⟨.inr ⟨HN.out,_,_,_,_,_,_,_,_,_,_,_,_,_,_,_,_,rfl⟩,BE.out⟩
   obtain ⟨g0,rfl⟩:=one_of hR.length
   have hz0:=hR.bound g0 (by simp)
   have hns:=hR.inS
   have Hg:=Hid.mk hR
   obtain ⟨glg,capg,rfl,hgl⟩:∃ g cap,u=.slice (some ⟨g,0,none⟩) 1 cap∧(w.heap.size+2)≤g:=by
    rcases hN.form with ⟨_,h⟩ | ⟨g,cap,h,_,_,h1,_⟩
    ·cases h
    ·exact ⟨g,cap,h,Nat.le_trans ZO.out h1⟩
   have e0:X8.cell? ⟨glg,0,none⟩=some (.int .i64 g0):=hN.cell 0 (by simp)
   clear hR hN ZO
   obtain ⟨nf,rfl⟩:∃ nf:Nat,g0=(nf:Int):=⟨_,(Int.toNat_of_nonneg hz0.1).symm⟩
   have q7:¬ (n5:Int) < 0:=by omega
   by_cases h4:4 < nf
   ·have q8:(4:Int) < (nf:Int):=by omega
    clear h4
    have HN:Hid (NoP s):=HR4.out (ref5no fun nf2 n52 h h3=>by obtain ⟨e,rfl⟩:=h.one Hg.out; simp only [List.cons.injEq,and_true] at e; omega)
    have b0:=I8.out.box.cell 0 _ rfl
    have b1:=I8.out.box.cell 1 _ rfl
    have b2:=I8.out.box.cell 2 _ rfl
    have b3:=I8.out.box.cell 3 _ rfl
    have b4:=I8.out.box.cell 4 _ rfl
    have b5:=I8.out.box.cell 5 _ rfl
    have b6:=I8.out.box.cell 6 _ rfl
    have b7:=I8.out.box.cell 7 _ rfl
    obtain ⟨⟨r0,f0⟩,⟨r1,f1⟩,⟨r2,f2⟩,⟨r3,f3⟩,⟨r4,f4⟩,⟨r5,f5⟩,⟨r6,f6⟩,⟨r7,f7⟩,y0,y1,y2,y3,y4,y5,y6,y7⟩:=resC8 (x0:=.int .i64 (kn:Int)) (x1:=.int .i64 z0) (x2:=.int .i64 z1) (x3:=.slice Ab mb cb) (x4:=.int .i64 fl0) (x5:=.slice Ac mc cc) (x6:=.slice none 0 0) (x7:=.slice none 0 0) R8.out
    have BE:=Hid.mk (belowC8 D8.out (Nat.le_refl _) (.int .i64 (kn:Int)) (.int .i64 z0) (.int .i64 z1) (.slice Ab mb cb) (.int .i64 fl0) (.slice Ac mc cc) (.slice none 0 0) (.slice none 0 0))
    go_wp2_with fail
    exact bodyPost_ret (v:=.tuple #[.agg #[.int .i64 (kn:Int),.int .i64 z0,.int .i64 z1,.slice Ab mb cb,.int .i64 fl0,.slice Ac mc cc,.slice none 0 0,.slice none 0 0],.bool false]) (by simp [results,go_sem,y0,y1,y2,y3,y4,y5,y6,y7]) rfl ⟨.inr ⟨HN.out,_,_,_,_,_,_,_,_,_,_,_,_,_,_,_,_,rfl⟩,BE.out⟩
   have q8:¬ (4:Int) < (nf:Int):=by omega
   have q9:(nf:Int)≤4:=by omega
   have H4:Hid (nf≤4):=by unfold Hid; omega
   have HN5:Hid (n5≤s.size):=hns.2
   have HR5:Hid ((∀ fs ses,¬ Qf s n5 nf fs ses) → NoP s):=fun h=>HR4.out (ref5 Hg.out h)
   have HQ5:Hid (∀ fs ses,fs.length=nf → Qf s n5 nf fs ses → Qb s n1 k bks fl0 ct fs ses):=fun fs ses hl h=>HQ4.out _ _ ⟨n5,by rw [hl]; exact Hg.out,by rw [hl]; exact H4.out,by rw [hl]; exact h⟩
   clear hz0 hns hgl h4 HR4 HQ4 Hg
   go_upto_block 2 with fail
   go_cut [6] from 128 to 149 (fun s6 wc=>∃ (n:Nat) (vf:Value) (fs:List ByteArray),s6=.int .i64 (n:Int)∧RdL (PcRd s) n5 nf fs n∧n≤s.size∧Below w.heap.size w wc∧Blk wc w.heap.size #[.int .i64 0,.int .i64 0,.int .i64 0,.slice none 0 0,.int .i64 0,.slice none 0 0,.slice none 0 0,.slice none 0 0] 38∧IgS wc (w.heap.size+2) (w.heap.size+1) (kn:Int) z0 z1 fl0 (.slice Ab mb cb) (.slice Ac mc cc) vf (.slice none 0 0) bks L fs [])
   case first =>
    go_wp2_with fail
    go_loopw [6,12] (fun v6 v12 wr=>∃ (j n:Nat) (vf:Value) (fs:List ByteArray),j≤nf∧v12=.int .i64 ((nf - j:Nat):Int)∧v6=.int .i64 (n:Int)∧RdL (PcRd s) n5 j fs n∧n≤s.size∧Below w.heap.size w wr∧Blk wr w.heap.size #[.int .i64 0,.int .i64 0,.int .i64 0,.slice none 0 0,.int .i64 0,.slice none 0 0,.slice none 0 0,.slice none 0 0] 38∧IgS wr (w.heap.size+2) (w.heap.size+1) (kn:Int) z0 z1 fl0 (.slice Ab mb cb) (.slice Ac mc cc) vf (.slice none 0 0) bks L fs []) (fun _ i _=>(intOf i).toNat)
    case atStart=>exact ⟨0,n5,_,[],by omega,rfl,rfl,RdL.zero _ _,HN5.out,D8.out,R8.out,I8.out⟩
    case round =>
     obtain ⟨j,n,vf,fs,hj,rfl,rfl,hrl,hn,hd,hr,hi⟩:=hrel
     obtain ⟨Af,mf,cf,rfl⟩:=hi.of.shape
     have HRL:=Hid.mk hrl
     have HNS:Hid (n≤s.size):=hn
     have D9:Hid (Below w.heap.size w wr):=hd
     have R9:=Hid.mk hr
     have I9:=Hid.mk hi
     clear hrl hn hd hr hi D8 R8 I8
     generalize wr=X9 at *
     have Z9:Hid ((w.heap.size+2)≤X9.heap.size):=by have:=I9.out.box.lt; unfold Hid; omega
     by_cases hlt:j < nf
     ·have q10:(0:Int) < ((nf - j:Nat):Int):=by omega
      have HE:Hid (IntKind.i64.wrap (((nf - j:Nat):Int) - 1)=((nf - (j+1):Nat):Int)):=by unfold Hid; rw [IntKind.wrap_i64]; omega
      have qk:((nf - j:Nat):Int)≤4:=by omega
      have HLT:Hid (j < nf):=hlt
      generalize hre:nf - j=rest at *
      have HRE:Hid (nf - j=rest):=hre
      clear hre
      go_wp2_with fail
      refine (specPieceAt s n X9 HS.out (by have:=HNS.out; have:=HS.out; omega)).mono ?_
      rintro e Xa ⟨hR,hb⟩
      have Da:Hid (Below w.heap.size w Xa):=D9.out.trans (hb.mono D9.out.size)
      have Ra:=Hid.mk (R9.out.on hb R9.out.lt)
      have Ia:=Hid.mk (I9.out.on hb)
      clear hb D9 R9 I9
      rcases hR with ⟨ft,n',hP,rfl⟩ | ⟨hno,rfl⟩
      rotate_left
      ·have HN:Hid (NoP s):=HR5.out (reffno (RdL.no (PcRd.onep s) HRL.out HLT.out hno))
       have b0:=Ia.out.box.cell 0 _ rfl
       have b1:=Ia.out.box.cell 1 _ rfl
       have b2:=Ia.out.box.cell 2 _ rfl
       have b3:=Ia.out.box.cell 3 _ rfl
       have b4:=Ia.out.box.cell 4 _ rfl
       have b5:=Ia.out.box.cell 5 _ rfl
       have b6:=Ia.out.box.cell 6 _ rfl
       have b7:=Ia.out.box.cell 7 _ rfl
       obtain ⟨⟨r0,f0⟩,⟨r1,f1⟩,⟨r2,f2⟩,⟨r3,f3⟩,⟨r4,f4⟩,⟨r5,f5⟩,⟨r6,f6⟩,⟨r7,f7⟩,y0,y1,y2,y3,y4,y5,y6,y7⟩:=resC8 (x0:=.int .i64 (kn:Int)) (x1:=.int .i64 z0) (x2:=.int .i64 z1) (x3:=.slice Ab mb cb) (x4:=.int .i64 fl0) (x5:=.slice Ac mc cc) (x6:=.slice Af mf cf) (x7:=.slice none 0 0) Ra.out
       have BE:=Hid.mk (belowC8 Da.out (Nat.le_refl _) (.int .i64 (kn:Int)) (.int .i64 z0) (.int .i64 z1) (.slice Ab mb cb) (.int .i64 fl0) (.slice Ac mc cc) (.slice Af mf cf) (.slice none 0 0))
       go_wp2_with fail
       exact bodyPost_ret (v:=.tuple #[.agg #[.int .i64 (kn:Int),.int .i64 z0,.int .i64 z1,.slice Ab mb cb,.int .i64 fl0,.slice Ac mc cc,.slice Af mf cf,.slice none 0 0],.bool false]) (by simp [results,go_sem,y0,y1,y2,y3,y4,y5,y6,y7]) rfl ⟨.inr ⟨HN.out,_,_,_,_,_,_,_,_,_,_,_,_,_,_,_,_,rfl⟩,BE.out⟩
      have q11:¬ (n':Int) < 0:=by omega
      have HN6:Hid (n'≤s.size):=hP.text.2.2
      have HRL2:=Hid.mk (HRL.out.snoc hP)
      have HLF:Hid ((stR fs).length≤2097152):=by unfold Hid stR; rw [List.length_map,HRL.out.length]; have:=HLT.out; have:=H4.out; omega
      have Za:(w.heap.size+2)≤Xa.heap.size:=by have:=Ia.out.box.lt; omega
      have b6:=Ia.out.box.cell 6 _ rfl
      clear hP
      go_wp2_with (at_builtin; refine wpList_append_row (w:=Xa) rfl (.tmp 143) (.tmp 145) 24 9 (.string ⟨#[]⟩) 1 16 rfl Tryz.underlying24 infoStr rfl (by omega) (w.heap.size+2) (.slice Af mf cf) (stR fs) rfl Ia.out.of [.string ft] rfl (st_cell ft) rfl HLF.out (by omega) Za ?_; intro v2 Xb hO hb hk hw; obtain ⟨A2,m2,c2,rfl⟩:=hO.shape; refine Shut.out ?_)
      unfold Shut
      have kb:Blk Xb (w.heap.size+1) #[.int .i64 (kn:Int),.int .i64 z0,.int .i64 z1,.slice Ab mb cb,.int .i64 fl0,.slice Ac mc cc,.slice Af mf cf,.slice none 0 0] 38:=(hk _ Ia.out.box.lt (Ia.out.of.below Ia.out.lt)).trans Ia.out.box
      have bk:=kb.cell 6 _ rfl
      have fk:=kb.free 6
      have Ic:=Hid.mk (Ia.out.appF (y:=ft) (by rw [stR_append]; exact hO) hk)
      have Dc:Hid (Below w.heap.size w (Xb.setCell ⟨w.heap.size+1,6,none⟩ (.slice A2 m2 c2))):=(Da.out.trans (hb.mono (by omega))).setCell (p:=⟨_,_,none⟩) (Nat.le_succ _) _
      have Rc:=Hid.mk ((Ra.out.on hb (by omega)).other (show w.heap.size ≠ w.heap.size+1 by omega) 6 (.slice A2 m2 c2))
      have HE':=HE.out
      clear hO hb hk hw kb Da Ra Ia b6 Za
      go_wp2_with fail
      go_roundw
      case rel=>exact ⟨j+1,n',_,_,by have:=HLT.out; omega,by first | rfl | rw [HE.out],rfl,HRL2.out,HN6.out,Dc.out,Rc.out,Ic.out⟩
      case measure=>have:=HRE.out; have:=HLT.out; simp [intOf]; omega
     ·obtain rfl:j=nf:=by omega
      have q10:¬ (0:Int) < ((j - j:Nat):Int):=by omega
      generalize ((j - j:Nat):Int)=zz12 at *
      go_wp2_with fail
      go_meet
      exact ⟨n,_,fs,rfl,HRL.out,HNS.out,D9.out,R9.out,I9.out⟩
   case rest =>
     obtain ⟨n,vf,fs,rfl,hrl,hn,hd,hr,hi⟩:=hcut
     obtain ⟨Af,mf,cf,rfl⟩:=hi.of.shape
     have HRL:=Hid.mk hrl
     have HNS:Hid (n≤s.size):=hn
     have D9:Hid (Below w.heap.size w wc):=hd
     have R9:=Hid.mk hr
     have I9:=Hid.mk hi
     clear hrl hn hd hr hi D8 R8 I8
     generalize wc=X9 at *
     have Z9:Hid ((w.heap.size+2)≤X9.heap.size):=by have:=I9.out.box.lt; unfold Hid; omega
     generalize nf=j at *
     have HR6:Hid ((∀ ses,¬ Q7 s n ses) → NoP s):=fun h=>HR5.out (reff HRL.out h)
     have HQ6:Hid (∀ ses,Q7 s n ses → Qb s n1 k bks fl0 ct fs ses):=fun ses h=>HQ5.out _ _ HRL.out.length ⟨n,HRL.out,h⟩
     have HFL:Hid (fs.length=j):=HRL.out.length
     clear HR5 HQ5 HRL
     go_wp2_with fail
     refine (specVars s n 1 X9 HS.out (by have:=HNS.out; have:=HS.out; omega) (by omega)).mono ?_
     rintro e Xa ⟨hR,hb⟩
     have Da:Hid (Below w.heap.size w Xa):=D9.out.trans (hb.mono D9.out.size)
     have Ra:=Hid.mk (R9.out.on hb R9.out.lt)
     have Ia:=Hid.mk (I9.out.on hb)
     have ZO:Hid ((w.heap.size+2)≤X9.heap.size):=Z9.out
     clear hb D9 R9 I9
     rcases hR with ⟨l,n7,u,hR,rfl,hN⟩ | ⟨hno,u,rfl⟩
     rotate_left
     ·clear ZO
      have HN:Hid (NoP s):=HR6.out (ref7no fun ns n7 h _=>hno _ _ h)
      have b0:=Ia.out.box.cell 0 _ rfl
      have b1:=Ia.out.box.cell 1 _ rfl
      have b2:=Ia.out.box.cell 2 _ rfl
      have b3:=Ia.out.box.cell 3 _ rfl
      have b4:=Ia.out.box.cell 4 _ rfl
      have b5:=Ia.out.box.cell 5 _ rfl
      have b6:=Ia.out.box.cell 6 _ rfl
      have b7:=Ia.out.box.cell 7 _ rfl
      obtain ⟨⟨r0,f0⟩,⟨r1,f1⟩,⟨r2,f2⟩,⟨r3,f3⟩,⟨r4,f4⟩,⟨r5,f5⟩,⟨r6,f6⟩,⟨r7,f7⟩,y0,y1,y2,y3,y4,y5,y6,y7⟩:=resC8 (x0:=.int .i64 (kn:Int)) (x1:=.int .i64 z0) (x2:=.int .i64 z1) (x3:=.slice Ab mb cb) (x4:=.int .i64 fl0) (x5:=.slice Ac mc cc) (x6:=.slice Af mf cf) (x7:=.slice none 0 0) Ra.out
      have BE:=Hid.mk (belowC8 Da.out (Nat.le_refl _) (.int .i64 (kn:Int)) (.int .i64 z0) (.int .i64 z1) (.slice Ab mb cb) (.int .i64 fl0) (.slice Ac mc cc) (.slice Af mf cf) (.slice none 0 0))
      go_wp2_with fail
      exact bodyPost_ret (v:=.tuple #[.agg #[.int .i64 (kn:Int),.int .i64 z0,.int .i64 z1,.slice Ab mb cb,.int .i64 fl0,.slice Ac mc cc,.slice Af mf cf,.slice none 0 0],.bool false]) (by simp [results,go_sem,y0,y1,y2,y3,y4,y5,y6,y7]) rfl ⟨.inr ⟨HN.out,_,_,_,_,_,_,_,_,_,_,_,_,_,_,_,_,rfl⟩,BE.out⟩
     obtain ⟨p0,rfl⟩:=one_of hR.length
     have hz0:=hR.bound p0 (by simp)
     have hns:=hR.inS
     have Hp:=Hid.mk hR
     obtain ⟨glp,capp,rfl,hgl⟩:∃ g cap,u=.slice (some ⟨g,0,none⟩) 1 cap∧(w.heap.size+2)≤g:=by
      rcases hN.form with ⟨_,h⟩ | ⟨g,cap,h,_,_,h1,_⟩
      ·cases h
      ·exact ⟨g,cap,h,Nat.le_trans ZO.out h1⟩
     have e0:Xa.cell? ⟨glp,0,none⟩=some (.int .i64 p0):=hN.cell 0 (by simp)
     clear hR hN ZO
     obtain ⟨ns,rfl⟩:∃ ns:Nat,p0=(ns:Int):=⟨_,(Int.toNat_of_nonneg hz0.1).symm⟩
     have q12:¬ (n7:Int) < 0:=by omega
     by_cases h5:4 < ns
     ·have q13:(4:Int) < (ns:Int):=by omega
      clear h5
      have HN:Hid (NoP s):=HR6.out (ref7no fun ns2 n72 h h3=>by obtain ⟨e,rfl⟩:=h.one Hp.out; simp only [List.cons.injEq,and_true] at e; omega)
      have b0:=Ia.out.box.cell 0 _ rfl
      have b1:=Ia.out.box.cell 1 _ rfl
      have b2:=Ia.out.box.cell 2 _ rfl
      have b3:=Ia.out.box.cell 3 _ rfl
      have b4:=Ia.out.box.cell 4 _ rfl
      have b5:=Ia.out.box.cell 5 _ rfl
      have b6:=Ia.out.box.cell 6 _ rfl
      have b7:=Ia.out.box.cell 7 _ rfl
      obtain ⟨⟨r0,f0⟩,⟨r1,f1⟩,⟨r2,f2⟩,⟨r3,f3⟩,⟨r4,f4⟩,⟨r5,f5⟩,⟨r6,f6⟩,⟨r7,f7⟩,y0,y1,y2,y3,y4,y5,y6,y7⟩:=resC8 (x0:=.int .i64 (kn:Int)) (x1:=.int .i64 z0) (x2:=.int .i64 z1) (x3:=.slice Ab mb cb) (x4:=.int .i64 fl0) (x5:=.slice Ac mc cc) (x6:=.slice Af mf cf) (x7:=.slice none 0 0) Ra.out
      have BE:=Hid.mk (belowC8 Da.out (Nat.le_refl _) (.int .i64 (kn:Int)) (.int .i64 z0) (.int .i64 z1) (.slice Ab mb cb) (.int .i64 fl0) (.slice Ac mc cc) (.slice Af mf cf) (.slice none 0 0))
      go_wp2_with fail
      exact bodyPost_ret (v:=.tuple #[.agg #[.int .i64 (kn:Int),.int .i64 z0,.int .i64 z1,.slice Ab mb cb,.int .i64 fl0,.slice Ac mc cc,.slice Af mf cf,.slice none 0 0],.bool false]) (by simp [results,go_sem,y0,y1,y2,y3,y4,y5,y6,y7]) rfl ⟨.inr ⟨HN.out,_,_,_,_,_,_,_,_,_,_,_,_,_,_,_,_,rfl⟩,BE.out⟩
     have q13:¬ (4:Int) < (ns:Int):=by omega
     have q14:(ns:Int)≤4:=by omega
     have H5:Hid (ns≤4):=by unfold Hid; omega
     have HN7:Hid (n7≤s.size):=hns.2
     have HR7:Hid ((∀ ses,¬ RdL (SeRd s) n7 ns ses s.size) → NoP s):=fun h=>HR6.out (ref7 Hp.out h)
     have HQ7:Hid (∀ ses,ses.length=ns → RdL (SeRd s) n7 ns ses s.size → Qb s n1 k bks fl0 ct fs ses):=fun ses hl h=>HQ6.out _ ⟨n7,by rw [hl]; exact Hp.out,by rw [hl]; exact H5.out,by rw [hl]; exact h⟩
     clear hz0 hns hgl h5 HR6 HQ6 Hp
     go_upto_block 4 with fail
     go_cut [6] from 168 to 212 (fun s6 wc=>∃ (m:Nat) (vs:Value) (ses:List Ses),s6=.int .i64 (m:Int)∧RdL (SeRd s) n7 ns ses m∧m≤s.size∧Below w.heap.size w wc∧Blk wc w.heap.size #[.int .i64 0,.int .i64 0,.int .i64 0,.slice none 0 0,.int .i64 0,.slice none 0 0,.slice none 0 0,.slice none 0 0] 38∧IgS wc (w.heap.size+2) (w.heap.size+1) (kn:Int) z0 z1 fl0 (.slice Ab mb cb) (.slice Ac mc cc) (.slice Af mf cf) vs bks L fs ses)
     case first =>
      go_wp2_with fail
      go_loopw [6,15] (fun v6 v15 wr=>∃ (i n:Nat) (vs:Value) (ses:List Ses),i≤ns∧v15=.int .i64 ((ns - i:Nat):Int)∧v6=.int .i64 (n:Int)∧RdL (SeRd s) n7 i ses n∧n≤s.size∧Below w.heap.size w wr∧Blk wr w.heap.size #[.int .i64 0,.int .i64 0,.int .i64 0,.slice none 0 0,.int .i64 0,.slice none 0 0,.slice none 0 0,.slice none 0 0] 38∧IgS wr (w.heap.size+2) (w.heap.size+1) (kn:Int) z0 z1 fl0 (.slice Ab mb cb) (.slice Ac mc cc) (.slice Af mf cf) vs bks L fs ses) (fun _ i _=>(intOf i).toNat)
      case atStart=>exact ⟨0,n7,_,[],by omega,rfl,rfl,RdL.zero _ _,HN7.out,Da.out,Ra.out,Ia.out⟩
      case round =>
       obtain ⟨i,m,vs,ses,hi2,rfl,rfl,hrl,hn,hd,hr,hi⟩:=hrel
       obtain ⟨As,ms,cs,rfl⟩:=hi.os.shape
       have HRL:=Hid.mk hrl
       have HMS:Hid (m≤s.size):=hn
       have Dd:Hid (Below w.heap.size w wr):=hd
       have Rd:=Hid.mk hr
       have Id:=Hid.mk hi
       clear hrl hn hd hr hi Da Ra Ia
       generalize wr=Xd at *
       have Zd:Hid ((w.heap.size+2)≤Xd.heap.size):=by have:=Id.out.box.lt; unfold Hid; omega
       by_cases hlt:i < ns
       ·have q15:(0:Int) < ((ns - i:Nat):Int):=by omega
        have HE:Hid (IntKind.i64.wrap (((ns - i:Nat):Int) - 1)=((ns - (i+1):Nat):Int)):=by unfold Hid; rw [IntKind.wrap_i64]; omega
        have qk:((ns - i:Nat):Int)≤4:=by omega
        have HLT:Hid (i < ns):=hlt
        generalize hre:ns - i=rest at *
        have HRE:Hid (ns - i=rest):=hre
        clear hre
        go_wp2_with fail
        refine (specVars s m 2 Xd HS.out (by have:=HMS.out; have:=HS.out; omega) (by omega)).mono ?_
        rintro e Xe ⟨hR,hb⟩
        have De:Hid (Below w.heap.size w Xe):=Dd.out.trans (hb.mono Dd.out.size)
        have Re:=Hid.mk (Rd.out.on hb Rd.out.lt)
        have Ie:=Hid.mk (Id.out.on hb)
        have ZO:Hid ((w.heap.size+2)≤Xd.heap.size):=Zd.out
        clear hb Dd Rd Id
        rcases hR with ⟨l,m2,u,hR,rfl,hN⟩ | ⟨hno,u,rfl⟩
        rotate_left
        ·clear ZO
         have HN:Hid (NoP s):=HR7.out fun ses2 h=>RdL.no (SeRd.onep s) HRL.out HLT.out (fun y m3 hy=>by obtain ⟨b,t,h1,_⟩:=hy; exact hno _ _ h1) _ _ h
         have b0:=Ie.out.box.cell 0 _ rfl
         have b1:=Ie.out.box.cell 1 _ rfl
         have b2:=Ie.out.box.cell 2 _ rfl
         have b3:=Ie.out.box.cell 3 _ rfl
         have b4:=Ie.out.box.cell 4 _ rfl
         have b5:=Ie.out.box.cell 5 _ rfl
         have b6:=Ie.out.box.cell 6 _ rfl
         have b7:=Ie.out.box.cell 7 _ rfl
         obtain ⟨⟨r0,f0⟩,⟨r1,f1⟩,⟨r2,f2⟩,⟨r3,f3⟩,⟨r4,f4⟩,⟨r5,f5⟩,⟨r6,f6⟩,⟨r7,f7⟩,y0,y1,y2,y3,y4,y5,y6,y7⟩:=resC8 (x0:=.int .i64 (kn:Int)) (x1:=.int .i64 z0) (x2:=.int .i64 z1) (x3:=.slice Ab mb cb) (x4:=.int .i64 fl0) (x5:=.slice Ac mc cc) (x6:=.slice Af mf cf) (x7:=.slice As ms cs) Re.out
         have BE:=Hid.mk (belowC8 De.out (Nat.le_refl _) (.int .i64 (kn:Int)) (.int .i64 z0) (.int .i64 z1) (.slice Ab mb cb) (.int .i64 fl0) (.slice Ac mc cc) (.slice Af mf cf) (.slice As ms cs))
         go_wp2_with fail
         exact bodyPost_ret (v:=.tuple #[.agg #[.int .i64 (kn:Int),.int .i64 z0,.int .i64 z1,.slice Ab mb cb,.int .i64 fl0,.slice Ac mc cc,.slice Af mf cf,.slice As ms cs],.bool false]) (by simp [results,go_sem,y0,y1,y2,y3,y4,y5,y6,y7]) rfl ⟨.inr ⟨HN.out,_,_,_,_,_,_,_,_,_,_,_,_,_,_,_,_,rfl⟩,BE.out⟩
        obtain ⟨c0,c1,rfl⟩:=two_of hR.length
        have hz0:=hR.bound c0 (by simp)
        have hz1:=hR.bound c1 (by simp)
        have hns:=hR.inS
        have Hc:=Hid.mk hR
        obtain ⟨glc,capc,rfl,hgl,hglt⟩:∃ g cap,u=.slice (some ⟨g,0,none⟩) 2 cap∧(w.heap.size+2)≤g∧g < Xe.heap.size:=by
         rcases hN.form with ⟨_,h⟩ | ⟨g,cap,h,_,_,h1,h2⟩
         ·cases h
         ·exact ⟨g,cap,h,Nat.le_trans ZO.out h1,h2⟩
        have e0:Xe.cell? ⟨glc,0,none⟩=some (.int .i64 c0):=hN.cell 0 (by simp)
        have e1:Xe.cell? ⟨glc,1,none⟩=some (.int .i64 c1):=hN.cell 1 (by simp)
        clear hR hN ZO
        have q16:¬ (m2:Int) < 0:=by omega
        have HM2:Hid (m2≤s.size):=hns.2
        have EE:Hid (Xe.cell? ⟨glc,0,none⟩=some (.int .i64 c0)∧Xe.cell? ⟨glc,1,none⟩=some (.int .i64 c1)∧glc < Xe.heap.size):=⟨e0,e1,by have h:=hglt; exact h⟩
        clear hz0 hz1 hns hgl e0 e1 hglt
        go_wp2_with fail
        refine (specPieceAt s m2 Xe HS.out (by have:=HM2.out; have:=HS.out; omega)).mono ?_
        rintro e Xf ⟨hR,hb⟩
        have Df:Hid (Below w.heap.size w Xf):=De.out.trans (hb.mono De.out.size)
        have Rf:=Hid.mk (Re.out.on hb Re.out.lt)
        have If:=Hid.mk (Ie.out.on hb)
        have EF:Hid (Xf.cell? ⟨glc,0,none⟩=some (.int .i64 c0)∧Xf.cell? ⟨glc,1,none⟩=some (.int .i64 c1)∧glc < Xf.heap.size):=⟨(hb.cell (p:=⟨_,_,none⟩) EE.out.2.2).trans EE.out.1,(hb.cell (p:=⟨_,_,none⟩) EE.out.2.2).trans EE.out.2.1,Nat.lt_of_lt_of_le EE.out.2.2 hb.size⟩
        clear hb De Re Ie EE
        rcases hR with ⟨tt,m3,hP,rfl⟩ | ⟨hno,rfl⟩
        rotate_left
        ·have HNO:Hid (∀ t n,¬ PcRd s m2 t n):=hno
         clear hno
         go_wp2_with fail
         refine (specReadAnswer ⟨#[]⟩ Xf (by decide)).mono ?_
         rintro e Xg ⟨hA,hb⟩
         obtain ⟨xa,ba,rfl⟩:=hA.form
         have Dg:Hid (Below w.heap.size w Xg):=Df.out.trans (hb.mono Df.out.size)
         have Rg:=Hid.mk (Rf.out.on hb Rf.out.lt)
         have Ig:=Hid.mk (If.out.on hb)
         clear hb hA Df Rf If
         unfold vAns
         have al:=(Below.refl Xg.heap.size Xg).alloc (Nat.le_refl _) (.cells #[.int .i64 xa.code,.int .i64 xa.index,.int .i64 xa.mark,.string xa.data] 51)
         have Dh:=Hid.mk (Dg.out.trans (al.mono Dg.out.size))
         have Rh:=Hid.mk (Rg.out.on al Rg.out.lt)
         have Ih:=Hid.mk (Ig.out.on al)
         clear al Dg Rg Ig
         have HN:Hid (NoP s):=HR7.out fun ses2 h=>RdL.no (SeRd.onep s) HRL.out HLT.out (fun y m3 hy=>by obtain ⟨b,t,h1,h2,_⟩:=hy; obtain ⟨_,rfl⟩:=h1.one Hc.out; exact HNO.out _ _ h2) _ _ h
         have b0:=Ih.out.box.cell 0 _ rfl
         have b1:=Ih.out.box.cell 1 _ rfl
         have b2:=Ih.out.box.cell 2 _ rfl
         have b3:=Ih.out.box.cell 3 _ rfl
         have b4:=Ih.out.box.cell 4 _ rfl
         have b5:=Ih.out.box.cell 5 _ rfl
         have b6:=Ih.out.box.cell 6 _ rfl
         have b7:=Ih.out.box.cell 7 _ rfl
         obtain ⟨⟨r0,f0⟩,⟨r1,f1⟩,⟨r2,f2⟩,⟨r3,f3⟩,⟨r4,f4⟩,⟨r5,f5⟩,⟨r6,f6⟩,⟨r7,f7⟩,y0,y1,y2,y3,y4,y5,y6,y7⟩:=resC8 (x0:=.int .i64 (kn:Int)) (x1:=.int .i64 z0) (x2:=.int .i64 z1) (x3:=.slice Ab mb cb) (x4:=.int .i64 fl0) (x5:=.slice Ac mc cc) (x6:=.slice Af mf cf) (x7:=.slice As ms cs) Rh.out
         have BE:=Hid.mk (belowC8 Dh.out (Nat.le_refl _) (.int .i64 (kn:Int)) (.int .i64 z0) (.int .i64 z1) (.slice Ab mb cb) (.int .i64 fl0) (.slice Ac mc cc) (.slice Af mf cf) (.slice As ms cs))
         go_wp2_with fail
         exact bodyPost_ret (v:=.tuple #[.agg #[.int .i64 (kn:Int),.int .i64 z0,.int .i64 z1,.slice Ab mb cb,.int .i64 fl0,.slice Ac mc cc,.slice Af mf cf,.slice As ms cs],.bool false]) (by simp [results,go_sem,y0,y1,y2,y3,y4,y5,y6,y7]) rfl ⟨.inr ⟨HN.out,_,_,_,_,_,_,_,_,_,_,_,_,_,_,_,_,rfl⟩,BE.out⟩
        have q17:¬ (m3:Int) < 0:=by omega
        have HM3:Hid (m3≤s.size):=hP.text.2.2
        have HTS:Hid (tt.size≤1048576):=by obtain ⟨_,_,h2,h3,_⟩:=hP; have:=HS.out; unfold Hid; omega
        have HP:=Hid.mk hP
        clear hP
        go_wp2_with fail
        refine (specReadAnswer tt Xf HTS.out).mono ?_
        rintro e Xg ⟨hA,hb⟩
        have Dg:Hid (Below w.heap.size w Xg):=Df.out.trans (hb.mono Df.out.size)
        have Rg:=Hid.mk (Rf.out.on hb Rf.out.lt)
        have Ig:=Hid.mk (If.out.on hb)
        have EG:Hid (Xg.cell? ⟨glc,0,none⟩=some (.int .i64 c0)∧Xg.cell? ⟨glc,1,none⟩=some (.int .i64 c1)∧glc < Xg.heap.size):=⟨(hb.cell (p:=⟨_,_,none⟩) EF.out.2.2).trans EF.out.1,(hb.cell (p:=⟨_,_,none⟩) EF.out.2.2).trans EF.out.2.1,Nat.lt_of_lt_of_le EF.out.2.2 hb.size⟩
        clear hb Df Rf If EF
        rcases hA with ⟨xa,hx,rfl⟩ | ⟨hno,rfl⟩
        rotate_left
        ·have HNO:Hid (∀ x,¬ AnsRd tt x):=hno
         clear hno
         unfold vAns
         have al:=(Below.refl Xg.heap.size Xg).alloc (Nat.le_refl _) (.cells #[.int .i64 0,.int .i64 0,.int .i64 0,.string ⟨#[]⟩] 51)
         have Dh:=Hid.mk (Dg.out.trans (al.mono Dg.out.size))
         have Rh:=Hid.mk (Rg.out.on al Rg.out.lt)
         have Ih:=Hid.mk (Ig.out.on al)
         clear al Dg Rg Ig
         have HN:Hid (NoP s):=HR7.out fun ses2 h=>RdL.no (SeRd.onep s) HRL.out HLT.out (fun y m4 hy=>by obtain ⟨b,t,h1,h2,h3⟩:=hy; obtain ⟨_,rfl⟩:=h1.one Hc.out; obtain ⟨rfl,_⟩:=PcRd.onep s _ _ _ _ _ h2 HP.out; exact HNO.out _ h3) _ _ h
         have b0:=Ih.out.box.cell 0 _ rfl
         have b1:=Ih.out.box.cell 1 _ rfl
         have b2:=Ih.out.box.cell 2 _ rfl
         have b3:=Ih.out.box.cell 3 _ rfl
         have b4:=Ih.out.box.cell 4 _ rfl
         have b5:=Ih.out.box.cell 5 _ rfl
         have b6:=Ih.out.box.cell 6 _ rfl
         have b7:=Ih.out.box.cell 7 _ rfl
         obtain ⟨⟨r0,f0⟩,⟨r1,f1⟩,⟨r2,f2⟩,⟨r3,f3⟩,⟨r4,f4⟩,⟨r5,f5⟩,⟨r6,f6⟩,⟨r7,f7⟩,y0,y1,y2,y3,y4,y5,y6,y7⟩:=resC8 (x0:=.int .i64 (kn:Int)) (x1:=.int .i64 z0) (x2:=.int .i64 z1) (x3:=.slice Ab mb cb) (x4:=.int .i64 fl0) (x5:=.slice Ac mc cc) (x6:=.slice Af mf cf) (x7:=.slice As ms cs) Rh.out
         have BE:=Hid.mk (belowC8 Dh.out (Nat.le_refl _) (.int .i64 (kn:Int)) (.int .i64 z0) (.int .i64 z1) (.slice Ab mb cb) (.int .i64 fl0) (.slice Ac mc cc) (.slice Af mf cf) (.slice As ms cs))
         go_wp2_with fail
         exact bodyPost_ret (v:=.tuple #[.agg #[.int .i64 (kn:Int),.int .i64 z0,.int .i64 z1,.slice Ab mb cb,.int .i64 fl0,.slice Ac mc cc,.slice Af mf cf,.slice As ms cs],.bool false]) (by simp [results,go_sem,y0,y1,y2,y3,y4,y5,y6,y7]) rfl ⟨.inr ⟨HN.out,_,_,_,_,_,_,_,_,_,_,_,_,_,_,_,_,rfl⟩,BE.out⟩
        have HY:Hid (SeRd s m ⟨c0,c1,xa.code,xa.index,xa.mark,xa.data⟩ m3):=⟨m2,tt,Hc.out,HP.out,hx⟩
        unfold vAns
        have al:=(Below.refl Xg.heap.size Xg).alloc (Nat.le_refl _) (.cells #[.int .i64 xa.code,.int .i64 xa.index,.int .i64 xa.mark,.string xa.data] 51)
        have Dh:=Hid.mk (Dg.out.trans (al.mono Dg.out.size))
        have Rh:=Hid.mk (Rg.out.on al Rg.out.lt)
        have Ih:=Hid.mk (Ig.out.on al)
        have KA:=Hid.mk (Blk.new Xg #[.int .i64 xa.code,.int .i64 xa.index,.int .i64 xa.mark,.string xa.data] 51)
        have EH:Hid ((Xg.alloc (.cells #[.int .i64 xa.code,.int .i64 xa.index,.int .i64 xa.mark,.string xa.data] 51)).cell? ⟨glc,0,none⟩=some (.int .i64 c0)∧(Xg.alloc (.cells #[.int .i64 xa.code,.int .i64 xa.index,.int .i64 xa.mark,.string xa.data] 51)).cell? ⟨glc,1,none⟩=some (.int .i64 c1)):=⟨cell_alloc_keep EG.out.1 _,cell_alloc_keep EG.out.2.1 _⟩
        clear al Dg Rg Ig hx EG
        have HLS:Hid ((sesR ses).length≤2097152):=by unfold Hid sesR; rw [List.length_map,HRL.out.length]; have:=HLT.out; have:=H5.out; omega
        go_wp2_with fail
        obtain ⟨ga,hga⟩:∃ ga,ga=Xg.heap.size:=⟨_,rfl⟩
        rw [← hga] at KA ⊢
        clear hga
        generalize Xg.alloc (.cells #[.int .i64 xa.code,.int .i64 xa.index,.int .i64 xa.mark,.string xa.data] 51)=Xh at *
        have S0:Hid (Xh.drew.cell? ⟨w.heap.size+1,7,none⟩=some (.slice As ms cs)∧Xh.drew.cell? ⟨glc,0,none⟩=some (.int .i64 c0)∧Xh.drew.cell? ⟨glc,1,none⟩=some (.int .i64 c1)∧Xh.drew.cell? ⟨ga,0,none⟩=some (.int .i64 xa.code)∧Xh.drew.cell? ⟨ga,1,none⟩=some (.int .i64 xa.index)∧Xh.drew.cell? ⟨ga,2,none⟩=some (.int .i64 xa.mark)∧Xh.drew.cell? ⟨ga,3,none⟩=some (.string xa.data)):=⟨Ih.out.box.cell 7 _ rfl,EH.out.1,EH.out.2,KA.out.cell 0 _ rfl,KA.out.cell 1 _ rfl,KA.out.cell 2 _ rfl,KA.out.cell 3 _ rfl⟩
        have D5:Hid (Below w.heap.size w Xh.drew):=Dh.out.drew
        have R5:Hid (Blk Xh.drew w.heap.size #[.int .i64 0,.int .i64 0,.int .i64 0,.slice none 0 0,.int .i64 0,.slice none 0 0,.slice none 0 0,.slice none 0 0] 38):=Rh.out
        have I5:=Hid.mk Ih.out.drew
        have Z5:Hid ((w.heap.size+2)≤Xh.drew.heap.size):=by have:=Ih.out.box.lt; unfold Hid; show w.heap.size+2≤Xh.heap.size; omega
        refine wp_region_until (fun w'=>w'.cell? ⟨w.heap.size+1,7,none⟩=some (.slice As ms cs)∧w'.cell? ⟨glc,0,none⟩=some (.int .i64 c0)∧w'.cell? ⟨glc,1,none⟩=some (.int .i64 c1)∧w'.cell? ⟨ga,0,none⟩=some (.int .i64 xa.code)∧w'.cell? ⟨ga,1,none⟩=some (.int .i64 xa.index)∧w'.cell? ⟨ga,2,none⟩=some (.int .i64 xa.mark)∧w'.cell? ⟨ga,3,none⟩=some (.string xa.data)) (fun i=>i == 11 || i == 13) 14 (by rfl) (by kernel_rfl) ?_
        clear KA EH Dh Rh Ih
        generalize Xh.drew=Y at *
        obtain ⟨nA,nm,nc,w5,r5,hO5,hb5,hk5,-⟩:=run_append_row (P:=Tryz.prog) Y 36 36 53 (.agg #[.int .i64 0,.int .i64 0,.int .i64 0,.int .i64 0,.int .i64 0,.string ⟨#[]⟩]) 6 56 Tryz.underlying36 Tryz.infoSes rfl (by omega) (w.heap.size+2) (.slice As ms cs) (sesR ses) I5.out.os [.int .i64 c0,.int .i64 c1,.int .i64 xa.code,.int .i64 xa.index,.int .i64 xa.mark,.string xa.data] rfl (ses_cells _ _ _ _ _ _) HLS.out (by omega) Z5.out
        refine tF 0 S0.out ?_
        refine tF 1 S0.out ?_
        refine tF 2 S0.out ?_
        refine tF 3 S0.out ?_
        refine tF 4 S0.out ?_
        refine tF 5 S0.out ?_
        refine tF 6 S0.out ?_
        refine tF 7 S0.out ?_
        refine tF 8 S0.out ?_
        refine pF 9 ?_
        refine uNe 10 (fun K hK=>?_)
        go_simp
        refine hK.out _ _ (fun _ h=>⟨cell_alloc_keep h.1 _,cell_alloc_keep h.2.1 _,cell_alloc_keep h.2.2.1 _,cell_alloc_keep h.2.2.2.1 _,cell_alloc_keep h.2.2.2.2.1 _,cell_alloc_keep h.2.2.2.2.2.1 _,cell_alloc_keep h.2.2.2.2.2.2 _⟩) ?_
        clear hK K
        try simp only [Act.put,zQ1,zQ2,zQ3]
        refine uNe 11 (fun K hK=>?_)
        refine step_append_run (by rfl) (.tmp 200) (.tmp 209) 36 (by rfl) _ _ _ _ (by rfl) (by rfl) r5 ?_
        refine hK.out _ _ (fun h=>by cases h) ?_
        clear hK K
        try simp only [Act.put,zQ1,zQ2,zQ3]
        refine pF 12 ?_
        have kb:Blk w5 (w.heap.size+1) #[.int .i64 (kn:Int),.int .i64 z0,.int .i64 z1,.slice Ab mb cb,.int .i64 fl0,.slice Ac mc cc,.slice Af mf cf,.slice As ms cs] 38:=(hk5 _ I5.out.box.lt (I5.out.os.below I5.out.lt)).trans I5.out.box
        have bk:=kb.cell 7 _ rfl
        have fk:=kb.free 7
        have I6:=Hid.mk (I5.out.appS (y:=⟨c0,c1,xa.code,xa.index,xa.mark,xa.data⟩) (by rw [sesR_append]; exact hO5) hk5)
        have D6:Hid (Below w.heap.size w (w5.setCell ⟨w.heap.size+1,7,none⟩ (.slice nA nm nc))):=(D5.out.trans (hb5.mono (by omega))).setCell (p:=⟨_,_,none⟩) (Nat.le_succ _) _
        have R6:=Hid.mk ((R5.out.on hb5 (by omega)).other (show w.heap.size ≠ w.heap.size+1 by omega) 7 (.slice nA nm nc))
        refine uNe 13 (fun K hK=>?_)
        go_simp
        refine hK.out _ _ (fun h=>by cases h) ?_
        clear hK K kb bk fk
        try simp only [Act.put,zQ1,zQ2,zQ3]
        refine until_done (by kernel_rfl) ?_ _
        have HRL2:=Hid.mk (HRL.out.snoc HY.out)
        have HE':=HE.out
        clear hO5 hb5 hk5 r5 D5 R5 I5 S0
        go_wp2_with fail
        go_roundw
        case rel=>exact ⟨i+1,m3,_,_,by have:=HLT.out; omega,by first | rfl | rw [HE.out],rfl,HRL2.out,HM3.out,D6.out,R6.out,I6.out⟩
        case measure=>have:=HRE.out; have:=HLT.out; simp [intOf]; omega
       ·obtain rfl:i=ns:=by omega
        have q15:¬ (0:Int) < ((i - i:Nat):Int):=by omega
        generalize ((i - i:Nat):Int)=zz15 at *
        go_wp2_with fail
        go_meet
        exact ⟨m,_,ses,rfl,HRL.out,HMS.out,Dd.out,Rd.out,Id.out⟩
     case rest =>
       obtain ⟨m,vs,ses,rfl,hrl,hn,hd,hr,hi⟩:=hcut
       obtain ⟨As,ms,cs,rfl⟩:=hi.os.shape
       have HRL:=Hid.mk hrl
       have HMS:Hid (m≤s.size):=hn
       have Dd:Hid (Below w.heap.size w wc):=hd
       have Rd:=Hid.mk hr
       have Id:=Hid.mk hi
       clear hrl hn hd hr hi Da Ra Ia
       generalize wc=Xd at *
       generalize ns=i at *
       have b0:=Id.out.box.cell 0 _ rfl
       have b1:=Id.out.box.cell 1 _ rfl
       have b2:=Id.out.box.cell 2 _ rfl
       have b3:=Id.out.box.cell 3 _ rfl
       have b4:=Id.out.box.cell 4 _ rfl
       have b5:=Id.out.box.cell 5 _ rfl
       have b6:=Id.out.box.cell 6 _ rfl
       have b7:=Id.out.box.cell 7 _ rfl
       obtain ⟨⟨r0,f0⟩,⟨r1,f1⟩,⟨r2,f2⟩,⟨r3,f3⟩,⟨r4,f4⟩,⟨r5,f5⟩,⟨r6,f6⟩,⟨r7,f7⟩,y0,y1,y2,y3,y4,y5,y6,y7⟩:=resC8 (x0:=.int .i64 (kn:Int)) (x1:=.int .i64 z0) (x2:=.int .i64 z1) (x3:=.slice Ab mb cb) (x4:=.int .i64 fl0) (x5:=.slice Ac mc cc) (x6:=.slice Af mf cf) (x7:=.slice As ms cs) Rd.out
       have BE:=Hid.mk (belowC8 Dd.out (Nat.le_refl _) (.int .i64 (kn:Int)) (.int .i64 z0) (.int .i64 z1) (.slice Ab mb cb) (.int .i64 fl0) (.slice Ac mc cc) (.slice Af mf cf) (.slice As ms cs))
       have IE:=Hid.mk (Id.out.put8 (show w.heap.size < w.heap.size+1 by omega) (.int .i64 (kn:Int)) (.int .i64 z0) (.int .i64 z1) (.slice Ab mb cb) (.int .i64 fl0) (.slice Ac mc cc) (.slice Af mf cf) (.slice As ms cs))
       by_cases hme:m=s.size
       ·have HX:Hid (StaP s ⟨(kn:Int),z0,z1,bks,⟨fl0,L.map Prod.fst,fs⟩,ses⟩ ct):=by
         refine StaP.of (n1:=n1) ?_ (by show (kn:Int)=(kB s:Int); rw [HKB.out]) ?_ ?_
         ·show RdF s 1 3 [z0,z1,(bks.length:Int)] n1
          rw [HBL.out]; exact Hz.out
         ·show bks.length≤12
          rw [HBL.out]; exact H12.out
         ·show Qb s n1 bks.length bks fl0 ct fs ses
          rw [HBL.out]
          exact HQ7.out _ HRL.out.length (by rw [← hme]; exact HRL.out)
        have q18:((m:Int) == (s.size:Int))=true:=by simpa using (by omega:(m:Int)=(s.size:Int))
        clear hme
        go_wp2_with fail
        exact bodyPost_ret (v:=.tuple #[.agg #[.int .i64 (kn:Int),.int .i64 z0,.int .i64 z1,.slice Ab mb cb,.int .i64 fl0,.slice Ac mc cc,.slice Af mf cf,.slice As ms cs],.bool true]) (by simp [results,go_sem,y0,y1,y2,y3,y4,y5,y6,y7]) rfl ⟨.inl ⟨_,ct,_,HX.out,HCA.out,rfl,IE.out.state.mono (by omega)⟩,BE.out⟩
       ·have HN:Hid (NoP s):=HR7.out (refs HRL.out hme)
        have q18:((m:Int) == (s.size:Int))=false:=by simpa using (by omega:¬ (m:Int)=(s.size:Int))
        clear hme
        go_wp2_with fail
        exact bodyPost_ret (v:=.tuple #[.agg #[.int .i64 (kn:Int),.int .i64 z0,.int .i64 z1,.slice Ab mb cb,.int .i64 fl0,.slice Ac mc cc,.slice Af mf cf,.slice As ms cs],.bool false]) (by simp [results,go_sem,y0,y1,y2,y3,y4,y5,y6,y7]) rfl ⟨.inr ⟨HN.out,_,_,_,_,_,_,_,_,_,_,_,_,_,_,_,_,rfl⟩,BE.out⟩
set_option maxHeartbeats 4000000 in
theorem specReadState (s:ByteArray) (w:World) (hs:s.size≤1048576) :
  Calls Tryz.prog 13 #[.string s] w fun e w'=>StaA s w.heap.size e w'∧Below w.heap.size w w':=by
 have HS:Hid (s.size≤1048576):=hs
 have qs:(s.size:Int)≤1048576:=by omega
 have D0:Hid (Below w.heap.size w (w.alloc (.cells #[.int .i64 0,.int .i64 0,.int .i64 0,.slice none 0 0,.int .i64 0,.slice none 0 0,.slice none 0 0,.slice none 0 0] 38))):=(Below.refl _ w).alloc (Nat.le_refl _) _
 have R0:=Hid.mk (Blk.new w #[.int .i64 0,.int .i64 0,.int .i64 0,.slice none 0 0,.int .i64 0,.slice none 0 0,.slice none 0 0,.slice none 0 0] 38)
 clear hs
 go_enter Tryz.func13,Tryz.ntmps13
 go_upto_if 8 with fail
 generalize w.alloc (.cells #[.int .i64 0,.int .i64 0,.int .i64 0,.slice none 0 0,.int .i64 0,.slice none 0 0,.slice none 0 0,.slice none 0 0] 38)=X0 at *
 have Z0:=hQz (R0.out.lt)
 generalize hbd:decide ((30000:Int) < (s.size:Int))=bd at *
 have HBD:Hid (decide ((30000:Int) < (s.size:Int))=bd):=hbd
 clear hbd
 cases bd
 rotate_left
 ·have HBG:Hid (30000 < s.size):=by have h:=of_decide_eq_true HBD.out; unfold Hid; omega
  clear HBD
  have HN:Hid (∀ x,¬ StaRd s x):=fun x hx=>by have:=hx.short; have:=HBG.out; omega
  obtain ⟨⟨r0,f0⟩,⟨r1,f1⟩,⟨r2,f2⟩,⟨r3,f3⟩,⟨r4,f4⟩,⟨r5,f5⟩,⟨r6,f6⟩,⟨r7,f7⟩,y0,y1,y2,y3,y4,y5,y6,y7⟩:=resC8 (x0:=.int .i64 0) (x1:=.int .i64 0) (x2:=.int .i64 0) (x3:=.slice none 0 0) (x4:=.int .i64 0) (x5:=.slice none 0 0) (x6:=.slice none 0 0) (x7:=.slice none 0 0) R0.out
  have BE:=Hid.mk (belowC8 D0.out (Nat.le_refl _) (.int .i64 0) (.int .i64 0) (.int .i64 0) (.slice none 0 0) (.int .i64 0) (.slice none 0 0) (.slice none 0 0) (.slice none 0 0))
  go_wp2_with fail
  exact bodyPost_ret (v:=.tuple #[.agg #[.int .i64 0,.int .i64 0,.int .i64 0,.slice none 0 0,.int .i64 0,.slice none 0 0,.slice none 0 0,.slice none 0 0],.bool false]) (by simp [results,go_sem,y0,y1,y2,y3,y4,y5,y6,y7]) rfl ⟨.inr ⟨HN.out,_,rfl,StaO.zero _ _⟩,BE.out⟩
 clear HBD
 go_wp2_with fail
 refine (specParse s X0 HS.out).mono ?_
 rintro e X1 ⟨hA,hb⟩
 have D1:=hQz (D0.out.trans (hb.mono D0.out.size))
 have R1:=Hid.mk (R0.out.on hb R0.out.lt)
 clear hb D0 R0
 rcases hA with ⟨x,c,u,hP,hC,rfl,hO⟩ | ⟨hno,k,h,m,f,A1,A2,A3,A4,m1,c1,m2,c2,m3,c3,m4,c4,rfl⟩
 rotate_left
 ·have al:=(Below.refl X1.heap.size X1).alloc (Nat.le_refl _) (.cells #[.int .i64 k,.int .i64 h,.int .i64 m,.slice A1 m1 c1,.int .i64 f,.slice A2 m2 c2,.slice A3 m3 c3,.slice A4 m4 c4] 38)
  have D2:=Hid.mk (D1.out.trans (al.mono D1.out.size))
  have R2:=Hid.mk (R1.out.on al R1.out.lt)
  clear al D1 R1
  have HN:Hid (∀ x,¬ StaRd s x):=fun x hx=>by obtain ⟨⟨c,h1,_⟩,_⟩:=hx; exact hno _ _ h1
  obtain ⟨⟨r0,f0⟩,⟨r1,f1⟩,⟨r2,f2⟩,⟨r3,f3⟩,⟨r4,f4⟩,⟨r5,f5⟩,⟨r6,f6⟩,⟨r7,f7⟩,y0,y1,y2,y3,y4,y5,y6,y7⟩:=resC8 (x0:=.int .i64 0) (x1:=.int .i64 0) (x2:=.int .i64 0) (x3:=.slice none 0 0) (x4:=.int .i64 0) (x5:=.slice none 0 0) (x6:=.slice none 0 0) (x7:=.slice none 0 0) R2.out
  have BE:=Hid.mk (belowC8 D2.out (Nat.le_refl _) (.int .i64 0) (.int .i64 0) (.int .i64 0) (.slice none 0 0) (.int .i64 0) (.slice none 0 0) (.slice none 0 0) (.slice none 0 0))
  go_wp2_with fail
  exact bodyPost_ret (v:=.tuple #[.agg #[.int .i64 0,.int .i64 0,.int .i64 0,.slice none 0 0,.int .i64 0,.slice none 0 0,.slice none 0 0,.slice none 0 0],.bool false]) (by simp [results,go_sem,y0,y1,y2,y3,y4,y5,y6,y7]) rfl ⟨.inr ⟨HN.out,_,rfl,StaO.zero _ _⟩,BE.out⟩
 have HAS:=Hid.mk (asked hP hC)
 have HSh:=Hid.mk (hP.shortQ hC HS.out)
 obtain ⟨Ab,nb,cb,Ac,nc,cc,Af,nf,cf,As,ns,cs,rfl⟩:=hO.shape
 have HX:Hid (∀ vb vc vf vs,vSt x vb vc vf vs=.agg #[.int .i64 x.kind,.int .i64 x.hold,.int .i64 x.mark,vb,.int .i64 x.eng.floor,vc,vf,vs]):=fun _ _ _ _=>rfl
 rw [HX.out] at hO ⊢
 have al:=(Below.refl X1.heap.size X1).alloc (Nat.le_refl _) (.cells #[.int .i64 x.kind,.int .i64 x.hold,.int .i64 x.mark,.slice Ab nb cb,.int .i64 x.eng.floor,.slice Ac nc cc,.slice Af nf cf,.slice As ns cs] 38)
 have D2:=Hid.mk (D1.out.trans (al.mono D1.out.size))
 have R2:=Hid.mk (R1.out.on al R1.out.lt)
 have O2:=Hid.mk (hO.on al)
 have K2:=Hid.mk (Blk.new X1 #[.int .i64 x.kind,.int .i64 x.hold,.int .i64 x.mark,.slice Ab nb cb,.int .i64 x.eng.floor,.slice Ac nc cc,.slice Af nf cf,.slice As ns cs] 38)
 clear al D1 R1 hO hP hC
 have k0:=K2.out.cell 0 _ rfl
 have k1:=K2.out.cell 1 _ rfl
 have k2:=K2.out.cell 2 _ rfl
 have k3:=K2.out.cell 3 _ rfl
 have k4:=K2.out.cell 4 _ rfl
 have k5:=K2.out.cell 5 _ rfl
 have k6:=K2.out.cell 6 _ rfl
 have k7:=K2.out.cell 7 _ rfl
 go_wp2_with fail
 obtain ⟨gx,hgx⟩:∃ gx,gx=X1.heap.size:=⟨_,rfl⟩
 rw [← hgx] at K2 ⊢
 clear k0 k1 k2 k3 k4 k5 k6 k7 hgx
 generalize X1.alloc (.cells #[.int .i64 x.kind,.int .i64 x.hold,.int .i64 x.mark,.slice Ab nb cb,.int .i64 x.eng.floor,.slice Ac nc cc,.slice Af nf cf,.slice As ns cs] 38)=X2 at *
 have c2:=specShowState x _ X2 X2.heap.size O2.out.view HSh.out (Nat.le_refl _)
 refine c2.mono ?_
 rintro e X3 ⟨rfl,hb⟩
 have D3:=Hid.mk (D2.out.trans (hb.mono D2.out.size))
 have R3:=Hid.mk (R2.out.on hb R2.out.lt)
 have O3:=Hid.mk (O2.out.on hb)
 have K3:=Hid.mk (K2.out.on hb K2.out.lt)
 clear hb c2 D2 R2 O2 K2
 generalize staT x=st at *
 by_cases hst:st=s
 ·have HRD:Hid (StaRd s x):=HAS.out.1 hst
  subst hst
  have k0:=K3.out.cell 0 _ rfl
  have k1:=K3.out.cell 1 _ rfl
  have k2:=K3.out.cell 2 _ rfl
  have k3:=K3.out.cell 3 _ rfl
  have k4:=K3.out.cell 4 _ rfl
  have k5:=K3.out.cell 5 _ rfl
  have k6:=K3.out.cell 6 _ rfl
  have k7:=K3.out.cell 7 _ rfl
  obtain ⟨⟨r0,f0⟩,⟨r1,f1⟩,⟨r2,f2⟩,⟨r3,f3⟩,⟨r4,f4⟩,⟨r5,f5⟩,⟨r6,f6⟩,⟨r7,f7⟩,y0,y1,y2,y3,y4,y5,y6,y7⟩:=resC8 (x0:=.int .i64 x.kind) (x1:=.int .i64 x.hold) (x2:=.int .i64 x.mark) (x3:=.slice Ab nb cb) (x4:=.int .i64 x.eng.floor) (x5:=.slice Ac nc cc) (x6:=.slice Af nf cf) (x7:=.slice As ns cs) R3.out
  have BE:=Hid.mk (belowC8 D3.out (Nat.le_refl _) (.int .i64 x.kind) (.int .i64 x.hold) (.int .i64 x.mark) (.slice Ab nb cb) (.int .i64 x.eng.floor) (.slice Ac nc cc) (.slice Af nf cf) (.slice As ns cs))
  have OE:=Hid.mk (O3.out.put8 Z0.out (.int .i64 x.kind) (.int .i64 x.hold) (.int .i64 x.mark) (.slice Ab nb cb) (.int .i64 x.eng.floor) (.slice Ac nc cc) (.slice Af nf cf) (.slice As ns cs))
  go_wp2_with fail
  exact bodyPost_ret (v:=.tuple #[.agg #[.int .i64 x.kind,.int .i64 x.hold,.int .i64 x.mark,.slice Ab nb cb,.int .i64 x.eng.floor,.slice Ac nc cc,.slice Af nf cf,.slice As ns cs],.bool true]) (by simp [results,go_sem,y0,y1,y2,y3,y4,y5,y6,y7]) rfl ⟨.inl ⟨x,_,HRD.out,rfl,OE.out.mono (Nat.le_of_lt Z0.out)⟩,BE.out⟩
 ·obtain ⟨tq1,tq2,tq3⟩:=text_neq hst
  have HN:Hid (∀ x,¬ StaRd s x):=HAS.out.2 hst
  obtain ⟨⟨r0,f0⟩,⟨r1,f1⟩,⟨r2,f2⟩,⟨r3,f3⟩,⟨r4,f4⟩,⟨r5,f5⟩,⟨r6,f6⟩,⟨r7,f7⟩,y0,y1,y2,y3,y4,y5,y6,y7⟩:=resC8 (x0:=.int .i64 0) (x1:=.int .i64 0) (x2:=.int .i64 0) (x3:=.slice none 0 0) (x4:=.int .i64 0) (x5:=.slice none 0 0) (x6:=.slice none 0 0) (x7:=.slice none 0 0) R3.out
  have BE:=Hid.mk (belowC8 D3.out (Nat.le_refl _) (.int .i64 0) (.int .i64 0) (.int .i64 0) (.slice none 0 0) (.int .i64 0) (.slice none 0 0) (.slice none 0 0) (.slice none 0 0))
  go_wp2_with fail
  exact bodyPost_ret (v:=.tuple #[.agg #[.int .i64 0,.int .i64 0,.int .i64 0,.slice none 0 0,.int .i64 0,.slice none 0 0,.slice none 0 0,.slice none 0 0],.bool false]) (by simp [results,go_sem,y0,y1,y2,y3,y4,y5,y6,y7]) rfl ⟨.inr ⟨HN.out,_,rfl,StaO.zero _ _⟩,BE.out⟩
end Go.Proofs.YthhamlahdjokkaaGreatDoor
