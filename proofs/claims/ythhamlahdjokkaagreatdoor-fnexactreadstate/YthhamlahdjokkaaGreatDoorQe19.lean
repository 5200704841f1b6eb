/- EgI5 EgI6 EgI7 EgI8 StI2 IgShelf EgAid EgIA -/
import Derived.Test.YthhamlahdjokkaaGreatDoorQe17
import Derived.Test.YthhamlahdjokkaaGreatDoorQe18
open List (setIfInBounds_toArray set_cons_zero set_cons_succ)
namespace Go.Proofs.YthhamlahdjokkaaGreatDoor
open Go.ChangeShapes Go.WideShapes Go.ChangeAt Go.RowKit Go.PlainAid
set_option linter.unusedVariables false
theorem store_own {P:Program} (w:World) (e:TypeId) (sz:Nat) (base g cap:Nat) (rows:List (List Value)) (hown:Owns w base e sz (.slice (some ⟨g,0,none⟩) rows.length cap) rows)
  (k:Nat) (more:List (List Value)) (hms:∀ r ∈ more,r.length=sz) (h1:∀ r ∈ more,∀ y ∈ r,y.oneCell'=true) (hfit:k+more.length≤rows.length) :
  ∃ w',(storeCells ⟨g,k * sz,none⟩ more.flatten).run P w=.ok () w'∧Owns w' base e sz (.slice (some ⟨g,0,none⟩) rows.length cap) (rows.take k ++ more ++ rows.drop (k+more.length))∧Below base w w'∧(∀ b,b ≠ g → w'.heap[b]?=w.heap[b]?):=by
 obtain ⟨hrs,hlen,hor⟩:=hown
 rcases hor with ⟨e1,_⟩ | ⟨g',cap',cur,e1,hbg,hg,hnc,hcm,hcs,htake⟩
 ·cases e1
 ·cases e1
  have hfl:more.flatten.length=more.length * sz:=flat_length sz more hms
  have hsz1:(k+more.length) * sz≤rows.length * sz:=Nat.mul_le_mul_right sz hfit
  have hsz2:rows.length * sz≤cap * sz:=Nat.mul_le_mul_right sz hnc
  have hadd:(k+more.length) * sz=k * sz+more.length * sz:=Nat.add_mul _ _ _
  have hrun:=run_storeCells_at P g (k * sz) e more.flatten 0 cur w hg (by rw [Nat.add_zero,hfl]; omega) (fun y hy=>by
   obtain ⟨r,hr,hyr⟩:=List.mem_flatten.1 hy
   exact h1 r hr y hyr)
  rw [Nat.add_zero] at hrun
  refine ⟨_,hrun,?_,below_setRow (Below.refl _ _) hbg _,fun b hb=>setRow_other w g b _ hb⟩
  have hft:rows.flatten=(rows.take k).flatten ++ (rows.drop k).flatten:=by rw [← List.flatten_append,List.take_append_drop]
  have hl1:(rows.take k).flatten.length=k * sz:=by rw [flat_length sz _ (fun r hr=>hrs r (List.mem_of_mem_take hr)),List.length_take,Nat.min_eq_left (by omega)]
  have hl2:(rows.take (k+more.length)).flatten.length=(k+more.length) * sz:=by rw [flat_length sz _ (fun r hr=>hrs r (List.mem_of_mem_take hr)),List.length_take,Nat.min_eq_left (by omega)]
  have hft2:rows.flatten=(rows.take (k+more.length)).flatten ++ (rows.drop (k+more.length)).flatten:=by rw [← List.flatten_append,List.take_append_drop]
  have hall:∀ r ∈ rows.take k ++ more ++ rows.drop (k+more.length),r.length=sz:=by
   intro r hr
   rcases List.mem_append.1 hr with hr | hr
   ·rcases List.mem_append.1 hr with hr | hr
    ·exact hrs r (List.mem_of_mem_take hr)
    ·exact hms r hr
   ·exact hrs r (List.mem_of_mem_drop hr)
  have hnl:(rows.take k ++ more ++ rows.drop (k+more.length)).length=rows.length:=by
   simp only [List.length_append,List.length_take,List.length_drop]
   omega
  have hcl:cur.toList.length=cap * sz:=by rw [Array.length_toList]; exact hcs
  have hf1:(rows.take k).flatten=cur.toList.take (k * sz):=by
   have:(rows.take k).flatten=rows.flatten.take (k * sz):=by rw [hft]; exact (List.take_left' hl1).symm
   rw [this,← htake,List.take_take]
   congr 1
   omega
  have hf2:(rows.drop (k+more.length)).flatten=(cur.toList.drop ((k+more.length) * sz)).take (rows.length * sz - (k+more.length) * sz):=by
   have:(rows.drop (k+more.length)).flatten=rows.flatten.drop ((k+more.length) * sz):=by rw [hft2]; exact (List.drop_left' hl2).symm
   rw [this,← htake,List.drop_take]
  refine ⟨hall,?_,.inr ⟨g,cap,_,by rw [hnl],hbg,setRow_heap w g cur _ e _ hg,by rw [hnl]; exact hnc,hcm,?_,?_⟩⟩
  ·rw [flat_length sz _ hall]
  ·rw [List.size_toArray]
   simp only [List.length_append,List.length_take,List.length_drop,hfl,hcl]
   omega
  ·rw [hnl,List.toList_toArray,List.flatten_append,List.flatten_append,hf1,hf2,hfl,← hadd]
   rw [List.take_append]
   have e3:(List.take (k * sz) cur.toList ++ more.flatten).length=(k+more.length) * sz:=by
    simp only [List.length_append,List.length_take,hfl,hcl]
    omega
   rw [e3,List.take_of_length_le (by omega)]
theorem run_clear_pts (w:World) (base g cap:Nat) (rows:List (List Value)) (hown:Owns w base 98 2 (.slice (some ⟨g,0,none⟩) rows.length cap) rows) (k:Nat) (hk:k≤rows.length) (dp:Option Addr) (dCap:Nat) (hdp:k < rows.length → dp=some ⟨g,k * 2,none⟩) :
  ∃ w',(∀ ty,(Builtin.clear_ #[99] ty #[.slice dp (rows.length - k) dCap]).run Tryz.prog w=.ok (.tuple #[]) w')∧Owns w' base 98 2 (.slice (some ⟨g,0,none⟩) rows.length cap) (rows.take k ++ List.replicate (rows.length - k) ptZ)∧Below base w w':=by
 by_cases h0:rows.length - k=0
 ·refine ⟨w,fun ty=>?_,?_,Below.refl _ _⟩
  ·rw [h0]
   cases dp <;> simp [Builtin.clear_,run_underlying Tryz.underlying99]
  ·rw [h0,List.take_of_length_le (by omega)]
   simpa using hown
 ·obtain ⟨m,hm⟩:∃ m,rows.length - k=m+1:=⟨rows.length - k - 1,by omega⟩
  obtain ⟨w',h1,h2,h3,_⟩:=store_own (P:=Tryz.prog) w 98 2 base g cap rows hown k (List.replicate (rows.length - k) ptZ) (fun r hr=>by rw [List.eq_of_mem_replicate hr]; rfl) (fun r hr y hy=>by
   rw [List.eq_of_mem_replicate hr] at hy
   simp only [ptZ,List.mem_cons,List.not_mem_nil,or_false] at hy
   rcases hy with rfl | rfl <;> rfl) (by rw [List.length_replicate]; omega)
  refine ⟨w',fun ty=>?_,?_,h3⟩
  ·rw [hdp (by omega)]
   have hzc:(Builtin.zeroCells #[.int .i64 0,.int .i64 0] (rows.length - k)).toList=(List.replicate (rows.length - k) ptZ).flatten:=by
    have:=pt_made (rows.length - k)
    rw [show Builtin.zeroCells #[.int .i64 0,.int .i64 0] (rows.length - k)=madeCells #[.int .i64 0,.int .i64 0] ((rows.length - k) * 2) from rfl,this]
   have e:(Value.agg #[.int .i64 0,.int .i64 0]).cells=#[.int .i64 0,.int .i64 0]:=rfl
   rw [hm] at hzc h1 ⊢
   simp [Builtin.clear_,run_underlying Tryz.underlying99,e,hzc,h1]
  ·rw [List.length_replicate,show k+(rows.length - k)=rows.length by omega,List.drop_length,List.append_nil] at h2
   exact h2
set_option maxHeartbeats 1000000 in
theorem belowFloor (p:Pnt) (f:Int) (gf:Nat) (w:World) (hc:w.cell? ⟨gf,0,none⟩=some (.int .i64 f)) :
  Calls Tryz.prog 179 #[vPt p,.pointer (some ⟨gf,0,none⟩)] w fun e w'=>e=.returned (.bool (decide (p.t < f)))∧Below w.heap.size w w':=by
 unfold vPt
 obtain ⟨pt,pv⟩:=p
 simp only
 have e1:=cell_alloc_keep hc (.cells #[.int .i64 pt,.int .i64 pv] 98)
 have BA:Hid (Below w.heap.size w (w.alloc (.cells #[.int .i64 pt,.int .i64 pv] 98))):=(Below.refl _ w).alloc (Nat.le_refl _) _
 go_enter Tryz.func179,Tryz.ntmps179
 go_wp2_with fail
 go_ret
 exact ⟨rfl,BA.out⟩
def IxR (f:Int) (l:List Pnt) (r:Int):Prop:=(r=-1∧∀ j,j < l.length → f≤tAt l j) ∨ ∃ i:Nat,r=(i:Int)∧i < l.length∧tAt l i < f∧∀ j,j < i → f≤tAt l j
set_option maxHeartbeats 2000000 in
theorem indexFuncV (f:Int) (gf:Nat) (l:List Pnt) (v:Value) (w:World) (B:Nat) (hv:Lies w B 2 v (ptR l)) (hn:l.length≤100000) (hB:B≤w.heap.size) (hgf:gf < w.heap.size) (hc:w.cell? ⟨gf,0,none⟩=some (.int .i64 f)) :
  Calls Tryz.prog 201 #[v,.func (.func 179) #[] #[.pointer (some ⟨gf,0,none⟩)]] w fun e w'=>(∃ r:Int,e=.returned (.int .i64 r)∧Hid (IxR f l r))∧Below w.heap.size w w':=by
 obtain ⟨A,cap,rfl,_⟩:=pt_look hv
 have HL:Hid (∀ wx,Below w.heap.size w wx → wx.cell? ⟨gf,0,none⟩=some (.int .i64 f)∧∀ j,j < l.length → ∃ g off,A=some ⟨g,off,none⟩∧g < B∧wx.cell? ⟨g,off+j * 2,none⟩=some (.int .i64 (l.getD j default).t)∧wx.cell? ⟨g,off+j * 2+1,none⟩=some (.int .i64 (l.getD j default).v)):=fun wx hx=>by
  refine ⟨by rw [hx.cell (p:=⟨_,_,none⟩) hgf]; exact hc,?_⟩
  obtain ⟨A',c',e',h⟩:=pt_look (hv.on (hx.mono hB))
  cases e'
  exact h
 have q1:(l.length:Int)≤100000:=by omega
 clear hv hB hgf hc
 generalize hN:l.length=n at *
 have HN:Hid (l.length=n):=hN
 clear hN
 go_enter Tryz.func201,Tryz.ntmps201
 go_wp2_with fail
 go_loopw [8] (fun v8 wr=>∃ k:Nat,k≤n∧v8=.int .i64 (k:Int)∧Hid (∀ j,j < k → f≤tAt l j)∧Below w.heap.size w wr) (fun i _=>n - (intOf i).toNat)
 case atStart=>exact ⟨0,by omega,rfl,fun i hi=>by omega,Below.refl _ _⟩
 case round =>
  obtain ⟨k,hk,rfl,HJ,hb⟩:=hrel
  have HBr:=hQz hb
  clear hb
  by_cases hlt:k < n
  ·have q4:(k:Int) < (n:Int):=by omega
   obtain ⟨hcf,hl⟩:=HL.out wr HBr.out
   obtain ⟨g,off,rfl,hg,e1,e2⟩:=hl k hlt
   have c1:=belowFloor (l.getD k default) f gf wr hcf
   unfold vPt at c1
   have HTk:Hid (tAt l k=(l.getD k default).t):=rfl
   clear hl hcf
   generalize l.getD k default=p at *
   obtain ⟨pt,pv⟩:=p
   simp only at e1 e2 c1 HTk
   go_wp2_with fail
   refine c1.mono ?_
   rintro e w2 ⟨rfl,hb2⟩
   have B2:=hQz (HBr.out.trans (hb2.mono HBr.out.size))
   clear hb2 c1
   by_cases hlow:pt < f
   ·have HF:Hid (IxR f l (k:Int)):=.inr ⟨k,rfl,by rw [HN.out]; exact hlt,by rw [HTk.out]; exact hlow,HJ.out⟩
    have hd:decide (pt < f)=true:=decide_eq_true hlow
    clear hlow
    go_wp2_with fail
    go_ret
    exact ⟨⟨_,rfl,HF⟩,B2.out⟩
   ·have hd:decide (pt < f)=false:=decide_eq_false hlow
    have HJ2:Hid (∀ j,j < k+1 → f≤tAt l j):=fun j hj=>by
     by_cases e:j=k
     ·rw [e,HTk.out]; omega
     ·exact HJ.out j (by omega)
    clear hlow
    go_wp2_with fail
    go_roundw
    case rel=>exact ⟨k+1,by omega,by go_num,HJ2,B2.out⟩
    case measure=>simp [intOf]; omega
  ·obtain rfl:k=n:=by omega
   have HF:Hid (IxR f l (-1)):=.inl ⟨rfl,fun j hj=>HJ.out j (by rw [← HN.out]; exact hj)⟩
   go_wp2_with fail
   go_ret
   exact ⟨⟨_,rfl,HF⟩,HBr.out⟩
theorem from_take (f:Int) (l:List Pnt) (k:Nat) (h:k < l.length):fromF f (l.take (k+1))=if f≤tAt l k then fromF f (l.take k) ++ [l.getD k default] else fromF f (l.take k):=by
 unfold fromF
 rw [take_getD l k h,List.filter_append]
 unfold tAt
 by_cases e:f≤(l.getD k default).t
 ·rw [if_pos e,List.filter_cons,if_pos (by simpa using e)]; rfl
 ·rw [if_neg e,List.filter_cons,if_neg (by simpa using e)]; simp
theorem from_all {f:Int} {l:List Pnt} (h:∀ j,j < l.length → f≤tAt l j):fromF f l=l:=from_id fun p hp=>by
 obtain ⟨j,hj,rfl⟩:=List.getElem_of_mem hp
 rw [← tAt_get l j hj]
 exact h j hj
theorem from_before {f:Int} {l:List Pnt} {i:Nat} (hi:i≤l.length) (h:∀ j,j < i → f≤tAt l j):fromF f (l.take i)=l.take i:=from_all fun j hj=>by
 rw [List.length_take] at hj
 have:=h j (by omega)
 rw [tAt_get l j (by omega)] at this
 rw [tAt_get _ j (by rw [List.length_take]; omega),List.getElem_take]
 exact this
def Struck (f:Int) (l:List Pnt) (i j:Nat) (R:List (List Value)):Prop:=R.length=l.length∧i < j∧i=(fromF f (l.take j)).length∧R.take i=ptR (fromF f (l.take j))∧∀ k,j≤k → k < l.length → R[k]?=some (ptC (l.getD k default))
theorem Struck.start {f:Int} {l:List Pnt} {i:Nat} (hi:i < l.length) (h1:tAt l i < f) (h2:∀ j,j < i → f≤tAt l j):Struck f l i (i+1) (ptR l):=by
 have hb:=from_before (Nat.le_of_lt hi) h2
 have e:fromF f (l.take (i+1))=l.take i:=by rw [from_take f l i hi,if_neg (by omega),hb]
 refine ⟨ptR_length l,by omega,by rw [e,List.length_take]; omega,by rw [e]; unfold ptR; rw [List.map_take],fun k _ hk=>?_⟩
 unfold ptR
 rw [List.getElem?_map,List.getElem?_eq_getElem hk,getD_at l k hk]
 rfl
theorem Struck.keep {f:Int} {l:List Pnt} {i j:Nat} {R:List (List Value)} (h:Struck f l i j R) (hj:j < l.length) (hf:f≤tAt l j):Struck f l (i+1) (j+1) (R.set i (ptC (l.getD j default))):=by
 obtain ⟨h1,h2,h3,h4,h5⟩:=h
 have e:fromF f (l.take (j+1))=fromF f (l.take j) ++ [l.getD j default]:=by rw [from_take f l j hj,if_pos hf]
 refine ⟨by rw [List.length_set]; exact h1,by omega,by rw [e,List.length_append,← h3]; rfl,?_,fun k hk hl=>?_⟩
 ·rw [e,ptR_append,← h4,List.take_set]
  have hl:i < R.length:=by omega
  rw [List.take_add_one,List.getElem?_eq_getElem hl]
  simp only [Option.toList]
  rw [List.set_append_right _ _ (by rw [List.length_take]; omega),List.length_take,Nat.min_eq_left (by omega),Nat.sub_self]
  rfl
 ·rw [List.getElem?_set_ne (by omega)]
  exact h5 k (by omega) hl
theorem Struck.skip {f:Int} {l:List Pnt} {i j:Nat} {R:List (List Value)} (h:Struck f l i j R) (hj:j < l.length) (hf:¬ f≤tAt l j):Struck f l i (j+1) R:=by
 obtain ⟨h1,h2,h3,h4,h5⟩:=h
 have e:fromF f (l.take (j+1))=fromF f (l.take j):=by rw [from_take f l j hj,if_neg hf]
 exact ⟨h1,by omega,by rw [e]; exact h3,by rw [e]; exact h4,fun k hk hl=>h5 k (by omega) hl⟩
theorem Struck.done {f:Int} {l:List Pnt} {i:Nat} {R:List (List Value)} (h:Struck f l i l.length R):R.take i=ptR (fromF f l)∧i≤R.length:=by
 obtain ⟨h1,h2,h3,h4,_⟩:=h
 rw [List.take_length] at h4
 exact ⟨h4,by omega⟩
set_option maxHeartbeats 4000000 in
theorem deleteFuncV (f:Int) (gf:Nat) (l:List Pnt) (v:Value) (w:World) (base:Nat) (hv:Owns w base 98 2 v (ptR l)) (hn:l.length≤100000) (hgf:gf < base) (hbs:base≤w.heap.size) (hc:w.cell? ⟨gf,0,none⟩=some (.int .i64 f)) :
  Calls Tryz.prog 178 #[v,.func (.func 179) #[] #[.pointer (some ⟨gf,0,none⟩)]] w fun e w'=>(∃ u,e=.returned u∧Owns w' base 98 2 u (ptR (fromF f l)))∧Below base w w':=by
 obtain ⟨A,cap,rfl,_⟩:=pt_look hv.lies
 have c1:=indexFuncV f gf l _ w w.heap.size hv.lies hn (Nat.le_refl _) (by omega) hc
 have HV:=hQz hv
 have HGf:Hid (gf < base∧base≤w.heap.size):=⟨hgf,hbs⟩
 have HC:Hid (∀ wx,Below base w wx → wx.cell? ⟨gf,0,none⟩=some (.int .i64 f)):=fun wx hx=>by rw [hx.cell (p:=⟨_,_,none⟩) hgf]; exact hc
 have q1:(l.length:Int)≤100000:=by omega
 clear hv hgf hbs hc hn
 go_enter Tryz.func178,Tryz.ntmps178
 go_wp2_with fail
 refine c1.mono ?_
 rintro e w1 ⟨⟨r,rfl,HR⟩,hb1⟩
 have B1:Hid (Below base w w1):=hb1.mono HGf.out.2
 have O1:=hQz (HV.out.on hb1)
 clear hb1 c1
 rcases HR.out with ⟨rfl,hall⟩ | ⟨i0,rfl,hi0,hlow,hbef⟩
 ·have HE:Hid (fromF f l=l):=from_all hall
  clear hall
  go_wp2_with fail
  go_ret
  refine ⟨⟨_,rfl,?_⟩,B1.out⟩
  rw [HE.out]
  exact O1.out
 ·have HS0:Hid (Struck f l i0 (i0+1) (ptR l)):=Struck.start hi0 hlow hbef
  obtain ⟨g,rfl,hgb⟩:∃ g,A=some ⟨g,0,none⟩∧base≤g:=by
   rcases O1.out.2.2 with ⟨e,h0⟩ | ⟨g,c,cur,e,hg,_⟩
   ·rw [ptR_length] at h0; omega
   ·injection e with e1 _ _; exact ⟨g,e1,hg⟩
  have HGb:Hid (base≤g):=hgb
  clear hlow hbef hgb HR
  generalize hN:l.length=n at *
  have HN:Hid (l.length=n):=hN
  clear hN
  have q2:(i0:Int) < (n:Int):=by omega
  have hne:((i0:Int) == -1)=false:=beq_eq_false_iff_ne.2 (by omega)
  go_wp2_with fail
  go_loopw [5,6] (fun v5 v6 wr=>∃ (i j:Nat) (R:List (List Value)),j≤n∧v5=.int .i64 (i:Int)∧v6=.int .i64 (j:Int)∧Hid (Struck f l i j R)∧Owns wr base 98 2 (.slice (some ⟨g,0,none⟩) n cap) R∧Below base w wr) (fun _ i _=>n - (intOf i).toNat)
  case atStart=>exact ⟨i0,i0+1,_,by omega,rfl,by go_num,HS0,O1.out,B1.out⟩
  case round =>
   obtain ⟨i,j,R,hj,rfl,rfl,HS,hO,hb⟩:=hrel
   have HO:=hQz hO
   have HBr:=hQz hb
   have hRl:R.length=n:=HS.out.1.trans HN.out
   have hij:=HS.out.2.1
   clear hO hb
   by_cases hlt:j < n
   ·have q4:(j:Int) < (n:Int):=by omega
    have q5:(i:Int) < (n:Int):=by omega
    have hrow:=HS.out.2.2.2.2 j (Nat.le_refl _) (by rw [HN.out]; exact hlt)
    have hjR:j < R.length:=by omega
    rw [List.getElem?_eq_getElem hjR] at hrow
    have hrow':R[j]=ptC (l.getD j default):=Option.some.inj hrow
    obtain ⟨Al,cl,el,hll⟩:=HO.out.lies.look
    rw [hRl] at el
    cases el
    obtain ⟨gl,ol,eg,_,hcl⟩:=hll j hjR
    cases eg
    have d0:=hcl 0 (.int .i64 (l.getD j default).t) (by omega) (by rw [hrow']; rfl)
    have d1:=hcl 1 (.int .i64 (l.getD j default).v) (by omega) (by rw [hrow']; rfl)
    rw [Nat.zero_add,Nat.add_zero] at d0
    rw [Nat.zero_add] at d1
    have HTj:Hid (tAt l j=(l.getD j default).t):=rfl
    have HKp:Hid (f≤tAt l j → Struck f l (i+1) (j+1) (R.set i (ptC (l.getD j default)))):=fun h=>HS.out.keep (by rw [HN.out]; exact hlt) h
    have HSk:Hid (¬ f≤tAt l j → Struck f l i (j+1) R):=fun h=>HS.out.skip (by rw [HN.out]; exact hlt) h
    clear hrow hrow' hll hcl
    generalize l.getD j default=p at *
    obtain ⟨pt,pv⟩:=p
    simp only at d0 d1 HTj HKp
    have c1:=fun (wx:World) (hx:Below base w wx)=>belowFloor ⟨pt,pv⟩ f gf wx (HC.out wx hx)
    unfold vPt at c1
    simp only at c1
    obtain ⟨W1,hW1⟩:∃ W1,W1=wr.alloc (.cells #[.int .i64 pt,.int .i64 pv] 98):=⟨_,rfl⟩
    have BW:Hid (Below base w W1):=by unfold Hid; rw [hW1]; exact HBr.out.alloc (Nat.le_trans HGf.out.2 HBr.out.size) _
    have KW:Hid (Blk W1 wr.heap.size #[.int .i64 pt,.int .i64 pv] 98):=by unfold Hid; rw [hW1]; exact Blk.new wr _ _
    have OW:Hid (Owns W1 base 98 2 (.slice (some ⟨g,0,none⟩) n cap) R):=by unfold Hid; rw [hW1]; exact HO.out.alloc _
    have gne:Hid (g ≠ wr.heap.size):=by have:=(HO.out.lt g rfl).2; unfold Hid; omega
    have c2:=c1 W1 BW.out
    have m0:=KW.out.cell 0 _ rfl
    have m1:=KW.out.cell 1 _ rfl
    clear c1
    go_wp2_with fail
    rw [← hW1]
    clear hW1
    refine c2.mono ?_
    rintro e w2 ⟨rfl,hb2⟩
    have BW2:Hid (Below base w w2):=BW.out.trans (hb2.mono (Nat.le_trans HGf.out.2 BW.out.size))
    have K2:=KW.out.on hb2 KW.out.lt
    have O2:=hQz (OW.out.on hb2)
    have n0:=K2.cell 0 _ rfl
    have n1:=K2.cell 1 _ rfl
    clear hb2 c2 K2 m0 m1 d0 d1
    by_cases hlow:pt < f
    ·have hd:decide (pt < f)=true:=decide_eq_true hlow
     have HS2:Hid (Struck f l i (j+1) R):=HSk.out (by rw [HTj.out]; omega)
     clear hlow
     go_wp2_with fail
     go_roundw
     case rel=>exact ⟨i,j+1,R,by omega,rfl,by go_num,HS2,O2.out,BW2.out⟩
     case measure=>simp [intOf]; omega
    ·have hd:decide (pt < f)=false:=decide_eq_false hlow
     have HS2:Hid (Struck f l (i+1) (j+1) (R.set i (ptC ⟨pt,pv⟩))):=HKp.out (by rw [HTj.out]; omega)
     have hO:Owns w2 base 98 2 (.slice (some ⟨g,0,none⟩) R.length cap) R:=by rw [hRl]; exact O2.out
     obtain ⟨y0,s0⟩:=hO.cellX i 0 (by omega) (by omega)
     have f0:=hO.free (i * 2)
     obtain ⟨y1,s1⟩:=hO.cellX i 1 (by omega) (by omega)
     have f1:=hO.free (i * 2+1)
     rw [Nat.add_zero] at s0
     have hP:=hO.put2 i (by omega) (.int .i64 pt) (.int .i64 pv)
     rw [hRl] at hP
     have HP:=hQz hP
     have HD:Hid (Below base w ((w2.setCell ⟨g,i * 2,none⟩ (.int .i64 pt)).setCell ⟨g,i * 2+1,none⟩ (.int .i64 pv))):=(BW2.out.setCell (show base≤g from HGb.out) _).setCell (show base≤g from HGb.out) _
     clear hlow hO hP
     go_wp2_with fail
     go_roundw
     case rel=>exact ⟨i+1,j+1,_,by omega,by go_num,by go_num,HS2,HP.out,HD.out⟩
     case measure=>simp [intOf]; omega
   ·obtain rfl:j=n:=by omega
    have hdn:R.take i=ptR (fromF f l)∧i≤R.length:=by
     have h:=HS.out
     rw [← HN.out] at h
     exact h.done
    have HDn:Hid (R.take i=ptR (fromF f l)):=hdn.1
    have hroom:=HO.out.lies.room.2
    obtain ⟨A',c',hcut,_,hA'⟩:=cut_from HO.out.lies i (by omega)
    have hO:Owns wr base 98 2 (.slice (some ⟨g,0,none⟩) R.length cap) R:=by rw [hRl]; exact HO.out
    obtain ⟨w3,hcl,hOc,hbc⟩:=run_clear_pts wr base g cap R hO i (by omega) A' c' (fun h=>by rw [hA' (by omega)]; show some ((⟨g,0,none⟩:Addr).add (i * 2))=_; cases i * 2 <;> simp [Addr.add])
    rw [hRl] at hcl hOc
    have hct:=fun wx=>cut_to (some ⟨g,0,none⟩) j cap i (by omega) wx
    have O3:Hid (Owns w3 base 98 2 (.slice (some ⟨g,0,none⟩) i cap) (ptR (fromF f l))):=by
     have h:=hOc.first i (by rw [List.length_append,List.length_take]; omega)
     rw [List.take_left' (by rw [List.length_take]; omega),HDn.out] at h
     exact h
    have B3:=hQz (HBr.out.trans hbc)
    clear hdn hA' hO hOc hbc hroom
    go_wp2_with fail
    go_ret
    exact ⟨⟨_,rfl,O3.out⟩,B3.out⟩
set_option maxHeartbeats 4000000 in
theorem implMerged (ls:List (List Ser)) (f:Int) (key:ByteArray) (v:Value) (w:World) (B:Nat) (hv:SrcsV w B v ls) (hf:LOk ls) (hB:B≤w.heap.size) (hst:SumTab w) (a0 a1 a2:Addr) (he:Errs w a0 a1 a2) :
  Calls Tryz.prog 152 #[.string key,.int .i64 f,v] w fun e w'=>(∃ u,e=.returned u∧Owns w' w.heap.size 98 2 u (ptR (has ls f key)))∧Below w.heap.size w w':=by
 obtain ⟨A,cap,rfl,_⟩:=hv.look
 have HL:Hid (∀ wx,Below w.heap.size w wx → ∀ j,j < ls.length → ∃ g off u,A=some ⟨g,off,none⟩∧g < B∧wx.cell? ⟨g,off+j,none⟩=some u∧SrcV wx B u (ls.getD j [])):=fun wx hx=>(hv.on (hx.mono hB)).cells
 have HB:Hid (B≤w.heap.size):=hB
 have ST:=hQz hst
 have ER:=hQz he
 have HF:Hid (LOk ls):=hf
 have HH:Hid (∀ i,(hasAll (ls.take i) key).length≤2000):=hf.1.has key
 have HT:Hid (∀ i,i < ls.length → hasAll (ls.take (i+1)) key=mrg (hasAll (ls.take i) key) (ptsAt (ls.getD i []) key)):=hasAll_take ls key
 have HA:Hid (hasAll (ls.take ls.length) key=hasAll ls key):=by unfold Hid; rw [List.take_length]
 have HRi:Hid (∀ i,Rising (hasAll (ls.take i) key)):=fun i=>rising_hasAll _ key
 have q1:(ls.length:Int)≤10:=by have:=hf.1.1; omega
 clear hv hB hf hst he
 generalize hN:ls.length=n at *
 have HN:Hid (ls.length=n):=hN
 clear hN
 obtain ⟨X0,hX0⟩:∃ X0,X0=w.alloc (.cells #[.int .i64 f] 3):=⟨_,rfl⟩
 have BX:Hid (Below w.heap.size w X0):=by unfold Hid; rw [hX0]; exact (Below.refl _ w).alloc (Nat.le_refl _) _
 have KX:Hid (Blk X0 w.heap.size #[.int .i64 f] 3):=by unfold Hid; rw [hX0]; exact Blk.new w _ _
 have ZX:=hQz (KX.out.lt)
 go_enter Tryz.func152,Tryz.ntmps152
 go_wp2_with fail
 rw [← hX0]
 clear hX0
 go_loopw [7,12] (fun v7 v12 wr=>∃ i:Nat,i≤n∧v12=.int .i64 (i:Int)∧Owns wr X0.heap.size 98 2 v7 (ptR (hasAll (ls.take i) key))∧Below X0.heap.size X0 wr) (fun _ i _=>n - (intOf i).toNat)
 case atStart=>exact ⟨0,by omega,rfl,Owns.nil _ _ _ _,Below.refl _ _⟩
 case round =>
  obtain ⟨i,hi,rfl,hO,hb⟩:=hrel
  have HO:=hQz hO
  have HBr:=hQz hb
  have BW:=hQz (BX.out.trans (hb.mono BX.out.size))
  obtain ⟨A3,n3,c3,rfl⟩:=hO.shape
  clear hO hb
  by_cases hlt:i < n
  ·have q4:(i:Int) < (n:Int):=by omega
   obtain ⟨g,off,u,rfl,hg,e1,hu⟩:=HL.out wr BW.out i hlt
   have hfi:=HF.out.1.2 _ (getD_memL ls i (by rw [HN.out]; exact hlt))
   have hri:=HF.out.2.1 _ (getD_memL ls i (by rw [HN.out]; exact hlt))
   have HE:=hQz (HT.out i hlt)
   have HPf:Hid ((ptsAt (ls.getD i []) key).length≤200∧Rising (ptsAt (ls.getD i []) key)):=⟨ptsAt_few hfi.2 key,ptsAt_rising hri key⟩
   have HHi:Hid ((hasAll (ls.take i) key).length≤2000∧Rising (hasAll (ls.take i) key)):=⟨HH.out i,HRi.out i⟩
   have hln:=hfi.1
   have Z:=hQz (Nat.le_trans HB.out BW.out.size)
   clear hfi hri
   generalize hasAll (ls.take i) key=a at *
   generalize ls.getD i []=li at *
   rcases hu with ⟨u',rfl,hS⟩ | ⟨s,u',rfl,hs1,hG,hX⟩
   ·have c1:=cachedPoints li key u' wr B hS (by omega) Z.out
    clear hS
    go_wp2_with fail
    refine c1.mono ?_
    rintro e w2 ⟨⟨u2,rfl,hL2⟩,hb2⟩
    have O2:=hQz (HO.out.on hb2)
    have B2:=hQz (HBr.out.trans (hb2.mono HBr.out.size))
    have c2:=implWovenR a (ptsAt li key) (.slice A3 n3 c3) u2 w2 w2.heap.size O2.out.lies (hL2.mono (Nat.le_trans Z.out hb2.size)) ⟨HHi.out.2,by have:=HHi.out.1; omega⟩ ⟨HPf.out.2,by have:=HPf.out.1; omega⟩ (Nat.le_refl _)
    obtain ⟨A4,n4,c4,rfl⟩:∃ A4 n4 c4,u2=.slice A4 n4 c4:=by obtain ⟨A5,c5,e,_⟩:=(hL2.mono (Nat.le_trans Z.out hb2.size):Lies w2 w2.heap.size 2 u2 (ptR (ptsAt li key))); exact ⟨_,_,_,e⟩
    clear hL2 hb2 c1
    go_wp2_with fail
    refine c2.mono ?_
    rintro e w3 ⟨⟨u3,rfl,hO3⟩,hb3⟩
    have O3:Hid (Owns w3 X0.heap.size 98 2 u3 (ptR (hasAll (ls.take (i+1)) key))):=by unfold Hid; rw [HE.out]; exact hO3.mono B2.out.size
    have B3:=hQz (B2.out.trans (hb3.mono B2.out.size))
    clear hO3 hb3 c2
    go_wp2_with fail
    go_roundw
    case rel=>exact ⟨i+1,by omega,by go_num,O3.out,B3.out⟩
    case measure=>simp [intOf]; omega
   ·have c1:=filedPoints s key li u' wr B hG hX Z.out hs1 (ST.out.on BW.out) a0 a1 a2 (ER.out.on BW.out)
    clear hX hG hs1
    go_wp2_with fail
    refine c1.mono ?_
    rintro e w2 ⟨⟨u2,rfl,hL2⟩,hb2⟩
    have O2:=hQz (HO.out.on hb2)
    have B2:=hQz (HBr.out.trans (hb2.mono HBr.out.size))
    have c2:=implWovenR a (ptsAt li key) (.slice A3 n3 c3) u2 w2 w2.heap.size O2.out.lies (hL2.lies) ⟨HHi.out.2,by have:=HHi.out.1; omega⟩ ⟨HPf.out.2,by have:=HPf.out.1; omega⟩ (Nat.le_refl _)
    obtain ⟨A4,n4,c4,rfl⟩:∃ A4 n4 c4,u2=.slice A4 n4 c4:=by obtain ⟨A5,c5,e,_⟩:=(hL2.lies:Lies w2 w2.heap.size 2 u2 (ptR (ptsAt li key))); exact ⟨_,_,_,e⟩
    clear hL2 hb2 c1
    go_wp2_with fail
    refine c2.mono ?_
    rintro e w3 ⟨⟨u3,rfl,hO3⟩,hb3⟩
    have O3:Hid (Owns w3 X0.heap.size 98 2 u3 (ptR (hasAll (ls.take (i+1)) key))):=by unfold Hid; rw [HE.out]; exact hO3.mono B2.out.size
    have B3:=hQz (B2.out.trans (hb3.mono B2.out.size))
    clear hO3 hb3 c2
    go_wp2_with fail
    go_roundw
    case rel=>exact ⟨i+1,by omega,by go_num,O3.out,B3.out⟩
    case measure=>simp [intOf]; omega
  ·obtain rfl:i=n:=by omega
   have hcl:wr.cell? ⟨w.heap.size,0,none⟩=some (.int .i64 f):=(KX.out.on HBr.out KX.out.lt).cell 0 _ rfl
   have c1:=deleteFuncV f w.heap.size (hasAll (ls.take i) key) (.slice A3 n3 c3) wr X0.heap.size HO.out (by have:=HH.out i; omega) ZX.out HBr.out.size hcl
   have HEn:Hid (fromF f (hasAll (ls.take i) key)=has ls f key):=by unfold Hid has; rw [HA.out]
   clear hcl
   go_wp2_with fail
   refine c1.mono ?_
   rintro e w3 ⟨⟨u3,rfl,hO3⟩,hb3⟩
   have O3:Hid (Owns w3 w.heap.size 98 2 u3 (ptR (has ls f key))):=by unfold Hid; rw [← HEn.out]; exact hO3.mono BX.out.size
   have B3:=hQz (BW.out.trans (hb3.mono BX.out.size))
   clear hO3 hb3 c1
   go_wp2_with fail
   go_ret
   exact ⟨⟨_,rfl,O3.out⟩,B3.out⟩
end Go.Proofs.YthhamlahdjokkaaGreatDoor
namespace Go.Proofs.YthhamlahdjokkaaGreatDoor
open Go.ChangeShapes Go.WideShapes Go.ChangeAt Go.RowKit Go.PlainAid
set_option linter.unusedVariables false
set_option maxHeartbeats 4000000 in
theorem implGathered (ls:List (List Ser)) (f:Int) (v:Value) (w:World) (B:Nat) (hv:SrcsV w B v ls) (hf:LOk ls) (hk:∀ l ∈ ls,COk l) (hB:B≤w.heap.size) (hst:SumTab w) (a0 a1 a2:Addr) (he:Errs w a0 a1 a2) :
  Calls Tryz.prog 109 #[.int .i64 f,v] w fun e w'=>(∃ u L,e=.returned u∧L.map Prod.fst=plainR ls f∧SerO w' w.heap.size u L)∧Below w.heap.size w w':=by
 have HV:Hid (SrcsV w B v ls):=hv
 have ST:=hQz hst
 have ER:=hQz he
 have HCk:Hid (∀ k ∈ keysL ls,k.size≤1000):=fun k hk'=>by
  obtain ⟨l,hl,x,hx,e⟩:=mem_keysL.1 hk'
  rw [← e]
  exact ((hk l hl).2 x hx).2.2.2
 have HF:Hid (LOk ls):=hf
 have HB:Hid (B≤w.heap.size):=hB
 obtain ⟨A,cap,rfl,_⟩:=hv.look
 have cK:=implKeysOf ls _ w B HV.out hf.1 hB
 clear hv hf hB hst he hk
 go_enter Tryz.func109,Tryz.ntmps109
 go_wp2_with fail
 refine cK.mono ?_
 rintro e w1 ⟨⟨u6,rfl,hO6⟩,hb6⟩
 have O6:=hQz hO6
 have B1:=hQz hb6
 have S1:Hid (SerO w1 w.heap.size (.slice none 0 0) []):=⟨Owns.nil _ _ _ _,fun p hp=>(by cases hp),List.Pairwise.nil⟩
 obtain ⟨A6,c6,rfl,_⟩:=st_look hO6.lies
 have HKl:Hid ((keysL ls).length≤200):=HF.out.1.keys
 clear hO6 hb6 cK
 generalize hks:keysL ls=ks at *
 have HKS:Hid (keysL ls=ks):=hks
 clear hks
 generalize hN:ks.length=n at *
 have HN:Hid (ks.length=n):=hN
 clear hN
 have q1:(n:Int)≤200:=by have:=HKl.out; omega
 go_wp2_with fail
 go_loopw [5,12] (fun v5 v12 wr=>∃ (i:Nat) (L:List (Ser × Value)),i≤n∧v12=.int .i64 (i:Int)∧L.map Prod.fst=plainK ls f (ks.take i)∧SerO wr w.heap.size v5 L∧Owns wr w.heap.size 9 1 (.slice A6 n c6) (stR ks)∧Below w.heap.size w wr) (fun _ i _=>n - (intOf i).toNat)
 case atStart=>exact ⟨0,[],by omega,rfl,rfl,S1.out,O6.out,B1.out⟩
 case round =>
  obtain ⟨i,L,hi,rfl,hL,hS,hO,hb⟩:=hrel
  have HL:Hid (L.map Prod.fst=plainK ls f (ks.take i)):=hL
  have HS:=hQz hS
  have HO:=hQz hO
  have HBr:=hQz hb
  obtain ⟨A5,n5,c5,rfl⟩:=hS.1.shape
  have HLn:Hid (L.length≤200):=by
   have h1:=congrArg List.length hL
   have h2:=plainK_len ls f (ks.take i)
   rw [List.length_map] at h1
   rw [List.length_take] at h2
   have:=HKl.out
   unfold Hid
   omega
  clear hL hS hO hb
  by_cases hlt:i < n
  ·have q4:(i:Int) < (n:Int):=by omega
   obtain ⟨g,off,rfl,hg,e1⟩:=st_cells HO.out.lies i (by rw [HN.out]; exact hlt)
   have HLi:Hid (∀ wx,Owns wx w.heap.size 9 1 (.slice (some ⟨g,off,none⟩) n c6) (stR ks) → wx.cell? ⟨g,off+i,none⟩=some (.string (ks.getD i default))):=fun wx h=>by
    obtain ⟨g1,off1,e3,_,h3⟩:=st_cells h.lies i (by rw [HN.out]; exact hlt)
    cases e3
    exact h3
   have c1:=implMerged ls f (ks.getD i default) _ wr B (HV.out.on (HBr.out.mono HB.out)) HF.out (Nat.le_trans HB.out HBr.out.size) (ST.out.on HBr.out) a0 a1 a2 (ER.out.on HBr.out)
   have HKz:Hid ((ks.getD i default).size≤1000):=HCk.out _ (getD_mem ks i (by rw [HN.out]; exact hlt))
   have HNo:Hid (has ls f (ks.getD i default)=[] → plainK ls f (ks.take (i+1))=plainK ls f (ks.take i)):=fun h=>plainK_no ks i (by rw [HN.out]; exact hlt) h
   have HYes:Hid (has ls f (ks.getD i default) ≠ [] → plainK ls f (ks.take (i+1))=plainK ls f (ks.take i) ++ [⟨ks.getD i default,has ls f (ks.getD i default)⟩]):=fun h=>plainK_yes ks i (by rw [HN.out]; exact hlt) h
   have HHl:Hid ((has ls f (ks.getD i default)).length≤2000):=HF.out.has_len f _
   clear hg
   generalize ks.getD i default=key at *
   generalize hh:has ls f key=hp at *
   clear hh
   go_wp2_with fail
   refine c1.mono ?_
   rintro e w2 ⟨⟨u,rfl,hO2⟩,hb2⟩
   have OP:=hQz hO2
   have HS2:=hQz (HS.out.on hb2)
   have HO2:=hQz (HO.out.on hb2)
   have B2:=hQz (HBr.out.trans (hb2.mono HBr.out.size))
   have AP:Hid (∀ q ∈ L,Apart q.2 u):=fun q hq gg h1 h2=>by
    have:=((HS.out.2.1 q hq).lt gg h1).2
    have:=(hO2.lt gg h2).1
    omega
   obtain ⟨Au,cu,rfl,_⟩:=pt_look hO2.lies
   have e2:=HLi.out w2 HO2.out
   have Z:=hQz (HBr.out.size)
   clear hO2 hb2 c1 e1
   by_cases h0:hp=[]
   ·have HE:=hQz (HNo.out h0)
    subst h0
    go_wp2_with fail
    go_roundw
    case rel=>exact ⟨i+1,L,by omega,by go_num,by rw [HE.out]; exact HL.out,HS2.out,HO2.out,B2.out⟩
    case measure=>simp [intOf]; omega
   ·have HE:=hQz (HYes.out h0)
    have q6:0 < hp.length:=len_pos h0
    have q7:(hp.length:Int)≤2000:=by have:=HHl.out; omega
    have q8:(0:Int) < (hp.length:Int):=by omega
    have HPL:Hid (hp.length=hp.length):=rfl
    clear h0
    generalize hpl:hp.length=pl at *
    clear hpl
    have cC:=clone key w2 (by have:=HKz.out; omega)
    go_wp2_with fail
    refine cC.mono ?_
    rintro e w3 ⟨rfl,hbC⟩
    replace HS2:Hid (SerO w3 w.heap.size (.slice A5 n5 c5) L):=HS2.out.on hbC
    replace HO2:Hid (Owns w3 w.heap.size 9 1 (.slice (some ⟨g,off,none⟩) n c6) (stR ks)):=HO2.out.on hbC
    replace OP:Hid (Owns w3 wr.heap.size 98 2 (.slice Au pl cu) (ptR hp)):=OP.out.on hbC
    replace B2:Hid (Below w.heap.size w w3):=B2.out.trans (hbC.mono B2.out.size)
    clear hbC cC e2
    have Z2:w.heap.size≤w3.heap.size:=B2.out.size
    have L2:Hid ((srR L).length≤2097152):=by have:=HLn.out; unfold Hid; rw [srR_length]; omega
    go_wp2_with (at_builtin; refine wpList_append_row rfl (.tmp 23) (.tmp 28) 33 101 (.agg #[.string ⟨#[]⟩,.slice none 0 0]) 2 40 rfl Tryz.underlying33 Tryz.infoSr rfl (by omega) w.heap.size _ (srR L) rfl HS2.out.1 [.string key,.slice Au pl cu] rfl (sr_cells key rfl) rfl L2.out (by omega) Z2 ?_; intro v' w5 hO5 hb5 hk5 hw5; obtain ⟨A7,n7,c7,rfl⟩:=hO5.shape; refine Shut.out ?_)
    unfold Shut
    have hne5:∀ (v:Value) (b:Nat) (e:TypeId) (sz:Nat) (r:List (List Value)),Owns w3 b e sz v r → e ≠ 101 → Owns w5 b e sz v r:=fun v b e sz r ho hne=>ho.kept fun gg hg hv=>hk5 gg hg (fun hu=>ho.apartT HS2.out.1 hne gg hv hu)
    have S5:Hid (SerO w5 w.heap.size (.slice A7 n7 c7) (L ++ [(⟨key,hp⟩,.slice Au pl cu)])):=SerO.snoc (w1:=w3) (v:=.slice A5 n5 c5) hO5 (fun q hq=>hne5 _ _ _ _ _ (HS2.out.2.1 q hq) (by decide)) HS2.out.2.2 (hne5 _ _ _ _ _ (OP.out.mono Z.out) (by decide)) AP.out
    have O5:Hid (Owns w5 w.heap.size 9 1 (.slice (some ⟨g,off,none⟩) n c6) (stR ks)):=hne5 _ _ _ _ _ HO2.out (by decide)
    have B5:=hQz (B2.out.trans hb5)
    have HL5:Hid ((L ++ [((⟨key,hp⟩:Ser),Value.slice Au pl cu)]).map Prod.fst=plainK ls f (ks.take (i+1))):=by unfold Hid; rw [HE.out,List.map_append,HL.out]; rfl
    clear hO5 hb5 hk5 hw5 hne5
    go_wp2_with fail
    go_roundw
    case rel=>exact ⟨i+1,_,by omega,by go_num,HL5.out,S5.out,O5.out,B5.out⟩
    case measure=>simp [intOf]; omega
  ·obtain rfl:i=n:=by omega
   have HE:Hid (plainK ls f (ks.take i)=plainR ls f):=by unfold Hid plainR; rw [HKS.out,← HN.out,List.take_length]
   go_wp2_with fail
   go_ret
   exact ⟨⟨_,L,rfl,HL.out.trans HE.out,HS.out⟩,HBr.out⟩
end Go.Proofs.YthhamlahdjokkaaGreatDoor
namespace Go.Proofs.YthhamlahdjokkaaGreatDoor
open Go.ChangeShapes Go.WideShapes Go.ChangeAt Go.RowKit Go.PlainAid
set_option linter.unusedVariables false
theorem infoSrc:(Tryz.prog.info? 213).map (fun i=>(i.zero,i.size,i.bytes))=some (some .nilIface,1,16):=by kernel_rfl
def SrcO (w:World) (base:Nat) (us:List Value) (fs:List ByteArray):Prop:=us.length=fs.length∧∀ j,j < fs.length → ∃ u,us.getD j default=.iface 191 (.agg #[.string (fs.getD j default),u])∧(fs.getD j default).size≤1048576∧isF (fs.getD j default)∧Owns w base 127 5 u (spR (idxF (fileM (fs.getD j default))))
theorem SrcO.nil (w:World) (base:Nat):SrcO w base [] []:=⟨rfl,fun j hj=>by simp at hj⟩
theorem SrcO.on {w w':World} {base:Nat} {us:List Value} {fs:List ByteArray} (h:SrcO w base us fs) (hb:Below w.heap.size w w'):SrcO w' base us fs:=⟨h.1,fun j hj=>by obtain ⟨u,h1,h2,h3,h4⟩:=h.2 j hj; exact ⟨u,h1,h2,h3,h4.on hb⟩⟩
theorem SrcO.kept {w w':World} {base:Nat} {us:List Value} {fs:List ByteArray} (h:SrcO w base us fs) (hk:∀ (v:Value) (b:Nat) (e:TypeId) (sz:Nat) (r:List (List Value)),Owns w b e sz v r → e ≠ 213 → Owns w' b e sz v r):SrcO w' base us fs :=
 ⟨h.1,fun j hj=>by obtain ⟨u,h1,h2,h3,h4⟩:=h.2 j hj; exact ⟨u,h1,h2,h3,hk _ _ _ _ _ h4 (by decide)⟩⟩
theorem SrcO.snoc {w:World} {base:Nat} {us:List Value} {fs:List ByteArray} (h:SrcO w base us fs) {u:Value} {s:ByteArray} (h1:s.size≤1048576) (h2:isF s) (h3:Owns w base 127 5 u (spR (idxF (fileM s)))):SrcO w base (us ++ [.iface 191 (.agg #[.string s,u])]) (fs ++ [s]):=by
 refine ⟨by simp [h.1],fun j hj=>?_⟩
 rw [List.length_append,List.length_singleton] at hj
 by_cases e:j < fs.length
 ·have e1:(fs ++ [s]).getD j default=fs.getD j default:=by rw [List.getD_eq_getElem?_getD,List.getD_eq_getElem?_getD,List.getElem?_append_left e]
  have e2:(us ++ [Value.iface 191 (.agg #[.string s,u])]).getD j default=us.getD j default:=by rw [List.getD_eq_getElem?_getD,List.getD_eq_getElem?_getD,List.getElem?_append_left (by rw [h.1]; exact e)]
  rw [e1,e2]
  exact h.2 j e
 ·obtain rfl:j=fs.length:=by omega
  have e1:(fs ++ [s]).getD fs.length default=s:=by rw [List.getD_eq_getElem?_getD,List.getElem?_append_right (Nat.le_refl _),Nat.sub_self]; rfl
  have e2:(us ++ [Value.iface 191 (.agg #[.string s,u])]).getD fs.length default=.iface 191 (.agg #[.string s,u]):=by rw [List.getD_eq_getElem?_getD,List.getElem?_append_right (by rw [h.1]; exact Nat.le_refl _),h.1,Nat.sub_self]; rfl
  rw [e1,e2]
  exact ⟨u,rfl,h1,h2,h3⟩
theorem SrcO.srcs {w:World} {base:Nat} {us:List Value} {fs:List ByteArray} (h:SrcO w base us fs):SrcL w w.heap.size us (laysF fs):=by
 refine ⟨by unfold laysF; rw [List.length_map]; exact h.1,fun j hj=>?_⟩
 unfold laysF at hj ⊢
 rw [List.length_map] at hj
 obtain ⟨u,h1,h2,h3,h4⟩:=h.2 j hj
 have e1:(fs.map fileM).getD j []=fileM (fs.getD j default):=by rw [← getD_at fs j hj,List.getD_eq_getElem?_getD,List.getElem?_map,List.getElem?_eq_getElem hj]; rfl
 rw [e1,h1]
 exact .inr ⟨_,u,rfl,h2,h3.good,h4.lies⟩
def SoAns (e:Eng) (w':World) (b:Ending):Prop:=∃ u ok,b=.returned (.tuple #[u,.bool ok])∧((ok=true∧PreOk e∧(∀ s ∈ e.files,isF s)∧SrcsV w' w'.heap.size u (lays e)) ∨ (ok=false∧¬ EOk e))
theorem ixI_yes {s:ByteArray} {P:List Spot} (h:IxI s P) (h0:P ≠ []):isF s∧P=idxF (fileM s):=by
 rcases h with ⟨m,h1,h2⟩ | ⟨_,h2⟩
 ·exact ⟨⟨m,h1⟩,by rw [fileM_is h1]; exact h2⟩
 ·exact absurd h2 h0
theorem ixI_no {s:ByteArray} {P:List Spot} (h:IxI s P) (h0:P=[]):¬ isF s:=by
 rintro ⟨m,hm⟩
 rcases h with ⟨m',h1,h2⟩ | ⟨h1,_⟩
 ·have:=congrArg List.length h2
  rw [h0,List.length_map,List.length_range] at this
  have:=h1.1
  simp at *
  omega
 ·exact h1 m hm
set_option maxHeartbeats 4000000 in
theorem implSources (e:Eng) (v:Value) (w:World) (B:Nat) (hv:EngV w B v e) (hs:EShort e) (hB:B≤w.heap.size) (hst:SumTab w) (a0 a1 a2:Addr) (he:Errs w a0 a1 a2) :
  Calls Tryz.prog 108 #[v] w fun b w'=>SoAns e w' b∧Below w.heap.size w w':=by
 obtain ⟨vc,vf,rfl,hc,hl⟩:=hv
 unfold vE
 obtain ⟨Ac,cc,rfl,_⟩:=hc.look
 obtain ⟨A,cap,rfl,_⟩:=st_look hl
 have ST:=hQz hst
 have ER:=hQz he
 have HV:Hid (EngV w B (vE e.floor (.slice Ac e.cache.length cc) (.slice A e.files.length cap)) e):=⟨_,_,rfl,hc,hl⟩
 have HC:Hid (SerV w B (.slice Ac e.cache.length cc) e.cache):=hc
 have HB:Hid (B≤w.heap.size):=hB
 have HSh:Hid (EShort e):=hs
 obtain ⟨X0,hX0⟩:∃ X0,X0=w.alloc (.cells #[.int .i64 e.floor,.slice Ac e.cache.length cc,.slice A e.files.length cap] 35):=⟨_,rfl⟩
 have BX:Hid (Below w.heap.size w X0):=by unfold Hid; rw [hX0]; exact (Below.refl _ w).alloc (Nat.le_refl _) _
 have KX:Hid (Blk X0 w.heap.size #[.int .i64 e.floor,.slice Ac e.cache.length cc,.slice A e.files.length cap] 35):=by unfold Hid; rw [hX0]; exact Blk.new w _ _
 have ZB:=hQz (Nat.le_trans hB BX.out.size)
 have c1:=implCacheOk e.cache e.floor _ X0 B (HC.out.on (BX.out.mono hB)) hs.1 hs.2.1 ZB.out
 have k0:=KX.out.cell 0 _ rfl
 have k1:=KX.out.cell 1 _ rfl
 have k2:=KX.out.cell 2 _ rfl
 have q2:(e.files.length:Int)≤1048576:=by have:=hs.2.2.1; omega
 have HL:Hid (∀ wx,Below w.heap.size w wx → ∀ j,j < e.files.length → ∃ g off,A=some ⟨g,off,none⟩∧g < B∧wx.cell? ⟨g,off+j,none⟩=some (.string (e.files.getD j default))):=fun wx hx=>st_cells (hl.on (hx.mono hB))
 have HSz:Hid (∀ j,j < e.files.length → (e.files.getD j default).size≤1048576):=fun j hj=>hs.2.2.2 _ (getD_mem _ j hj)
 have HTk:Hid (∀ i,i < e.files.length → e.files.take (i+1)=e.files.take i ++ [e.files.getD i default]):=fun i hi=>take_getD _ i hi
 have HM:Hid (∀ i,i < e.files.length → e.files.getD i default ∈ e.files):=fun i hi=>getD_mem _ i hi
 have HTn:Hid (e.files.take e.files.length=e.files):=List.take_length
 by_cases hlow:e.floor < 0
 ·have HN:Hid (¬ EOk e):=fun h=>by have:=h.1.1.1; omega
  clear hc hl hB hs hst he c1
  generalize e.floor=f at *
  go_enter Tryz.func108,Tryz.ntmps108
  go_wp2_with fail
  rw [← hX0]
  refine bodyPost_ret (results_tmp2 rfl _ _ _) rfl ?_
  exact ⟨⟨_,false,rfl,.inr ⟨rfl,HN.out⟩⟩,BX.out⟩
 by_cases hhigh:1099511627776 < e.floor
 ·have HN:Hid (¬ EOk e):=fun h=>by have:=h.1.1.2; omega
  clear hc hl hB hs hst he c1
  generalize e.floor=f at *
  go_enter Tryz.func108,Tryz.ntmps108
  go_wp2_with fail
  rw [← hX0]
  refine bodyPost_ret (results_tmp2 rfl _ _ _) rfl ?_
  exact ⟨⟨_,false,rfl,.inr ⟨rfl,HN.out⟩⟩,BX.out⟩
 by_cases hmany:4 < e.files.length
 ·have HN:Hid (¬ EOk e):=fun h=>by have:=h.1.2.1; omega
  have q5:(4:Int) < (e.files.length:Int):=by omega
  clear hc hl hB hs hst he c1
  generalize e.floor=f at *
  generalize e.files.length=fn at *
  go_enter Tryz.func108,Tryz.ntmps108
  go_wp2_with fail
  rw [← hX0]
  refine bodyPost_ret (results_tmp2 rfl _ _ _) rfl ?_
  exact ⟨⟨_,false,rfl,.inr ⟨rfl,HN.out⟩⟩,BX.out⟩
 have q5:¬ (4:Int) < (e.files.length:Int):=by omega
 by_cases hca:CaOk e.cache e.floor
 ·rw [decide_eq_true hca] at c1
  have HPre:Hid (PreOk e):=⟨by omega,by omega,hca⟩
  clear hc hl hB hs hst he hca
  have HLys:Hid (lays e=laysF e.files ++ [e.cache]):=rfl
  generalize hfl:e.floor=f at *
  have HFl:Hid (e.floor=f):=hfl
  clear hfl
  generalize hN:e.files.length=n at *
  have HN:Hid (e.files.length=n):=hN
  clear hN
  generalize e.cache.length=nc at *
  go_enter Tryz.func108,Tryz.ntmps108
  go_wp2_with fail
  rw [← hX0]
  clear hX0
  refine c1.mono ?_
  rintro b X1 ⟨rfl,hb1⟩
  have K1:=KX.out.on hb1 KX.out.lt
  have HK1:=hQz K1
  have m0:=K1.cell 0 _ rfl
  have m1:=K1.cell 1 _ rfl
  have m2:=K1.cell 2 _ rfl
  have B1:=hQz (BX.out.trans (hb1.mono BX.out.size))
  clear hb1 c1 K1 k0 k1 k2
  go_wp2_with fail
  go_loopw [4,33] (fun v4 v33 wr=>∃ (i:Nat) (us:List Value),i≤n∧v33=.int .i64 (i:Int)∧Owns wr X1.heap.size 213 1 v4 (laR us)∧SrcO wr X1.heap.size us (e.files.take i)∧us.length=i∧Hid (∀ s ∈ e.files.take i,isF s)∧Below X1.heap.size X1 wr) (fun _ i _=>n - (intOf i).toNat)
  case atStart=>exact ⟨0,[],by omega,rfl,Owns.nil _ _ _ _,SrcO.nil _ _,rfl,fun s hs=>(by simp at hs),Below.refl _ _⟩
  case round =>
   obtain ⟨i,us,hi,rfl,hO,hLy,hul,HI,hb⟩:=hrel
   have HO:=hQz hO
   have HLy:Hid (SrcO wr X1.heap.size us (e.files.take i)):=hLy
   have HUl:Hid (us.length=i):=hul
   have HBr:=hQz hb
   obtain ⟨A4,n4,c4,rfl⟩:=hO.shape
   have BW:=hQz (B1.out.trans (hb.mono B1.out.size))
   have KR:=hQz (HK1.out.on hb HK1.out.lt)
   have k1:=KR.out.cell 1 _ rfl
   clear hO hLy hul hb m0 m1 m2
   by_cases hlt:i < n
   ·have q4:(i:Int) < (n:Int):=by omega
    obtain ⟨g,off,rfl,hg,e1⟩:=HL.out wr BW.out i hlt
    have c1:=indexOfV (e.files.getD i default) wr (HSz.out i hlt) (ST.out.on BW.out) a0 a1 a2 (ER.out.on BW.out)
    have HSi:=hQz (HSz.out i hlt)
    have HTi:=hQz (HTk.out i hlt)
    have HMi:=hQz (HM.out i hlt)
    generalize e.files.getD i default=s at *
    go_wp2_with fail
    refine c1.mono ?_
    rintro b w2 ⟨⟨u,P,rfl,hI,hOx⟩,hb2⟩
    have HIx:Hid (IxI s P):=hI
    have OX:=hQz hOx
    have B2:=hQz (HBr.out.trans (hb2.mono HBr.out.size))
    have BW2:=hQz (B1.out.trans (B2.out.mono B1.out.size))
    have O2:=hQz (HO.out.on hb2)
    have L2:=hQz (HLy.out.on hb2)
    have Z:=hQz (HBr.out.size)
    have hPl:P.length≤5:=by
     rcases hI with ⟨m',h1,h2⟩ | ⟨_,h2⟩
     ·rw [h2,List.length_map,List.length_range]; exact h1.2.1.1
     ·rw [h2]; simp
    obtain ⟨Au,cu,rfl,_⟩:=sp_look hOx.lies
    clear hI hOx hb2 c1 e1 k1
    by_cases h0:P=[]
    ·have HNo:Hid (¬ EOk e):=fun h=>ixI_no HIx.out h0 (h.2.1 s HMi.out)
     subst h0
     go_wp2_with fail
     refine bodyPost_ret (results_tmp2 rfl _ _ _) rfl ?_
     exact ⟨⟨_,false,rfl,.inr ⟨rfl,HNo.out⟩⟩,BW2.out⟩
    ·obtain ⟨hF,hPe⟩:=ixI_yes HIx.out h0
     have HF:Hid (isF s):=hF
     have OX2:Hid (Owns w2 wr.heap.size 127 5 (.slice Au P.length cu) (spR (idxF (fileM s)))):=by unfold Hid; rw [← hPe]; exact OX.out
     have q6:0 < P.length:=len_pos h0
     have q7:(P.length:Int)≤5:=by omega
     have q8:((P.length:Int) == 0)=false:=beq_eq_false_iff_ne.2 (by omega)
     have q9:¬ ((P.length:Int)=0):=by omega
     have Z2:X1.heap.size≤w2.heap.size:=B2.out.size
     have L3:Hid ((laR us).length≤2097152):=by have:=HUl.out; unfold Hid; rw [laR_length]; omega
     clear hF hPe h0 OX HIx
     generalize P.length=pl at *
     go_wp2_with (at_builtin; refine wpList_append_row rfl (.tmp 42) (.tmp 47) 158 213 .nilIface 1 16 rfl Tryz.underlying158 infoSrc rfl (by omega) X1.heap.size _ (laR us) rfl O2.out [.iface 191 (.agg #[.string s,.slice Au pl cu])] rfl (la_cell _ rfl) rfl L3.out (by omega) Z2 ?_; intro v' w5 hO5 hb5 hk5 hw5; obtain ⟨A7,n7,c7,rfl⟩:=hO5.shape; refine Shut.out ?_)
     unfold Shut
     have hne5:∀ (v:Value) (b:Nat) (e:TypeId) (sz:Nat) (r:List (List Value)),Owns w2 b e sz v r → e ≠ 213 → Owns w5 b e sz v r:=fun v b e sz r ho hne=>ho.kept fun gg hg hv=>hk5 gg hg (fun hu=>ho.apartT O2.out hne gg hv hu)
     have O5:Hid (Owns w5 X1.heap.size 213 1 (.slice A7 n7 c7) (laR (us ++ [.iface 191 (.agg #[.string s,.slice Au pl cu])]))):=by unfold Hid; rw [laR_append]; exact hO5
     have L5:Hid (SrcO w5 X1.heap.size (us ++ [.iface 191 (.agg #[.string s,.slice Au pl cu])]) (e.files.take (i+1))):=by
      unfold Hid
      rw [HTi.out]
      exact (L2.out.kept hne5).snoc HSi.out HF.out (hne5 _ _ _ _ _ (OX2.out.mono Z.out) (by decide))
     have B5:=hQz (B2.out.trans hb5)
     have HI5:Hid (∀ s ∈ e.files.take (i+1),isF s):=fun x hx=>by
      rw [HTi.out] at hx
      rcases List.mem_append.1 hx with h | h
      ·exact HI.out x h
      ·rw [List.mem_singleton.1 h]; exact HF.out
     have HU5:Hid ((us ++ [Value.iface 191 (.agg #[.string s,.slice Au pl cu])]).length=i+1):=by unfold Hid; rw [List.length_append,HUl.out]; rfl
     clear hO5 hb5 hk5 hw5 hne5
     go_wp2_with fail
     go_roundw
     case rel=>exact ⟨i+1,_,by omega,by go_num,O5.out,L5.out,HU5.out,HI5,B5.out⟩
     case measure=>simp [intOf]; omega
   ·obtain rfl:i=n:=by omega
    have Z2:X1.heap.size≤wr.heap.size:=HBr.out.size
    have L3:Hid ((laR us).length≤2097152):=by have:=HUl.out; unfold Hid; rw [laR_length]; omega
    go_wp2_with (at_builtin; refine wpList_append_row rfl (.tmp 50) (.tmp 54) 158 213 .nilIface 1 16 rfl Tryz.underlying158 infoSrc rfl (by omega) X1.heap.size _ (laR us) rfl HO.out [.iface 192 (.slice Ac nc cc)] rfl (la_cell _ rfl) rfl L3.out (by omega) Z2 ?_; intro v' w5 hO5 hb5 hk5 hw5; obtain ⟨A7,n7,c7,rfl⟩:=hO5.shape; refine Shut.out ?_)
    unfold Shut
    have hne5:∀ (v:Value) (b:Nat) (e:TypeId) (sz:Nat) (r:List (List Value)),Owns wr b e sz v r → e ≠ 213 → Owns w5 b e sz v r:=fun v b e sz r ho hne=>ho.kept fun gg hg hv=>hk5 gg hg (fun hu=>ho.apartT HO.out hne gg hv hu)
    have B5:=hQz (HBr.out.trans hb5)
    have BW5:=hQz (B1.out.trans (B5.out.mono B1.out.size))
    have HAns:Hid (SrcsV w5 w5.heap.size (.slice A7 n7 c7) (lays e)):=by
     unfold Hid
     rw [HLys.out]
     refine ⟨us ++ [.iface 192 (.slice Ac nc cc)],by rw [laR_append]; exact hO5.lies,?_⟩
     have h1:=(HLy.out.kept hne5).srcs
     rw [HTn.out] at h1
     exact h1.snoc (.inl ⟨_,rfl,(HC.out.on (BW5.out.mono HB.out)).mono (Nat.le_trans HB.out BW5.out.size)⟩)
    have HIa:Hid (∀ s ∈ e.files,isF s):=by have:=HI.out; rw [HTn.out] at this; exact this
    clear hO5 hb5 hk5 hw5 hne5
    go_wp2_with fail
    refine bodyPost_ret (results_tmp2 rfl _ _ _) rfl ?_
    exact ⟨⟨_,true,rfl,.inl ⟨rfl,HPre.out,HIa.out,HAns.out⟩⟩,BW5.out⟩
 ·rw [decide_eq_false hca] at c1
  have HN:Hid (¬ EOk e):=fun h=>hca h.1.2.2
  clear hc hl hB hs hst he hca
  generalize e.floor=f at *
  generalize e.files.length=fn at *
  go_enter Tryz.func108,Tryz.ntmps108
  go_wp2_with fail
  rw [← hX0]
  clear hX0
  refine c1.mono ?_
  rintro b X1 ⟨rfl,hb1⟩
  have B1:=hQz (BX.out.trans (hb1.mono BX.out.size))
  clear hb1 c1 k0 k1 k2
  go_wp2_with fail
  refine bodyPost_ret (results_tmp2 rfl _ _ _) rfl ?_
  exact ⟨⟨_,false,rfl,.inr ⟨rfl,HN.out⟩⟩,B1.out⟩
set_option maxHeartbeats 4000000 in
theorem implContents (e:Eng) (v:Value) (w:World) (B:Nat) (hv:EngV w B v e) (hs:EShort e) (hB:B≤w.heap.size) (hst:SumTab w) (a0 a1 a2:Addr) (he:Errs w a0 a1 a2) :
  Calls Tryz.prog 71 #[v] w fun b w'=>(∃ u L,b=.returned (.tuple #[u,.bool (decide (EOk e))])∧L.map Prod.fst=plainX e∧SerO w' w.heap.size u L)∧Below w.heap.size w w':=by
 obtain ⟨vc,vf,rfl,hc,hl⟩:=hv
 unfold vE
 obtain ⟨Ac,cc,rfl,_⟩:=hc.look
 obtain ⟨A,cap,rfl,_⟩:=st_look hl
 have ST:=hQz hst
 have ER:=hQz he
 have HV:Hid (EngV w B (vE e.floor (.slice Ac e.cache.length cc) (.slice A e.files.length cap)) e):=⟨_,_,rfl,hc,hl⟩
 have HC:Hid (SerV w B (.slice Ac e.cache.length cc) e.cache):=hc
 have HB:Hid (B≤w.heap.size):=hB
 have HSh:Hid (EShort e):=hs
 obtain ⟨X0,hX0⟩:∃ X0,X0=w.alloc (.cells #[.int .i64 e.floor,.slice Ac e.cache.length cc,.slice A e.files.length cap] 35):=⟨_,rfl⟩
 have BX:Hid (Below w.heap.size w X0):=by unfold Hid; rw [hX0]; exact (Below.refl _ w).alloc (Nat.le_refl _) _
 have KX:Hid (Blk X0 w.heap.size #[.int .i64 e.floor,.slice Ac e.cache.length cc,.slice A e.files.length cap] 35):=by unfold Hid; rw [hX0]; exact Blk.new w _ _
 have ZB:=hQz (Nat.le_trans hB BX.out.size)
 have c1:=implSources e _ X0 B (HV.out.on (BX.out.mono hB)) hs ZB.out (hst.on BX.out) a0 a1 a2 (he.on BX.out)
 unfold vE at c1
 have k0:=KX.out.cell 0 _ rfl
 have k1:=KX.out.cell 1 _ rfl
 have k2:=KX.out.cell 2 _ rfl
 clear hc hl hB hs hst he
 go_enter Tryz.func71,Tryz.ntmps71
 go_wp2_with fail
 rw [← hX0]
 clear hX0
 refine c1.mono ?_
 rintro b X1 ⟨⟨u,ok,rfl,hA⟩,hb1⟩
 have K1:=KX.out.on hb1 KX.out.lt
 have m0:=K1.cell 0 _ rfl
 have B1:=hQz (BX.out.trans (hb1.mono BX.out.size))
 clear hb1 c1 K1 k0 k1 k2
 rcases hA with ⟨rfl,hP,hF,hS⟩ | ⟨rfl,hN⟩
 ·have HCol:Hid (∀ l ∈ lays e,COk l):=lays_col hP.2.2.1.col hF
  have HLok:Hid (LOk (lays e)):=lays_ok (by have:=hP.2.1; omega) hP.2.2.1.col hF
  have c2:=implGathered (lays e) e.floor u X1 X1.heap.size hS HLok.out HCol.out (Nat.le_refl _) (ST.out.on B1.out) a0 a1 a2 (ER.out.on B1.out)
  have HD:Hid (decide (SOk (plainE e))=decide (EOk e)):=by
   unfold Hid
   rw [decide_eq_decide]
   exact ⟨fun h=>⟨hP,hF,h⟩,fun h=>h.2.2⟩
  have HShp:=hQz (plainE_short HLok.out)
  obtain ⟨Au,cu,rfl,_⟩:=hS.look
  clear hP hF hS
  go_wp2_with fail
  refine c2.mono ?_
  rintro b X2 ⟨⟨u2,L,rfl,hL,hS2⟩,hb2⟩
  have B2:=hQz (B1.out.trans (hb2.mono B1.out.size))
  have S2:=hQz (hS2.mono B1.out.size)
  have HL:Hid (L.map Prod.fst=plainE e):=hL
  have c3:=implSeriesOk (plainE e) u2 X2 X2.heap.size (by rw [← HL.out]; exact hS2.view) HShp.out (plain_keys HCol.out) (Nat.le_refl _)
  rw [HD.out] at c3
  obtain ⟨A2,n2,c2',rfl⟩:=hS2.1.shape
  clear hL hS2 hb2 c2 m0
  go_wp2_with fail
  refine c3.mono ?_
  rintro b X3 ⟨rfl,hb3⟩
  have B3:=hQz (B2.out.trans (hb3.mono B2.out.size))
  have S3:=hQz (S2.out.on hb3)
  clear hb3 c3
  by_cases hok:EOk e
  ·have HX:Hid (plainX e=plainE e):=by unfold Hid plainX; rw [if_pos hok]
   have hd:decide (EOk e)=true:=decide_eq_true hok
   rw [hd]
   clear hok
   go_wp2_with fail
   refine bodyPost_ret (results_tmp2 rfl _ _ _) rfl ?_
   exact ⟨⟨_,L,by rw [hd]; rfl,HL.out.trans HX.out.symm,S3.out⟩,B3.out⟩
  ·have HX:Hid (plainX e=[]):=by unfold Hid plainX; rw [if_neg hok]
   have hd:decide (EOk e)=false:=decide_eq_false hok
   rw [hd]
   clear hok
   go_wp2_with fail
   refine bodyPost_ret (results_tmp2 rfl _ _ _) rfl ?_
   exact ⟨⟨_,[],by rw [hd]; rfl,by rw [HX.out]; rfl,⟨Owns.nil _ _ _ _,fun p hp=>(by cases hp),List.Pairwise.nil⟩⟩,B3.out⟩
 ·have HX:Hid (plainX e=[]):=by unfold Hid plainX; rw [if_neg hN]
  have HD:Hid (decide (EOk e)=false):=decide_eq_false hN
  clear hN
  go_wp2_with fail
  refine bodyPost_ret (results_tmp2 rfl _ _ _) rfl ?_
  exact ⟨⟨_,[],by rw [HD.out]; rfl,by rw [HX.out]; rfl,⟨Owns.nil _ _ _ _,fun p hp=>(by cases hp),List.Pairwise.nil⟩⟩,B1.out⟩
end Go.Proofs.YthhamlahdjokkaaGreatDoor
namespace Go.Proofs.YthhamlahdjokkaaGreatDoor
open Go.ChangeShapes Go.WideShapes Go.ChangeAt Go.RowKit Go.PlainAid
set_option linter.unusedVariables false
set_option maxHeartbeats 2000000 in
theorem implEngineOk (e:Eng) (v:Value) (w:World) (B:Nat) (hv:EngV w B v e) (hs:EShort e) (hB:B≤w.heap.size) (hst:SumTab w) (a0 a1 a2:Addr) (he:Errs w a0 a1 a2) :
  Calls Tryz.prog 31 #[v] w fun b w'=>b=.returned (.bool (decide (EOk e)))∧Below w.heap.size w w':=by
 obtain ⟨vc,vf,rfl,hc,hl⟩:=hv
 unfold vE
 obtain ⟨Ac,cc,rfl,_⟩:=hc.look
 obtain ⟨A,cap,rfl,_⟩:=st_look hl
 have ST:=hQz hst
 have ER:=hQz he
 have HV:Hid (EngV w B (vE e.floor (.slice Ac e.cache.length cc) (.slice A e.files.length cap)) e):=⟨_,_,rfl,hc,hl⟩
 have HC:Hid (SerV w B (.slice Ac e.cache.length cc) e.cache):=hc
 have HB:Hid (B≤w.heap.size):=hB
 have HSh:Hid (EShort e):=hs
 obtain ⟨X0,hX0⟩:∃ X0,X0=w.alloc (.cells #[.int .i64 e.floor,.slice Ac e.cache.length cc,.slice A e.files.length cap] 35):=⟨_,rfl⟩
 have BX:Hid (Below w.heap.size w X0):=by unfold Hid; rw [hX0]; exact (Below.refl _ w).alloc (Nat.le_refl _) _
 have KX:Hid (Blk X0 w.heap.size #[.int .i64 e.floor,.slice Ac e.cache.length cc,.slice A e.files.length cap] 35):=by unfold Hid; rw [hX0]; exact Blk.new w _ _
 have ZB:=hQz (Nat.le_trans hB BX.out.size)
 have c1:=implContents e _ X0 B (HV.out.on (BX.out.mono hB)) hs ZB.out (hst.on BX.out) a0 a1 a2 (he.on BX.out)
 unfold vE at c1
 have k0:=KX.out.cell 0 _ rfl
 have k1:=KX.out.cell 1 _ rfl
 have k2:=KX.out.cell 2 _ rfl
 clear hc hl hB hs hst he
 go_enter Tryz.func31,Tryz.ntmps31
 go_wp2_with fail
 rw [← hX0]
 clear hX0
 refine c1.mono ?_
 rintro b X1 ⟨⟨u,L,rfl,hL,hS⟩,hb1⟩
 have B1:=hQz (BX.out.trans (hb1.mono BX.out.size))
 have S1:=hQz (hS.mono BX.out.size)
 have HL:Hid (L.map Prod.fst=plainX e):=hL
 clear hL hS hb1 c1 k0 k1 k2
 go_wp2_with fail
 go_ret
 exact ⟨rfl,B1.out⟩
end Go.Proofs.YthhamlahdjokkaaGreatDoor
namespace Go.Proofs.YthhamlahdjokkaaGreatDoor
open Go.ChangeShapes Go.WideShapes Go.ChangeAt Go.RowKit Go.PlainAid
set_option linter.unusedVariables false
set_option maxRecDepth 20000 in
set_option maxHeartbeats 8000000 in
theorem implStateOk (x:Sta) (v:Value) (w:World) (B:Nat) (hv:StaV w B v x) (hs:StShort x) (hB:B≤w.heap.size) (hst:SumTab w) (a0 a1 a2:Addr) (he:Errs w a0 a1 a2) :
  Calls Tryz.prog 9 #[v] w fun e w'=>e=.returned (.bool (staOk x))∧Below w.heap.size w w':=by
 obtain ⟨Ab,nb,cb,Ac,nc,cc,Af,nf,cf,As,ns,cs,rfl⟩:=hv.shape
 have HV:Hid (StaV w B (vSt x (.slice Ab nb cb) (.slice Ac nc cc) (.slice Af nf cf) (.slice As ns cs)) x):=hv
 obtain ⟨hb0,he0,hs0⟩:=hv.parts
 have HB:Hid (B≤w.heap.size):=hB
 have HS:Hid (StShort x):=hs
 have LB:=hQz hb0
 have LE:Hid (EngV w B (.agg #[.int .i64 x.eng.floor,.slice Ac nc cc,.slice Af nf cf]) x.eng):=he0
 have LQ:=hQz hs0
 have hnb:nb=x.bks.length:=by have:=hb0.room.1; rw [ptR_length] at this; exact this
 have hnc:nc=x.eng.cache.length∧nf=x.eng.files.length:=by
  obtain ⟨vc',vf',e,h1,h2⟩:=he0
  unfold vE at e
  simp only [Value.agg.injEq,Array.mk.injEq,List.cons.injEq,true_and,and_true] at e
  obtain ⟨rfl,rfl⟩:=e
  obtain ⟨A1,c1,e1,_⟩:=h1.look
  obtain ⟨A2,c2,e2,_⟩:=st_look h2
  cases e1
  cases e2
  exact ⟨rfl,rfl⟩
 have hns:ns=x.ses.length:=by have:=hs0.room.1; rw [sesR_length] at this; exact this
 clear hv hb0 he0 hs0 hB hs
 have HST:=hQz hst
 have HER:=hQz he
 have HN:Hid (nb=x.bks.length∧nb≤1048576):=⟨hnb,by rw [hnb]; exact HS.out.1⟩
 clear hnb hnc hns hst he
 have HE:Hid (staOk x=(sesFrom 1 x.ses && (if x.kind=1 then metaB x else if x.kind=2 then (decide (x.hold=0) && decide (x.mark=0) && decide (nb=0) && decide (EOk x.eng)) else false))):=by
  unfold Hid staOk shardB
  rw [HN.out.1]
 unfold vSt
 obtain ⟨sk,hsk⟩:∃ sk,x.kind=sk:=⟨_,rfl⟩
 obtain ⟨sh,hsh⟩:∃ sh,x.hold=sh:=⟨_,rfl⟩
 obtain ⟨sm,hsm⟩:∃ sm,x.mark=sm:=⟨_,rfl⟩
 obtain ⟨sf,hsf⟩:∃ sf,x.eng.floor=sf:=⟨_,rfl⟩
 unfold vSt at HV
 rw [hsk,hsh,hsm,hsf] at HV ⊢
 rw [hsf] at LE
 rw [hsk,hsh,hsm] at HE
 clear hsk hsh hsm hsf
 obtain ⟨X0,hX0⟩:∃ X0,X0=w.alloc (.cells #[.int .i64 sk,.int .i64 sh,.int .i64 sm,.slice Ab nb cb,.int .i64 sf,.slice Ac nc cc,.slice Af nf cf,.slice As ns cs] 38):=⟨_,rfl⟩
 have BX:Hid (Below w.heap.size w X0):=by unfold Hid; rw [hX0]; exact (Below.refl _ w).alloc (Nat.le_refl _) _
 have KX:Hid (Blk X0 w.heap.size #[.int .i64 sk,.int .i64 sh,.int .i64 sm,.slice Ab nb cb,.int .i64 sf,.slice Ac nc cc,.slice Af nf cf,.slice As ns cs] 38):=by unfold Hid; rw [hX0]; exact Blk.new w _ _
 have c1:=implSessionsOk x.ses (.slice As ns cs) X0 B (LQ.out.on (BX.out.mono HB.out)) HS.out.2.2.1 HS.out.2.2.2 (Nat.le_trans HB.out BX.out.size)
 have k7:=KX.out.cell 7 _ rfl
 go_enter Tryz.func9,Tryz.ntmps9
 go_wp2_with fail
 rw [← hX0]
 clear hX0
 refine c1.mono ?_
 rintro e X1 ⟨rfl,hb1⟩
 have B1:=hQz (BX.out.trans (hb1.mono BX.out.size))
 have K1:=hQz (KX.out.on hb1 KX.out.lt)
 clear hb1 c1 k7
 cases h0:sesFrom 1 x.ses <;> rw [h0] at HE
 ·go_wp2_with fail
  go_ret
  exact ⟨by rw [HE.out]; rfl,B1.out⟩
 have k0:=K1.out.cell 0 _ rfl
 have k1:=K1.out.cell 1 _ rfl
 have k2:=K1.out.cell 2 _ rfl
 have k3:=K1.out.cell 3 _ rfl
 have k4:=K1.out.cell 4 _ rfl
 have k5:=K1.out.cell 5 _ rfl
 have k6:=K1.out.cell 6 _ rfl
 have k7:=K1.out.cell 7 _ rfl
 have hnq:=HN.out
 have q1:(nb:Int)≤1048576:=by omega
 clear hnq
 by_cases g1:sk=1
 ·subst g1
  rw [if_pos rfl] at HE
  have c2:=implMetaOk x _ X1 B (HV.out.on (B1.out.mono HB.out)) HS.out (Nat.le_trans HB.out B1.out.size)
  go_wp2_with fail
  refine c2.mono ?_
  rintro e X2 ⟨rfl,hb2⟩
  have B2:=hQz (B1.out.trans (hb2.mono B1.out.size))
  clear hb2 c2
  go_wp2_with fail
  go_ret
  exact ⟨by rw [HE.out]; rfl,B2.out⟩
 have z1:(sk == 1)=false:=by simpa using g1
 rw [if_neg g1] at HE
 by_cases g2:sk=2
 ·subst g2
  rw [if_pos rfl] at HE
  by_cases y1:sh=0
  ·subst y1
   by_cases y2:sm=0
   ·subst y2
    by_cases y3:nb=0
    ·have e3:((nb:Int) == 0)=true:=by simp; omega
     rw [decide_eq_true rfl,decide_eq_true y3] at HE
     clear y3 g1 z1
     have c2:=implEngineOk x.eng _ X1 B (LE.out.on (B1.out.mono HB.out)) HS.out.2.1 (Nat.le_trans HB.out B1.out.size) (HST.out.on B1.out) a0 a1 a2 (HER.out.on B1.out)
     go_wp2_with fail
     refine c2.mono ?_
     rintro e X2 ⟨rfl,hb2⟩
     have B2:=hQz (B1.out.trans (hb2.mono B1.out.size))
     clear hb2 c2
     go_wp2_with fail
     go_ret
     exact ⟨by rw [HE.out]; first | rfl | simp,B2.out⟩
    ·have e3:((nb:Int) == 0)=false:=by simp; omega
     rw [decide_eq_true rfl,decide_eq_false y3] at HE
     clear y3 g1 z1
     go_wp2_with fail
     go_ret
     exact ⟨by rw [HE.out]; rfl,B1.out⟩
   ·have e2:(sm == 0)=false:=by simpa using y2
    rw [decide_eq_true rfl,decide_eq_false y2] at HE
    clear y2 g1 z1
    go_wp2_with fail
    go_ret
    exact ⟨by rw [HE.out]; rfl,B1.out⟩
  ·have e1:(sh == 0)=false:=by simpa using y1
   rw [decide_eq_false y1] at HE
   clear y1 g1 z1
   go_wp2_with fail
   go_ret
   exact ⟨by rw [HE.out]; rfl,B1.out⟩
 have z2:(sk == 2)=false:=by simpa using g2
 rw [if_neg g2] at HE
 clear g1 g2
 go_wp2_with fail
 go_ret
 exact ⟨by rw [HE.out]; rfl,B1.out⟩
end Go.Proofs.YthhamlahdjokkaaGreatDoor
namespace Go.Proofs
open Go.Shelf
def Tryz.cloneBk_ren:Go.Shelf.Ren:=⟨fun | 41=>137 | n=>n,fun | 22=>32 | 23=>58 | 4=>4 | n=>n,fun | n=>n⟩
theorem Tryz.cloneBk:Go.Proofs.SlLaysE0.n41 Tryz.prog Tryz.cloneBk_ren:={
 mixed:=by kernel_rfl
 f41:=⟨Tryz.f137.name,by decide,Tryz.func137.trans (congrArg some (by kernel_rfl))⟩
 t4:=Tryz.underlying4
 a4:=Tryz.isAgg4
 z4:=Tryz.sizeOf4
 v4:=Tryz.zeroValue4
 t22:=Tryz.underlying32
 a22:=Tryz.isAgg32
 z22:=Tryz.sizeOf32
 v22:=Tryz.zeroValue32 }
def Tryz.cloneSe_ren:Go.Shelf.Ren:=⟨fun | 41=>139 | n=>n,fun | 22=>36 | 23=>53 | 4=>4 | n=>n,fun | n=>n⟩
theorem Tryz.cloneSe:Go.Proofs.SlLaysE0.n41 Tryz.prog Tryz.cloneSe_ren:={
 mixed:=by kernel_rfl
 f41:=⟨Tryz.f139.name,by decide,Tryz.func139.trans (congrArg some (by kernel_rfl))⟩
 t4:=Tryz.underlying4
 a4:=Tryz.isAgg4
 z4:=Tryz.sizeOf4
 v4:=Tryz.zeroValue4
 t22:=Tryz.underlying36
 a22:=Tryz.isAgg36
 z22:=Tryz.sizeOf36
 v22:=Tryz.zeroValue36 }
end Go.Proofs
namespace Go.Proofs.YthhamlahdjokkaaGreatDoor
open Go.ChangeShapes Go.WideShapes Go.ChangeAt Go.RowKit Go.PlainAid
set_option linter.unusedVariables false
theorem res3 {w:World} {g:Nat} {a b c x y z:Value} {t:TypeId} (h:Blk w g #[a,b,c] t) :
  (w.cell? ⟨g,0,none⟩=some a∧w.frozen? ⟨g,0,none⟩=false)∧((w.setCell ⟨g,0,none⟩ x).cell? ⟨g,1,none⟩=some b∧(w.setCell ⟨g,0,none⟩ x).frozen? ⟨g,1,none⟩=false) ∧
  (((w.setCell ⟨g,0,none⟩ x).setCell ⟨g,1,none⟩ y).cell? ⟨g,2,none⟩=some c∧((w.setCell ⟨g,0,none⟩ x).setCell ⟨g,1,none⟩ y).frozen? ⟨g,2,none⟩=false) ∧
  ((((w.setCell ⟨g,0,none⟩ x).setCell ⟨g,1,none⟩ y).setCell ⟨g,2,none⟩ z).cell? ⟨g,0,none⟩=some x∧(((w.setCell ⟨g,0,none⟩ x).setCell ⟨g,1,none⟩ y).setCell ⟨g,2,none⟩ z).cell? ⟨g,1,none⟩=some y∧(((w.setCell ⟨g,0,none⟩ x).setCell ⟨g,1,none⟩ y).setCell ⟨g,2,none⟩ z).cell? ⟨g,2,none⟩=some z):=by
 have h1:=h.set 0 x
 have h2:=h1.set 1 y
 have h3:=h2.set 2 z
 exact ⟨⟨h.cell 0 _ rfl,h.free 0⟩,⟨h1.cell 1 _ rfl,h1.free 1⟩,⟨h2.cell 2 _ rfl,h2.free 2⟩,h3.cell 0 _ rfl,h3.cell 1 _ rfl,h3.cell 2 _ rfl⟩
theorem KeptBut.set3 {w:World} (g:Nat) (x y z:Value):KeptBut g w (((w.setCell ⟨g,0,none⟩ x).setCell ⟨g,1,none⟩ y).setCell ⟨g,2,none⟩ z):=(((KeptBut.refl g w).set 0 x).set 1 y).set 2 z
theorem SerO.butE {w w':World} {base g:Nat} {v:Value} {L:List (Ser × Value)} {cs:Array Value} (h:SerO w base v L) (hK:Blk w g cs 35) (hk:KeptBut g w w'):SerO w' base v L :=
 ⟨hk.owns h.1 (h.1.notBlk hK (by decide)),fun p hp=>hk.owns (h.2.1 p hp) ((h.2.1 p hp).notBlk hK (by decide)),h.2.2⟩
theorem Strs.butE {w w':World} {base g:Nat} {v:Value} {l:List ByteArray} {cs:Array Value} (h:Strs w base v l) (hK:Blk w g cs 35) (hk:KeptBut g w w'):Strs w' base v l :=
 owns_strs (hk.owns (strs_owns h) ((strs_owns h).notBlk hK (by decide)))
theorem EngO.end3 {w:World} {base R:Nat} {vc vf:Value} {L:List (Ser × Value)} {e:Eng} {f:Int} {cs:Array Value} (hK:Blk w R cs 35) (hf:e.floor=f) (hL:L.map Prod.fst=e.cache) (hS:SerO w base vc L) (hT:Strs w base vf e.files) :
  EngO (((w.setCell ⟨R,0,none⟩ (.int .i64 f)).setCell ⟨R,1,none⟩ vc).setCell ⟨R,2,none⟩ vf) base (.agg #[.int .i64 f,vc,vf]) e :=
 ⟨vc,vf,L,by rw [hf]; rfl,hL,hS.butE hK (KeptBut.set3 R _ _ _),hT.butE hK (KeptBut.set3 R _ _ _)⟩
theorem SerO.nilE (w:World) (base:Nat):SerO w base (.slice none 0 0) []:=⟨Owns.nil _ _ _ _,fun p hp=>(by cases hp),List.Pairwise.nil⟩
theorem below_set3 {w w':World} {g:Nat} (h:Below w.heap.size w w') (hg:w.heap.size≤g) (x y z:Value):Below w.heap.size w (((w'.setCell ⟨g,0,none⟩ x).setCell ⟨g,1,none⟩ y).setCell ⟨g,2,none⟩ z):=((h.setCell hg _).setCell hg _).setCell hg _
end Go.Proofs.YthhamlahdjokkaaGreatDoor
namespace Go.Proofs.YthhamlahdjokkaaGreatDoor
open Go.ChangeShapes Go.WideShapes Go.ChangeAt Go.RowKit Go.PlainAid
set_option linter.unusedVariables false
theorem clonePts (l:List Pnt) (v:Value) (w:World) (B:Nat) (hv:Lies w B 2 v (ptR l)) (hl:l.length≤1048576) (h1:1≤l.length) :
  Calls Tryz.prog 169 #[v] w fun e w'=>(∃ u,e=.returned u∧Owns w' w.heap.size 98 2 u (ptR l))∧Below w.heap.size w w':=by
 obtain ⟨i0,hi,hz0,hz1,hz2⟩:=info_parts Tryz.infoPt
 obtain ⟨A,cap,rfl,hz,hms,hm⟩:=hv
 rcases hm with h0 | ⟨g,off,rfl,hg,hc⟩
 ·rw [ptR_length] at h0
  omega
 ·refine (AnyE.slices_Clone Tryz.cloneP i0 _ 2 16 hi hz0 hz1 hz2 rfl (by omega) Tryz.sizeOf98 g off (ptR l).length cap (ptR l).flatten w (flat_length 2 _ hms) (by rw [ptR_length]; unfold maxLen; omega) (by rw [ptR_length]; omega) hc ?_).mono ?_
  ·intro y hy
   obtain ⟨r,hr,hyr⟩:=List.mem_flatten.1 hy
   exact pt_one l r hr y hyr
  ·rintro e w' ⟨u,rfl,hO,_,hb⟩
   exact ⟨⟨u,rfl,hms,hO⟩,hb⟩
set_option maxRecDepth 100000 in
set_option maxHeartbeats 16000000 in
theorem implCopy (e:Eng) (v:Value) (w:World) (B:Nat) (hv:EngV w B v e) (hs:EShort e) (hok:∀ x ∈ e.cache,1≤x.pts.length∧x.key.size≤1000) (hB:B≤w.heap.size) :
  Calls Tryz.prog 138 #[v] w fun b w'=>(∃ u,b=.returned u∧EngO w' w.heap.size u e)∧Below w.heap.size w w':=by
 obtain ⟨vc,vf,rfl,hc,hl⟩:=hv
 unfold vE
 obtain ⟨Ac,cc,rfl,_⟩:=hc.look
 obtain ⟨A,cap,rfl,_⟩:=st_look hl
 have HC:Hid (SerV w B (.slice Ac e.cache.length cc) e.cache):=hc
 have HLs:=hQz hl
 have HB:Hid (B≤w.heap.size):=hB
 have HSh:Hid (SShort e.cache):=hs.1
 obtain ⟨X0,hX0⟩:∃ X0,X0=(w.alloc (.cells #[.int .i64 e.floor,.slice Ac e.cache.length cc,.slice A e.files.length cap] 35)).alloc (.cells #[.int .i64 0,.slice none 0 0,.slice none 0 0] 35):=⟨_,rfl⟩
 have BX:Hid (Below w.heap.size w X0):=by unfold Hid; rw [hX0]; exact below_alloc2 _ _ _
 have KX:Hid (Blk X0 w.heap.size #[.int .i64 e.floor,.slice Ac e.cache.length cc,.slice A e.files.length cap] 35):=by unfold Hid; rw [hX0]; exact (Blk.new w _ _).alloc _
 have KR:Hid (Blk X0 (w.heap.size+1) #[.int .i64 0,.slice none 0 0,.slice none 0 0] 35):=by
  unfold Hid
  rw [hX0]
  have:=Blk.new (w.alloc (.cells #[.int .i64 e.floor,.slice Ac e.cache.length cc,.slice A e.files.length cap] 35)) #[.int .i64 0,.slice none 0 0,.slice none 0 0] 35
  rw [World.size_alloc] at this
  exact this
 have hZ:X0.heap.size=w.heap.size+1+1:=by rw [hX0]; simp
 obtain ⟨X1,hX1⟩:∃ X1,X1=X0.alloc (.cells #[.int .i64 e.floor,.slice none 0 0,.slice none 0 0] 35):=⟨_,rfl⟩
 have KP:Hid (Blk X1 X0.heap.size #[.int .i64 e.floor,.slice none 0 0,.slice none 0 0] 35):=by unfold Hid; rw [hX1]; exact Blk.new X0 _ _
 have BP:Hid (Below X0.heap.size X0 X1):=by unfold Hid; rw [hX1]; exact (Below.refl _ _).alloc (Nat.le_refl _) _
 have HL:Hid (∀ wx,Below w.heap.size w wx → ∀ j,j < e.cache.length → ∃ g off u,Ac=some ⟨g,off,none⟩∧g < B∧wx.cell? ⟨g,off+j * 2,none⟩=some (.string (e.cache.getD j default).key)∧wx.cell? ⟨g,off+j * 2+1,none⟩=some u∧Lies wx B 2 u (ptR (e.cache.getD j default).pts)):=fun wx hx=>by
  obtain ⟨A',c',e',h⟩:=(HC.out.on (hx.mono HB.out)).look
  cases e'
  exact h
 have HFi:Hid (∀ wx,Below w.heap.size w wx → ∀ j,j < e.files.length → ∃ g off,A=some ⟨g,off,none⟩∧g < B∧wx.cell? ⟨g,off+j,none⟩=some (.string (e.files.getD j default))):=fun wx hx=>by
  obtain ⟨A',c',e',h⟩:=st_look (HLs.out.on (hx.mono HB.out))
  cases e'
  exact h
 have HTk:Hid (∀ i,i < e.cache.length → e.cache.take (i+1)=e.cache.take i ++ [e.cache.getD i default]):=fun i hi=>take_getD _ i hi
 have HTn:Hid (∀ i,i=e.cache.length → e.cache.take i=e.cache):=fun i hi=>by rw [hi,List.take_length]
 have HFk:Hid (∀ i,i < e.files.length → e.files.take (i+1)=e.files.take i ++ [e.files.getD i default]):=fun i hi=>take_getD _ i hi
 have HFn:Hid (∀ i,i=e.files.length → e.files.take i=e.files):=fun i hi=>by rw [hi,List.take_length]
 have HFl:Hid (∀ i,i≤e.files.length → (stR (e.files.take i)).length≤2097152):=fun i hi=>by rw [stR_length,List.length_take]; have:=hs.2.2.1; omega
 have HPt:Hid (∀ i,i < e.cache.length → (e.cache.getD i default).pts.length≤1048576∧1≤(e.cache.getD i default).pts.length∧(e.cache.getD i default).key.size≤281474976710656):=fun i hi=>⟨hs.1.2 _ (getD_mem _ i hi),(hok _ (getD_mem _ i hi)).1,by have:=(hok _ (getD_mem _ i hi)).2; omega⟩
 have HFz:Hid (∀ i,i < e.files.length → (e.files.getD i default).size≤281474976710656):=fun i hi=>by have:=hs.2.2.2 _ (getD_mem _ i hi); omega
 have q1:(e.cache.length:Int)≤1048576:=by have:=hs.1.1; omega
 have q2:(e.files.length:Int)≤1048576:=by have:=hs.2.2.1; omega
 have k0:_=some (Value.int .i64 e.floor):=KX.out.cell 0 _ rfl
 have m1:_=some (Value.slice Ac e.cache.length cc):=(KX.out.on BP.out KX.out.lt).cell 1 _ rfl
 clear hc hl hB hs hok
 generalize hf:e.floor=f at *
 have HFe:Hid (e.floor=f):=hf
 clear hf
 generalize hnc:e.cache.length=nc at *
 have HNc:Hid (e.cache.length=nc):=hnc
 clear hnc
 generalize hnf:e.files.length=nf at *
 clear hnf
 have q0:0≤nc:=Nat.zero_le _
 have q00:0≤nf:=Nat.zero_le _
 rw [hX1] at m1
 rw [hX0] at k0 m1
 go_enter Tryz.func138,Tryz.ntmps138
 go_wp2_with fail
 rw [← hX0,← hX1]
 clear hX0 hX1 k0 m1
 generalize w.heap.size+1+1=p0 at *
 subst hZ
 go_loopw [14] (fun v14 wr=>∃ (i:Nat) (L:List (Ser × Value)) (A1:Option Addr) (n1 c1:Nat),i≤nc∧v14=.int .i64 (i:Int)∧L.map Prod.fst=e.cache.take i∧Blk wr X0.heap.size #[.int .i64 f,.slice A1 n1 c1,.slice none 0 0] 35∧SerO wr X0.heap.size (.slice A1 n1 c1) L∧Below X0.heap.size X0 wr) (fun i _=>nc - (intOf i).toNat)
 case atStart=>exact ⟨0,[],none,0,0,q0,rfl,rfl,KP.out,SerO.nilE _ _,BP.out⟩
 case round =>
  obtain ⟨i,L,A1,n1,c1,hi,rfl,hL,hK,hS,hb⟩:=hrel
  have HLm:Hid (L.map Prod.fst=e.cache.take i):=hL
  have K3:=hQz hK
  have HS:=hQz hS
  have HBr:=hQz hb
  have BW:=hQz (BX.out.trans (hb.mono BX.out.size))
  have KXr:=hQz (KX.out.on hb KX.out.lt)
  clear hL hK hS hb
  by_cases hlt:i < nc
  ·have q4:(i:Int) < (nc:Int):=by omega
   have HTi:=hQz (HTk.out i hlt)
   have HPl:=HPt.out i hlt
   obtain ⟨g,off,u,rfl,hg,e1,e2,hu⟩:=HL.out wr BW.out i hlt
   generalize e.cache.getD i default=sx at *
   obtain ⟨key,pts⟩:=sx
   obtain ⟨Au,cu,rfl,_⟩:=pt_look hu
   have HU:=hQz hu
   have HLn:Hid ((srR L).length≤2097152):=by
    have h1:=congrArg List.length HLm.out
    rw [List.length_map,List.length_take] at h1
    unfold Hid
    rw [srR_length]
    omega
   have HZ:=hQz (HBr.out.size)
   have cS:=fun (wx:World)=>clone key wx HPl.2.2
   have cP:=fun (wx:World) (hx:Below wr.heap.size wr wx)=>clonePts pts (.slice Au pts.length cu) wx B (HU.out.on (hx.mono (Nat.le_trans HB.out BW.out.size))) HPl.1 HPl.2.1
   clear hu hg HPl
   generalize pts.length=pl at *
   go_wp2_with fail
   obtain ⟨wq,hwq⟩:∃ wq,wq=wr.alloc (.cells #[.string key,.slice Au pl cu] 101):=⟨_,rfl⟩
   have KQ:Hid (Blk wq wr.heap.size #[.string key,.slice Au pl cu] 101):=by unfold Hid; rw [hwq]; exact Blk.new wr _ _
   have VQ:Hid (Below wr.heap.size wr wq):=by unfold Hid; rw [hwq]; exact (Below.refl _ _).alloc (Nat.le_refl _) _
   rw [← hwq]
   clear hwq e1 e2
   refine wp_region_until (fun w'=>w'.cell? ⟨X0.heap.size,1,none⟩=some (.slice A1 n1 c1)∧w'.cell? ⟨wr.heap.size,0,none⟩=some (.string key)∧w'.cell? ⟨wr.heap.size,1,none⟩=some (.slice Au pl cu)) (fun i=>i == 12) 13 (by rfl) (by kernel_rfl) ?_
   have V0:Hid (Below wq.heap.size wq wq.drew):=(Below.refl _ _).drew
   generalize wq.drew=Y0 at *
   have HS0:Hid (∀ wx,Below wq.heap.size wq wx → wx.cell? ⟨X0.heap.size,1,none⟩=some (.slice A1 n1 c1)∧wx.cell? ⟨wr.heap.size,0,none⟩=some (.string key)∧wx.cell? ⟨wr.heap.size,1,none⟩=some (.slice Au pl cu)):=fun wx hx =>
    ⟨((K3.out.on VQ.out K3.out.lt).on hx (K3.out.on VQ.out K3.out.lt).lt).cell 1 _ rfl,(KQ.out.on hx KQ.out.lt).cell 0 _ rfl,(KQ.out.on hx KQ.out.lt).cell 1 _ rfl⟩
   have HWr:Hid (∀ wx,Below wq.heap.size wq wx → Below wr.heap.size wr wx):=fun wx hx=>VQ.out.trans (hx.mono VQ.out.size)
   refine until_take 0 (v:=?_) (by rfl) (by kernel_rfl) (by exact fun _ _ _ h=>h) (by rfl) ?_ (HS0.out _ V0.out) ?_; rotate_left; focus (intro w hSw; (try dsimp only at hSw); go_simp; try with_reducible rfl)
   try simp only [Act.put,zQ1,zQ2,zQ3]
   refine until_take 1 (v:=?_) (by rfl) (by kernel_rfl) (by exact fun _ _ _ h=>h) (by rfl) ?_ (HS0.out _ V0.out) ?_; rotate_left; focus (intro w hSw; (try dsimp only at hSw); go_simp; try with_reducible rfl)
   try simp only [Act.put,zQ1,zQ2,zQ3]
   refine until_take 2 (v:=?_) (by rfl) (by kernel_rfl) (by exact fun _ _ _ h=>h) (by rfl) ?_ (HS0.out _ V0.out) ?_; rotate_left; focus (intro w hSw; (try dsimp only at hSw); go_simp; try with_reducible rfl)
   try simp only [Act.put,zQ1,zQ2,zQ3]
   refine until_take 3 (v:=?_) (by rfl) (by kernel_rfl) (by exact fun _ _ _ h=>h) (by rfl) ?_ (HS0.out _ V0.out) ?_; rotate_left; focus (intro w hSw; (try dsimp only at hSw); go_simp; try with_reducible rfl)
   try simp only [Act.put,zQ1,zQ2,zQ3]
   refine until_take 5 (v:=?_) (by rfl) (by kernel_rfl) (by exact fun _ _ _ h=>h) (by rfl) ?_ (HS0.out _ V0.out) ?_; rotate_left; focus (intro w hSw; (try dsimp only at hSw); go_simp; try with_reducible rfl)
   try simp only [Act.put,zQ1,zQ2,zQ3]
   refine until_take 6 (v:=?_) (by rfl) (by kernel_rfl) (by exact fun _ _ _ h=>h) (by rfl) ?_ (HS0.out _ V0.out) ?_; rotate_left; focus (intro w hSw; (try dsimp only at hSw); go_simp; try with_reducible rfl)
   try simp only [Act.put,zQ1,zQ2,zQ3]
   refine uNe 4 (fun K hK=>?_)
   go_simp
   refine (cS Y0).mono ?_
   rintro b Y1 ⟨rfl,hb1⟩
   have V1:=hQz (V0.out.trans (hb1.mono V0.out.size))
   clear hb1
   refine hK.out _ _ (fun _ _=>(HS0.out _ V1.out)) ?_
   clear hK K
   try simp only [Act.put,zQ1,zQ2,zQ3]
   refine uNe 7 (fun K hK=>?_)
   go_simp
   refine (cP Y1 (HWr.out _ V1.out)).mono ?_
   rintro b Y2 ⟨⟨u2,rfl,hO2⟩,hb2⟩
   obtain ⟨Ap,mp,cp,rfl⟩:=hO2.shape
   have V2:=hQz (V1.out.trans (hb2.mono V1.out.size))
   have OP:Hid (Owns Y2 wr.heap.size 98 2 (.slice Ap mp cp) (ptR pts)):=hO2.mono (HWr.out _ V1.out).size
   clear hb2 hO2
   refine hK.out _ _ (fun _ _=>(HS0.out _ V2.out)) ?_
   clear hK K
   try simp only [Act.put,zQ1,zQ2,zQ3]
   refine pUf 8 ?_
   refine uNe 9 (fun K hK=>?_)
   go_simp
   have V3:Hid (Below wq.heap.size wq (Y2.alloc (.cells #[.string key,.slice Ap mp cp] 101))):=V2.out.alloc V2.out.size _
   refine hK.out _ _ (fun _ _=>(HS0.out _ V3.out)) ?_
   clear hK K
   try simp only [Act.put,zQ1,zQ2,zQ3]
   have W2:Hid (Below wr.heap.size wr Y2):=HWr.out _ V2.out
   have Z2:X0.heap.size≤Y2.heap.size:=Nat.le_trans HZ.out W2.out.size
   obtain ⟨A7,n7,c7,w5,r5,hO5,hb5,hk5,hw5⟩:=run_append_row (P:=Tryz.prog) Y2 33 33 101 (.agg #[.string ⟨#[]⟩,.slice none 0 0]) 2 40 Tryz.underlying33 Tryz.infoSr rfl (by omega) X0.heap.size (.slice A1 n1 c1) (srR L) (HS.out.1.on W2.out) [.string key,.slice Ap mp cp] rfl (sr_cells key rfl) HLn.out (by omega) Z2
   refine uNe 10 (fun K hK=>?_)
   refine step_append_run (by rfl) (.tmp 19) (.tmp 27) 33 (by rfl) _ _ _ _ (by rfl) (by rfl) r5 ?_
   have hS2:=HS.out.on W2.out
   have hne5:∀ (v:Value) (b:Nat) (e:TypeId) (sz:Nat) (r:List (List Value)),Owns Y2 b e sz v r → e ≠ 101 → Owns w5 b e sz v r:=fun v b e sz r ho hne=>ho.kept fun gg hg hv=>hk5 gg hg (fun hu=>ho.apartT hS2.1 hne gg hv hu)
   have AP:∀ q ∈ L,Apart q.2 (.slice Ap mp cp):=fun q hq gg h1 h2=>by
    have:=((HS.out.2.1 q hq).lt gg h1).2
    have:=(OP.out.lt gg h2).1
    omega
   have S5:Hid (SerO w5 X0.heap.size (.slice A7 n7 c7) (L ++ [(⟨key,pts⟩,.slice Ap mp cp)])):=SerO.snoc (w1:=Y2) (v:=.slice A1 n1 c1) hO5 (fun q hq=>hne5 _ _ _ _ _ (hS2.2.1 q hq) (by decide)) hS2.2.2 (hne5 _ _ _ _ _ (OP.out.mono HZ.out) (by decide)) AP
   have hK2:=K3.out.on W2.out K3.out.lt
   have K5:Hid (Blk w5 X0.heap.size #[.int .i64 f,.slice A1 n1 c1,.slice none 0 0] 35):=(hk5 _ hK2.lt (hS2.1.notBlk hK2 (by decide))).trans hK2
   have hQ2:=KQ.out.on V2.out KQ.out.lt
   have hQn:(Value.slice A1 n1 c1).ownBlock ≠ some wr.heap.size:=fun h=>by have:=(HS.out.1.lt _ h).2; omega
   have KQ5:Hid (Blk w5 wr.heap.size #[.string key,.slice Au pl cu] 101):=(hk5 _ hQ2.lt hQn).trans hQ2
   have B5:=hQz ((HBr.out.trans (W2.out.mono HZ.out)).trans hb5)
   have HL5:Hid ((L ++ [((⟨key,pts⟩:Ser),Value.slice Ap mp cp)]).map Prod.fst=e.cache.take (i+1)):=by unfold Hid; rw [HTi.out,List.map_append,HLm.out]; rfl
   have S20:Hid (w5.cell? ⟨X0.heap.size,1,none⟩=some (.slice A1 n1 c1)∧w5.cell? ⟨wr.heap.size,0,none⟩=some (.string key)∧w5.cell? ⟨wr.heap.size,1,none⟩=some (.slice Au pl cu)):=⟨K5.out.cell 1 _ rfl,KQ5.out.cell 0 _ rfl,KQ5.out.cell 1 _ rfl⟩
   clear r5 hO5 hb5 hk5 hw5 hS2 hne5 AP hK2 Z2 V3 hQ2 hQn
   refine hK.out _ _ (fun _ _=>S20.out) ?_
   clear hK K
   try simp only [Act.put,zQ1,zQ2,zQ3]
   refine pUf 11 ?_
   refine uNe 12 (fun K hK=>?_)
   have s1:_=some (Value.slice A1 n1 c1):=K5.out.cell 1 _ rfl
   have f1:=K5.out.free 1
   go_simp
   refine hK.out _ _ (fun h=>by cases h) ?_
   clear hK K s1 f1
   try simp only [Act.put,zQ1,zQ2,zQ3]
   refine until_done (by kernel_rfl) ?_ _
   try go_wp2_with fail
   go_roundw
   case rel=>exact ⟨i+1,_,A7,n7,c7,by omega,by go_num,HL5.out,K5.out.set 1 _,S5.out.butE K5.out ((KeptBut.refl X0.heap.size _).set 1 _),B5.out.setCell (Nat.le_refl _) _⟩
   case measure=>simp [intOf]; omega
  ·obtain rfl:i=nc:=by omega
   have HE:=hQz (HLm.out.trans (HTn.out i rfl))
   have x2:_=some (Value.slice A nf cap):=KXr.out.cell 2 _ rfl
   go_wp2_with fail
   clear x2
   go_loopw [34] (fun v34 wr=>∃ (j:Nat) (A2:Option Addr) (n2 c2:Nat),j≤nf∧v34=.int .i64 (j:Int)∧Blk wr X0.heap.size #[.int .i64 f,.slice A1 n1 c1,.slice A2 n2 c2] 35∧SerO wr X0.heap.size (.slice A1 n1 c1) L∧Owns wr X0.heap.size 9 1 (.slice A2 n2 c2) (stR (e.files.take j))∧Below X0.heap.size X0 wr) (fun j _=>nf - (intOf j).toNat)
   case atStart=>exact ⟨0,none,0,0,q00,rfl,K3.out,HS.out,Owns.nil _ _ _ _,HBr.out⟩
   case round =>
    obtain ⟨j,A2,n2,c2,hj,rfl,hK,hS,hO,hb⟩:=hrel
    have K4:=hQz hK
    have S4:=hQz hS
    have O4:=hQz hO
    have B4:=hQz hb
    have BW4:=hQz (BX.out.trans (hb.mono BX.out.size))
    clear hK hS hO hb
    by_cases hlt2:j < nf
    ·have q5:(j:Int) < (nf:Int):=by omega
     have HFt:=hQz (HFk.out j hlt2)
     have hz5:=HFz.out j hlt2
     have HL4:=hQz (HFl.out j hj)
     obtain ⟨g2,off2,rfl,hg2,e1⟩:=HFi.out wr BW4.out j hlt2
     generalize e.files.getD j default=sx at *
     have cS:=fun (wx:World)=>clone sx wx hz5
     have HZ4:=hQz (B4.out.size)
     have HO5:Hid (∀ wx A n c,Owns wx X0.heap.size 9 1 (.slice A n c) (stR (e.files.take j) ++ [[.string sx]]) → Owns wx X0.heap.size 9 1 (.slice A n c) (stR (e.files.take (j+1)))):=fun wx A n c h=>by
      have e1:stR (e.files.take j) ++ [[.string sx]]=stR (e.files.take (j+1)):=by rw [HFt.out]; simp [stR,stC]
      rw [← e1]
      exact h
     clear hz5 hg2
     go_wp2_with fail
     clear e1
     refine wp_region_until (fun w'=>w'.cell? ⟨X0.heap.size,2,none⟩=some (.slice A2 n2 c2)) (fun i=>i == 7) 8 (by rfl) (by kernel_rfl) ?_
     have V0:Hid (Below wr.heap.size wr wr.drew):=(Below.refl _ _).drew
     generalize wr.drew=Y0 at *
     have HS0:Hid (∀ wx,Below wr.heap.size wr wx → wx.cell? ⟨X0.heap.size,2,none⟩=some (.slice A2 n2 c2)):=fun wx hx=>(K4.out.on hx K4.out.lt).cell 2 _ rfl
     refine until_take 0 (v:=?_) (by rfl) (by kernel_rfl) (by exact fun _ _ _ h=>h) (by rfl) ?_ (HS0.out _ V0.out) ?_; rotate_left; focus (intro w hSw; (try dsimp only at hSw); go_simp; try with_reducible rfl)
     try simp only [Act.put,zQ1,zQ2,zQ3]
     refine until_take 1 (v:=?_) (by rfl) (by kernel_rfl) (by exact fun _ _ _ h=>h) (by rfl) ?_ (HS0.out _ V0.out) ?_; rotate_left; focus (intro w hSw; (try dsimp only at hSw); go_simp; try with_reducible rfl)
     try simp only [Act.put,zQ1,zQ2,zQ3]
     refine until_take 2 (v:=?_) (by rfl) (by kernel_rfl) (by exact fun _ _ _ h=>h) (by rfl) ?_ (HS0.out _ V0.out) ?_; rotate_left; focus (intro w hSw; (try dsimp only at hSw); go_simp; try with_reducible rfl)
     try simp only [Act.put,zQ1,zQ2,zQ3]
     refine uNe 3 (fun K hK=>?_)
     go_simp
     refine (cS Y0).mono ?_
     rintro b Y1 ⟨rfl,hb1⟩
     have V1:=hQz (V0.out.trans (hb1.mono V0.out.size))
     clear hb1
     refine hK.out _ _ (fun _ _=>(HS0.out _ V1.out)) ?_
     clear hK K
     try simp only [Act.put,zQ1,zQ2,zQ3]
     refine uNe 4 (fun K hK=>?_)
     go_simp
     have V2:Hid (Below wr.heap.size wr (Y1.alloc (.cells #[.string sx] 9))):=V1.out.alloc V1.out.size _
     refine hK.out _ _ (fun _ _=>(HS0.out _ V2.out)) ?_
     clear hK K
     try simp only [Act.put,zQ1,zQ2,zQ3]
     obtain ⟨A7,n7,c7,w5,r5,hO5,hb5,hk5,hw5⟩:=run_append_row (P:=Tryz.prog) Y1 24 24 9 (.string ⟨#[]⟩) 1 16 Tryz.underlying24 infoStr rfl (by omega) X0.heap.size (.slice A2 n2 c2) (stR (e.files.take j)) (O4.out.on V1.out) [.string sx] rfl (st_cell sx) HL4.out (by omega) (Nat.le_trans HZ4.out V1.out.size)
     refine uNe 5 (fun K hK=>?_)
     refine step_append_run (by rfl) (.tmp 39) (.tmp 42) 24 (by rfl) _ _ _ _ (by rfl) (by rfl) r5 ?_
     have hO2:=O4.out.on V1.out
     have hne5:∀ (v:Value) (b:Nat) (e:TypeId) (sz:Nat) (r:List (List Value)),Owns Y1 b e sz v r → e ≠ 9 → Owns w5 b e sz v r:=fun v b e sz r ho hne=>ho.kept fun gg hg hv=>hk5 gg hg (fun hu=>ho.apartT hO2 hne gg hv hu)
     have hS2:=S4.out.on V1.out
     have S5:Hid (SerO w5 X0.heap.size (.slice A1 n1 c1) L):=⟨hne5 _ _ _ _ _ hS2.1 (by decide),fun q hq=>hne5 _ _ _ _ _ (hS2.2.1 q hq) (by decide),hS2.2.2⟩
     have hK2:=K4.out.on V1.out K4.out.lt
     have K5:Hid (Blk w5 X0.heap.size #[.int .i64 f,.slice A1 n1 c1,.slice A2 n2 c2] 35):=(hk5 _ hK2.lt (hO2.notBlk hK2 (by decide))).trans hK2
     have O5:Hid (Owns w5 X0.heap.size 9 1 (.slice A7 n7 c7) (stR (e.files.take (j+1)))):=HO5.out _ _ _ _ hO5
     have B5:=hQz ((B4.out.trans (V1.out.mono HZ4.out)).trans hb5)
     have S20:Hid (w5.cell? ⟨X0.heap.size,2,none⟩=some (.slice A2 n2 c2)):=K5.out.cell 2 _ rfl
     clear r5 hO5 hb5 hk5 hw5 hS2 hne5 hK2 hO2 V2
     refine hK.out _ _ (fun _ _=>S20.out) ?_
     clear hK K
     try simp only [Act.put,zQ1,zQ2,zQ3]
     refine pUf 6 ?_
     refine uNe 7 (fun K hK=>?_)
     have s1:_=some (Value.slice A2 n2 c2):=K5.out.cell 2 _ rfl
     have f1:=K5.out.free 2
     go_simp
     refine hK.out _ _ (fun h=>by cases h) ?_
     clear hK K s1 f1
     try simp only [Act.put,zQ1,zQ2,zQ3]
     refine until_done (by kernel_rfl) ?_ _
     try go_wp2_with fail
     go_roundw
     case rel=>exact ⟨j+1,A7,n7,c7,by omega,by go_num,K5.out.set 2 _,S5.out.butE K5.out ((KeptBut.refl X0.heap.size _).set 2 _),((KeptBut.refl X0.heap.size _).set 2 _).owns O5.out (O5.out.notBlk K5.out (by decide)),B5.out.setCell (Nat.le_refl _) _⟩
     case measure=>simp [intOf]; omega
    ·obtain rfl:j=nf:=by omega
     have HT5:Hid (Strs wr X0.heap.size (.slice A2 n2 c2) e.files):=by
      unfold Hid
      have h:=O4.out
      rw [HFn.out j rfl] at h
      exact owns_strs h
     have KRr:=hQz (KR.out.on B4.out KR.out.lt)
     have y0:_=some (Value.int .i64 f):=K4.out.cell 0 _ rfl
     have y1:_=some (Value.slice A1 n1 c1):=K4.out.cell 1 _ rfl
     have y2:_=some (Value.slice A2 n2 c2):=K4.out.cell 2 _ rfl
     generalize hR:w.heap.size+1=R at *
     have HRw:Hid (w.heap.size≤R):=by unfold Hid; omega
     clear hR
     obtain ⟨⟨r0,g0⟩,⟨r1,g1⟩,⟨r2,g2⟩,e0,e1,e2⟩:=res3 (x:=.int .i64 f) (y:=.slice A1 n1 c1) (z:=.slice A2 n2 c2) KRr.out
     have SF:Hid (EngO (((wr.setCell ⟨R,0,none⟩ (.int .i64 f)).setCell ⟨R,1,none⟩ (.slice A1 n1 c1)).setCell ⟨R,2,none⟩ (.slice A2 n2 c2)) w.heap.size (.agg #[.int .i64 f,.slice A1 n1 c1,.slice A2 n2 c2]) e):=EngO.end3 KRr.out HFe.out HE.out (S4.out.mono BX.out.size) (owns_strs ((strs_owns HT5.out).mono BX.out.size))
     have BF:Hid (Below w.heap.size w (((wr.setCell ⟨R,0,none⟩ (.int .i64 f)).setCell ⟨R,1,none⟩ (.slice A1 n1 c1)).setCell ⟨R,2,none⟩ (.slice A2 n2 c2))):=below_set3 BW4.out HRw.out _ _ _
     go_wp2_with fail
     exact bodyPost_ret (v:=.agg #[.int .i64 f,.slice A1 n1 c1,.slice A2 n2 c2]) (by simp [results,go_sem,e0,e1,e2]) rfl ⟨⟨_,rfl,SF.out⟩,BF.out⟩
end Go.Proofs.YthhamlahdjokkaaGreatDoor
