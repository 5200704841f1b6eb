/- BkRead BkReadS OpS RtLeg -/
import Derived.Test.YtedmdilabbolaaaGreatDoorRows
import Derived.Test.YtedmdilabbolaaaGreatDoorQr5
import Derived.Test.YtedmdilabbolaaaGreatDoorQr1
import Derived.Test.YtedmdilabbolaaaGreatDoorQr3
import Derived.WalkKit
import Derived.ProofKit
import Derived.OpenShut
import Derived.Below
import Derived.WalkSmall
import Derived.WalkLawsBesides
import Derived.Outline
import Derived.BigQuiet
import Derived.Deep.QuietTactic
import Derived.Handy
import Derived.Deep.Cut
import Derived.Deep.CutRange
import Derived.Laws.StructEq
open List (setIfInBounds_toArray set_cons_zero set_cons_succ)
namespace Go.Proofs.YtedmdilabbolaaaGreatDoor
open Go.ChangeShapes Go.WideShapes Go.ChangeAt Go.RowKit Go.PlainAid
set_option linter.unusedVariables false
theorem cell_alloc_keep {w:World} {p:Addr} {x:Value} (h:w.cell? p=some x) (o:Obj):(w.alloc o).cell? p=some x:=by
 rw[((Below.refl w.heap.size w).alloc (Nat.le_refl _) o).cell (World.block_lt_of_cell? _ _ h)]
 exact h
theorem ptR_snoc' (l:List Pnt) (p:Pnt):ptR (l++[p])=ptR l++[[.int .i64 p.t,.int .i64 p.v]]:=ptR_append l [p]
theorem pt_cells (x y:Int):∀ u∈([.int .i64 x,.int .i64 y]:List Value),u.oneCell'=true:=by
 intro u hu
 simp at hu
 rcases hu with rfl | rfl<;>rfl
set_option maxRecDepth 20000 in
set_option maxHeartbeats 2000000 in
theorem implPointsOf (t v:List Int) (ut uv:Value) (w:World) (ht:NumsV w w.heap.size ut t) (hv:NumsV w w.heap.size uv v) (hlt:t.length≤1000) (hlv:v.length≤1000):Calls Tryz.prog 143 #[ut,uv] w fun e w'=>(∃ u,e=.returned u∧Owns w' w.heap.size 138 2 u (ptR (zipP t v)))∧Below w.heap.size w w':=by
 obtain ⟨At,ct,rfl,_,_,h1⟩:=ht
 obtain ⟨Av,cv,rfl,_,_,h2⟩:=hv
 have HT:Hid (∀ j,j<t.length→∃ g off,At=some ⟨g,off,none⟩∧g<w.heap.size∧w.cell? ⟨g,off+j,none⟩=some (.int .i64 (t.getD j 0))):=h1
 have HV:Hid (∀ j,j<v.length→∃ g off,Av=some ⟨g,off,none⟩∧g<w.heap.size∧w.cell? ⟨g,off+j,none⟩=some (.int .i64 (v.getD j 0))):=h2
 have HZL:Hid ((zipP t v).length=min t.length v.length):=zipP_length t v
 have HZG:Hid (∀ k,k<t.length→k<v.length→(zipP t v).take (k+1)=(zipP t v).take k++[⟨t.getD k 0,v.getD k 0⟩]):=zipP_get t v
 have q1:(t.length:Int)≤1000:=by omega
 have q2:(v.length:Int)≤1000:=by omega
 have hmn:min (t.length:Int) (v.length:Int)=((min t.length v.length:Nat):Int):=by omega
 have hmn2:(if (v.length:Int)<(t.length:Int) then (v.length:Int) else (t.length:Int))=((min t.length v.length:Nat):Int):=by split<;>omega
 clear h1 h2 hlt hlv
 generalize hn:t.length=n at *
 generalize hm:v.length=m at *
 generalize hN:min n m=N at *
 have HN:Hid (N≤n∧N≤m∧N≤1000):=by unfold Hid;omega
 clear hn hm
 go_enter Tryz.func143,Tryz.ntmps143
 go_wp2_with fail
 go_loopw [5,12] (fun v5 v12 wr=>∃ k:Nat,k≤N∧v12=.int .i64 (k:Int)∧Owns wr w.heap.size 138 2 v5 (ptR ((zipP t v).take k))∧Below w.heap.size w wr) (fun _ i _=>N - (intOf i).toNat)
 case atStart=>exact ⟨0,by omega,rfl,by rw[List.take_zero];exact Owns.nil _ _ _ _,Below.refl _ _⟩
 case round =>
  obtain ⟨k,hk,rfl,hO,hb⟩:=hrel
  have HO:Hid (Owns wr w.heap.size 138 2 u5 (ptR ((zipP t v).take k))):=hO
  have HB1:Hid (Below w.heap.size w wr):=hb
  clear hO hb
  by_cases hlt:k<N
  ·have q3:(k:Int)<(N:Int):=by omega
   have hkn:=HN.out
   have q4:(k:Int)<(n:Int):=by omega
   have q5:(k:Int)<(m:Int):=by omega
   obtain ⟨gt,ot,rfl,hgt,hc1⟩:=HT.out k (by omega)
   obtain ⟨gv,ov,rfl,hgv,hc2⟩:=HV.out k (by omega)
   have HZ:Hid ((zipP t v).take (k+1)=(zipP t v).take k++[⟨t.getD k 0,v.getD k 0⟩]):=HZG.out k (by omega) (by omega)
   rw[← HB1.out.cell (p:=⟨_,_,none⟩) hgt] at hc1
   rw[← HB1.out.cell (p:=⟨_,_,none⟩) hgv] at hc2
   generalize t.getD k 0=x at *
   generalize v.getD k 0=y at *
   have hz:w.heap.size≤wr.drew.heap.size:=HB1.out.size
   obtain ⟨nA,nm,nc,w5,r5,hO5,hb5,hk5,_⟩:=run_append_row (P:=Tryz.prog) wr.drew 114 114 138 (.agg #[.int .i64 0,.int .i64 0]) 2 16 Tryz.underlying114 Tryz.infoPt rfl (by omega) w.heap.size u5 (ptR ((zipP t v).take k)) (HO.out.kept fun _ _ _=>rfl) [.int .i64 x,.int .i64 y] rfl (pt_cells x y) (by rw[ptR_length,List.length_take];omega) (by omega) hz
   have B5:Hid (Below w.heap.size w w5):=(HB1.out.drew).trans hb5
   have O5:Hid (Owns w5 w.heap.size 138 2 (.slice nA nm nc) (ptR ((zipP t v).take (k+1)))):=by unfold Hid;rw[HZ.out,ptR_snoc'];exact hO5
   have S0:Hid (wr.drew.cell? ⟨gt,ot+k,none⟩=some (.int .i64 x)∧wr.drew.cell? ⟨gv,ov+k,none⟩=some (.int .i64 y)):=⟨hc1,hc2⟩
   clear hc1 hc2 hO5 hb5 hk5
   clear hgt hgv
   go_wp2_with fail
   refine wp_region_until (fun w'=>w'.cell? ⟨gt,ot+k,none⟩=some (.int .i64 x)∧w'.cell? ⟨gv,ov+k,none⟩=some (.int .i64 y)) (fun i=>i == 11||i == 12) 13 (by rfl) (by kernel_rfl) ?_
   refine tKf 0 S0.out ?_
   refine tKf 1 S0.out ?_
   refine tKf 2 S0.out ?_
   refine tKf 3 S0.out ?_
   refine tKf 4 S0.out ?_
   refine tKf 5 S0.out ?_
   refine tKf 6 S0.out ?_
   refine tKf 7 S0.out ?_
   refine tKf 8 S0.out ?_
   refine tKf 9 S0.out ?_
   refine uNe 10 (fun K hK=>?_)
   go_simp
   refine hK.out _ _ (fun _ h=>⟨cell_alloc_keep h.1 _,cell_alloc_keep h.2 _⟩) ?_
   clear hK K
   try simp only[Act.put,zQ1,zQ2,zQ3]
   refine uNe 11 (fun K hK=>?_)
   refine step_append_run (by rfl) (.tmp 15) (.tmp 25) 114 (by rfl) _ _ _ _ (by rfl) (by rfl) r5 ?_
   refine hK.out _ _ (fun h=>by cases h) ?_
   clear hK K
   try simp only[Act.put,zQ1,zQ2,zQ3]
   refine uNe 12 (fun K hK=>?_)
   go_simp
   refine hK.out _ _ (fun h=>by cases h) ?_
   clear hK K
   try simp only[Act.put,zQ1,zQ2,zQ3]
   refine until_done (by kernel_rfl) ?_ _
   go_wp2_with fail
   go_roundw
   case rel=>exact ⟨k+1,by omega,by go_num,O5.out,B5.out⟩
   case measure=>simp[intOf];omega
  ·obtain rfl:k=N:=by omega
   have hF:=HO.out
   rw[List.take_of_length_le (by rw[HZL.out];exact Nat.le_refl _)] at hF
   have HF:Hid (Owns wr w.heap.size 138 2 u5 (ptR (zipP t v))):=hF
   clear hF HO
   go_wp2_with fail
   go_ret
   exact ⟨⟨_,rfl,HF.out⟩,HB1.out⟩
theorem unf_body (s:ByteArray):∃ k c:Nat,unf s=#[.string (bodyR s),.int .i64 (k:Int),.int .i64 (c:Int)]∧((code s=0∧k=8+rdv s 4)∨(code s≠0∧k=0∧bodyR s=⟨#[]⟩)):=by
 by_cases h:code s=0
 ·refine ⟨8+rdv s 4,0,?_,.inl ⟨h,rfl⟩⟩
  rw[unf,if_pos h,bodyR,if_pos h]
  rfl
 ·refine ⟨0,code s,?_,.inr ⟨h,rfl,by rw[bodyR,if_neg h]⟩⟩
  rw[unf,if_neg h,bodyR,if_neg h]
  rfl
set_option maxHeartbeats 4000000 in
theorem implReadBlock (s:ByteArray) (w:World) (hs:s.size≤1048576) (hst:SumTab w) (a0 a1 a2:Addr) (he:Errs w a0 a1 a2):Calls Tryz.prog 109 #[.string s] w fun e w'=>(∃ u l ok,RbAns s l ok∧e=.returned (.tuple #[u,.bool ok])∧Owns w' w.heap.size 138 2 u (ptR l))∧Below w.heap.size w w':=by
 have ST:Hid (SumTab w):=hst
 have cU:=impl_unframe s w hs hst a0 a1 a2 he
 obtain ⟨k0,c0,hu,_⟩:=unf_body s
 rw[hu] at cU
 have hbz:=bodyR_size s
 have qs:(s.size:Int)≤1048576:=by omega
 clear hst he hu
 go_enter Tryz.func109,Tryz.ntmps109
 go_wp2_with fail
 refine cU.mono ?_
 rintro e w1 ⟨rfl,hb⟩
 have B1:Hid (Below w.heap.size w w1):=hb
 clear hb cU
 have cV:=impl_readVar (bodyR s) w1 (by omega)
 go_wp2_with fail
 refine cV.mono ?_
 rintro e w1' ⟨hRV,rfl⟩
 obtain ⟨n,k,hRd,rfl⟩:=hRV.rd
 have hle:=hRd.le
 have HR:Hid (RdV (bodyR s) n k):=hRd
 have hsz:((bodyR s).extract k (bodyR s).size).size≤2000:=by rw[ByteArray.size_extract];omega
 have cT:=implReadTimesA ((bodyR s).extract k (bodyR s).size) n w1 (by omega)
 have qk:(k:Int)≤7:=by omega
 have qb:((bodyR s).size:Int)≤2000:=by omega
 have qkb:(k:Int)≤((bodyR s).size:Int):=by omega
 have hkb:k≤(bodyR s).size:=hle.1
 clear hRd hRV cV hle
 go_wp2_with fail
 refine cT.mono ?_
 rintro e w2 ⟨⟨t,a,ut,hAT,rfl,hNT⟩,hb⟩
 have HAT:Hid (RdAns showT rowT ((bodyR s).extract k (bodyR s).size) n t a):=hAT
 have hsh:=hAT.short rowT_length
 have LT:Hid (t.length≤60):=hsh.1
 have hak:k+a≤(bodyR s).size:=by have h2:=hsh.2;rw[ByteArray.size_extract] at h2;omega
 have B2:Hid (Below w.heap.size w w2):=B1.out.trans (hb.mono B1.out.size)
 have NT:Hid (Nums w2 w1.heap.size ut t):=hNT
 have cW:=implReadValuesA ((bodyR s).extract (k+a) (bodyR s).size) n w2 (by rw[ByteArray.size_extract];omega)
 have qa:(k:Int)+(a:Int)≤((bodyR s).size:Int):=by omega
 have qa1:(a:Int)≤2000:=by omega
 have ena:((k:Int)+(a:Int)).toNat=k+a:=by omega
 clear hAT hNT hb cT hsh hsz
 go_wp2_with fail
 refine cW.mono ?_
 rintro e w3 ⟨⟨v,b,uv,hAV,rfl,hNV⟩,hb⟩
 have HST:Hid (Steps s n k t a v b):=⟨HR.out,HAT.out,hAV⟩
 have LV:Hid (v.length≤60):=(hAV.short rowV_length).1
 have B3:Hid (Below w.heap.size w w3):=B2.out.trans (hb.mono B2.out.size)
 have NT3:Hid (Nums w3 w1.heap.size ut t):=NT.out.on hb
 have NV3:Hid (Nums w3 w2.heap.size uv v):=hNV
 clear hAV hNV hb cW NT
 have cP:=implPointsOf t v ut uv w3 NT3.out.lies NV3.out.lies (by have:=LT.out;omega) (by have:=LV.out;omega)
 go_wp2_with fail
 refine cP.mono ?_
 rintro e w4 ⟨⟨up,rfl,hO⟩,hb⟩
 have B4:Hid (Below w.heap.size w w4):=B3.out.trans (hb.mono B3.out.size)
 have OP:Hid (Owns w4 w3.heap.size 138 2 up (ptR (zipP t v))):=hO
 have LZ:Hid ((zipP t v).length≤60):=by unfold Hid;rw[zipP_length];have:=LT.out;omega
 clear hO hb cP
 have cS:=implShowBlock (zipP t v) up w4 w4.heap.size OP.out.lies (by have:=LZ.out;omega) (Nat.le_refl _) (ST.out.on B4.out)
 obtain ⟨Ap,cp,rfl,_⟩:=pt_look OP.out.lies
 have HG1:Hid (∀ m,Good s m→zipP t v=m):=fun m hm=>(HST.out.good hm).1
 have HG2:Hid (1≤(zipP t v).length→showB (zipP t v)=s→Good s (zipP t v)):=fun h1 h2=>HST.out.shown h1 h2
 have qz:((zipP t v).length:Int)≤60:=by have:=LZ.out;omega
 generalize zipP t v=l at *
 by_cases h0:l.length=0
 ·have HNO:Hid (∀ m,¬ Good s m):=fun m hm=>by have e:=HG1.out m hm;subst e;have:=hm.1;omega
  rw[h0]
  clear h0 qz
  go_wp2_with fail
  go_ret2
  exact ⟨⟨_,[],false,.inr ⟨rfl,rfl,HNO.out⟩,rfl,Owns.nil _ _ _ _⟩,B4.out⟩
 have d0:decide (l.length=0)=false:=decide_eq_false h0
 have d1:((l.length:Int) == 0)=false:=by rw[beq_eq_false_iff_ne];omega
 have H1:Hid (1≤l.length):=by unfold Hid;omega
 have HLL:Hid (Owns w4 w3.heap.size 138 2 (.slice Ap l.length cp) (ptR l)):=OP.out
 generalize hln:l.length=ln at *
 by_cases hsh:showB l=s
 ·have HG:Hid (Good s l):=HG2.out (by have:=H1.out;omega) hsh
  have db:=bytes_eq hsh
  go_wp2_with fail
  refine cS.mono ?_
  rintro e w5 ⟨rfl,hb5⟩
  have B5:Hid (Below w.heap.size w w5):=B4.out.trans (hb5.mono B4.out.size)
  have O5:Hid (Owns w5 w.heap.size 138 2 (.slice Ap ln cp) (ptR l)):=(HLL.out.on hb5).mono B3.out.size
  clear hb5 cS
  rw[hsh]
  go_wp2_with fail
  go_ret2
  exact ⟨⟨_,l,true,.inl ⟨rfl,HG.out⟩,rfl,O5.out⟩,B5.out⟩
 ·have HNO:Hid (∀ m,¬ Good s m):=fun m hm=>by have e:=HG1.out m hm;subst e;exact hsh hm.2.2
  have db:=bytes_ne hsh
  go_wp2_with fail
  refine cS.mono ?_
  rintro e w5 ⟨rfl,hb5⟩
  have B5:Hid (Below w.heap.size w w5):=B4.out.trans (hb5.mono B4.out.size)
  clear hb5 cS hsh
  go_wp2_with fail
  go_ret2
  exact ⟨⟨_,[],false,.inr ⟨rfl,rfl,HNO.out⟩,rfl,Owns.nil _ _ _ _⟩,B5.out⟩
end Go.Proofs.YtedmdilabbolaaaGreatDoor
namespace Go.Proofs.YtedmdilabbolaaaGreatDoor
open Go.ChangeShapes Go.WideShapes Go.ChangeAt Go.RowKit Go.PlainAid
set_option linter.unusedVariables false
set_option maxRecDepth 20000 in
set_option maxHeartbeats 4000000 in
theorem specReadBlock (s:ByteArray) (w:World) (hs:s.size≤1048576):Calls Tryz.prog 78 #[.string s] w fun e w'=>(∃ u l ok,RbAns s l ok∧e=.returned (.tuple #[u,.bool ok])∧Owns w' w.heap.size 138 2 u (ptR l))∧Below w.heap.size w w':=by
 obtain ⟨k0,c0,hu,hk0⟩:=unf_body s
 have HK0:Hid ((code s=0∧k0=8+rdv s 4)∨(code s≠0∧k0=0∧bodyR s=⟨#[]⟩)):=hk0
 have cU:=fun wx=>spec_unframe s wx hs
 rw[hu] at cU
 have hbz:=bodyR_size s
 have qs:(s.size:Int)≤1048576:=by omega
 have q0:(k0:Int)≤3000:=by
  rcases hk0 with ⟨h1,h2⟩ | ⟨_,h2,_⟩
  ·have:=((code_zero s).1 h1).2.2.1;omega
  ·omega
 have E0:Hid (Owns (w.alloc (.cells #[] 138)) w.heap.size 138 2 (.slice (some ⟨w.heap.size,0,none⟩) 0 0) (ptR [])):=Owns.empty w _ _ _ (Nat.le_refl _)
 have B0:Hid (Below w.heap.size w (w.alloc (.cells #[] 138))):=(Below.refl _ _).alloc (Nat.le_refl _) _
 clear hu hk0
 go_enter Tryz.func78,Tryz.ntmps78
 go_wp2_with fail
 generalize w.alloc (.cells #[] 138)=w0 at *
 refine (cU w0).mono ?_
 rintro e w1 ⟨rfl,hb⟩
 have B1:Hid (Below w.heap.size w w1):=B0.out.trans (hb.mono B0.out.size)
 have E1:Hid (Owns w1 w.heap.size 138 2 (.slice (some ⟨w.heap.size,0,none⟩) 0 0) (ptR [])):=E0.out.on hb
 clear hb cU
 have cV:=spec_readVar (bodyR s) w1 (by omega)
 go_wp2_with fail
 refine cV.mono ?_
 rintro e w2 ⟨hRV,hb⟩
 obtain ⟨n,k,hRd,rfl⟩:=hRV.rd
 have hle:=hRd.le
 have HR:Hid (RdV (bodyR s) n k):=hRd
 have B2:Hid (Below w.heap.size w w2):=B1.out.trans (hb.mono B1.out.size)
 have E2:Hid (Owns w2 w.heap.size 138 2 (.slice (some ⟨w.heap.size,0,none⟩) 0 0) (ptR [])):=E1.out.on hb
 have qk:(k:Int)≤7:=by omega
 have qb:((bodyR s).size:Int)≤2000:=by omega
 have qkb:(k:Int)≤((bodyR s).size:Int):=by omega
 have hkb:k≤(bodyR s).size:=hle.1
 have HKG:Hid (∀ m,Good s m→k≠0∧k0=s.size):=fun m hm=>by
  have h1:=(HR.out.one hm.steps.rn).2
  have h2:=vF_pos 6 m.length
  obtain ⟨r1,r2,_⟩:=hm.read
  rcases HK0.out with ⟨_,h3⟩ | ⟨h3,_⟩
  ·exact ⟨by omega,by omega⟩
  ·exact absurd r1 h3
 clear hRd hRV cV hle hb
 by_cases hk1:k=0
 ·have HNO:Hid (∀ m,¬ Good s m):=fun m hm=>(HKG.out m hm).1 hk1
  subst hk1
  go_wp2_with fail
  go_ret2
  exact ⟨⟨_,[],false,.inr ⟨rfl,rfl,HNO.out⟩,rfl,E2.out⟩,B2.out⟩
 have d0:decide (k=0)=false:=decide_eq_false hk1
 have d1:((k:Int) == 0)=false:=by rw[beq_eq_false_iff_ne];omega
 by_cases hk2:k0≠s.size
 ·have HNO:Hid (∀ m,¬ Good s m):=fun m hm=>hk2 (HKG.out m hm).2
  have d2:((k0:Int) == (s.size:Int))=false:=by rw[beq_eq_false_iff_ne];omega
  have d3:¬ k0=s.size:=hk2
  go_wp2_with fail
  go_ret2
  exact ⟨⟨_,[],false,.inr ⟨rfl,rfl,HNO.out⟩,rfl,E2.out⟩,B2.out⟩
 have hk2':k0=s.size:=Decidable.not_not.1 hk2
 have HK2:Hid (k0=s.size):=hk2'
 have d2:((k0:Int) == (s.size:Int))=true:=beq_iff_eq.2 (by omega)
 clear hk2
 have cT:=specReadTimesA ((bodyR s).extract k (bodyR s).size) n w2 (by rw[ByteArray.size_extract];omega)
 subst hk2'
 go_wp2_with fail
 refine cT.mono ?_
 rintro e w3 ⟨⟨t,a,ut,hAT,rfl,hNT⟩,hb⟩
 have HAT:Hid (RdAns showT rowT ((bodyR s).extract k (bodyR s).size) n t a):=hAT
 have hsh:=hAT.short rowT_length
 have LT:Hid (t.length≤60):=hsh.1
 have hak:k+a≤(bodyR s).size:=by have h2:=hsh.2;rw[ByteArray.size_extract] at h2;omega
 have B3:Hid (Below w.heap.size w w3):=B2.out.trans (hb.mono B2.out.size)
 have E3:Hid (Owns w3 w.heap.size 138 2 (.slice (some ⟨w.heap.size,0,none⟩) 0 0) (ptR [])):=E2.out.on hb
 have NT:Hid (Nums w3 w2.heap.size ut t):=hNT
 have qa:(k:Int)+(a:Int)≤((bodyR s).size:Int):=by omega
 have qa1:(a:Int)≤2000:=by omega
 have ena:((k:Int)+(a:Int)).toNat=k+a:=by omega
 have HAG:Hid (∀ m,Good s m→a≠0):=fun m hm=>by
  have hst:=hm.steps
  obtain ⟨e1,e2⟩:=HR.out.one hst.rn
  subst e1
  subst e2
  have h1:=(HAT.out.one hst.rt).2
  have h2:=cat_pos (tPiece (ts m)) m.length hm.1 (vF_pos _ _)
  omega
 clear hAT hNT hb cT hsh
 by_cases ha:a=0
 ·have HNO:Hid (∀ m,¬ Good s m):=fun m hm=>HAG.out m hm ha
  subst ha
  go_wp2_with fail
  go_ret2
  exact ⟨⟨_,[],false,.inr ⟨rfl,rfl,HNO.out⟩,rfl,E3.out⟩,B3.out⟩
 have d4:decide (a=0)=false:=decide_eq_false ha
 have d5:((a:Int) == 0)=false:=by rw[beq_eq_false_iff_ne];omega
 have cW:=specReadValuesA ((bodyR s).extract (k+a) (bodyR s).size) n w3 (by rw[ByteArray.size_extract];omega)
 go_wp2_with fail
 refine cW.mono ?_
 rintro e w4 ⟨⟨v,b,uv,hAV,rfl,hNV⟩,hb⟩
 have HST:Hid (Steps s n k t a v b):=⟨HR.out,HAT.out,hAV⟩
 have hsv:=hAV.short rowV_length
 have LV:Hid (v.length≤60):=hsv.1
 have hbk:k+a+b≤(bodyR s).size:=by have h2:=hsv.2;rw[ByteArray.size_extract] at h2;omega
 have B4:Hid (Below w.heap.size w w4):=B3.out.trans (hb.mono B3.out.size)
 have E4:Hid (Owns w4 w.heap.size 138 2 (.slice (some ⟨w.heap.size,0,none⟩) 0 0) (ptR [])):=E3.out.on hb
 have NT4:Hid (Nums w4 w2.heap.size ut t):=NT.out.on hb
 have NV4:Hid (Nums w4 w3.heap.size uv v):=hNV
 have qb1:(b:Int)≤2000:=by omega
 have qab:(k:Int)+(a:Int)+(b:Int)≤((bodyR s).size:Int):=by omega
 clear hAV hNV hb cW NT hsv
 by_cases hb0:b=0
 ·have HNO:Hid (∀ m,¬ Good s m):=fun m hm=>by have:=(HST.out.good hm).2.2.2.2.2.2.1;omega
  subst hb0
  go_wp2_with fail
  go_ret2
  exact ⟨⟨_,[],false,.inr ⟨rfl,rfl,HNO.out⟩,rfl,E4.out⟩,B4.out⟩
 have d6:decide (b=0)=false:=decide_eq_false hb0
 have d7:((b:Int) == 0)=false:=by rw[beq_eq_false_iff_ne];omega
 by_cases hlen:k+a+b≠(bodyR s).size
 ·have HNO:Hid (∀ m,¬ Good s m):=fun m hm=>hlen (HST.out.good hm).2.2.2.2.2.2.2
  have d8:((k:Int)+(a:Int)+(b:Int) == ((bodyR s).size:Int))=false:=by rw[beq_eq_false_iff_ne];omega
  have d9:¬ (k:Int)+(a:Int)+(b:Int)=((bodyR s).size:Int):=by omega
  go_wp2_with fail
  go_ret2
  exact ⟨⟨_,[],false,.inr ⟨rfl,rfl,HNO.out⟩,rfl,E4.out⟩,B4.out⟩
 have hlen':k+a+b=(bodyR s).size:=Decidable.not_not.1 hlen
 have d8:((k:Int)+(a:Int)+(b:Int) == ((bodyR s).size:Int))=true:=beq_iff_eq.2 (by omega)
 have d10:((k:Int)+(a:Int)+(b:Int) != ((bodyR s).size:Int))=false:=by rw[bne,d8];rfl
 have hc:code s=0:=by
  rcases HK0.out with ⟨h1,_⟩ | ⟨_,_,h3⟩
  ·exact h1
  ·rw[h3] at hkb
   have:(ByteArray.mk #[]).size=0:=rfl
   omega
 have h8:8+rdv s 4=s.size:=by
  rcases HK0.out with ⟨_,h1⟩ | ⟨h1,_⟩
  ·omega
  ·exact absurd hc h1
 obtain ⟨hg,htv,hn⟩:=HST.out.back hc h8 hk1 ha hb0 hlen'
 have HG:Hid (Good s (zipP t v)):=hg
 have HZL:Hid ((zipP t v).length=t.length):=by unfold Hid;rw[zipP_length];omega
 have HZG:Hid (∀ k,k<t.length→k<v.length→(zipP t v).take (k+1)=(zipP t v).take k++[⟨t.getD k 0,v.getD k 0⟩]):=zipP_get t v
 subst hn
 obtain ⟨At,ct,rfl,_,_,h1⟩:=NT4.out.lies
 obtain ⟨Av,cv,rfl,_,_,h2⟩:=NV4.out.lies
 have HT:Hid (∀ j,j<t.length→∃ g off,At=some ⟨g,off,none⟩∧g<w4.heap.size∧w4.cell? ⟨g,off+j,none⟩=some (.int .i64 (t.getD j 0))):=h1
 have HV:Hid (∀ j,j<v.length→∃ g off,Av=some ⟨g,off,none⟩∧g<w4.heap.size∧w4.cell? ⟨g,off+j,none⟩=some (.int .i64 (v.getD j 0))):=h2
 have q9:(t.length:Int)≤60:=by have:=LT.out;omega
 clear h1 h2 hlen hg HAG HKG HK0 HK2 hbk
 generalize hm:v.length=m at *
 generalize hn:t.length=N at *
 subst htv
 clear hm hn
 go_wp2_with fail
 go_loopw [14,15] (fun v14 v15 wr=>∃ k:Nat,k≤N∧v15=.int .i64 (k:Int)∧Owns wr w4.heap.size 138 2 v14 (ptR ((zipP t v).take k))∧Below w4.heap.size w4 wr) (fun _ i _=>N - (intOf i).toNat)
 case atStart=>exact ⟨0,by omega,rfl,by rw[List.take_zero];exact Owns.empty w4 _ _ _ (Nat.le_refl _),(Below.refl _ _).alloc (Nat.le_refl _) _⟩
 case round =>
  clear hlen' d8 ena hc h8 hak hkb d0 d1 d2 d4 d5 d6 d7 hk1 ha hb0 qab qa qkb
  obtain ⟨k,hk,rfl,hO,hb⟩:=hrel
  have HO:Hid (Owns wr w4.heap.size 138 2 u14 (ptR ((zipP t v).take k))):=hO
  have HB1:Hid (Below w4.heap.size w4 wr):=hb
  clear hO hb
  by_cases hlt:k<N
  ·have q3:(k:Int)<(N:Int):=by omega
   obtain ⟨gt,ot,rfl,hgt,hc1⟩:=HT.out k hlt
   obtain ⟨gv,ov,rfl,hgv,hc2⟩:=HV.out k hlt
   have HZ:Hid ((zipP t v).take (k+1)=(zipP t v).take k++[⟨t.getD k 0,v.getD k 0⟩]):=HZG.out k hlt hlt
   rw[← HB1.out.cell (p:=⟨_,_,none⟩) hgt] at hc1
   rw[← HB1.out.cell (p:=⟨_,_,none⟩) hgv] at hc2
   generalize t.getD k 0=x at *
   generalize v.getD k 0=y at *
   have hz:w4.heap.size≤wr.drew.heap.size:=HB1.out.size
   obtain ⟨nA,nm,nc,w5,r5,hO5,hb5,hk5,_⟩:=run_append_row (P:=Tryz.prog) wr.drew 114 114 138 (.agg #[.int .i64 0,.int .i64 0]) 2 16 Tryz.underlying114 Tryz.infoPt rfl (by omega) w4.heap.size u14 (ptR ((zipP t v).take k)) (HO.out.kept fun _ _ _=>rfl) [.int .i64 x,.int .i64 y] rfl (pt_cells x y) (by rw[ptR_length,List.length_take];omega) (by omega) hz
   have B5:Hid (Below w4.heap.size w4 w5):=(HB1.out.drew).trans hb5
   have O5:Hid (Owns w5 w4.heap.size 138 2 (.slice nA nm nc) (ptR ((zipP t v).take (k+1)))):=by unfold Hid;rw[HZ.out,ptR_snoc'];exact hO5
   have S0:Hid (wr.drew.cell? ⟨gt,ot+k,none⟩=some (.int .i64 x)∧wr.drew.cell? ⟨gv,ov+k,none⟩=some (.int .i64 y)):=⟨hc1,hc2⟩
   clear hc1 hc2 hO5 hb5 hk5
   clear hgt hgv
   go_wp2_with fail
   refine wp_region_until (fun w'=>w'.cell? ⟨gt,ot+k,none⟩=some (.int .i64 x)∧w'.cell? ⟨gv,ov+k,none⟩=some (.int .i64 y)) (fun i=>i == 11||i == 12) 13 (by rfl) (by kernel_rfl) ?_
   refine tKf 0 S0.out ?_
   refine tKf 1 S0.out ?_
   refine tKf 2 S0.out ?_
   refine tKf 3 S0.out ?_
   refine tKf 4 S0.out ?_
   refine tKf 5 S0.out ?_
   refine tKf 6 S0.out ?_
   refine tKf 7 S0.out ?_
   refine tKf 8 S0.out ?_
   refine tKf 9 S0.out ?_
   refine uNe 10 (fun K hK=>?_)
   go_simp
   refine hK.out _ _ (fun _ h=>⟨cell_alloc_keep h.1 _,cell_alloc_keep h.2 _⟩) ?_
   clear hK K
   try simp only[Act.put,zQ1,zQ2,zQ3]
   refine uNe 11 (fun K hK=>?_)
   refine step_append_run (by rfl) (.tmp 77) (.tmp 87) 114 (by rfl) _ _ _ _ (by rfl) (by rfl) r5 ?_
   refine hK.out _ _ (fun h=>by cases h) ?_
   clear hK K
   try simp only[Act.put,zQ1,zQ2,zQ3]
   refine uNe 12 (fun K hK=>?_)
   go_simp
   refine hK.out _ _ (fun h=>by cases h) ?_
   clear hK K
   try simp only[Act.put,zQ1,zQ2,zQ3]
   refine until_done (by kernel_rfl) ?_ _
   go_wp2_with fail
   go_roundw
   case rel=>exact ⟨k+1,by omega,by go_num,O5.out,B5.out⟩
   case measure=>simp[intOf];omega
  ·obtain rfl:k=N:=by omega
   have hF:=HO.out
   rw[List.take_of_length_le (by rw[HZL.out];exact Nat.le_refl _)] at hF
   have HF:Hid (Owns wr w.heap.size 138 2 u14 (ptR (zipP t v))):=hF.mono B4.out.size
   have BF:Hid (Below w.heap.size w wr):=B4.out.trans (HB1.out.mono B4.out.size)
   clear hF HO
   go_wp2_with fail
   go_ret2
   exact ⟨⟨_,zipP t v,true,.inl ⟨rfl,HG.out⟩,rfl,HF.out⟩,BF.out⟩
end Go.Proofs.YtedmdilabbolaaaGreatDoor
namespace Go.Proofs.YtedmdilabbolaaaGreatDoor
open Go.ChangeShapes Go.WideShapes Go.ChangeAt Go.RowKit Go.PlainAid
set_option linter.unusedVariables false
set_option maxHeartbeats 8000000 in
theorem specOpOk_1 (k:ByteArray) (f t:Int) (d:ByteArray) (w:World) (hk:k.size≤maxLen):Calls Tryz.prog 32 #[vOp ⟨1,k,f,t,d⟩] w fun e w'=>e=.returned (.bool (opOk ⟨1,k,f,t,d⟩))∧Below w.heap.size w w':=by
 have HE:Hid (opOk ⟨1,k,f,t,d⟩=(spanB f t&&emB k&&emB d)):=by unfold Hid opOk;simp
 have HB:Hid (∀ o,Below w.heap.size w ((w.alloc (.cells #[.int .i64 1,.string k,.int .i64 f,.int .i64 t,.string d] 56)).alloc o)):=fun o=>((below_a1 _ _).alloc (by simp) o)
 have cI:=inS f 0 1099511627776
 have cH:=inS f 0 100000
 have cK:=fun wx=>specKey k wx hk
 clear hk
 rw[show decide (KOk k)=keyB k from by unfold keyB;first | rfl | congr] at cK
 unfold vOp
 simp only
 go_enter Tryz.func32,Tryz.ntmps32
 go_upto_region 1 with fail
 go_cut [3] from 8 to 22 (fun s3 wc=>s3=.bool (spanB f t)∧wc=w.alloc (.cells #[.int .i64 1,.string k,.int .i64 f,.int .i64 t,.string d] 56))
 case first =>
  clear HE HB
  by_cases h1:0≤f
  ·by_cases h2:f<t
   ·by_cases h3:t≤1099511627776
    ·go_wp2_with fail
     go_meet
     exact ⟨by simp[spanB, *],rfl⟩
    ·have d3:decide (t≤1099511627776)=false:=decide_eq_false h3
     go_wp2_with fail
     go_meet
     exact ⟨by simp[spanB, *],rfl⟩
   ·have d2:decide (f<t)=false:=decide_eq_false h2
    go_wp2_with fail
    go_meet
    exact ⟨by simp[spanB, *],rfl⟩
  ·have d1:decide (0≤f)=false:=decide_eq_false h1
   go_wp2_with fail
   go_meet
   exact ⟨by simp[spanB, *],rfl⟩
 case rest =>
  obtain ⟨rfl,rfl⟩:=hcut
  by_cases hk:k=⟨#[]⟩
  ·subst hk
   rw[em_nil] at HE
   by_cases hd:d=⟨#[]⟩
   ·subst hd
    rw[em_nil] at HE
    cases hc:spanB f t<;>rw[hc] at HE
    ·go_wp2_with fail
     go_ret
     exact ⟨by rw[HE.out];first | rfl | simp,HB.out _⟩
    ·go_wp2_with fail
     go_ret
     exact ⟨by rw[HE.out];first | rfl | simp,HB.out _⟩
   ·obtain ⟨ed1,ed2,ed3,ed4⟩:=em_facts hd
    rw[ed4] at HE
    clear ed4 hd
    cases hc:spanB f t<;>rw[hc] at HE
    ·go_wp2_with fail
     go_ret
     exact ⟨by rw[HE.out];first | rfl | simp,HB.out _⟩
    ·go_wp2_with fail
     go_ret
     exact ⟨by rw[HE.out];first | rfl | simp,HB.out _⟩
  ·obtain ⟨ek1,ek2,ek3,ek4⟩:=em_facts hk
   rw[ek4] at HE
   clear ek4 hk
   by_cases hd:d=⟨#[]⟩
   ·subst hd
    rw[em_nil] at HE
    cases hc:spanB f t<;>rw[hc] at HE
    ·go_wp2_with fail
     go_ret
     exact ⟨by rw[HE.out];first | rfl | simp,HB.out _⟩
    ·go_wp2_with fail
     go_ret
     exact ⟨by rw[HE.out];first | rfl | simp,HB.out _⟩
   ·obtain ⟨ed1,ed2,ed3,ed4⟩:=em_facts hd
    rw[ed4] at HE
    clear ed4 hd
    cases hc:spanB f t<;>rw[hc] at HE
    ·go_wp2_with fail
     go_ret
     exact ⟨by rw[HE.out];first | rfl | simp,HB.out _⟩
    ·go_wp2_with fail
     go_ret
     exact ⟨by rw[HE.out];first | rfl | simp,HB.out _⟩
set_option maxHeartbeats 8000000 in
theorem specOpOk_2 (k:ByteArray) (f t:Int) (d:ByteArray) (w:World) (hk:k.size≤maxLen):Calls Tryz.prog 32 #[vOp ⟨2,k,f,t,d⟩] w fun e w'=>e=.returned (.bool (opOk ⟨2,k,f,t,d⟩))∧Below w.heap.size w w':=by
 have HE:Hid (opOk ⟨2,k,f,t,d⟩=(inRg f 0 1099511627776&&emB k&&zB t&&emB d)):=by unfold Hid opOk;simp
 have HB:Hid (∀ o,Below w.heap.size w ((w.alloc (.cells #[.int .i64 2,.string k,.int .i64 f,.int .i64 t,.string d] 56)).alloc o)):=fun o=>((below_a1 _ _).alloc (by simp) o)
 have cI:=inS f 0 1099511627776
 have cH:=inS f 0 100000
 have cK:=fun wx=>specKey k wx hk
 clear hk
 rw[show decide (KOk k)=keyB k from by unfold keyB;first | rfl | congr] at cK
 unfold vOp
 simp only
 go_enter Tryz.func32,Tryz.ntmps32
 go_upto_region 1 with fail
 go_cut [3] from 8 to 22 (fun s3 wc=>s3=.bool (spanB f t)∧wc=w.alloc (.cells #[.int .i64 2,.string k,.int .i64 f,.int .i64 t,.string d] 56))
 case first =>
  clear HE HB
  by_cases h1:0≤f
  ·by_cases h2:f<t
   ·by_cases h3:t≤1099511627776
    ·go_wp2_with fail
     go_meet
     exact ⟨by simp[spanB, *],rfl⟩
    ·have d3:decide (t≤1099511627776)=false:=decide_eq_false h3
     go_wp2_with fail
     go_meet
     exact ⟨by simp[spanB, *],rfl⟩
   ·have d2:decide (f<t)=false:=decide_eq_false h2
    go_wp2_with fail
    go_meet
    exact ⟨by simp[spanB, *],rfl⟩
  ·have d1:decide (0≤f)=false:=decide_eq_false h1
   go_wp2_with fail
   go_meet
   exact ⟨by simp[spanB, *],rfl⟩
 case rest =>
  obtain ⟨rfl,rfl⟩:=hcut
  by_cases hk:k=⟨#[]⟩
  ·subst hk
   rw[em_nil] at HE
   by_cases ht:t=0
   ·subst ht
    rw[z_nil] at HE
    by_cases hd:d=⟨#[]⟩
    ·subst hd
     rw[em_nil] at HE
     go_wp2_with fail
     refine (cI _).mono ?_
     rintro e w' ⟨rfl,rfl⟩
     cases hc:inRg f 0 1099511627776<;>rw[hc] at HE
     ·go_wp2_with fail
      go_ret
      exact ⟨by rw[HE.out];first | rfl | simp,HB.out _⟩
     ·go_wp2_with fail
      go_ret
      exact ⟨by rw[HE.out];first | rfl | simp,HB.out _⟩
    ·obtain ⟨ed1,ed2,ed3,ed4⟩:=em_facts hd
     rw[ed4] at HE
     clear ed4 hd
     go_wp2_with fail
     refine (cI _).mono ?_
     rintro e w' ⟨rfl,rfl⟩
     cases hc:inRg f 0 1099511627776<;>rw[hc] at HE
     ·go_wp2_with fail
      go_ret
      exact ⟨by rw[HE.out];first | rfl | simp,HB.out _⟩
     ·go_wp2_with fail
      go_ret
      exact ⟨by rw[HE.out];first | rfl | simp,HB.out _⟩
   ·obtain ⟨et1,et2,et4⟩:=z_facts ht
    rw[et4] at HE
    clear et4 ht
    by_cases hd:d=⟨#[]⟩
    ·subst hd
     rw[em_nil] at HE
     go_wp2_with fail
     refine (cI _).mono ?_
     rintro e w' ⟨rfl,rfl⟩
     cases hc:inRg f 0 1099511627776<;>rw[hc] at HE
     ·go_wp2_with fail
      go_ret
      exact ⟨by rw[HE.out];first | rfl | simp,HB.out _⟩
     ·go_wp2_with fail
      go_ret
      exact ⟨by rw[HE.out];first | rfl | simp,HB.out _⟩
    ·obtain ⟨ed1,ed2,ed3,ed4⟩:=em_facts hd
     rw[ed4] at HE
     clear ed4 hd
     go_wp2_with fail
     refine (cI _).mono ?_
     rintro e w' ⟨rfl,rfl⟩
     cases hc:inRg f 0 1099511627776<;>rw[hc] at HE
     ·go_wp2_with fail
      go_ret
      exact ⟨by rw[HE.out];first | rfl | simp,HB.out _⟩
     ·go_wp2_with fail
      go_ret
      exact ⟨by rw[HE.out];first | rfl | simp,HB.out _⟩
  ·obtain ⟨ek1,ek2,ek3,ek4⟩:=em_facts hk
   rw[ek4] at HE
   clear ek4 hk
   by_cases ht:t=0
   ·subst ht
    rw[z_nil] at HE
    by_cases hd:d=⟨#[]⟩
    ·subst hd
     rw[em_nil] at HE
     go_wp2_with fail
     refine (cI _).mono ?_
     rintro e w' ⟨rfl,rfl⟩
     cases hc:inRg f 0 1099511627776<;>rw[hc] at HE
     ·go_wp2_with fail
      go_ret
      exact ⟨by rw[HE.out];first | rfl | simp,HB.out _⟩
     ·go_wp2_with fail
      go_ret
      exact ⟨by rw[HE.out];first | rfl | simp,HB.out _⟩
    ·obtain ⟨ed1,ed2,ed3,ed4⟩:=em_facts hd
     rw[ed4] at HE
     clear ed4 hd
     go_wp2_with fail
     refine (cI _).mono ?_
     rintro e w' ⟨rfl,rfl⟩
     cases hc:inRg f 0 1099511627776<;>rw[hc] at HE
     ·go_wp2_with fail
      go_ret
      exact ⟨by rw[HE.out];first | rfl | simp,HB.out _⟩
     ·go_wp2_with fail
      go_ret
      exact ⟨by rw[HE.out];first | rfl | simp,HB.out _⟩
   ·obtain ⟨et1,et2,et4⟩:=z_facts ht
    rw[et4] at HE
    clear et4 ht
    by_cases hd:d=⟨#[]⟩
    ·subst hd
     rw[em_nil] at HE
     go_wp2_with fail
     refine (cI _).mono ?_
     rintro e w' ⟨rfl,rfl⟩
     cases hc:inRg f 0 1099511627776<;>rw[hc] at HE
     ·go_wp2_with fail
      go_ret
      exact ⟨by rw[HE.out];first | rfl | simp,HB.out _⟩
     ·go_wp2_with fail
      go_ret
      exact ⟨by rw[HE.out];first | rfl | simp,HB.out _⟩
    ·obtain ⟨ed1,ed2,ed3,ed4⟩:=em_facts hd
     rw[ed4] at HE
     clear ed4 hd
     go_wp2_with fail
     refine (cI _).mono ?_
     rintro e w' ⟨rfl,rfl⟩
     cases hc:inRg f 0 1099511627776<;>rw[hc] at HE
     ·go_wp2_with fail
      go_ret
      exact ⟨by rw[HE.out];first | rfl | simp,HB.out _⟩
     ·go_wp2_with fail
      go_ret
      exact ⟨by rw[HE.out];first | rfl | simp,HB.out _⟩
set_option maxHeartbeats 8000000 in
theorem specOpOk_3 (k:ByteArray) (f t:Int) (d:ByteArray) (w:World) (hk:k.size≤maxLen):Calls Tryz.prog 32 #[vOp ⟨3,k,f,t,d⟩] w fun e w'=>e=.returned (.bool (opOk ⟨3,k,f,t,d⟩))∧Below w.heap.size w w':=by
 have HE:Hid (opOk ⟨3,k,f,t,d⟩=(inRg f 0 100000&&emB k&&zB t&&emB d)):=by unfold Hid opOk;simp
 have HB:Hid (∀ o,Below w.heap.size w ((w.alloc (.cells #[.int .i64 3,.string k,.int .i64 f,.int .i64 t,.string d] 56)).alloc o)):=fun o=>((below_a1 _ _).alloc (by simp) o)
 have cI:=inS f 0 1099511627776
 have cH:=inS f 0 100000
 have cK:=fun wx=>specKey k wx hk
 clear hk
 rw[show decide (KOk k)=keyB k from by unfold keyB;first | rfl | congr] at cK
 unfold vOp
 simp only
 go_enter Tryz.func32,Tryz.ntmps32
 go_upto_region 1 with fail
 go_cut [3] from 8 to 22 (fun s3 wc=>s3=.bool (spanB f t)∧wc=w.alloc (.cells #[.int .i64 3,.string k,.int .i64 f,.int .i64 t,.string d] 56))
 case first =>
  clear HE HB
  by_cases h1:0≤f
  ·by_cases h2:f<t
   ·by_cases h3:t≤1099511627776
    ·go_wp2_with fail
     go_meet
     exact ⟨by simp[spanB, *],rfl⟩
    ·have d3:decide (t≤1099511627776)=false:=decide_eq_false h3
     go_wp2_with fail
     go_meet
     exact ⟨by simp[spanB, *],rfl⟩
   ·have d2:decide (f<t)=false:=decide_eq_false h2
    go_wp2_with fail
    go_meet
    exact ⟨by simp[spanB, *],rfl⟩
  ·have d1:decide (0≤f)=false:=decide_eq_false h1
   go_wp2_with fail
   go_meet
   exact ⟨by simp[spanB, *],rfl⟩
 case rest =>
  obtain ⟨rfl,rfl⟩:=hcut
  by_cases hk:k=⟨#[]⟩
  ·subst hk
   rw[em_nil] at HE
   by_cases ht:t=0
   ·subst ht
    rw[z_nil] at HE
    by_cases hd:d=⟨#[]⟩
    ·subst hd
     rw[em_nil] at HE
     go_wp2_with fail
     refine (cH _).mono ?_
     rintro e w' ⟨rfl,rfl⟩
     cases hc:inRg f 0 100000<;>rw[hc] at HE
     ·go_wp2_with fail
      go_ret
      exact ⟨by rw[HE.out];first | rfl | simp,HB.out _⟩
     ·go_wp2_with fail
      go_ret
      exact ⟨by rw[HE.out];first | rfl | simp,HB.out _⟩
    ·obtain ⟨ed1,ed2,ed3,ed4⟩:=em_facts hd
     rw[ed4] at HE
     clear ed4 hd
     go_wp2_with fail
     refine (cH _).mono ?_
     rintro e w' ⟨rfl,rfl⟩
     cases hc:inRg f 0 100000<;>rw[hc] at HE
     ·go_wp2_with fail
      go_ret
      exact ⟨by rw[HE.out];first | rfl | simp,HB.out _⟩
     ·go_wp2_with fail
      go_ret
      exact ⟨by rw[HE.out];first | rfl | simp,HB.out _⟩
   ·obtain ⟨et1,et2,et4⟩:=z_facts ht
    rw[et4] at HE
    clear et4 ht
    by_cases hd:d=⟨#[]⟩
    ·subst hd
     rw[em_nil] at HE
     go_wp2_with fail
     refine (cH _).mono ?_
     rintro e w' ⟨rfl,rfl⟩
     cases hc:inRg f 0 100000<;>rw[hc] at HE
     ·go_wp2_with fail
      go_ret
      exact ⟨by rw[HE.out];first | rfl | simp,HB.out _⟩
     ·go_wp2_with fail
      go_ret
      exact ⟨by rw[HE.out];first | rfl | simp,HB.out _⟩
    ·obtain ⟨ed1,ed2,ed3,ed4⟩:=em_facts hd
     rw[ed4] at HE
     clear ed4 hd
     go_wp2_with fail
     refine (cH _).mono ?_
     rintro e w' ⟨rfl,rfl⟩
     cases hc:inRg f 0 100000<;>rw[hc] at HE
     ·go_wp2_with fail
      go_ret
      exact ⟨by rw[HE.out];first | rfl | simp,HB.out _⟩
     ·go_wp2_with fail
      go_ret
      exact ⟨by rw[HE.out];first | rfl | simp,HB.out _⟩
  ·obtain ⟨ek1,ek2,ek3,ek4⟩:=em_facts hk
   rw[ek4] at HE
   clear ek4 hk
   by_cases ht:t=0
   ·subst ht
    rw[z_nil] at HE
    by_cases hd:d=⟨#[]⟩
    ·subst hd
     rw[em_nil] at HE
     go_wp2_with fail
     refine (cH _).mono ?_
     rintro e w' ⟨rfl,rfl⟩
     cases hc:inRg f 0 100000<;>rw[hc] at HE
     ·go_wp2_with fail
      go_ret
      exact ⟨by rw[HE.out];first | rfl | simp,HB.out _⟩
     ·go_wp2_with fail
      go_ret
      exact ⟨by rw[HE.out];first | rfl | simp,HB.out _⟩
    ·obtain ⟨ed1,ed2,ed3,ed4⟩:=em_facts hd
     rw[ed4] at HE
     clear ed4 hd
     go_wp2_with fail
     refine (cH _).mono ?_
     rintro e w' ⟨rfl,rfl⟩
     cases hc:inRg f 0 100000<;>rw[hc] at HE
     ·go_wp2_with fail
      go_ret
      exact ⟨by rw[HE.out];first | rfl | simp,HB.out _⟩
     ·go_wp2_with fail
      go_ret
      exact ⟨by rw[HE.out];first | rfl | simp,HB.out _⟩
   ·obtain ⟨et1,et2,et4⟩:=z_facts ht
    rw[et4] at HE
    clear et4 ht
    by_cases hd:d=⟨#[]⟩
    ·subst hd
     rw[em_nil] at HE
     go_wp2_with fail
     refine (cH _).mono ?_
     rintro e w' ⟨rfl,rfl⟩
     cases hc:inRg f 0 100000<;>rw[hc] at HE
     ·go_wp2_with fail
      go_ret
      exact ⟨by rw[HE.out];first | rfl | simp,HB.out _⟩
     ·go_wp2_with fail
      go_ret
      exact ⟨by rw[HE.out];first | rfl | simp,HB.out _⟩
    ·obtain ⟨ed1,ed2,ed3,ed4⟩:=em_facts hd
     rw[ed4] at HE
     clear ed4 hd
     go_wp2_with fail
     refine (cH _).mono ?_
     rintro e w' ⟨rfl,rfl⟩
     cases hc:inRg f 0 100000<;>rw[hc] at HE
     ·go_wp2_with fail
      go_ret
      exact ⟨by rw[HE.out];first | rfl | simp,HB.out _⟩
     ·go_wp2_with fail
      go_ret
      exact ⟨by rw[HE.out];first | rfl | simp,HB.out _⟩
set_option maxHeartbeats 8000000 in
theorem specOpOk_6 (k:ByteArray) (f t:Int) (d:ByteArray) (w:World) (hk:k.size≤maxLen):Calls Tryz.prog 32 #[vOp ⟨6,k,f,t,d⟩] w fun e w'=>e=.returned (.bool (opOk ⟨6,k,f,t,d⟩))∧Below w.heap.size w w':=by
 have HE:Hid (opOk ⟨6,k,f,t,d⟩=(inRg f 0 1099511627776&&emB k&&zB t&&emB d)):=by unfold Hid opOk;simp
 have HB:Hid (∀ o,Below w.heap.size w ((w.alloc (.cells #[.int .i64 6,.string k,.int .i64 f,.int .i64 t,.string d] 56)).alloc o)):=fun o=>((below_a1 _ _).alloc (by simp) o)
 have cI:=inS f 0 1099511627776
 have cH:=inS f 0 100000
 have cK:=fun wx=>specKey k wx hk
 clear hk
 rw[show decide (KOk k)=keyB k from by unfold keyB;first | rfl | congr] at cK
 unfold vOp
 simp only
 go_enter Tryz.func32,Tryz.ntmps32
 go_upto_region 1 with fail
 go_cut [3] from 8 to 22 (fun s3 wc=>s3=.bool (spanB f t)∧wc=w.alloc (.cells #[.int .i64 6,.string k,.int .i64 f,.int .i64 t,.string d] 56))
 case first =>
  clear HE HB
  by_cases h1:0≤f
  ·by_cases h2:f<t
   ·by_cases h3:t≤1099511627776
    ·go_wp2_with fail
     go_meet
     exact ⟨by simp[spanB, *],rfl⟩
    ·have d3:decide (t≤1099511627776)=false:=decide_eq_false h3
     go_wp2_with fail
     go_meet
     exact ⟨by simp[spanB, *],rfl⟩
   ·have d2:decide (f<t)=false:=decide_eq_false h2
    go_wp2_with fail
    go_meet
    exact ⟨by simp[spanB, *],rfl⟩
  ·have d1:decide (0≤f)=false:=decide_eq_false h1
   go_wp2_with fail
   go_meet
   exact ⟨by simp[spanB, *],rfl⟩
 case rest =>
  obtain ⟨rfl,rfl⟩:=hcut
  by_cases hk:k=⟨#[]⟩
  ·subst hk
   rw[em_nil] at HE
   by_cases ht:t=0
   ·subst ht
    rw[z_nil] at HE
    by_cases hd:d=⟨#[]⟩
    ·subst hd
     rw[em_nil] at HE
     go_wp2_with fail
     refine (cI _).mono ?_
     rintro e w' ⟨rfl,rfl⟩
     cases hc:inRg f 0 1099511627776<;>rw[hc] at HE
     ·go_wp2_with fail
      go_ret
      exact ⟨by rw[HE.out];first | rfl | simp,HB.out _⟩
     ·go_wp2_with fail
      go_ret
      exact ⟨by rw[HE.out];first | rfl | simp,HB.out _⟩
    ·obtain ⟨ed1,ed2,ed3,ed4⟩:=em_facts hd
     rw[ed4] at HE
     clear ed4 hd
     go_wp2_with fail
     refine (cI _).mono ?_
     rintro e w' ⟨rfl,rfl⟩
     cases hc:inRg f 0 1099511627776<;>rw[hc] at HE
     ·go_wp2_with fail
      go_ret
      exact ⟨by rw[HE.out];first | rfl | simp,HB.out _⟩
     ·go_wp2_with fail
      go_ret
      exact ⟨by rw[HE.out];first | rfl | simp,HB.out _⟩
   ·obtain ⟨et1,et2,et4⟩:=z_facts ht
    rw[et4] at HE
    clear et4 ht
    by_cases hd:d=⟨#[]⟩
    ·subst hd
     rw[em_nil] at HE
     go_wp2_with fail
     refine (cI _).mono ?_
     rintro e w' ⟨rfl,rfl⟩
     cases hc:inRg f 0 1099511627776<;>rw[hc] at HE
     ·go_wp2_with fail
      go_ret
      exact ⟨by rw[HE.out];first | rfl | simp,HB.out _⟩
     ·go_wp2_with fail
      go_ret
      exact ⟨by rw[HE.out];first | rfl | simp,HB.out _⟩
    ·obtain ⟨ed1,ed2,ed3,ed4⟩:=em_facts hd
     rw[ed4] at HE
     clear ed4 hd
     go_wp2_with fail
     refine (cI _).mono ?_
     rintro e w' ⟨rfl,rfl⟩
     cases hc:inRg f 0 1099511627776<;>rw[hc] at HE
     ·go_wp2_with fail
      go_ret
      exact ⟨by rw[HE.out];first | rfl | simp,HB.out _⟩
     ·go_wp2_with fail
      go_ret
      exact ⟨by rw[HE.out];first | rfl | simp,HB.out _⟩
  ·obtain ⟨ek1,ek2,ek3,ek4⟩:=em_facts hk
   rw[ek4] at HE
   clear ek4 hk
   by_cases ht:t=0
   ·subst ht
    rw[z_nil] at HE
    by_cases hd:d=⟨#[]⟩
    ·subst hd
     rw[em_nil] at HE
     go_wp2_with fail
     refine (cI _).mono ?_
     rintro e w' ⟨rfl,rfl⟩
     cases hc:inRg f 0 1099511627776<;>rw[hc] at HE
     ·go_wp2_with fail
      go_ret
      exact ⟨by rw[HE.out];first | rfl | simp,HB.out _⟩
     ·go_wp2_with fail
      go_ret
      exact ⟨by rw[HE.out];first | rfl | simp,HB.out _⟩
    ·obtain ⟨ed1,ed2,ed3,ed4⟩:=em_facts hd
     rw[ed4] at HE
     clear ed4 hd
     go_wp2_with fail
     refine (cI _).mono ?_
     rintro e w' ⟨rfl,rfl⟩
     cases hc:inRg f 0 1099511627776<;>rw[hc] at HE
     ·go_wp2_with fail
      go_ret
      exact ⟨by rw[HE.out];first | rfl | simp,HB.out _⟩
     ·go_wp2_with fail
      go_ret
      exact ⟨by rw[HE.out];first | rfl | simp,HB.out _⟩
   ·obtain ⟨et1,et2,et4⟩:=z_facts ht
    rw[et4] at HE
    clear et4 ht
    by_cases hd:d=⟨#[]⟩
    ·subst hd
     rw[em_nil] at HE
     go_wp2_with fail
     refine (cI _).mono ?_
     rintro e w' ⟨rfl,rfl⟩
     cases hc:inRg f 0 1099511627776<;>rw[hc] at HE
     ·go_wp2_with fail
      go_ret
      exact ⟨by rw[HE.out];first | rfl | simp,HB.out _⟩
     ·go_wp2_with fail
      go_ret
      exact ⟨by rw[HE.out];first | rfl | simp,HB.out _⟩
    ·obtain ⟨ed1,ed2,ed3,ed4⟩:=em_facts hd
     rw[ed4] at HE
     clear ed4 hd
     go_wp2_with fail
     refine (cI _).mono ?_
     rintro e w' ⟨rfl,rfl⟩
     cases hc:inRg f 0 1099511627776<;>rw[hc] at HE
     ·go_wp2_with fail
      go_ret
      exact ⟨by rw[HE.out];first | rfl | simp,HB.out _⟩
     ·go_wp2_with fail
      go_ret
      exact ⟨by rw[HE.out];first | rfl | simp,HB.out _⟩
set_option maxHeartbeats 8000000 in
theorem specOpOk_7 (k:ByteArray) (f t:Int) (d:ByteArray) (w:World) (hk:k.size≤maxLen):Calls Tryz.prog 32 #[vOp ⟨7,k,f,t,d⟩] w fun e w'=>e=.returned (.bool (opOk ⟨7,k,f,t,d⟩))∧Below w.heap.size w w':=by
 have HE:Hid (opOk ⟨7,k,f,t,d⟩=(emB k&&zB f&&zB t&&emB d)):=by unfold Hid opOk;simp
 have HB:Hid (∀ o,Below w.heap.size w ((w.alloc (.cells #[.int .i64 7,.string k,.int .i64 f,.int .i64 t,.string d] 56)).alloc o)):=fun o=>((below_a1 _ _).alloc (by simp) o)
 have cI:=inS f 0 1099511627776
 have cH:=inS f 0 100000
 have cK:=fun wx=>specKey k wx hk
 clear hk
 rw[show decide (KOk k)=keyB k from by unfold keyB;first | rfl | congr] at cK
 unfold vOp
 simp only
 go_enter Tryz.func32,Tryz.ntmps32
 go_upto_region 1 with fail
 go_cut [3] from 8 to 22 (fun s3 wc=>s3=.bool (spanB f t)∧wc=w.alloc (.cells #[.int .i64 7,.string k,.int .i64 f,.int .i64 t,.string d] 56))
 case first =>
  clear HE HB
  by_cases h1:0≤f
  ·by_cases h2:f<t
   ·by_cases h3:t≤1099511627776
    ·go_wp2_with fail
     go_meet
     exact ⟨by simp[spanB, *],rfl⟩
    ·have d3:decide (t≤1099511627776)=false:=decide_eq_false h3
     go_wp2_with fail
     go_meet
     exact ⟨by simp[spanB, *],rfl⟩
   ·have d2:decide (f<t)=false:=decide_eq_false h2
    go_wp2_with fail
    go_meet
    exact ⟨by simp[spanB, *],rfl⟩
  ·have d1:decide (0≤f)=false:=decide_eq_false h1
   go_wp2_with fail
   go_meet
   exact ⟨by simp[spanB, *],rfl⟩
 case rest =>
  obtain ⟨rfl,rfl⟩:=hcut
  by_cases hk:k=⟨#[]⟩
  ·subst hk
   rw[em_nil] at HE
   by_cases hf:f=0
   ·subst hf
    rw[z_nil] at HE
    by_cases ht:t=0
    ·subst ht
     rw[z_nil] at HE
     by_cases hd:d=⟨#[]⟩
     ·subst hd
      rw[em_nil] at HE
      go_wp2_with fail
      go_ret
      exact ⟨by rw[HE.out];first | rfl | simp,HB.out _⟩
     ·obtain ⟨ed1,ed2,ed3,ed4⟩:=em_facts hd
      rw[ed4] at HE
      clear ed4 hd
      go_wp2_with fail
      go_ret
      exact ⟨by rw[HE.out];first | rfl | simp,HB.out _⟩
    ·obtain ⟨et1,et2,et4⟩:=z_facts ht
     rw[et4] at HE
     clear et4 ht
     by_cases hd:d=⟨#[]⟩
     ·subst hd
      rw[em_nil] at HE
      go_wp2_with fail
      go_ret
      exact ⟨by rw[HE.out];first | rfl | simp,HB.out _⟩
     ·obtain ⟨ed1,ed2,ed3,ed4⟩:=em_facts hd
      rw[ed4] at HE
      clear ed4 hd
      go_wp2_with fail
      go_ret
      exact ⟨by rw[HE.out];first | rfl | simp,HB.out _⟩
   ·obtain ⟨ef1,ef2,ef4⟩:=z_facts hf
    rw[ef4] at HE
    clear ef4 hf
    by_cases ht:t=0
    ·subst ht
     rw[z_nil] at HE
     by_cases hd:d=⟨#[]⟩
     ·subst hd
      rw[em_nil] at HE
      go_wp2_with fail
      go_ret
      exact ⟨by rw[HE.out];first | rfl | simp,HB.out _⟩
     ·obtain ⟨ed1,ed2,ed3,ed4⟩:=em_facts hd
      rw[ed4] at HE
      clear ed4 hd
      go_wp2_with fail
      go_ret
      exact ⟨by rw[HE.out];first | rfl | simp,HB.out _⟩
    ·obtain ⟨et1,et2,et4⟩:=z_facts ht
     rw[et4] at HE
     clear et4 ht
     by_cases hd:d=⟨#[]⟩
     ·subst hd
      rw[em_nil] at HE
      go_wp2_with fail
      go_ret
      exact ⟨by rw[HE.out];first | rfl | simp,HB.out _⟩
     ·obtain ⟨ed1,ed2,ed3,ed4⟩:=em_facts hd
      rw[ed4] at HE
      clear ed4 hd
      go_wp2_with fail
      go_ret
      exact ⟨by rw[HE.out];first | rfl | simp,HB.out _⟩
  ·obtain ⟨ek1,ek2,ek3,ek4⟩:=em_facts hk
   rw[ek4] at HE
   clear ek4 hk
   by_cases hf:f=0
   ·subst hf
    rw[z_nil] at HE
    by_cases ht:t=0
    ·subst ht
     rw[z_nil] at HE
     by_cases hd:d=⟨#[]⟩
     ·subst hd
      rw[em_nil] at HE
      go_wp2_with fail
      go_ret
      exact ⟨by rw[HE.out];first | rfl | simp,HB.out _⟩
     ·obtain ⟨ed1,ed2,ed3,ed4⟩:=em_facts hd
      rw[ed4] at HE
      clear ed4 hd
      go_wp2_with fail
      go_ret
      exact ⟨by rw[HE.out];first | rfl | simp,HB.out _⟩
    ·obtain ⟨et1,et2,et4⟩:=z_facts ht
     rw[et4] at HE
     clear et4 ht
     by_cases hd:d=⟨#[]⟩
     ·subst hd
      rw[em_nil] at HE
      go_wp2_with fail
      go_ret
      exact ⟨by rw[HE.out];first | rfl | simp,HB.out _⟩
     ·obtain ⟨ed1,ed2,ed3,ed4⟩:=em_facts hd
      rw[ed4] at HE
      clear ed4 hd
      go_wp2_with fail
      go_ret
      exact ⟨by rw[HE.out];first | rfl | simp,HB.out _⟩
   ·obtain ⟨ef1,ef2,ef4⟩:=z_facts hf
    rw[ef4] at HE
    clear ef4 hf
    by_cases ht:t=0
    ·subst ht
     rw[z_nil] at HE
     by_cases hd:d=⟨#[]⟩
     ·subst hd
      rw[em_nil] at HE
      go_wp2_with fail
      go_ret
      exact ⟨by rw[HE.out];first | rfl | simp,HB.out _⟩
     ·obtain ⟨ed1,ed2,ed3,ed4⟩:=em_facts hd
      rw[ed4] at HE
      clear ed4 hd
      go_wp2_with fail
      go_ret
      exact ⟨by rw[HE.out];first | rfl | simp,HB.out _⟩
    ·obtain ⟨et1,et2,et4⟩:=z_facts ht
     rw[et4] at HE
     clear et4 ht
     by_cases hd:d=⟨#[]⟩
     ·subst hd
      rw[em_nil] at HE
      go_wp2_with fail
      go_ret
      exact ⟨by rw[HE.out];first | rfl | simp,HB.out _⟩
     ·obtain ⟨ed1,ed2,ed3,ed4⟩:=em_facts hd
      rw[ed4] at HE
      clear ed4 hd
      go_wp2_with fail
      go_ret
      exact ⟨by rw[HE.out];first | rfl | simp,HB.out _⟩
set_option maxHeartbeats 8000000 in
theorem specOpOk_5 (k:ByteArray) (f t:Int) (d:ByteArray) (w:World) (hk:k.size≤maxLen):Calls Tryz.prog 32 #[vOp ⟨5,k,f,t,d⟩] w fun e w'=>e=.returned (.bool (opOk ⟨5,k,f,t,d⟩))∧Below w.heap.size w w':=by
 have HE:Hid (opOk ⟨5,k,f,t,d⟩=(keyB k&&spanB f t&&emB d)):=by unfold Hid opOk;simp
 have HB:Hid (∀ o,Below w.heap.size w ((w.alloc (.cells #[.int .i64 5,.string k,.int .i64 f,.int .i64 t,.string d] 56)).alloc o)):=fun o=>((below_a1 _ _).alloc (by simp) o)
 have cI:=inS f 0 1099511627776
 have cH:=inS f 0 100000
 have cK:=fun wx=>specKey k wx hk
 clear hk
 rw[show decide (KOk k)=keyB k from by unfold keyB;first | rfl | congr] at cK
 unfold vOp
 simp only
 go_enter Tryz.func32,Tryz.ntmps32
 go_upto_region 1 with fail
 go_cut [3] from 8 to 22 (fun s3 wc=>s3=.bool (spanB f t)∧wc=w.alloc (.cells #[.int .i64 5,.string k,.int .i64 f,.int .i64 t,.string d] 56))
 case first =>
  clear HE HB
  by_cases h1:0≤f
  ·by_cases h2:f<t
   ·by_cases h3:t≤1099511627776
    ·go_wp2_with fail
     go_meet
     exact ⟨by simp[spanB, *],rfl⟩
    ·have d3:decide (t≤1099511627776)=false:=decide_eq_false h3
     go_wp2_with fail
     go_meet
     exact ⟨by simp[spanB, *],rfl⟩
   ·have d2:decide (f<t)=false:=decide_eq_false h2
    go_wp2_with fail
    go_meet
    exact ⟨by simp[spanB, *],rfl⟩
  ·have d1:decide (0≤f)=false:=decide_eq_false h1
   go_wp2_with fail
   go_meet
   exact ⟨by simp[spanB, *],rfl⟩
 case rest =>
  obtain ⟨rfl,rfl⟩:=hcut
  by_cases hd:d=⟨#[]⟩
  ·subst hd
   rw[em_nil] at HE
   cases hs:spanB f t<;>rw[hs] at HE<;>cases hc:keyB k<;>rw[hc] at HE cK
   ·go_wp2_with fail
    refine (cK _).mono ?_
    rintro e w' ⟨rfl,rfl⟩
    go_wp2_with fail
    go_ret
    exact ⟨by rw[HE.out];first | rfl | simp,HB.out _⟩
   ·go_wp2_with fail
    refine (cK _).mono ?_
    rintro e w' ⟨rfl,rfl⟩
    go_wp2_with fail
    go_ret
    exact ⟨by rw[HE.out];first | rfl | simp,HB.out _⟩
   ·go_wp2_with fail
    refine (cK _).mono ?_
    rintro e w' ⟨rfl,rfl⟩
    go_wp2_with fail
    go_ret
    exact ⟨by rw[HE.out];first | rfl | simp,HB.out _⟩
   ·go_wp2_with fail
    refine (cK _).mono ?_
    rintro e w' ⟨rfl,rfl⟩
    go_wp2_with fail
    go_ret
    exact ⟨by rw[HE.out];first | rfl | simp,HB.out _⟩
  ·obtain ⟨ed1,ed2,ed3,ed4⟩:=em_facts hd
   rw[ed4] at HE
   clear ed4 hd
   cases hs:spanB f t<;>rw[hs] at HE<;>cases hc:keyB k<;>rw[hc] at HE cK
   ·go_wp2_with fail
    refine (cK _).mono ?_
    rintro e w' ⟨rfl,rfl⟩
    go_wp2_with fail
    go_ret
    exact ⟨by rw[HE.out];first | rfl | simp,HB.out _⟩
   ·go_wp2_with fail
    refine (cK _).mono ?_
    rintro e w' ⟨rfl,rfl⟩
    go_wp2_with fail
    go_ret
    exact ⟨by rw[HE.out];first | rfl | simp,HB.out _⟩
   ·go_wp2_with fail
    refine (cK _).mono ?_
    rintro e w' ⟨rfl,rfl⟩
    go_wp2_with fail
    go_ret
    exact ⟨by rw[HE.out];first | rfl | simp,HB.out _⟩
   ·go_wp2_with fail
    refine (cK _).mono ?_
    rintro e w' ⟨rfl,rfl⟩
    go_wp2_with fail
    go_ret
    exact ⟨by rw[HE.out];first | rfl | simp,HB.out _⟩
set_option maxHeartbeats 8000000 in
theorem specOpOk_4 (k:ByteArray) (f t:Int) (d:ByteArray) (w:World) (hk:k.size≤maxLen) (hd:d.size≤1048576):Calls Tryz.prog 32 #[vOp ⟨4,k,f,t,d⟩] w fun e w'=>e=.returned (.bool (opOk ⟨4,k,f,t,d⟩))∧Below w.heap.size w w':=by
 have HE:Hid (opOk ⟨4,k,f,t,d⟩=(keyB k&&rdB d&&zB f&&zB t)):=by unfold Hid opOk;simp
 have HB:Hid True:=trivial
 obtain ⟨X,hX⟩:∃ X,X=(w.alloc (.cells #[.int .i64 4,.string k,.int .i64 f,.int .i64 t,.string d] 56)).alloc (.cells #[.int .i64 4,.string k,.int .i64 0,.int .i64 0,.string d] 56):=⟨_,rfl⟩
 have HBX:Hid (Below w.heap.size w X):=by rw[hX];exact (below_a1 _ _).alloc (by simp) _
 have hY:=CellO.new w ⟨4,k,f,t,d⟩ 56
 have KX:Hid (CellO X w.heap.size ⟨4,k,f,t,d⟩):=by rw[hX];exact hY.on (below_a1 _ _) hY.2
 have KZ:Hid (CellO X (w.heap.size+1) ⟨4,k,0,0,d⟩):=by
  have h:=CellO.new (w.alloc (.cells #[.int .i64 4,.string k,.int .i64 f,.int .i64 t,.string d] 56)) ⟨4,k,0,0,d⟩ 56
  unfold Hid
  rw[hX]
  simpa using h
 clear hY
 have cR:=specReadBlock d X hd
 have cK:=fun wx=>specKey k wx hk
 clear hk hd
 rw[show decide (KOk k)=keyB k from by unfold keyB;first | rfl | congr] at cK
 unfold vOp
 simp only
 go_enter Tryz.func32,Tryz.ntmps32
 go_upto_region 1 with fail
 go_cut [3] from 8 to 22 (fun s3 wc=>s3=.bool (spanB f t)∧wc=w.alloc (.cells #[.int .i64 4,.string k,.int .i64 f,.int .i64 t,.string d] 56))
 case first =>
  clear HE HB
  by_cases h1:0≤f
  ·by_cases h2:f<t
   ·by_cases h3:t≤1099511627776
    ·go_wp2_with fail
     go_meet
     exact ⟨by simp[spanB, *],rfl⟩
    ·have d3:decide (t≤1099511627776)=false:=decide_eq_false h3
     go_wp2_with fail
     go_meet
     exact ⟨by simp[spanB, *],rfl⟩
   ·have d2:decide (f<t)=false:=decide_eq_false h2
    go_wp2_with fail
    go_meet
    exact ⟨by simp[spanB, *],rfl⟩
  ·have d1:decide (0≤f)=false:=decide_eq_false h1
   go_wp2_with fail
   go_meet
   exact ⟨by simp[spanB, *],rfl⟩
 case rest =>
  obtain ⟨rfl,rfl⟩:=hcut
  go_wp2_with fail
  rw[← hX]
  clear hX
  refine cR.mono ?_
  rintro e w1 ⟨⟨u,l,ok,hA,rfl,hO⟩,hb⟩
  have hr:=rdB_is hA
  rw[hr] at HE
  have HB:Hid (Below w.heap.size w w1):=HBX.out.trans (hb.mono HBX.out.size)
  obtain ⟨⟨g0,g1,g2,g3,g4⟩,_⟩:=KX.out.on hb KX.out.2
  obtain ⟨⟨y0,y1,y2,y3,y4⟩,_⟩:=KZ.out.on hb KZ.out.2
  simp only at g0 g1 g2 g3 g4 y0 y1 y2 y3 y4
  obtain ⟨Au,mu,cu,rfl⟩:=hO.shape
  clear hA hO hb hr cR KX KZ
  by_cases hf:f=0
  ·subst hf
   rw[z_nil] at HE
   by_cases ht:t=0
   ·subst ht
    rw[z_nil] at HE
    cases ok<;>cases hc:keyB k<;>rw[hc] at HE cK
    ·go_wp2_with fail
     refine (cK _).mono ?_
     rintro e w' ⟨rfl,rfl⟩
     go_wp2_with fail
     go_ret
     exact ⟨by rw[HE.out];first | rfl | simp,HB.out⟩
    ·go_wp2_with fail
     refine (cK _).mono ?_
     rintro e w' ⟨rfl,rfl⟩
     go_wp2_with fail
     go_ret
     exact ⟨by rw[HE.out];first | rfl | simp,HB.out⟩
    ·go_wp2_with fail
     refine (cK _).mono ?_
     rintro e w' ⟨rfl,rfl⟩
     go_wp2_with fail
     go_ret
     exact ⟨by rw[HE.out];first | rfl | simp,HB.out⟩
    ·go_wp2_with fail
     refine (cK _).mono ?_
     rintro e w' ⟨rfl,rfl⟩
     go_wp2_with fail
     go_ret
     exact ⟨by rw[HE.out];first | rfl | simp,HB.out⟩
   ·obtain ⟨et1,et2,et4⟩:=z_facts ht
    rw[et4] at HE
    clear et4 ht
    cases ok<;>cases hc:keyB k<;>rw[hc] at HE cK
    ·go_wp2_with fail
     refine (cK _).mono ?_
     rintro e w' ⟨rfl,rfl⟩
     go_wp2_with fail
     go_ret
     exact ⟨by rw[HE.out];first | rfl | simp,HB.out⟩
    ·go_wp2_with fail
     refine (cK _).mono ?_
     rintro e w' ⟨rfl,rfl⟩
     go_wp2_with fail
     go_ret
     exact ⟨by rw[HE.out];first | rfl | simp,HB.out⟩
    ·go_wp2_with fail
     refine (cK _).mono ?_
     rintro e w' ⟨rfl,rfl⟩
     go_wp2_with fail
     go_ret
     exact ⟨by rw[HE.out];first | rfl | simp,HB.out⟩
    ·go_wp2_with fail
     refine (cK _).mono ?_
     rintro e w' ⟨rfl,rfl⟩
     go_wp2_with fail
     go_ret
     exact ⟨by rw[HE.out];first | rfl | simp,HB.out⟩
  ·obtain ⟨ef1,ef2,ef4⟩:=z_facts hf
   rw[ef4] at HE
   clear ef4 hf
   by_cases ht:t=0
   ·subst ht
    rw[z_nil] at HE
    cases ok<;>cases hc:keyB k<;>rw[hc] at HE cK
    ·go_wp2_with fail
     refine (cK _).mono ?_
     rintro e w' ⟨rfl,rfl⟩
     go_wp2_with fail
     go_ret
     exact ⟨by rw[HE.out];first | rfl | simp,HB.out⟩
    ·go_wp2_with fail
     refine (cK _).mono ?_
     rintro e w' ⟨rfl,rfl⟩
     go_wp2_with fail
     go_ret
     exact ⟨by rw[HE.out];first | rfl | simp,HB.out⟩
    ·go_wp2_with fail
     refine (cK _).mono ?_
     rintro e w' ⟨rfl,rfl⟩
     go_wp2_with fail
     go_ret
     exact ⟨by rw[HE.out];first | rfl | simp,HB.out⟩
    ·go_wp2_with fail
     refine (cK _).mono ?_
     rintro e w' ⟨rfl,rfl⟩
     go_wp2_with fail
     go_ret
     exact ⟨by rw[HE.out];first | rfl | simp,HB.out⟩
   ·obtain ⟨et1,et2,et4⟩:=z_facts ht
    rw[et4] at HE
    clear et4 ht
    cases ok<;>cases hc:keyB k<;>rw[hc] at HE cK
    ·go_wp2_with fail
     refine (cK _).mono ?_
     rintro e w' ⟨rfl,rfl⟩
     go_wp2_with fail
     go_ret
     exact ⟨by rw[HE.out];first | rfl | simp,HB.out⟩
    ·go_wp2_with fail
     refine (cK _).mono ?_
     rintro e w' ⟨rfl,rfl⟩
     go_wp2_with fail
     go_ret
     exact ⟨by rw[HE.out];first | rfl | simp,HB.out⟩
    ·go_wp2_with fail
     refine (cK _).mono ?_
     rintro e w' ⟨rfl,rfl⟩
     go_wp2_with fail
     go_ret
     exact ⟨by rw[HE.out];first | rfl | simp,HB.out⟩
    ·go_wp2_with fail
     refine (cK _).mono ?_
     rintro e w' ⟨rfl,rfl⟩
     go_wp2_with fail
     go_ret
     exact ⟨by rw[HE.out];first | rfl | simp,HB.out⟩
set_option maxHeartbeats 8000000 in
theorem specOpOk_no (x:Opx) (w:World) (h:x.kind≠1∧x.kind≠2∧x.kind≠3∧x.kind≠4∧x.kind≠5∧x.kind≠6∧x.kind≠7):Calls Tryz.prog 32 #[vOp x] w fun e w'=>e=.returned (.bool (opOk x))∧Below w.heap.size w w':=by
 obtain ⟨n,k,f,t,d⟩:=x
 simp only at h
 obtain ⟨h1,h2,h3,h4,h5,h6,h7⟩:=h
 have HE:Hid (opOk ⟨n,k,f,t,d⟩=false):=by unfold Hid opOk;simp[h1,h2,h3,h4,h5,h6,h7]
 have HB:Hid (∀ o,Below w.heap.size w ((w.alloc (.cells #[.int .i64 n,.string k,.int .i64 f,.int .i64 t,.string d] 56)).alloc o)):=fun o=>((below_a1 _ _).alloc (by simp) o)
 have z1:(n == 1)=false:=by simpa using h1
 have z2:(n == 2)=false:=by simpa using h2
 have z3:(n == 3)=false:=by simpa using h3
 have z4:(n == 4)=false:=by simpa using h4
 have z5:(n == 5)=false:=by simpa using h5
 have z6:(n == 6)=false:=by simpa using h6
 have z7:(n == 7)=false:=by simpa using h7
 clear h1 h2 h3 h4 h5 h6 h7
 unfold vOp
 simp only
 go_enter Tryz.func32,Tryz.ntmps32
 go_upto_region 1 with fail
 go_cut [3] from 8 to 22 (fun s3 wc=>s3=.bool (spanB f t)∧wc=w.alloc (.cells #[.int .i64 n,.string k,.int .i64 f,.int .i64 t,.string d] 56))
 case first =>
  clear HE HB
  by_cases h1:0≤f
  ·by_cases h2:f<t
   ·by_cases h3:t≤1099511627776
    ·go_wp2_with fail
     go_meet
     exact ⟨by simp[spanB, *],rfl⟩
    ·have d3:decide (t≤1099511627776)=false:=decide_eq_false h3
     go_wp2_with fail
     go_meet
     exact ⟨by simp[spanB, *],rfl⟩
   ·have d2:decide (f<t)=false:=decide_eq_false h2
    go_wp2_with fail
    go_meet
    exact ⟨by simp[spanB, *],rfl⟩
  ·have d1:decide (0≤f)=false:=decide_eq_false h1
   go_wp2_with fail
   go_meet
   exact ⟨by simp[spanB, *],rfl⟩
 case rest =>
  obtain ⟨rfl,rfl⟩:=hcut
  go_wp2_with fail
  go_ret
  exact ⟨by rw[HE.out];first | rfl | simp,HB.out _⟩
theorem specOpOk (x:Opx) (w:World) (hk:x.key.size≤maxLen) (hd:x.data.size≤1048576):Calls Tryz.prog 32 #[vOp x] w fun e w'=>e=.returned (.bool (opOk x))∧Below w.heap.size w w':=by
 by_cases h:x.kind≠1∧x.kind≠2∧x.kind≠3∧x.kind≠4∧x.kind≠5∧x.kind≠6∧x.kind≠7
 ·exact specOpOk_no x w h
 ·obtain ⟨n,k,f,t,d⟩:=x
  simp only at h hk hd
  have:n=1∨n=2∨n=3∨n=4∨n=5∨n=6∨n=7:=by omega
  rcases this with rfl | rfl | rfl | rfl | rfl | rfl | rfl
  ·exact specOpOk_1 k f t d w hk
  ·exact specOpOk_2 k f t d w hk
  ·exact specOpOk_3 k f t d w hk
  ·exact specOpOk_4 k f t d w hk hd
  ·exact specOpOk_5 k f t d w hk
  ·exact specOpOk_6 k f t d w hk
  ·exact specOpOk_7 k f t d w hk
end Go.Proofs.YtedmdilabbolaaaGreatDoor
namespace Go.Proofs.YtedmdilabbolaaaGreatDoor
open Go.ChangeShapes Go.WideShapes Go.ChangeAt Go.RowKit Go.PlainAid
set_option linter.unusedVariables false
theorem specGroup (g:Int) (w:World):Calls Tryz.prog 31 #[.int .i64 g] w fun e w'=>e=.returned (.bool (inRg g 0 2))∧w=w':=by
 have c1:=inS g 0 2
 generalize inRg g 0 2=b at *
 go_enter Tryz.func31,Tryz.ntmps31
 go_wp2_with fail
 refine (c1 _).mono ?_
 rintro e w' ⟨rfl,rfl⟩
 go_wp2_with fail
 go_ret
 exact ⟨rfl,rfl⟩
noncomputable def lgB (x:Lgx):Bool:=inRg x.group 0 2&&inRg x.serial 1 1000000&&opOk x.op&&ansOk x.ans
theorem lgB_iff {x:Lgx}:lgB x=true↔LgOk x:=by
 unfold lgB inRg
 simp only[Bool.and_eq_true,decide_eq_true_eq]
 exact ⟨fun h=>⟨h.1.1.1,h.1.1.2,h.1.2,h.2⟩,fun h=>⟨⟨⟨h.g,h.s⟩,h.o⟩,h.a⟩⟩
set_option maxHeartbeats 2000000 in
theorem specLegOk (x:Lgx) (w:World) (hk:x.key.size≤maxLen) (hd:x.data.size≤1048576) (ht:x.told.size≤maxLen):Calls Tryz.prog 33 #[vLgx x] w fun e w'=>e=.returned (.bool (lgB x))∧Below w.heap.size w w':=by
 have a1:=fun wx=>specGroup x.group wx
 have a2:=fun wx=>inS x.serial 1 1000000 wx
 have a3:=fun wx=>specOpOk x.op wx hk hd
 have a4:=fun wx=>specAnswerOk x.ans wx ht
 have HE:Hid (lgB x=(inRg x.group 0 2&&inRg x.serial 1 1000000&&opOk x.op&&ansOk x.ans)):=rfl
 obtain ⟨X,hX⟩:∃ X,X=w.alloc (.cells #[.int .i64 x.group,.int .i64 x.serial,.int .i64 x.kind,.string x.key,.int .i64 x.frm,.int .i64 x.til,.string x.data,.int .i64 x.code,.int .i64 x.index,.int .i64 x.mark,.string x.told] 74):=⟨_,rfl⟩
 have HB:Hid (Below w.heap.size w X):=by unfold Hid;rw[hX];exact below_a1 _ _
 have KX:Hid (Blk X w.heap.size #[.int .i64 x.group,.int .i64 x.serial,.int .i64 x.kind,.string x.key,.int .i64 x.frm,.int .i64 x.til,.string x.data,.int .i64 x.code,.int .i64 x.index,.int .i64 x.mark,.string x.told] 74):=by unfold Hid;rw[hX];exact Blk.new w _ _
 unfold vLgx
 simp only[vOp,vAns,Lgx.op,Lgx.ans] at a3 a4 HE
 generalize lgB x=lb at *
 generalize opOk ⟨x.kind,x.key,x.frm,x.til,x.data⟩=ob at *
 generalize ansOk ⟨x.code,x.index,x.mark,x.told⟩=ab at *
 cases h1:inRg x.group 0 2<;>rw[h1] at a1 HE<;>clear h1
 ·go_enter Tryz.func33,Tryz.ntmps33
  obtain ⟨k0,k1,k2,k3,k4,k5,k6,k7,k8,k9,k10⟩:X.cell? ⟨w.heap.size,0,none⟩=some (.int .i64 x.group)∧X.cell? ⟨w.heap.size,1,none⟩=some (.int .i64 x.serial)∧X.cell? ⟨w.heap.size,2,none⟩=some (.int .i64 x.kind)∧X.cell? ⟨w.heap.size,3,none⟩=some (.string x.key)∧X.cell? ⟨w.heap.size,4,none⟩=some (.int .i64 x.frm)∧X.cell? ⟨w.heap.size,5,none⟩=some (.int .i64 x.til)∧X.cell? ⟨w.heap.size,6,none⟩=some (.string x.data)∧X.cell? ⟨w.heap.size,7,none⟩=some (.int .i64 x.code)∧X.cell? ⟨w.heap.size,8,none⟩=some (.int .i64 x.index)∧X.cell? ⟨w.heap.size,9,none⟩=some (.int .i64 x.mark)∧X.cell? ⟨w.heap.size,10,none⟩=some (.string x.told):=⟨KX.out.cell 0 _ rfl,KX.out.cell 1 _ rfl,KX.out.cell 2 _ rfl,KX.out.cell 3 _ rfl,KX.out.cell 4 _ rfl,KX.out.cell 5 _ rfl,KX.out.cell 6 _ rfl,KX.out.cell 7 _ rfl,KX.out.cell 8 _ rfl,KX.out.cell 9 _ rfl,KX.out.cell 10 _ rfl⟩
  rw[hX] at k0 k1 k2 k3 k4 k5 k6 k7 k8 k9 k10
  go_wp2_with fail
  rw[← hX]
  rw[← hX] at k0 k1 k2 k3 k4 k5 k6 k7 k8 k9 k10
  clear hX
  refine (a1 _).mono ?_
  rintro e w' ⟨rfl,rfl⟩
  go_wp2_with fail
  go_ret
  exact ⟨by rw[HE.out];rfl,HB.out⟩
 cases h2:inRg x.serial 1 1000000<;>rw[h2] at a2 HE<;>clear h2
 ·go_enter Tryz.func33,Tryz.ntmps33
  obtain ⟨k0,k1,k2,k3,k4,k5,k6,k7,k8,k9,k10⟩:X.cell? ⟨w.heap.size,0,none⟩=some (.int .i64 x.group)∧X.cell? ⟨w.heap.size,1,none⟩=some (.int .i64 x.serial)∧X.cell? ⟨w.heap.size,2,none⟩=some (.int .i64 x.kind)∧X.cell? ⟨w.heap.size,3,none⟩=some (.string x.key)∧X.cell? ⟨w.heap.size,4,none⟩=some (.int .i64 x.frm)∧X.cell? ⟨w.heap.size,5,none⟩=some (.int .i64 x.til)∧X.cell? ⟨w.heap.size,6,none⟩=some (.string x.data)∧X.cell? ⟨w.heap.size,7,none⟩=some (.int .i64 x.code)∧X.cell? ⟨w.heap.size,8,none⟩=some (.int .i64 x.index)∧X.cell? ⟨w.heap.size,9,none⟩=some (.int .i64 x.mark)∧X.cell? ⟨w.heap.size,10,none⟩=some (.string x.told):=⟨KX.out.cell 0 _ rfl,KX.out.cell 1 _ rfl,KX.out.cell 2 _ rfl,KX.out.cell 3 _ rfl,KX.out.cell 4 _ rfl,KX.out.cell 5 _ rfl,KX.out.cell 6 _ rfl,KX.out.cell 7 _ rfl,KX.out.cell 8 _ rfl,KX.out.cell 9 _ rfl,KX.out.cell 10 _ rfl⟩
  rw[hX] at k0 k1 k2 k3 k4 k5 k6 k7 k8 k9 k10
  go_wp2_with fail
  rw[← hX]
  rw[← hX] at k0 k1 k2 k3 k4 k5 k6 k7 k8 k9 k10
  clear hX
  refine (a1 _).mono ?_
  rintro e w' ⟨rfl,rfl⟩
  go_wp2_with fail
  refine (a2 _).mono ?_
  rintro e w' ⟨rfl,rfl⟩
  go_wp2_with fail
  go_ret
  exact ⟨by rw[HE.out];rfl,HB.out⟩
 cases ob
 ·go_enter Tryz.func33,Tryz.ntmps33
  obtain ⟨k0,k1,k2,k3,k4,k5,k6,k7,k8,k9,k10⟩:X.cell? ⟨w.heap.size,0,none⟩=some (.int .i64 x.group)∧X.cell? ⟨w.heap.size,1,none⟩=some (.int .i64 x.serial)∧X.cell? ⟨w.heap.size,2,none⟩=some (.int .i64 x.kind)∧X.cell? ⟨w.heap.size,3,none⟩=some (.string x.key)∧X.cell? ⟨w.heap.size,4,none⟩=some (.int .i64 x.frm)∧X.cell? ⟨w.heap.size,5,none⟩=some (.int .i64 x.til)∧X.cell? ⟨w.heap.size,6,none⟩=some (.string x.data)∧X.cell? ⟨w.heap.size,7,none⟩=some (.int .i64 x.code)∧X.cell? ⟨w.heap.size,8,none⟩=some (.int .i64 x.index)∧X.cell? ⟨w.heap.size,9,none⟩=some (.int .i64 x.mark)∧X.cell? ⟨w.heap.size,10,none⟩=some (.string x.told):=⟨KX.out.cell 0 _ rfl,KX.out.cell 1 _ rfl,KX.out.cell 2 _ rfl,KX.out.cell 3 _ rfl,KX.out.cell 4 _ rfl,KX.out.cell 5 _ rfl,KX.out.cell 6 _ rfl,KX.out.cell 7 _ rfl,KX.out.cell 8 _ rfl,KX.out.cell 9 _ rfl,KX.out.cell 10 _ rfl⟩
  rw[hX] at k0 k1 k2 k3 k4 k5 k6 k7 k8 k9 k10
  go_wp2_with fail
  rw[← hX]
  rw[← hX] at k0 k1 k2 k3 k4 k5 k6 k7 k8 k9 k10
  clear hX
  refine (a1 _).mono ?_
  rintro e w' ⟨rfl,rfl⟩
  go_wp2_with fail
  refine (a2 _).mono ?_
  rintro e w' ⟨rfl,rfl⟩
  go_wp2_with fail
  refine (a3 _).mono ?_
  rintro e w2 ⟨rfl,hb⟩
  have B2:Hid (Below w.heap.size w w2):=HB.out.trans (hb.mono HB.out.size)
  have K2:=Hid.mkQ (KX.out.on hb KX.out.lt)
  clear hb k0 k1 k2 k3 k4 k5 k6 k7 k8 k9 k10
  obtain ⟨k0,k1,k2,k3,k4,k5,k6,k7,k8,k9,k10⟩:w2.cell? ⟨w.heap.size,0,none⟩=some (.int .i64 x.group)∧w2.cell? ⟨w.heap.size,1,none⟩=some (.int .i64 x.serial)∧w2.cell? ⟨w.heap.size,2,none⟩=some (.int .i64 x.kind)∧w2.cell? ⟨w.heap.size,3,none⟩=some (.string x.key)∧w2.cell? ⟨w.heap.size,4,none⟩=some (.int .i64 x.frm)∧w2.cell? ⟨w.heap.size,5,none⟩=some (.int .i64 x.til)∧w2.cell? ⟨w.heap.size,6,none⟩=some (.string x.data)∧w2.cell? ⟨w.heap.size,7,none⟩=some (.int .i64 x.code)∧w2.cell? ⟨w.heap.size,8,none⟩=some (.int .i64 x.index)∧w2.cell? ⟨w.heap.size,9,none⟩=some (.int .i64 x.mark)∧w2.cell? ⟨w.heap.size,10,none⟩=some (.string x.told):=⟨K2.out.cell 0 _ rfl,K2.out.cell 1 _ rfl,K2.out.cell 2 _ rfl,K2.out.cell 3 _ rfl,K2.out.cell 4 _ rfl,K2.out.cell 5 _ rfl,K2.out.cell 6 _ rfl,K2.out.cell 7 _ rfl,K2.out.cell 8 _ rfl,K2.out.cell 9 _ rfl,K2.out.cell 10 _ rfl⟩
  go_wp2_with fail
  go_ret
  exact ⟨by rw[HE.out];rfl,B2.out⟩
 go_enter Tryz.func33,Tryz.ntmps33
 obtain ⟨k0,k1,k2,k3,k4,k5,k6,k7,k8,k9,k10⟩:X.cell? ⟨w.heap.size,0,none⟩=some (.int .i64 x.group)∧X.cell? ⟨w.heap.size,1,none⟩=some (.int .i64 x.serial)∧X.cell? ⟨w.heap.size,2,none⟩=some (.int .i64 x.kind)∧X.cell? ⟨w.heap.size,3,none⟩=some (.string x.key)∧X.cell? ⟨w.heap.size,4,none⟩=some (.int .i64 x.frm)∧X.cell? ⟨w.heap.size,5,none⟩=some (.int .i64 x.til)∧X.cell? ⟨w.heap.size,6,none⟩=some (.string x.data)∧X.cell? ⟨w.heap.size,7,none⟩=some (.int .i64 x.code)∧X.cell? ⟨w.heap.size,8,none⟩=some (.int .i64 x.index)∧X.cell? ⟨w.heap.size,9,none⟩=some (.int .i64 x.mark)∧X.cell? ⟨w.heap.size,10,none⟩=some (.string x.told):=⟨KX.out.cell 0 _ rfl,KX.out.cell 1 _ rfl,KX.out.cell 2 _ rfl,KX.out.cell 3 _ rfl,KX.out.cell 4 _ rfl,KX.out.cell 5 _ rfl,KX.out.cell 6 _ rfl,KX.out.cell 7 _ rfl,KX.out.cell 8 _ rfl,KX.out.cell 9 _ rfl,KX.out.cell 10 _ rfl⟩
 rw[hX] at k0 k1 k2 k3 k4 k5 k6 k7 k8 k9 k10
 go_wp2_with fail
 rw[← hX]
 rw[← hX] at k0 k1 k2 k3 k4 k5 k6 k7 k8 k9 k10
 clear hX
 refine (a1 _).mono ?_
 rintro e w' ⟨rfl,rfl⟩
 go_wp2_with fail
 refine (a2 _).mono ?_
 rintro e w' ⟨rfl,rfl⟩
 go_wp2_with fail
 refine (a3 _).mono ?_
 rintro e w2 ⟨rfl,hb⟩
 have B2:Hid (Below w.heap.size w w2):=HB.out.trans (hb.mono HB.out.size)
 have K2:=Hid.mkQ (KX.out.on hb KX.out.lt)
 clear hb k0 k1 k2 k3 k4 k5 k6 k7 k8 k9 k10
 obtain ⟨k0,k1,k2,k3,k4,k5,k6,k7,k8,k9,k10⟩:w2.cell? ⟨w.heap.size,0,none⟩=some (.int .i64 x.group)∧w2.cell? ⟨w.heap.size,1,none⟩=some (.int .i64 x.serial)∧w2.cell? ⟨w.heap.size,2,none⟩=some (.int .i64 x.kind)∧w2.cell? ⟨w.heap.size,3,none⟩=some (.string x.key)∧w2.cell? ⟨w.heap.size,4,none⟩=some (.int .i64 x.frm)∧w2.cell? ⟨w.heap.size,5,none⟩=some (.int .i64 x.til)∧w2.cell? ⟨w.heap.size,6,none⟩=some (.string x.data)∧w2.cell? ⟨w.heap.size,7,none⟩=some (.int .i64 x.code)∧w2.cell? ⟨w.heap.size,8,none⟩=some (.int .i64 x.index)∧w2.cell? ⟨w.heap.size,9,none⟩=some (.int .i64 x.mark)∧w2.cell? ⟨w.heap.size,10,none⟩=some (.string x.told):=⟨K2.out.cell 0 _ rfl,K2.out.cell 1 _ rfl,K2.out.cell 2 _ rfl,K2.out.cell 3 _ rfl,K2.out.cell 4 _ rfl,K2.out.cell 5 _ rfl,K2.out.cell 6 _ rfl,K2.out.cell 7 _ rfl,K2.out.cell 8 _ rfl,K2.out.cell 9 _ rfl,K2.out.cell 10 _ rfl⟩
 go_wp2_with fail
 refine (a4 _).mono ?_
 rintro e w3 ⟨rfl,hb⟩
 have B3:Hid (Below w.heap.size w w3):=B2.out.trans (hb.mono B2.out.size)
 clear hb
 go_wp2_with fail
 go_ret
 exact ⟨by rw[HE.out];rfl,B3.out⟩
end Go.Proofs.YtedmdilabbolaaaGreatDoor
