/- BkMath OpDef RtDef RtLaw RtSz BtOk BtRise BtDif BtTim BtTimI BkShow -/
import Derived.Test.YtedmdilabbolaaaDoorQc0
import Derived.Test.YtedmdilabbolaaaDoorQc2
import Derived.Test.YtedmdilabbolaaaDoorRows
import Derived.Test.YtedmdilabbolaaaDoorQc1
import Derived.WalkKit
import Derived.ProofKit
import Derived.OpenShut
import Derived.Below
import Derived.WalkSmall
import Derived.WalkLawsBesides
import Derived.Outline
import Derived.BigQuiet
import Derived.Deep.QuietTactic
import Derived.Deep.RegionWith
import Derived.Deep.Cut
import Derived.Handy
open List (setIfInBounds_toArray set_cons_zero set_cons_succ)
namespace Go.Proofs.YtedmdilabbolaaaDoor
open Go.RowKit Go.PlainAid
def ts (l:List Pnt):List Int:=l.map fun p=>p.t
def vs (l:List Pnt):List Int:=l.map fun p=>p.v
theorem ts_length (l:List Pnt):(ts l).length=l.length:=by simp[ts]
theorem vs_length (l:List Pnt):(vs l).length=l.length:=by simp[vs]
theorem ts_get (l:List Pnt) (j:Nat) (h:j<l.length):(ts l).getD j 0=tAt l j:=by
 rw[tAt,← getD_at l j h]
 simp[ts,List.getD,h]
theorem vs_get (l:List Pnt) (j:Nat) (h:j<l.length):(vs l).getD j 0=vAt l j:=by
 rw[vAt,← getD_at l j h]
 simp[vs,List.getD,h]
theorem rows_of_ok {l:List Pnt} (h:POk l) (h1:1≤l.length):TOk (ts l)∧VOk (vs l):=by
 refine ⟨⟨by rw[ts_length];exact h1,by rw[ts_length];exact h.1,fun j hj=>?_⟩,by rw[vs_length];exact h1,by rw[vs_length];exact h.1,fun j hj=>?_⟩
 ·rw[ts_length] at hj
  rw[ts_get l j hj]
  refine ⟨(h.2 j hj).1.1,fun h0=>?_⟩
  rw[ts_get l (j - 1) (by omega)]
  exact (h.2 j hj).2 h0
 ·rw[vs_length] at hj
  rw[vs_get l j hj]
  exact (h.2 j hj).1.2
theorem ok_of_rows {l:List Pnt} (h:TOk (ts l)) (h':VOk (vs l)):POk l:=by
 refine ⟨by have:=h.2.1;rwa [ts_length] at this,fun j hj=>?_⟩
 have h1:=h.2.2 j (by rw[ts_length];exact hj)
 have h2:=h'.2.2 j (by rw[vs_length];exact hj)
 rw[ts_get l j hj] at h1
 rw[vs_get l j hj] at h2
 refine ⟨⟨h1.1,h2⟩,fun h0=>?_⟩
 have:=h1.2 h0
 rwa [ts_get l (j - 1) (by omega)] at this
def zipP (t v:List Int):List Pnt:=List.zipWith Pnt.mk t v
theorem zipP_length (t v:List Int):(zipP t v).length=min t.length v.length:=by simp[zipP]
theorem zipP_rows:∀ l:List Pnt,zipP (ts l) (vs l)=l
 | []=>rfl
 | p::l=>by
  have:=zipP_rows l
  simp only[zipP,ts,vs,List.map_cons,List.zipWith_cons_cons] at this ⊢
  rw[this]
theorem ts_zip:∀ (t v:List Int),t.length=v.length→ts (zipP t v)=t∧vs (zipP t v)=v
 | [],[],_=>⟨rfl,rfl⟩
 | [],_::_,h=>by simp at h
 | _::_,[],h=>by simp at h
 | x::t,y::v,h=>by
  have ih:=ts_zip t v (by simpa using h)
  simp only[zipP,ts,vs,List.zipWith_cons_cons,List.map_cons] at ih ⊢
  rw[ih.1,ih.2]
  exact ⟨rfl,rfl⟩
theorem zipP_get (t v:List Int) (k:Nat) (h1:k<t.length) (h2:k<v.length):(zipP t v).take (k+1)=(zipP t v).take k++[⟨t.getD k 0,v.getD k 0⟩]:=by
 have hk:k<(zipP t v).length:=by rw[zipP_length];omega
 rw[List.take_succ_eq_append_getElem hk]
 congr 2
 simp[zipP,List.getD,h1,h2]
def bodyB (l:List Pnt):List UInt8:=vF 6 l.length++(cat (tPiece (ts l)) l.length++cat (vPiece (vs l)) l.length)
def showB (l:List Pnt):ByteArray:=if 1≤l.length∧POk l then frame (txt (vF 6 l.length)++showT (ts l)++showV (vs l)) else txt []
theorem body_is {l:List Pnt} (h:POk l) (h1:1≤l.length):txt (vF 6 l.length)++showT (ts l)++showV (vs l)=txt (bodyB l):=by
 obtain ⟨ht,hv⟩:=rows_of_ok h h1
 unfold showT showV bodyB
 rw[if_pos ht,if_pos hv,ts_length,vs_length,txt_cat,txt_cat,List.append_assoc]
theorem bodyB_size {l:List Pnt} (h:POk l):1≤(bodyB l).length∧(bodyB l).length≤847:=by
 have h1:=vF_pos 6 l.length
 have h2:=vF_length 6 l.length
 have h3:=cat_length (tPiece (ts l)) (tPiece_length (ts l)) l.length
 have h4:=cat_length (vPiece (vs l)) (vPiece_length (vs l)) l.length
 have:=h.1
 unfold bodyB
 simp only[List.length_append]
 omega
def Good (s:ByteArray) (l:List Pnt):Prop:=1≤l.length∧POk l∧showB l=s
theorem Good.frame {s:ByteArray} {l:List Pnt} (h:Good s l):s=frameOf (txt (bodyB l)):=by
 obtain ⟨h1,h2,rfl⟩:=h
 have hb:=bodyB_size h2
 rw[showB,if_pos ⟨h1,h2⟩,body_is h2 h1,Go.Proofs.YtedmdilabbolaaaDoor.frame,if_neg (by rw[txt_size];omega)]
theorem Good.read {s:ByteArray} {l:List Pnt} (h:Good s l):code s=0∧8+rdv s 4=s.size∧bodyOf s=txt (bodyB l):=by
 have hf:=h.frame
 have hb:=bodyB_size h.2.1
 have e:s=frameOf (txt (bodyB l))++ByteArray.empty:=by rw[ByteArray.append_empty];exact hf
 have hz:(txt (bodyB l)).size≤2000:=by rw[txt_size];omega
 refine ⟨by rw[e];exact code_frameOf _ _ (by rw[txt_size];omega) hz,?_,by rw[e];exact bodyOf_frameOf _ _ hz⟩
 have h4:rdv s 4=(txt (bodyB l)).size:=by rw[e];exact rdv_frameOf _ _ hz
 rw[h4,hf,frameOf_size]
def RdV (s:ByteArray) (n:Int) (k:Nat):Prop:=(FindV s k∧n=(vvS s 0 k:Int))∨((∀ j,¬ FindV s j)∧n=0∧k=0)
theorem ReadV.rd {s:ByteArray} {e:Ending} (h:ReadV s e):∃ n k,RdV s n k∧e=.returned (.tuple #[.int .i64 n,.int .i64 (k:Int)]):=by
 rcases h with ⟨k,h1,h2⟩ | ⟨h1,h2⟩
 ·exact ⟨_,k,.inl ⟨h1,rfl⟩,h2⟩
 ·exact ⟨0,0,.inr ⟨h1,rfl,rfl⟩,h2⟩
theorem RdV.one {s:ByteArray} {n n':Int} {k k':Nat} (h:RdV s n k) (h':RdV s n' k'):n=n'∧k=k':=by
 rcases h with ⟨h1,h2⟩ | ⟨h1,h2,h3⟩<;>rcases h' with ⟨h1',h2'⟩ | ⟨h1',h2',h3'⟩
 ·obtain rfl:=h1.one h1'
  exact ⟨h2.trans h2'.symm,rfl⟩
 ·exact absurd h1 (h1' k)
 ·exact absurd h1' (h1 k')
 ·exact ⟨h2.trans h2'.symm,h3.trans h3'.symm⟩
theorem RdV.le {s:ByteArray} {n:Int} {k:Nat} (h:RdV s n k):k≤s.size∧k≤7∧0≤n:=by
 rcases h with ⟨⟨_,h2,h3,_⟩,h4⟩ | ⟨_,h2,h3⟩
 ·exact ⟨h3,h2,by omega⟩
 ·omega
def bodyR (s:ByteArray):ByteArray:=if code s=0 then bodyOf s else ⟨#[]⟩
theorem bodyR_size (s:ByteArray):(bodyR s).size≤2000:=by
 unfold bodyR
 split
 ·rename_i h
  obtain ⟨_,_,h2,h8,_⟩:=(code_zero s).1 h
  rw[bodyOf_size s h8]
  exact h2
 ·exact Nat.zero_le _
structure Steps (s:ByteArray) (n:Int) (k:Nat) (t:List Int) (a:Nat) (v:List Int) (b:Nat):Prop where
 rn:RdV (bodyR s) n k
 rt:RdAns showT rowT ((bodyR s).extract k (bodyR s).size) n t a
 rv:RdAns showV rowV ((bodyR s).extract (k+a) (bodyR s).size) n v b
theorem Good.steps {s:ByteArray} {l:List Pnt} (h:Good s l):Steps s (l.length:Int) (vF 6 l.length).length (ts l) (cat (tPiece (ts l)) l.length).length (vs l) (cat (vPiece (vs l)) l.length).length:=by
 obtain ⟨hc,_,hb⟩:=h.read
 obtain ⟨ht,hv⟩:=rows_of_ok h.2.1 h.1
 have hB:bodyR s=txt (bodyB l):=by rw[bodyR,if_pos hc,hb]
 have hn:l.length≤562949953421311:=by have:=h.2.1.1;omega
 have hf:=find_var l.length (cat (tPiece (ts l)) l.length++cat (vPiece (vs l)) l.length) hn
 refine ⟨?_,?_,?_⟩
 ·rw[hB]
  exact .inl ⟨hf.1,by unfold bodyB;rw[hf.2]⟩
 ·rw[hB,bodyB,extract_back]
  have:=readT_back (ts l) ht (cat (vPiece (vs l)) l.length)
  rw[ts_length] at this
  exact this
 ·rw[hB]
  have e:bodyB l=(vF 6 l.length++cat (tPiece (ts l)) l.length)++cat (vPiece (vs l)) l.length:=by rw[bodyB,List.append_assoc]
  have:=readV_back (vs l) hv []
  rw[vs_length,List.append_nil] at this
  rw[e,← List.length_append,extract_back]
  exact this
theorem Steps.one {s:ByteArray} {n n':Int} {k k' a a' b b':Nat} {t t' v v':List Int} (h:Steps s n k t a v b) (h':Steps s n' k' t' a' v' b'):n=n'∧k=k'∧t=t'∧a=a'∧v=v'∧b=b':=by
 obtain ⟨rfl,rfl⟩:=h.rn.one h'.rn
 obtain ⟨rfl,rfl⟩:=h.rt.one h'.rt
 obtain ⟨rfl,rfl⟩:=h.rv.one h'.rv
 exact ⟨rfl,rfl,rfl,rfl,rfl,rfl⟩
theorem Steps.good {s:ByteArray} {n:Int} {k a b:Nat} {t v:List Int} (h:Steps s n k t a v b) {l:List Pnt} (hg:Good s l):zipP t v=l∧n=(l.length:Int)∧t=ts l∧v=vs l∧1≤k∧1≤a∧1≤b∧k+a+b=(bodyR s).size:=by
 obtain ⟨rfl,rfl,rfl,rfl,rfl,rfl⟩:=h.one hg.steps
 obtain ⟨hc,_,hb⟩:=hg.read
 have hB:bodyR s=txt (bodyB l):=by rw[bodyR,if_pos hc,hb]
 refine ⟨zipP_rows l,rfl,rfl,rfl,vF_pos _ _,cat_pos _ _ hg.1 (vF_pos _ _),cat_pos _ _ hg.1 (vF_pos _ _),?_⟩
 rw[hB,txt_size,bodyB]
 simp only[List.length_append]
 omega
theorem Good.one {s:ByteArray} {l m:List Pnt} (h:Good s l) (h':Good s m):l=m:=by
 have:=(h.steps.good h').1
 rw[zipP_rows] at this
 exact this
theorem RdAns.pos {shw:List Int→ByteArray} {row:List Int→List Int} {s:ByteArray} {n:Int} {l:List Int} {k:Nat} (hrow:∀ v,(row v).length=v.length) (h:RdAns shw row s n l k) (hk:k≠0):n=(l.length:Int)∧1≤l.length∧l.length≤60∧shw l=s.extract 0 k∧k≤s.size:=by
 rcases h with ⟨m,v,h1,h2,h3,h4,h5,h6⟩ | ⟨_,_,h0⟩
 ·have hl:l.length=m:=by rw[h6,hrow,h4.length]
  exact ⟨by rw[hl];exact h1,by omega,by omega,by rw[h6];exact h5,h4.le.2⟩
 ·exact absurd h0 hk
theorem okT_of_show {l:List Int} {s:ByteArray} {k:Nat} (h:showT l=s.extract 0 k) (hk:k≠0) (hs:k≤s.size):TOk l:=by
 by_cases ho:TOk l
 ·exact ho
 ·unfold showT at h
  rw[if_neg ho] at h
  exact absurd h (extract_ne s k (by omega) hs)
theorem okV_of_show {l:List Int} {s:ByteArray} {k:Nat} (h:showV l=s.extract 0 k) (hk:k≠0) (hs:k≤s.size):VOk l:=by
 by_cases ho:VOk l
 ·exact ho
 ·unfold showV at h
  rw[if_neg ho] at h
  exact absurd h (extract_ne s k (by omega) hs)
theorem Steps.back {s:ByteArray} {n:Int} {k a b:Nat} {t v:List Int} (h:Steps s n k t a v b) (hc:code s=0) (h8:8+rdv s 4=s.size) (hk:k≠0) (ha:a≠0) (hb:b≠0) (hs:k+a+b=(bodyR s).size):Good s (zipP t v)∧t.length=v.length∧n=(t.length:Int):=by
 obtain ⟨ht1,ht2,ht3,ht4,ht5⟩:=h.rt.pos rowT_length ha
 obtain ⟨hv1,hv2,hv3,hv4,hv5⟩:=h.rv.pos rowV_length hb
 have hlen:t.length=v.length:=by omega
 have hT:=okT_of_show ht4 ha ht5
 have hV:=okV_of_show hv4 hb hv5
 obtain ⟨e1,e2⟩:=ts_zip t v hlen
 have hzl:(zipP t v).length=t.length:=by rw[zipP_length];omega
 have hP:POk (zipP t v):=ok_of_rows (by rw[e1];exact hT) (by rw[e2];exact hV)
 have hfv:FindV (bodyR s) k∧n=(vvS (bodyR s) 0 k:Int):=by
  rcases h.rn with h | ⟨_,_,h0⟩
  ·exact h
  ·exact absurd h0 hk
 obtain ⟨⟨c1,c2,c3,c4⟩,hn⟩:=hfv
 have hvar:txt (vF 6 (zipP t v).length)=(bodyR s).extract 0 k:=by
  have hh:=(var_eq (bodyR s) k c1 c2 c3).2 c4
  have hm:vvS (bodyR s) 0 k=(zipP t v).length:=by omega
  rw[hm] at hh
  by_cases e:txt (vF 6 (zipP t v).length)=(bodyR s).extract 0 k
  ·exact e
  ·rw[bytes_ne e] at hh
   cases hh
 have hbody:txt (vF 6 (zipP t v).length)++showT (ts (zipP t v))++showV (vs (zipP t v))=bodyR s:=by
  rw[e1,e2,hvar,ht4,hv4,ByteArray.extract_extract,ByteArray.extract_extract,Nat.add_zero,Nat.add_zero,Nat.min_eq_left (by omega),Nat.min_eq_left (by omega),ByteArray.extract_append_extract,show min 0 k=0 by omega,show max k (k+a)=k+a by omega,ByteArray.extract_append_extract,show min 0 (k+a)=0 by omega,show max (k+a) (k+a+b)=k+a+b by omega,hs,ByteArray.extract_zero_size]
 refine ⟨⟨by omega,hP,?_⟩,hlen,ht1⟩
 rw[showB,if_pos ⟨by omega,hP⟩,hbody,bodyR,if_pos hc]
 obtain ⟨g4,g1,g2,g8,gs⟩:=(code_zero s).1 hc
 rw[(frame_fits s g4 g1 g2 g8).2 gs,h8,ByteArray.extract_zero_size]
theorem Steps.empty {n:Int} {k a b:Nat} {t v:List Int} (h:Steps (txt []) n k t a v b):t=[]:=by
 have hc:¬ code (txt [])=0:=fun hc=>by
  obtain ⟨h4,_⟩:=(code_zero _).1 hc
  rw[txt_size] at h4
  simp at h4
 have hB:bodyR (txt [])=⟨#[]⟩:=by rw[bodyR,if_neg hc]
 have hz:n=0:=by
  rcases h.rn with ⟨⟨h1,_,h3,_⟩,_⟩ | ⟨_,h0,_⟩
  ·rw[hB] at h3
   have:(ByteArray.mk #[]).size=0:=rfl
   omega
  ·exact h0
 rcases h.rt with ⟨m,v,h1,h2,_⟩ | ⟨_,h0,_⟩
 ·omega
 ·exact h0
theorem Steps.shown {s:ByteArray} {n:Int} {k a b:Nat} {t v:List Int} (h:Steps s n k t a v b) (h1:1≤(zipP t v).length) (hs:showB (zipP t v)=s):Good s (zipP t v):=by
 by_cases hp:POk (zipP t v)
 ·exact ⟨h1,hp,hs⟩
 ·exfalso
  rw[showB,if_neg (fun hh=>hp hh.2)] at hs
  subst hs
  rw[h.empty] at h1
  simp[zipP] at h1
def RbAns (s:ByteArray) (l:List Pnt) (ok:Bool):Prop:=(ok=true∧Good s l)∨(ok=false∧l=[]∧∀ m,¬ Good s m)
theorem RbAns.one {s:ByteArray} {l m:List Pnt} {x y:Bool} (h:RbAns s l x) (h':RbAns s m y):l=m∧x=y:=by
 rcases h with ⟨h1,h2⟩ | ⟨h1,h2,h3⟩<;>rcases h' with ⟨h1',h2'⟩ | ⟨h1',h2',h3'⟩
 ·exact ⟨h2.one h2',h1.trans h1'.symm⟩
 ·exact absurd h2 (h3' l)
 ·exact absurd h2' (h3 m)
 ·exact ⟨h2.trans h2'.symm,h1.trans h1'.symm⟩
theorem RbAns.len {s:ByteArray} {l:List Pnt} {x:Bool} (h:RbAns s l x):l.length≤60:=by
 rcases h with ⟨_,h2⟩ | ⟨_,h2,_⟩
 ·exact h2.2.1.1
 ·rw[h2];simp
end Go.Proofs.YtedmdilabbolaaaDoor
namespace Go.Proofs.YtedmdilabbolaaaDoor
open Go.ChangeShapes Go.WideShapes Go.ChangeAt Go.RowKit Go.PlainAid
set_option linter.unusedVariables false
def emB (s:ByteArray):Bool:=s.toList.isEmpty
theorem em_facts {s:ByteArray} (h:¬ s=⟨#[]⟩):(s.toList == [])=false∧(([]:List UInt8) == s.toList)=false∧s.toList.isEmpty=false∧emB s=false:=by
 have h0:¬ s.toList=[]:=fun e=>by
  rw[Lib.toList_data] at e
  exact h (ByteArray.ext (Array.toList_inj.1 e))
 have h1:s.toList.isEmpty=false:=by simpa using h0
 exact ⟨by simpa using h0,by simpa using h0,h1,h1⟩
theorem em_nil:emB ⟨#[]⟩=true:=by unfold emB;rw[Lib.toList_data];rfl
def zB (i:Int):Bool:=decide (i=0)
theorem z_facts {i:Int} (h:¬ i=0):(i == 0)=false∧((0:Int) == i)=false∧zB i=false:=⟨by simpa using h,by simpa using fun e=>h e.symm,decide_eq_false h⟩
theorem z_nil:zB 0=true:=rfl
def spanB (f t:Int):Bool:=decide (0≤f)&&decide (f<t)&&decide (t≤1099511627776)
open Classical in
noncomputable def rdB (s:ByteArray):Bool:=decide (∃ l,RbAns s l true)
open Classical in
theorem rdB_is {s:ByteArray} {l:List Pnt} {ok:Bool} (h:RbAns s l ok):rdB s=ok:=by
 unfold rdB
 cases ok
 ·exact decide_eq_false fun ⟨m,hm⟩=>by have:=(h.one hm).2;cases this
 ·exact decide_eq_true ⟨l,h⟩
open Classical in
noncomputable def keyB (s:ByteArray):Bool:=decide (KOk s)
noncomputable def opOk (x:Opx):Bool :=
 if x.kind=1 then spanB x.frm x.til&&emB x.key&&emB x.data
 else if x.kind=2∨x.kind=6 then inRg x.frm 0 1099511627776&&emB x.key&&zB x.til&&emB x.data
 else if x.kind=3 then inRg x.frm 0 100000&&emB x.key&&zB x.til&&emB x.data
 else if x.kind=4 then keyB x.key&&rdB x.data&&zB x.frm&&zB x.til
 else if x.kind=5 then keyB x.key&&spanB x.frm x.til&&emB x.data
 else if x.kind=7 then emB x.key&&zB x.frm&&zB x.til&&emB x.data
 else false
set_option maxHeartbeats 400000 in
theorem implSpanOk (f t:Int) (w:World):Calls Tryd.prog 13 #[.int .i64 f,.int .i64 t] w fun e w'=>e=.returned (.bool (spanB f t))∧w=w':=by
 unfold spanB
 by_cases h1:0≤f
 ·rw[decide_eq_true h1]
  by_cases h2:f<t
  ·rw[decide_eq_true h2]
   by_cases h3:t≤1099511627776
   ·rw[decide_eq_true h3]
    go_enter Tryd.func13,Tryd.ntmps13
    go_wp2
    go_ret
    exact ⟨rfl,rfl⟩
   ·have d:decide (t≤1099511627776)=false:=decide_eq_false h3
    rw[d]
    go_enter Tryd.func13,Tryd.ntmps13
    go_wp2
    go_ret
    exact ⟨rfl,rfl⟩
  ·have d:decide (f<t)=false:=decide_eq_false h2
   rw[d]
   go_enter Tryd.func13,Tryd.ntmps13
   go_wp2
   go_ret
   exact ⟨rfl,rfl⟩
 ·have d:decide (0≤f)=false:=decide_eq_false h1
  rw[d]
  go_enter Tryd.func13,Tryd.ntmps13
  go_wp2
  go_ret
  exact ⟨rfl,rfl⟩
end Go.Proofs.YtedmdilabbolaaaDoor
namespace Go.Proofs.YtedmdilabbolaaaDoor
open Go.ChangeShapes Go.WideShapes Go.ChangeAt Go.RowKit Go.PlainAid
set_option linter.unusedVariables false
def mapK (k:Int):Int:=if k=1 then 4 else if k=2 then 5 else if k=3 then 2 else if k=4 then 3 else 0
noncomputable def callOk (x:Opx):Bool:=opOk ⟨mapK x.kind,x.key,x.frm,x.til,x.data⟩
theorem mapK_facts {k:Int} (h1:¬ k=1) (h2:¬ k=2) (h3:¬ k=3) (h4:¬ k=4):mapK k=0:=by
 unfold mapK
 rw[if_neg h1,if_neg h2,if_neg h3,if_neg h4]
structure Rtr where
 id:Int
 sers:List Int
 busy:Bool
 call:Opx
 begun:Int
 legs:List Lgx
 todo:List Tdo
def vRtr (x:Rtr) (us ul ut:Value):Value:=.agg #[.int .i64 x.id,us,.bool x.busy,.int .i64 x.call.kind,.string x.call.key,.int .i64 x.call.frm,.int .i64 x.call.til,.string x.call.data,.int .i64 x.begun,ul,ut]
def RtrV (w:World) (B:Nat) (v:Value) (x:Rtr):Prop:=∃ us ul ut,v=vRtr x us ul ut∧NumsV w B us x.sers∧Lies w B 11 ul (lgxR x.legs)∧Lies w B 6 ut (tdoR x.todo)
theorem RtrV.on {w w':World} {B:Nat} {v:Value} {x:Rtr} (h:RtrV w B v x) (hb:Below B w w'):RtrV w' B v x:=by
 obtain ⟨us,ul,ut,e,h1,h2,h3⟩:=h
 exact ⟨us,ul,ut,e,h1.on hb,h2.on hb,h3.on hb⟩
theorem RtrV.mono {w:World} {B C:Nat} {v:Value} {x:Rtr} (h:RtrV w B v x) (hB:B≤C):RtrV w C v x:=by
 obtain ⟨us,ul,ut,e,h1,h2,h3⟩:=h
 exact ⟨us,ul,ut,e,h1.mono hB,h2.mono hB,h3.mono hB⟩
end Go.Proofs.YtedmdilabbolaaaDoor
namespace Go.Proofs.YtedmdilabbolaaaDoor
open Go.ChangeShapes Go.WideShapes Go.ChangeAt Go.RowKit Go.PlainAid
set_option linter.unusedVariables false
def wtD1 (x:Tdo):Nat:=x.key.size+x.data.size
def wtD:List Tdo→Nat
 | []=>0
 | x::r=>wtD1 x+wtD r
def wtG1 (x:Lgx):Nat:=x.key.size+x.data.size+x.told.size
def wtG:List Lgx→Nat
 | []=>0
 | x::r=>wtG1 x+wtG r
end Go.Proofs.YtedmdilabbolaaaDoor
namespace Go.Proofs.YtedmdilabbolaaaDoor
open Go.ChangeShapes Go.WideShapes Go.ChangeAt Go.RowKit Go.PlainAid
set_option linter.unusedVariables false
set_option maxHeartbeats 400000 in
theorem szCall (x:Opx) (left:Int) (w:World) (h0:0≤left) (h1:left≤1048576) (hx:OpFit x) :
  Calls Tryd.prog 4 #[vOp x,.int .i64 left] w fun e w'=>(∃ r,e=.returned (.int .i64 r)∧Hid (r=-1∨0≤r∧r+(x.key.size:Int)+(x.data.size:Int)=left))∧Below w.heap.size w w':=by
 unfold OpFit maxLen at hx
 unfold vOp
 obtain ⟨xk,xkey,xf,xt,xdata⟩:=x
 simp only at hx ⊢
 generalize hm:xkey.size=m at *
 generalize hn:xdata.size=n at *
 have q0:(m:Int)≤9223372036854775807:=by omega
 have q1:(n:Int)≤9223372036854775807:=by omega
 have w1:wrap64 (left - (m:Int))=left - (m:Int):=by unfold wrap64;omega
 by_cases hl:left<(m:Int)
 ·have HL:Hid (left<(m:Int)):=hl
  have q2:left - (m:Int)<0:=by omega
  go_enter Tryd.func4,Tryd.ntmps4
  go_wp2
  go_ret
  exact ⟨⟨_,rfl,.inl rfl⟩,(Below.refl _ _).alloc (Nat.le_refl _) _⟩
 ·have q2:0≤left - (m:Int):=by omega
  have q3:decide (left - (m:Int)<0)=false:=decide_eq_false (by omega)
  have w2:wrap64 (left - (m:Int) - (n:Int))=left - (m:Int) - (n:Int):=by unfold wrap64;omega
  by_cases hl2:left - (m:Int)<(n:Int)
  ·have q4:left - (m:Int) - (n:Int)<0:=by omega
   go_enter Tryd.func4,Tryd.ntmps4
   go_wp2
   go_ret
   exact ⟨⟨_,rfl,.inl rfl⟩,(Below.refl _ _).alloc (Nat.le_refl _) _⟩
  ·have HL:Hid (0≤left - (m:Int) - (n:Int)):=by unfold Hid;omega
   have q4:decide (left - (m:Int) - (n:Int)<0)=false:=decide_eq_false (by omega)
   go_enter Tryd.func4,Tryd.ntmps4
   go_wp2
   go_ret
   exact ⟨⟨_,rfl,.inr ⟨by have:=HL.out;omega,by omega⟩⟩,(Below.refl _ _).alloc (Nat.le_refl _) _⟩
set_option maxHeartbeats 400000 in
theorem toCall (x:Opx) (w:World):Calls Tryd.prog 6 #[vOp x] w fun e w'=>e=.returned (vOp x)∧Below w.heap.size w w':=by
 unfold vOp
 go_enter Tryd.func6,Tryd.ntmps6
 go_wp2
 exact bodyPost_ret (v:=.agg #[.int .i64 x.kind,.string x.key,.int .i64 x.frm,.int .i64 x.til,.string x.data]) (by simp[results,go_sem]) rfl ⟨rfl,below_a3 _ _ _ _⟩
def wtR (x:Rtr):Nat:=x.sers.length+(x.call.key.size+x.call.data.size)+(x.legs.length+wtG x.legs)+(x.todo.length+wtD x.todo)
structure ShortR (x:Rtr):Prop where
 s:x.sers.length≤1048576
 k:x.call.key.size≤1048576
 d:x.call.data.size≤1048576
 l:x.legs.length≤1048576
 t:x.todo.length≤1048576
 lx:∀ y∈x.legs,y.key.size≤1048576∧y.data.size≤1048576∧y.told.size≤1048576
 tx:∀ y∈x.todo,y.key.size≤1048576∧y.data.size≤1048576
theorem wtG_mem:∀ (l:List Lgx) (y:Lgx),y∈l→wtG1 y≤wtG l
 | x::r,y,h=>by
  unfold wtG
  rcases List.mem_cons.1 h with rfl | h
  ·omega
  ·have:=wtG_mem r y h;omega
theorem wtD_mem:∀ (l:List Tdo) (y:Tdo),y∈l→wtD1 y≤wtD l
 | x::r,y,h=>by
  unfold wtD
  rcases List.mem_cons.1 h with rfl | h
  ·omega
  ·have:=wtD_mem r y h;omega
theorem ShortR.of {x:Rtr} (h:wtR x≤1048576):ShortR x:=by
 unfold wtR at h
 refine ⟨by omega,by omega,by omega,by omega,by omega,fun y hy=>?_,fun y hy=>?_⟩
 ·have:=wtG_mem _ _ hy;unfold wtG1 at this;omega
 ·have:=wtD_mem _ _ hy;unfold wtD1 at this;omega
end Go.Proofs.YtedmdilabbolaaaDoor
namespace Go.Proofs.YtedmdilabbolaaaDoor
open Go.ChangeShapes Go.WideShapes Go.ChangeAt Go.RowKit Go.PlainAid
set_option linter.unusedVariables false
set_option maxHeartbeats 1000000 in
theorem implValuesOk (l:List Int) (v:Value) (w:World) (B:Nat) (hv:NumsV w B v l) (hn:l.length≤1048576):Calls Tryd.prog 63 #[v] w fun e w'=>e=.returned (.bool (decide (VOk l)))∧w=w':=by
 obtain ⟨A,cap,rfl,_,_,hl⟩:=hv
 have HL:Hid (∀ j,j<l.length→∃ g off,A=some ⟨g,off,none⟩∧g<B∧_):=hl
 have HD:Hid (∀ b,(b=true↔VOk l)→decide (VOk l)=b):=by
  intro b hb
  cases b
  ·exact decide_eq_false fun h=>by simp[h] at hb
  ·exact decide_eq_true (hb.1 rfl)
 have HV:Hid (VOk l↔1≤l.length∧l.length≤60∧∀ j,j<l.length→-1099511627776≤l.getD j 0∧l.getD j 0≤1099511627776):=Iff.rfl
 have q0:(l.length:Int)≤1048576:=by omega
 clear hl hn
 generalize hN:l.length=n at *
 clear hN
 by_cases h1:(n:Int)<1
 ·go_enter Tryd.func63,Tryd.ntmps63
  go_wp2
  go_ret
  refine ⟨?_,rfl⟩
  rw[HD.out false]
  ·rfl
  rw[HV.out]
  constructor
  ·intro h;cases h
  ·intro h;omega
 by_cases h2:(60:Int)<(n:Int)
 ·go_enter Tryd.func63,Tryd.ntmps63
  go_wp2
  go_ret
  refine ⟨?_,rfl⟩
  rw[HD.out false]
  ·rfl
  rw[HV.out]
  constructor
  ·intro h;cases h
  ·intro h;omega
 go_enter Tryd.func63,Tryd.ntmps63
 go_wp2
 go_loop [15] (fun v15=>∃ k:Nat,k≤n∧v15=.int .i64 (k:Int)∧Hid (∀ j,j<k→-1099511627776≤l.getD j 0∧l.getD j 0≤1099511627776)) (fun i=>n - (intOf i).toNat)
 case atStart=>exact ⟨0,by omega,rfl,fun j hj=>by omega⟩
 case round =>
  obtain ⟨k,hk,rfl,HJ⟩:=hrel
  by_cases hlt:k<n
  ·have q2:(k:Int)<(n:Int):=by omega
   obtain ⟨g,off,rfl,_,e1⟩:=HL.out k hlt
   have HX:Hid (l.getD k 0=l.getD k 0):=rfl
   generalize hx:l.getD k 0=x at *
   have HXX:Hid (l.getD k 0=x):=hx
   clear hx HX
   by_cases c1:x < -1099511627776
   ·go_wp2
    go_ret
    refine ⟨?_,rfl⟩
    rw[HD.out false]
    ·rfl
    rw[HV.out]
    constructor
    ·intro h;cases h
    ·intro h;have:=h.2.2 k hlt;rw[HXX.out] at this;omega
   by_cases c2:1099511627776<x
   ·go_wp2
    go_ret
    refine ⟨?_,rfl⟩
    rw[HD.out false]
    ·rfl
    rw[HV.out]
    constructor
    ·intro h;cases h
    ·intro h;have:=h.2.2 k hlt;rw[HXX.out] at this;omega
   go_wp2
   go_round
   case rel =>
    refine ⟨k+1,by omega,by go_num,fun j hj=>?_⟩
    by_cases e:j=k
    ·subst e;rw[HXX.out];omega
    ·exact HJ.out j (by omega)
   case measure=>simp[intOf];omega
  ·have hkk:k=n:=by omega
   subst hkk
   go_wp2
   go_ret
   refine ⟨?_,rfl⟩
   rw[HD.out true]
   ·rfl
   rw[HV.out]
   exact ⟨fun _=>⟨by omega,by omega,HJ.out⟩,fun _=>rfl⟩
set_option maxHeartbeats 1000000 in
theorem implTimesOk (l:List Int) (v:Value) (w:World) (B:Nat) (hv:NumsV w B v l) (hn:l.length≤1048576):Calls Tryd.prog 56 #[v] w fun e w'=>e=.returned (.bool (decide (TOk l)))∧w=w':=by
 obtain ⟨A,cap,rfl,_,_,hl⟩:=hv
 have HL:Hid (∀ j,j<l.length→∃ g off,A=some ⟨g,off,none⟩∧g<B∧_):=hl
 have HD:Hid (∀ b,(b=true↔TOk l)→decide (TOk l)=b):=by
  intro b hb
  cases b
  ·exact decide_eq_false fun h=>by simp[h] at hb
  ·exact decide_eq_true (hb.1 rfl)
 have HV:Hid (TOk l↔1≤l.length∧l.length≤60∧∀ j,j<l.length→(0≤l.getD j 0∧l.getD j 0≤1099511627776)∧(0<j→l.getD (j - 1) 0<l.getD j 0)):=Iff.rfl
 have q0:(l.length:Int)≤1048576:=by omega
 clear hl hn
 generalize hN:l.length=n at *
 clear hN
 by_cases h1:(n:Int)<1
 ·go_enter Tryd.func56,Tryd.ntmps56
  go_wp2
  go_ret
  refine ⟨?_,rfl⟩
  rw[HD.out false]
  ·rfl
  rw[HV.out]
  constructor
  ·intro h;cases h
  ·intro h;omega
 by_cases h2:(60:Int)<(n:Int)
 ·go_enter Tryd.func56,Tryd.ntmps56
  go_wp2
  go_ret
  refine ⟨?_,rfl⟩
  rw[HD.out false]
  ·rfl
  rw[HV.out]
  constructor
  ·intro h;cases h
  ·intro h;omega
 go_enter Tryd.func56,Tryd.ntmps56
 go_wp2
 go_loop [3,16] (fun v3 v16=>∃ (k:Nat) (m:Int),k≤n∧v16=.int .i64 (k:Int)∧v3=.int .i64 m∧0≤m∧m≤1099511627777∧Hid ((k=0→m=0)∧(0<k→m=l.getD (k - 1) 0+1))∧Hid (∀ j,j<k→(0≤l.getD j 0∧l.getD j 0≤1099511627776)∧(0<j→l.getD (j - 1) 0<l.getD j 0))) (fun _ i=>n - (intOf i).toNat)
 case atStart=>exact ⟨0,0,by omega,rfl,rfl,by omega,by omega,⟨fun _=>rfl,fun h=>by omega⟩,fun j hj=>by omega⟩
 case round =>
  obtain ⟨k,m,hk,rfl,rfl,hm0,hm1,HM,HJ⟩:=hrel
  by_cases hlt:k<n
  ·have q2:(k:Int)<(n:Int):=by omega
   obtain ⟨g,off,rfl,_,e1⟩:=HL.out k hlt
   generalize hx:l.getD k 0=x at *
   have HXX:Hid (l.getD k 0=x):=hx
   clear hx
   have HM2:Hid (m≤x↔(0≤x∧(0<k→l.getD (k - 1) 0<x))):=by
    obtain ⟨m1,m2⟩:=HM.out
    unfold Hid
    by_cases hk0:k=0
    ·rw[m1 hk0]
     constructor
     ·intro h;exact ⟨h,fun h=>by omega⟩
     ·intro h;exact h.1
    ·have:=m2 (by omega)
     constructor
     ·intro h;exact ⟨by omega,fun _=>by omega⟩
     ·intro h;have:=h.2 (by omega);omega
   by_cases c1:x<m
   ·go_wp2
    go_ret
    refine ⟨?_,rfl⟩
    rw[HD.out false]
    ·rfl
    rw[HV.out]
    constructor
    ·intro h;cases h
    ·intro h;have:=h.2.2 k hlt;rw[HXX.out] at this;have:=HM2.out.2 ⟨this.1.1,this.2⟩;omega
   by_cases c2:1099511627776<x
   ·go_wp2
    go_ret
    refine ⟨?_,rfl⟩
    rw[HD.out false]
    ·rfl
    rw[HV.out]
    constructor
    ·intro h;cases h
    ·intro h;have:=h.2.2 k hlt;rw[HXX.out] at this;omega
   go_wp2
   go_round
   case rel =>
    refine ⟨k+1,x+1,by omega,by go_num,by go_num,by omega,by omega,⟨fun h=>by omega,fun _=>by rw[Nat.add_sub_cancel,HXX.out]⟩,fun j hj=>?_⟩
    by_cases e:j=k
    ·subst e
     rw[HXX.out]
     have:=HM2.out.1 (by omega)
     exact ⟨⟨this.1,by omega⟩,this.2⟩
    ·exact HJ.out j (by omega)
   case measure=>simp[intOf];omega
  ·have hkk:k=n:=by omega
   subst hkk
   go_wp2
   go_ret
   refine ⟨?_,rfl⟩
   rw[HD.out true]
   ·rfl
   rw[HV.out]
   exact ⟨fun _=>⟨by omega,by omega,HJ.out⟩,fun _=>rfl⟩
set_option maxHeartbeats 1000000 in
theorem specValuesOk (l:List Int) (v:Value) (w:World) (B:Nat) (hv:NumsV w B v l) (hn:l.length≤1048576):Calls Tryd.prog 50 #[v] w fun e w'=>e=.returned (.bool (decide (VOk l)))∧w=w':=by
 obtain ⟨A,cap,rfl,_,_,hl⟩:=hv
 have HL:Hid (∀ j,j<l.length→∃ g off,A=some ⟨g,off,none⟩∧g<B∧_):=hl
 have HD:Hid (∀ b,(b=true↔VOk l)→decide (VOk l)=b):=by
  intro b hb
  cases b
  ·exact decide_eq_false fun h=>by simp[h] at hb
  ·exact decide_eq_true (hb.1 rfl)
 have HV:Hid (VOk l↔1≤l.length∧l.length≤60∧∀ j,j<l.length→-1099511627776≤l.getD j 0∧l.getD j 0≤1099511627776):=Iff.rfl
 have q0:(l.length:Int)≤1048576:=by omega
 clear hl hn
 generalize hN:l.length=n at *
 clear hN
 by_cases h1:(n:Int)<1∨(60:Int)<(n:Int)
 ·have c:=fun wx=>in_no (n:Int) 1 60 wx h1
  have H1:Hid ((n:Int)<1∨(60:Int)<(n:Int)):=h1
  clear h1
  go_enter Tryd.func50,Tryd.ntmps50
  go_wp2_with (go_at_call 10;refine (c _).mono ?_;rintro e w' ⟨rfl,rfl⟩)
  go_ret
  refine ⟨?_,rfl⟩
  rw[HD.out false]
  ·rfl
  rw[HV.out]
  constructor
  ·intro h;cases h
  ·intro h;have:=H1.out;omega
 have c:=fun wx=>in_yes (n:Int) 1 60 wx (by omega) (by omega)
 have q1:(n:Int)≤60:=by omega
 have q11:(1:Int)≤(n:Int):=by omega
 clear h1
 go_enter Tryd.func50,Tryd.ntmps50
 go_wp2_with (go_at_call 10;refine (c _).mono ?_;rintro e w' ⟨rfl,rfl⟩)
 go_loop [3] (fun v3=>∃ k:Nat,k≤n∧v3=.int .i64 (k:Int)∧Hid (∀ j,j<k→-1099511627776≤l.getD j 0∧l.getD j 0≤1099511627776)) (fun i=>n - (intOf i).toNat)
 case atStart=>exact ⟨0,by omega,rfl,fun j hj=>by omega⟩
 case round =>
  obtain ⟨k,hk,rfl,HJ⟩:=hrel
  by_cases hlt:k<n
  ·have q2:(k:Int)<(n:Int):=by omega
   obtain ⟨g,off,rfl,_,e1⟩:=HL.out k hlt
   generalize hx:l.getD k 0=x at *
   have HXX:Hid (l.getD k 0=x):=hx
   clear hx
   by_cases c1:x < -1099511627776∨1099511627776<x
   ·have c2:=fun wx=>in_no x (-1099511627776) 1099511627776 wx c1
    have H1:Hid (x < -1099511627776∨1099511627776<x):=c1
    clear c1
    go_wp2_with (go_at_call 10;refine (c2 _).mono ?_;rintro e w' ⟨rfl,rfl⟩)
    go_ret
    refine ⟨?_,rfl⟩
    rw[HD.out false]
    ·rfl
    rw[HV.out]
    constructor
    ·intro h;cases h
    ·intro h;have:=h.2.2 k hlt;rw[HXX.out] at this;have:=H1.out;omega
   have c2:=fun wx=>in_yes x (-1099511627776) 1099511627776 wx (by omega) (by omega)
   have H1:Hid (¬ (x < -1099511627776∨1099511627776<x)):=c1
   clear c1
   go_wp2_with (go_at_call 10;refine (c2 _).mono ?_;rintro e w' ⟨rfl,rfl⟩)
   go_round
   case rel =>
    refine ⟨k+1,by omega,by go_num,fun j hj=>?_⟩
    by_cases e:j=k
    ·subst e;rw[HXX.out];have:=H1.out;omega
    ·exact HJ.out j (by omega)
   case measure=>simp[intOf];omega
  ·have hkk:k=n:=by omega
   subst hkk
   go_wp2
   go_ret
   refine ⟨?_,rfl⟩
   rw[HD.out true]
   ·rfl
   rw[HV.out]
   exact ⟨fun _=>⟨by omega,by omega,HJ.out⟩,fun _=>rfl⟩
end Go.Proofs.YtedmdilabbolaaaDoor
namespace Go.Proofs.YtedmdilabbolaaaDoor
open Go.ChangeShapes Go.WideShapes Go.ChangeAt Go.RowKit Go.PlainAid
set_option linter.unusedVariables false
set_option maxHeartbeats 1000000 in
theorem specRise (l:List Int) (v:Value) (w:World) (B:Nat) (hv:NumsV w B v l) (hn:l.length≤1048576):Calls Tryd.prog 48 #[v] w fun e w'=>e=.returned (.bool (decide (TOk l)))∧Like w w':=by
 obtain ⟨A,cap,rfl,_,_,hl⟩:=hv
 have HL:Hid (∀ j,j<l.length→∃ g off,A=some ⟨g,off,none⟩∧g<B∧_):=hl
 have HD:Hid (∀ b,(b=true↔TOk l)→decide (TOk l)=b):=by
  intro b hb
  cases b
  ·exact decide_eq_false fun h=>by simp[h] at hb
  ·exact decide_eq_true (hb.1 rfl)
 have HV:Hid (TOk l↔1≤l.length∧l.length≤60∧∀ j,j<l.length→(0≤l.getD j 0∧l.getD j 0≤1099511627776)∧(0<j→l.getD (j - 1) 0<l.getD j 0)):=Iff.rfl
 have q0:(l.length:Int)≤1048576:=by omega
 clear hl hn
 generalize hN:l.length=n at *
 clear hN
 by_cases h1:(n:Int)<1∨(60:Int)<(n:Int)
 ·have c:=fun wx=>in_no (n:Int) 1 60 wx h1
  have H1:Hid ((n:Int)<1∨(60:Int)<(n:Int)):=h1
  clear h1
  go_enter Tryd.func48,Tryd.ntmps48
  go_wp2_with (go_at_call 10;refine (c _).mono ?_;rintro e w' ⟨rfl,rfl⟩)
  go_ret
  refine ⟨?_,Like.refl _⟩
  rw[HD.out false]
  ·rfl
  rw[HV.out]
  constructor
  ·intro h;cases h
  ·intro h;have:=H1.out;omega
 have c:=fun wx=>in_yes (n:Int) 1 60 wx (by omega) (by omega)
 have q1:(n:Int)≤60:=by omega
 have q11:(1:Int)≤(n:Int):=by omega
 clear h1
 go_enter Tryd.func48,Tryd.ntmps48
 go_wp2_with (go_at_call 10;refine (c _).mono ?_;rintro e w' ⟨rfl,rfl⟩)
 go_loopw [3] (fun v3 wr=>∃ k:Nat,k≤n∧v3=.int .i64 (k:Int)∧Like w wr∧Hid (∀ j,j<k→(0≤l.getD j 0∧l.getD j 0≤1099511627776)∧(0<j→l.getD (j - 1) 0<l.getD j 0))) (fun i _=>n - (intOf i).toNat)
 case atStart=>exact ⟨0,by omega,rfl,Like.refl _,fun j hj=>by omega⟩
 case round =>
  obtain ⟨k,hk,rfl,hLk,HJ⟩:=hrel
  by_cases hlt:k<n
  ·have q2:(k:Int)<(n:Int):=by omega
   obtain ⟨g,off,rfl,_,e1⟩:=HL.out k hlt
   obtain ⟨g',off',eA,_,e0⟩:=HL.out (k - 1) (by omega)
   injection eA with eA
   injection eA with eA1 eA2
   subst eA1
   subst eA2
   rw[← cell?_heap hLk.1] at e1 e0
   generalize hx:l.getD k 0=x at *
   have HXX:Hid (l.getD k 0=x):=hx
   clear hx
   generalize hy:l.getD (k - 1) 0=y at *
   have HYY:Hid (l.getD (k - 1) 0=y):=hy
   clear hy
   by_cases c1:x<0∨1099511627776<x
   ·have c2:=fun wx=>in_no x 0 1099511627776 wx c1
    have H1:Hid (x<0∨1099511627776<x):=c1
    clear c1
    go_wp2_with fail
    go_quiet ((go_at_call 10;exact Calls.quiet_of_same ((c2 _).mono fun _ _ h=>⟨h.1,h.2.symm⟩)))
    go_wp2_with fail
    go_ret
    refine ⟨?_,hLk.drewN _⟩
    rw[HD.out false]
    ·rfl
    rw[HV.out]
    constructor
    ·intro h;cases h
    ·intro h;have:=h.2.2 k hlt;rw[HXX.out] at this;have:=H1.out;omega
   have c2:=fun wx=>in_yes x 0 1099511627776 wx (by omega) (by omega)
   have H1:Hid (¬ (x<0∨1099511627776<x)):=c1
   clear c1
   by_cases hk0:k=0
   ·have d0:decide ((0:Int)<(k:Int))=false:=decide_eq_false (by omega)
    have d1:decide (0<k)=false:=decide_eq_false (by omega)
    have HK0:Hid (k=0):=hk0
    clear e0 hk0
    go_wp2_with fail
    go_quiet ((go_at_call 10;exact Calls.quiet_of_same ((c2 _).mono fun _ _ h=>⟨h.1,h.2.symm⟩)))
    go_wp2_with fail
    go_roundw
    case rel =>
     refine ⟨k+1,by omega,by go_num,hLk.drewN _,fun j hj=>?_⟩
     have hk0:=HK0.out
     obtain rfl:j=k:=by omega
     rw[HXX.out]
     have:=H1.out
     exact ⟨by omega,fun h=>by omega⟩
    case measure=>simp[intOf];omega
   have q3:(0:Int)<(k:Int):=by omega
   have q4:decide (0<k)=true:=decide_eq_true (by omega)
   have q5:0<k:=by omega
   have e3:((k:Int) - 1).toNat=k - 1:=by omega
   by_cases c3:x≤y
   ·go_wp2_with fail
    go_quiet ((go_at_call 10;exact Calls.quiet_of_same ((c2 _).mono fun _ _ h=>⟨h.1,h.2.symm⟩)))
    go_wp2_with fail
    go_ret
    refine ⟨?_,hLk.drewN _⟩
    rw[HD.out false]
    ·rfl
    rw[HV.out]
    constructor
    ·intro h;cases h
    ·intro h;have:=(h.2.2 k hlt).2 (by omega);rw[HXX.out,HYY.out] at this;omega
   ·have d1:decide (x≤y)=false:=decide_eq_false c3
    go_wp2_with fail
    go_quiet ((go_at_call 10;exact Calls.quiet_of_same ((c2 _).mono fun _ _ h=>⟨h.1,h.2.symm⟩)))
    go_wp2_with fail
    go_roundw
    case rel =>
     refine ⟨k+1,by omega,by go_num,hLk.drewN _,fun j hj=>?_⟩
     by_cases e:j=k
     ·subst e
      rw[HXX.out,HYY.out]
      have:=H1.out
      exact ⟨by omega,fun _=>by omega⟩
     ·exact HJ.out j (by omega)
    case measure=>simp[intOf];omega
  ·have hkk:k=n:=by omega
   subst hkk
   go_wp2
   go_ret
   refine ⟨?_,hLk⟩
   rw[HD.out true]
   ·rfl
   rw[HV.out]
   exact ⟨fun _=>⟨by omega,by omega,HJ.out⟩,fun _=>rfl⟩
end Go.Proofs.YtedmdilabbolaaaDoor
namespace Go.Proofs.YtedmdilabbolaaaDoor
open Go.ChangeShapes Go.WideShapes Go.ChangeAt Go.RowKit Go.PlainAid
set_option linter.unusedVariables false
set_option maxHeartbeats 1000000 in
theorem differencesV (l:List Int) (v:Value) (w:World) (B:Nat) (F:Nat) (caps:Array Value) (Inv:Nat→World→Prop)
  (hF:∀ args w,(callFunc F args).run Tryd.prog w=.ok (.enter F args) w) (hn:l.length≤1048576) (hd:∀ k,k<l.length→-4611686018427387904≤dif l k∧dif l k≤4611686018427387904)
  (hv:∀ k wx,Inv k wx→NumsV wx B v l) (h0:Inv 0 w)
  (hC:∀ k,k<l.length→∀ wx,Inv k wx→Calls Tryd.prog F (#[.int .i64 (k:Int),.int .i64 (dif l k)]++caps) wx fun e w'=>(∃ u,e=.returned u)∧Inv (k+1) w') :
  Calls Tryd.prog 57 #[v,.func (.func F) #[] caps] w fun e w'=>(∃ u,e=.returned u)∧Inv l.length w':=by
 have HV:Hid (∀ k wx,Inv k wx→NumsV wx B v l):=hv
 have HC:Hid (∀ k,k<l.length→∀ wx,Inv k wx→Calls Tryd.prog F (#[.int .i64 (k:Int),.int .i64 (dif l k)]++caps) wx fun e w'=>(∃ u,e=.returned u)∧Inv (k+1) w'):=hC
 have HD:Hid (∀ k,k<l.length→-4611686018427387904≤dif l k∧dif l k≤4611686018427387904):=hd
 obtain ⟨A,cap,rfl,_,_,hl⟩:=hv 0 w h0
 have q0:(l.length:Int)≤1048576:=by omega
 clear hl hn hd hv hC
 generalize hN:l.length=n at *
 have HN:Hid (l.length=n):=hN
 clear hN
 go_enter Tryd.func57,Tryd.ntmps57
 go_wp2
 go_loopw [4,9] (fun v4 v9 wr=>∃ k:Nat,k≤n∧v9=.int .i64 (k:Int)∧v4=.int .i64 (prv l k)∧Inv k wr) (fun _ i _=>n - (intOf i).toNat)
 case atStart=>exact ⟨0,by omega,rfl,rfl,h0⟩
 case round =>
  obtain ⟨k,hk,rfl,rfl,hI⟩:=hrel
  by_cases hlt:k<n
  ·have q2:(k:Int)<(n:Int):=by omega
   obtain ⟨A',cap',e',_,_,hl⟩:=HV.out k wr hI
   injection e' with ea eb ec
   subst ea
   subst ec
   obtain ⟨g,off,rfl,_,e1⟩:=hl k (by rw[HN.out];exact hlt)
   have hdk:=HD.out k hlt
   have cC:=HC.out k hlt wr hI
   have HP:Hid (prv l (k+1)=l.getD k 0):=prv_succ l k
   have ed:dif l k=l.getD k 0 - prv l k:=rfl
   rw[ed] at hdk cC
   generalize l.getD k 0=x at *
   generalize prv l k=y at *
   have hw:wrap64 (x - y)=x - y:=by unfold wrap64;omega
   clear hl eb ed
   go_wp2_with fail
   refine cC.mono ?_
   rintro e w1 ⟨⟨u,rfl⟩,hI1⟩
   go_wp2_with fail
   go_roundw
   case rel=>exact ⟨k+1,by omega,by go_num,by rw[HP.out],hI1⟩
   case measure=>simp[intOf];omega
  ·obtain rfl:k=n:=by omega
   go_wp2_with fail
   exact bodyPost_end (v:=.tuple #[]) (by simp[results,go_sem]) rfl ⟨⟨_,rfl⟩,hI⟩
theorem strCells_append (a b:ByteArray):Lib.strCells (a++b)=Lib.strCells a++Lib.strCells b:=by simp[Lib.strCells,ByteArray.data_append]
theorem strCells_txt (l m:List UInt8):Lib.strCells (txt (l++m))=Lib.strCells (txt l)++Lib.strCells (txt m):=by rw[← txt_cat,strCells_append]
theorem bld_on {w w':World} {B b:Nat} {bs:List Value} (h:Lib.IsBuilderF 76 5 B b bs w) (hb:Below w.heap.size w w'):Lib.IsBuilderF 76 5 B b bs w':=by
 have key:∀ p,Lib.BuilderAtF 76 5 B b p bs w→Lib.BuilderAtF 76 5 B b p bs w':=by
  rintro p ⟨hB,v,hh,hown,hne⟩
  refine ⟨hB,v,by rw[hb.block b (lt_of_block hh)];exact hh,⟨hown.1,?_⟩,hne⟩
  rcases hown.2 with h | ⟨g,cap,cur,fz,rfl,hbg,hg,rest⟩
  ·exact .inl h
  ·refine .inr ⟨g,cap,cur,fz,rfl,hbg,?_,rest⟩
   rw[hb.block g (Array.getElem?_eq_some_iff.1 hg).1]
   exact hg
 exact h.imp (key _) (key _)
theorem bld_new {w:World} {b:Nat} (h:w.heap[b]?=some (.cells #[.pointer none,.slice none 0 0] 76 (0,0))):Lib.IsBuilderF 76 5 b b (Lib.strCells ByteArray.empty) w :=
 .inl ⟨Nat.le_refl _,.slice none 0 0,h,⟨rfl,.inl ⟨rfl,rfl⟩⟩,fun e=>by cases e⟩
def Bld (gb:Nat) (l:List UInt8) (w:World):Prop:=Lib.IsBuilderF 76 5 gb gb (Lib.strCells (txt l)) w
theorem Bld.on {gb:Nat} {l:List UInt8} {w w':World} (h:Bld gb l w) (hb:Below w.heap.size w w'):Bld gb l w':=bld_on h hb
theorem bldWriteT (gb:Nat) (l m:List UInt8) (w:World) (h:Bld gb l w) (hlen:l.length+m.length≤1048576) (hBw:gb≤w.heap.size) :
  Calls Tryd.prog 59 #[.pointer (some ⟨gb,0,none⟩),.string (txt m)] w fun e w'=>e=.returned (.tuple #[.int .i64 (m.length:Int),.nilIface])∧Bld gb (l++m) w'∧Below gb w w'∧Lib.OthersKept 5 (some gb) w w':=by
 refine (bldWrite gb gb _ (txt m) w h (by rw[Lib.strCells_length];have h1:=txt_size l;have h2:=txt_size m;omega) hBw).mono ?_
 rintro e w' ⟨rfl,h1,h2,h3⟩
 refine ⟨by rw[txt_size],?_,h2,h3⟩
 unfold Bld
 rw[strCells_txt]
 exact .inr h1
theorem bldStringT (gb:Nat) (l:List UInt8) (w:World) (h:Bld gb l w) (hBw:gb≤w.heap.size) :
  Calls Tryd.prog 62 #[.pointer (some ⟨gb,0,none⟩)] w fun e w'=>e=.returned (.string (txt l))∧Below gb w w':=by
 have h':Lib.IsBuilderF 76 5 gb gb (Lib.byteCells l) w:=by
  have:Lib.strCells (txt l)=Lib.byteCells l:=by simp[Lib.strCells,Lib.byteCells,txt]
  rw[← this]
  exact h
 refine (bldString gb gb l w h' hBw).mono ?_
 rintro e w' ⟨rfl,_,h2,_⟩
 exact ⟨rfl,h2⟩
set_option maxHeartbeats 1000000 in
theorem specShowValues (l:List Int) (v:Value) (w:World) (B:Nat) (hv:NumsV w B v l) (hn:l.length≤1048576) (hB:B≤w.heap.size):Calls Tryd.prog 33 #[v] w fun e w'=>e=.returned (.string (showV l))∧Below w.heap.size w w':=by
 have c:=specValuesOk l v w B hv hn
 have HV:Hid (NumsV w B v l):=hv
 have HB:Hid (B≤w.heap.size):=hB
 obtain ⟨A,cap,rfl,_,_,_⟩:=hv
 by_cases ho:VOk l
 ·have HE:Hid (showV l=txt (cat (vPiece l) l.length)):=by unfold Hid showV;rw[if_pos ho]
  have HO:Hid (VOk l):=ho
  rw[decide_eq_true ho] at c
  have q0:(l.length:Int)≤60:=by have:=ho.2.1;omega
  clear ho hn hB
  generalize hN:l.length=n at *
  have HN:Hid (l.length=n):=hN
  clear hN
  go_enter Tryd.func33,Tryd.ntmps33
  go_wp2_with fail
  refine c.mono ?_
  rintro e w0 ⟨rfl,rfl⟩
  go_wp2_with fail
  go_loopw [3,4,5] (fun v3 v4 v5 wr=>∃ k:Nat,k≤n∧v5=.int .i64 (k:Int)∧v4=.int .i64 (prv l k)∧v3=.string (txt (cat (vPiece l) k))∧Below w.heap.size w wr) (fun _ _ i _=>n - (intOf i).toNat)
  case atStart=>exact ⟨0,by omega,rfl,rfl,rfl,Below.refl _ _⟩
  case round =>
   obtain ⟨k,hk,rfl,rfl,rfl,hb⟩:=hrel
   have HB1:Hid (Below w.heap.size w wr):=hb
   by_cases hlt:k<n
   ·have q2:(k:Int)<(n:Int):=by omega
    obtain ⟨A',cap',e',_,_,hl⟩:=HV.out.on (hb.mono HB.out)
    injection e' with ea eb ec
    subst ea
    subst ec
    obtain ⟨g,off,rfl,hgB,e1⟩:=hl k (by rw[HN.out];exact hlt)
    have hdk:=HO.out.dif k (by rw[HN.out];exact hlt)
    have cz:=fun wx=>spec_zig (dif l k) wx (by omega) (by omega)
    have hz0:=zig_pos (dif l k) (by omega) (by omega)
    have hz1:=(zig_range (dif l k)).2
    have cv:=fun wx=>spec_var (zig (dif l k)).toNat wx (by omega)
    rw[Int.toNat_of_nonneg hz0] at cv
    have HP:Hid (prv l (k+1)=l.getD k 0):=prv_succ l k
    have ed:dif l k=l.getD k 0 - prv l k:=rfl
    have ecat:cat (vPiece l) (k+1)=cat (vPiece l) k++vF 6 (zig (dif l k)).toNat:=cat_succ _ _
    have hl1:=cat_length (vPiece l) (vPiece_length l) k
    have hl2:=vF_length 6 (zig (dif l k)).toNat
    have HCT:Hid (txt (cat (vPiece l) (k+1))=txt (cat (vPiece l) k)++txt (vF 6 (zig (dif l k)).toNat)):=by unfold Hid;rw[ecat,txt_cat]
    have hs1:=txt_size (cat (vPiece l) k)
    have hs2:=txt_size (vF 6 (zig (dif l k)).toNat)
    generalize txt (cat (vPiece l) k)=sa at *
    generalize txt (vF 6 (zig (dif l k)).toNat)=sb at *
    have hsum:sa.size+sb.size≤9223372036854775807:=by omega
    generalize zig (dif l k)=z at *
    clear ecat hl1 hl2 hs1 hs2
    rw[ed] at hdk cz
    have he1:∀ wx,Below wr.heap.size wr wx→wx.cell? ⟨g,off+k,none⟩=some (.int .i64 (l.getD k 0)):=fun wx hx=>by rw[hx.cell (p:=⟨_,_,none⟩) (by have:=hb.size;have:=HB.out;show g<_;omega)];exact e1
    generalize l.getD k 0=x at *
    generalize prv l k=y at *
    have hw:wrap64 (x - y)=x - y:=by unfold wrap64;omega
    clear hl eb ed hb
    go_wp2_with fail
    refine (cz _).mono ?_
    rintro e w1 ⟨rfl,rfl⟩
    go_wp2_with fail
    refine (cv _).mono ?_
    rintro e w2 ⟨rfl,hb2⟩
    have e2:=he1 _ hb2
    have HB2:Hid (Below w.heap.size w w2):=HB1.out.trans (hb2.mono HB1.out.size)
    clear he1 hb2
    go_wp2_with fail
    go_roundw
    case rel=>exact ⟨k+1,by omega,by go_num,by rw[HP.out],by rw[HCT.out],HB2.out⟩
    case measure=>simp[intOf];omega
   ·obtain rfl:k=n:=by omega
    clear hb
    go_wp2_with fail
    go_ret
    exact ⟨by rw[HE.out];rfl,HB1.out⟩
 ·have HE:Hid (showV l=txt []):=by unfold Hid showV;rw[if_neg ho]
  rw[decide_eq_false ho] at c
  clear ho
  go_enter Tryd.func33,Tryd.ntmps33
  go_wp2_with fail
  refine c.mono ?_
  rintro e w0 ⟨rfl,rfl⟩
  go_wp2_with fail
  go_ret
  exact ⟨by rw[HE.out];rfl,Below.refl _ _⟩
set_option maxHeartbeats 1000000 in
theorem showVals1 (k:Nat) (d:Int) (gb:Nat) (l:List UInt8) (w:World) (h1:-140737488355328≤d) (h2:d≤140737488355328) (hb:Bld gb l w) (hl:l.length≤1000) (hg:gb≤w.heap.size) :
  Calls Tryd.prog 64 #[.int .i64 (k:Int),.int .i64 d,.pointer (some ⟨gb,0,none⟩)] w fun e w'=>(∃ u,e=.returned u)∧Bld gb (l++vF 6 (zig d).toNat) w'∧Below gb w w':=by
 have cz:=fun wx=>impl_zig d wx (by omega) (by omega)
 have hz0:=zig_pos d h1 h2
 have hz1:=(zig_range d).2
 have cv:=fun wx=>impl_var (zig d).toNat wx (by omega)
 rw[Int.toNat_of_nonneg hz0] at cv
 have HBD:Hid (Bld gb l w):=hb
 have HG:Hid (gb≤w.heap.size):=hg
 have hvl:=vF_length 6 (zig d).toNat
 have HL:Hid (l.length+(vF 6 (zig d).toNat).length≤1048576):=by unfold Hid;omega
 clear hb hg hl hvl
 generalize hvv:vF 6 (zig d).toNat=vv at *
 generalize zig d=z at *
 go_enter Tryd.func64,Tryd.ntmps64
 go_wp2_with fail
 refine (cz _).mono ?_
 rintro e w1 ⟨rfl,rfl⟩
 go_wp2_with fail
 refine (cv _).mono ?_
 rintro e w2 ⟨rfl,hb2⟩
 have HB2:Hid (Below gb w w2):=hb2.mono HG.out
 have Z2:Hid (gb≤w2.heap.size):=Nat.le_trans HG.out hb2.size
 have L2:Hid (Bld gb l w2):=HBD.out.on hb2
 clear hb2
 go_wp2_with fail
 refine (bldWriteT gb l vv w2 L2.out HL.out Z2.out).mono ?_
 rintro e w3 ⟨rfl,hB3,hb3,_⟩
 have HB3:Hid (Below gb w w3):=HB2.out.trans hb3
 clear hb3
 go_wp2_with fail
 exact bodyPost_end (v:=.tuple #[]) (by simp[results,go_sem]) rfl ⟨⟨_,rfl⟩,hB3,HB3.out⟩
set_option maxHeartbeats 1000000 in
theorem implShowValues (l:List Int) (v:Value) (w:World) (B:Nat) (hv:NumsV w B v l) (hn:l.length≤1048576) (hB:B≤w.heap.size):Calls Tryd.prog 40 #[v] w fun e w'=>e=.returned (.string (showV l))∧Below w.heap.size w w':=by
 have c:=implValuesOk l v w B hv hn
 have HV:Hid (NumsV w B v l):=hv
 have HB:Hid (B≤w.heap.size):=hB
 obtain ⟨A,cap,rfl,_,_,_⟩:=hv
 by_cases ho:VOk l
 ·have HE:Hid (showV l=txt (cat (vPiece l) l.length)):=by unfold Hid showV;rw[if_pos ho]
  have HO:Hid (VOk l):=ho
  have HN:Hid (l.length≤60):=ho.2.1
  rw[decide_eq_true ho] at c
  have k0:(w.alloc (.cells #[.pointer none,.slice none 0 0] 76)).heap[w.heap.size]?=some (.cells #[.pointer none,.slice none 0 0] 76 (0,0)):=heap_alloc_new w _
  have b0:Below w.heap.size w (w.alloc (.cells #[.pointer none,.slice none 0 0] 76)):=(Below.refl _ _).alloc (Nat.le_refl _) _
  clear ho hB
  go_enter Tryd.func40,Tryd.ntmps40
  go_wp2_with fail
  refine c.mono ?_
  rintro e w0 ⟨rfl,rfl⟩
  go_wp2_with fail
  generalize w.alloc (.cells #[.pointer none,.slice none 0 0] 76)=W at *
  have cD:=differencesV l (.slice A l.length cap) W B 64 #[.pointer (some ⟨w.heap.size,0,none⟩)] (fun k wx=>Below w.heap.size w wx∧Bld w.heap.size (cat (vPiece l) k) wx) (fun _ _=>by kernel_rfl) hn (fun k hk=>by have:=HO.out.dif k hk;omega) (fun k wx hx=>HV.out.on (hx.1.mono HB.out)) ⟨b0,bld_new k0⟩ (fun k hk wx hx=>by
   have hd:=HO.out.dif k hk
   have hc:=cat_length (vPiece l) (vPiece_length l) k
   have hN:=HN.out
   refine (showVals1 k (dif l k) w.heap.size (cat (vPiece l) k) wx (by omega) (by omega) hx.2 (by omega) hx.1.size).mono ?_
   rintro e w' ⟨hu,h1,h2⟩
   exact ⟨hu,hx.1.trans h2,by rw[cat_succ];exact h1⟩)
  refine cD.mono ?_
  rintro e w2 ⟨⟨u,rfl⟩,hb2,hB2⟩
  have cS:=bldStringT w.heap.size _ w2 hB2 hb2.size
  have HB2:Hid (Below w.heap.size w w2):=hb2
  clear hb2 hB2 cD b0 k0
  go_wp2_with fail
  refine cS.mono ?_
  rintro e w3 ⟨rfl,hb3⟩
  have HB3:Hid (Below w.heap.size w w3):=HB2.out.trans hb3
  clear hb3 cS
  go_wp2_with fail
  go_ret
  exact ⟨by rw[HE.out];rfl,HB3.out⟩
 ·have HE:Hid (showV l=txt []):=by unfold Hid showV;rw[if_neg ho]
  rw[decide_eq_false ho] at c
  clear ho
  go_enter Tryd.func40,Tryd.ntmps40
  go_wp2_with fail
  refine c.mono ?_
  rintro e w0 ⟨rfl,rfl⟩
  go_wp2_with fail
  go_ret
  exact ⟨by rw[HE.out];rfl,Below.refl _ _⟩
end Go.Proofs.YtedmdilabbolaaaDoor
namespace Go.Proofs.YtedmdilabbolaaaDoor
open Go.ChangeShapes Go.WideShapes Go.ChangeAt Go.RowKit Go.PlainAid
set_option linter.unusedVariables false
set_option maxHeartbeats 2000000 in
theorem specShowTimes (l:List Int) (v:Value) (w:World) (B:Nat) (hv:NumsV w B v l) (hn:l.length≤1048576) (hB:B≤w.heap.size):Calls Tryd.prog 32 #[v] w fun e w'=>e=.returned (.string (showT l))∧Below w.heap.size w w':=by
 have c:=specRise l v w B hv hn
 have HV:Hid (NumsV w B v l):=hv
 have HB:Hid (B≤w.heap.size):=hB
 by_cases ho:TOk l
 ·obtain ⟨g,off,cap,rfl,_,_,hg,hc0⟩:=hv.full ho.1
  have HC:Hid (∀ wx,Below w.heap.size w wx→∀ j,j<l.length→wx.cell? ⟨g,off+j,none⟩=some (.int .i64 (l.getD j 0))):=fun wx hx=>hc0 wx (hx.mono hB)
  have HE:Hid (showT l=txt (cat (tPiece l) l.length)):=by unfold Hid showT;rw[if_pos ho]
  have HO:Hid (TOk l):=ho
  rw[decide_eq_true ho] at c
  have q0:(l.length:Int)≤60:=by have:=ho.2.1;omega
  have q1:(1:Int)≤(l.length:Int):=by have:=ho.1;omega
  have hq1:1≤l.length:=by have:=ho.1;omega
  clear ho hn hB hc0 hv
  generalize hN:l.length=n at *
  have HN:Hid (l.length=n):=hN
  clear hN
  go_enter Tryd.func32,Tryd.ntmps32
  go_wp2_with fail
  refine c.mono ?_
  rintro e w0 ⟨rfl,hL0⟩
  have B0:Hid (Below w.heap.size w w0):=hL0.below
  have e1:=HC.out w0 B0.out 0 hq1
  have e00:off+0=off:=rfl
  rw[e00] at e1
  have hT0:=HO.out.turn 0 (by rw[HN.out];exact hq1)
  have ht0:turn l 0=l.getD 0 0:=by unfold turn dif prv;simp
  have cv0:=fun wx=>spec_var (turn l 0).toNat wx (by omega)
  rw[Int.toNat_of_nonneg hT0.1] at cv0
  have HC1:Hid (txt (cat (tPiece l) 1)=txt (vF 6 (turn l 0).toNat)):=by unfold Hid;rw[cat_succ,cat_zero];rfl
  generalize txt (vF 6 (turn l 0).toNat)=s1 at *
  rw[ht0] at cv0
  clear e00 hT0 ht0 hL0
  generalize l.getD 0 0=x0 at *
  go_wp2_with fail
  refine (cv0 _).mono ?_
  rintro e w1 ⟨rfl,hb1⟩
  have B1:Hid (Below w.heap.size w w1):=B0.out.trans (hb1.mono B0.out.size)
  clear hb1 cv0 e1
  go_wp2_with fail
  go_loopw [3,4] (fun v3 v4 wr=>∃ k:Nat,1≤k∧k≤n∧v4=.int .i64 (k:Int)∧v3=.string (txt (cat (tPiece l) k))∧Below w.heap.size w wr) (fun _ i _=>n - (intOf i).toNat)
  case atStart=>exact ⟨1,by omega,by omega,rfl,by rw[HC1.out],B1.out⟩
  case round =>
   obtain ⟨k,hk1,hk,rfl,rfl,hb⟩:=hrel
   have HB1:Hid (Below w.heap.size w wr):=hb
   by_cases hlt:k<n
   ·have q2:(k:Int)<(n:Int):=by omega
    have q3:(1:Int)≤(k:Int):=by omega
    have e1:=HC.out wr hb k hlt
    have e0:=HC.out wr hb (k - 1) (by omega)
    have hdk:=HO.out.dif k (by rw[HN.out];exact hlt)
    have hpk:=HO.out.2.2 k (by rw[HN.out];exact hlt)
    have hpj:=HO.out.2.2 (k - 1) (by rw[HN.out];omega)
    have ed:dif l k=l.getD k 0 - l.getD (k - 1) 0:=by unfold dif prv;rw[if_neg (by omega)]
    have hT:=HO.out.turn k (by rw[HN.out];exact hlt)
    have cv:=fun wx=>spec_var (turn l k).toNat wx (by omega)
    rw[Int.toNat_of_nonneg hT.1] at cv
    have ecat:cat (tPiece l) (k+1)=cat (tPiece l) k++vF 6 (turn l k).toNat:=cat_succ _ _
    have hl1:=cat_length (tPiece l) (tPiece_length l) k
    have hl2:=vF_length 6 (turn l k).toNat
    have HCT:Hid (txt (cat (tPiece l) (k+1))=txt (cat (tPiece l) k)++txt (vF 6 (turn l k).toNat)):=by unfold Hid;rw[ecat,txt_cat]
    have hs1:=txt_size (cat (tPiece l) k)
    have hs2:=txt_size (vF 6 (turn l k).toNat)
    generalize txt (cat (tPiece l) k)=sa at *
    generalize txt (vF 6 (turn l k).toNat)=sb at *
    have hsum:sa.size+sb.size≤9223372036854775807:=by omega
    have e3:((k:Int) - 1).toNat=k - 1:=by omega
    have ew:wrap64 (l.getD k 0 - l.getD (k - 1) 0)=l.getD k 0 - l.getD (k - 1) 0:=by unfold wrap64;omega
    clear ecat hl1 hl2 hs1 hs2
    by_cases hk1:k=1
    ·have et:turn l k=dif l k:=by unfold turn;rw[if_pos (by omega)]
     rw[et,ed] at cv
     clear et hT ed hdk hpk hpj
     subst hk1
     have e0':wr.cell? ⟨g,off,none⟩=some (.int .i64 (l.getD (1 - 1) 0)):=e0
     clear e0 e3
     generalize l.getD 1 0=x at *
     generalize l.getD (1 - 1) 0=y at *
     go_wp2_with fail
     go_quiet (fail)
     go_wp2_with fail
     refine (cv _).mono ?_
     rintro e w2 ⟨rfl,hb2⟩
     have HB2:Hid (Below w.heap.size w w2):=(HB1.out.trans (((Like.refl wr).drewN _).below.mono HB1.out.size)).trans (hb2.mono HB1.out.size)
     clear hb2
     go_wp2_with fail
     go_roundw
     case rel=>exact ⟨2,by omega,by omega,by go_num,by rw[HCT.out],HB2.out⟩
     case measure=>simp[intOf];omega
    ·have et:turn l k=zig (dif l k - dif l (k - 1)):=by unfold turn;rw[if_neg (by omega)]
     have ed2:dif l (k - 1)=l.getD (k - 1) 0 - l.getD (k - 2) 0:=by unfold dif prv;rw[if_neg (by omega),Nat.sub_sub]
     have hdj:=HO.out.dif (k - 1) (by rw[HN.out];omega)
     have cz:=fun wx=>spec_zig (dif l k - dif l (k - 1)) wx (by omega) (by omega)
     rw[← et] at cz
     rw[ed,ed2] at cz
     have f0:=HC.out wr hb (k - 2) (by omega)
     have hpi:=HO.out.2.2 (k - 2) (by rw[HN.out];omega)
     have e4:((k:Int) - 2).toNat=k - 2:=by omega
     have q5:¬ (k:Int)=1:=by omega
     have q6:(2:Int)≤(k:Int):=by omega
     have q7:decide ((k:Int)=1)=false:=decide_eq_false q5
     have q8:((k:Int) == 1)=false:=by simp;omega
     have ew2:wrap64 (l.getD (k - 1) 0 - l.getD (k - 2) 0)=l.getD (k - 1) 0 - l.getD (k - 2) 0:=by unfold wrap64;omega
     have ew3:wrap64 (l.getD k 0 - l.getD (k - 1) 0 - (l.getD (k - 1) 0 - l.getD (k - 2) 0))=l.getD k 0 - l.getD (k - 1) 0 - (l.getD (k - 1) 0 - l.getD (k - 2) 0):=by unfold wrap64;omega
     have HCY0:∀ wx,Below w.heap.size w wx→wx.cell? ⟨g,off+(k - 1),none⟩=some (.int .i64 (l.getD (k - 1) 0))∧wx.cell? ⟨g,off+(k - 2),none⟩=some (.int .i64 (l.getD (k - 2) 0)):=fun wx hx=>⟨HC.out wx hx (k - 1) (by omega),HC.out wx hx (k - 2) (by omega)⟩
     generalize turn l k=tt at *
     clear ed ed2 et hdk hdj
     generalize l.getD k 0=x at *
     generalize l.getD (k - 1) 0=y at *
     generalize l.getD (k - 2) 0=z at *
     go_wp2_with fail
     go_quiet (fail)
     go_wp2_with fail
     have g1:IntKind.i64.wrap ((k:Int) - 1)=(k:Int) - 1:=by rw[IntKind.wrap_i64];omega
     have g2:IntKind.i64.wrap ((k:Int) - 2)=(k:Int) - 2:=by rw[IntKind.wrap_i64];omega
     have g3:(0:Int)≤(k:Int) - 1:=by omega
     have g4:(k:Int) - 1<(n:Int):=by omega
     have g5:(0:Int)≤(k:Int) - 2:=by omega
     have g6:(k:Int) - 2<(n:Int):=by omega
     have g7:IntKind.i64.wrap (y - z)=y - z:=by rw[IntKind.wrap_i64];omega
     have g8:IntKind.i64.wrap (x - y - (y - z))=x - y - (y - z):=by rw[IntKind.wrap_i64];omega
     have g9:sa.size+sb.size≤maxLen:=by unfold maxLen;omega
     have g10:¬ maxLen<sa.size+sb.size:=by unfold maxLen;omega
     have S0:Hid (wr.cell? ⟨g,off+(k - 1),none⟩=some (.int .i64 y)∧wr.cell? ⟨g,off+(k - 2),none⟩=some (.int .i64 z)):=⟨e0,f0⟩
     have HCY:Hid (∀ wx,Below w.heap.size w wx→wx.cell? ⟨g,off+(k - 1),none⟩=some (.int .i64 y)∧wx.cell? ⟨g,off+(k - 2),none⟩=some (.int .i64 z)):=HCY0
     refine wp_region_until (fun w'=>w'.cell? ⟨g,off+(k - 1),none⟩=some (.int .i64 y)∧w'.cell? ⟨g,off+(k - 2),none⟩=some (.int .i64 z)) (fun i=>false) 18 (by rfl) (by kernel_rfl) ?_
     refine tKf 0 S0.out ?_
     refine tKf 1 S0.out ?_
     refine tKf 2 S0.out ?_
     refine tKf 3 S0.out ?_
     refine tKf 4 S0.out ?_
     refine tKf 5 S0.out ?_
     refine tKf 6 S0.out ?_
     refine tKf 7 S0.out ?_
     refine tKf 8 S0.out ?_
     refine tKf 9 S0.out ?_
     refine tKf 10 S0.out ?_
     refine tKf 11 S0.out ?_
     refine tKf 12 S0.out ?_
     refine tKf 13 S0.out ?_
     refine uNe 14 (fun K hK=>?_)
     go_simp
     refine (cz _).mono ?_
     rintro e w2 ⟨rfl,rfl⟩
     go_wp2_with fail
     refine hK.out _ _ (fun _ _=>S0.out) ?_
     clear hK K
     try simp only[Act.put,zQ1,zQ2,zQ3]
     refine uNe 15 (fun K hK=>?_)
     go_simp
     refine (cv _).mono ?_
     rintro e w2 ⟨rfl,hb2⟩
     have HB2:Hid (Below w.heap.size w w2):=((HB1.out.trans (((Like.refl wr).drewN _).below.mono HB1.out.size)).drew).trans (hb2.mono HB1.out.size)
     clear hb2
     go_wp2_with fail
     refine hK.out _ _ (fun _ _=>HCY.out w2 HB2.out) ?_
     clear hK K
     try simp only[Act.put,zQ1,zQ2,zQ3]
     refine uNe 16 (fun K hK=>?_)
     go_simp
     go_wp2_with fail
     refine hK.out _ _ (fun _ h=>h) ?_
     clear hK K
     try simp only[Act.put,zQ1,zQ2,zQ3]
     refine pUf 17 ?_
     refine until_done (by kernel_rfl) ?_ _
     go_wp2_with fail
     exact ⟨⟨k+1,by omega,by omega,by go_num,by rw[HCT.out],HB2.out⟩,by simp[intOf];omega⟩
   ·obtain rfl:k=n:=by omega
    clear hb
    go_wp2_with fail
    go_ret
    exact ⟨by rw[HE.out];rfl,HB1.out⟩
 ·obtain ⟨A,cap,rfl,_,_,_⟩:=hv
  have HE:Hid (showT l=txt []):=by unfold Hid showT;rw[if_neg ho]
  rw[decide_eq_false ho] at c
  clear ho
  go_enter Tryd.func32,Tryd.ntmps32
  go_wp2_with fail
  refine c.mono ?_
  rintro e w0 ⟨rfl,hL0⟩
  have B0:Hid (Below w.heap.size w w0):=hL0.below
  clear hL0
  go_wp2_with fail
  go_ret
  exact ⟨by rw[HE.out];rfl,B0.out⟩
end Go.Proofs.YtedmdilabbolaaaDoor
namespace Go.Proofs.YtedmdilabbolaaaDoor
open Go.ChangeShapes Go.WideShapes Go.ChangeAt Go.RowKit Go.PlainAid
set_option linter.unusedVariables false
def difs (l:List Int) (k:Nat):List Int:=(List.range k).map (dif l)
theorem difs_length (l:List Int) (k:Nat):(difs l k).length=k:=by simp[difs]
theorem difs_succ (l:List Int) (k:Nat):difs l (k+1)=difs l k++[dif l k]:=by simp[difs,List.range_succ]
theorem difs_get (l:List Int) (k j:Nat) (h:j<k):(difs l k).getD j 0=dif l j:=by simp[difs,List.getD,h]
theorem drop_getD (l:List Int) (j:Nat):(l.drop 1).getD j 0=l.getD (j+1) 0:=by simp[List.getD]
theorem dif_difs (l:List Int) (k j:Nat) (h:j+1<k):dif ((difs l k).drop 1) j=if j=0 then dif l 1 else dif l (j+1) - dif l j:=by
 conv=>lhs;unfold dif
 rw[drop_getD,difs_get l k (j+1) h]
 unfold prv
 by_cases hj:j=0
 ·subst hj
  simp
 ·rw[if_neg hj,if_neg hj,drop_getD,show j - 1+1=j by omega,difs_get l k j (by omega)]
set_option maxHeartbeats 1000000 in
theorem showTimes1 (k:Nat) (d:Int) (p base:Nat) (l:List Int) (v:Value) (w:World) (hb:Blk w p #[v] 41) (hv:Nums w base v l) (hl:l.length≤1000) (hp:p<base) (hbw:base≤w.heap.size) :
  Calls Tryd.prog 58 #[.int .i64 (k:Int),.int .i64 d,.pointer (some ⟨p,0,none⟩)] w fun e w'=>(∃ u,e=.returned u)∧(∃ v',Blk w' p #[v'] 41∧Nums w' base v' (l++[d]))∧Below p w w':=by
 have HBK:Hid (Blk w p #[v] 41):=hb
 have e0:=hb.cell 0 v rfl
 have HV:Hid (Nums w base v l):=hv
 obtain ⟨A,c,rfl,_,_⟩:=hv.shape
 have HL:Hid (l.length≤2097152):=by unfold Hid;omega
 have HP:Hid (p<base):=hp
 have HBW:Hid (base≤w.heap.size):=hbw
 clear hb hv hl hp hbw
 go_enter Tryd.func58,Tryd.ntmps58
 go_wp2_with (at_builtin;refine wpList_append_num rfl (.tmp 5) (.tmp 7) 41 rfl Tryd.underlying41 Tryd.infoInt base _ l rfl HV.out d rfl HL.out HBW.out ?_;intro v' w1 hN1 hb1 hk1;obtain ⟨A',c',rfl,_,_⟩:=hN1.shape;have K1:=HBK.out.on hb1 HP.out;have f0:=K1.cell 0 _ rfl;have f1:=K1.free 0)
 have hK:=K1.set 0 (.slice A' (l++[d]).length c')
 have hlen:(l++[d]).length=l.length+1:=by simp
 rw[hlen] at hK hN1
 have hne:(Value.slice A' (l.length+1) c').ownBlock≠some p:=fun e=>by have:=(hN1.lt p e).1;have:=HP.out;omega
 exact bodyPost_end (v:=.tuple #[]) (by simp[results,go_sem]) rfl ⟨⟨_,rfl⟩,⟨_,hK,hN1.other hne _ _⟩,(hb1.mono (Nat.le_of_lt HP.out)).setCell (Nat.le_refl _) _⟩
set_option maxHeartbeats 1000000 in
theorem showTimes2 (k:Nat) (d z:Int) (gb:Nat) (l:List UInt8) (w:World) (hz:z=if k=0 then d else zig d) (hz0:0≤z) (hz1:z≤281474976710656) (hd0:-9223372036854775808≤d) (hd1:d≤9223372036854775807) (hb:Bld gb l w) (hl:l.length≤1000) (hg:gb≤w.heap.size) (hkn:k≤1000) :
  Calls Tryd.prog 60 #[.int .i64 (k:Int),.int .i64 d,.pointer (some ⟨gb,0,none⟩)] w fun e w'=>(∃ u,e=.returned u)∧Bld gb (l++vF 6 z.toNat) w'∧Below gb w w':=by
 have cz:=fun wx=>impl_zig d wx hd0 hd1
 have cv:=fun wx=>impl_var z.toNat wx (by omega)
 rw[Int.toNat_of_nonneg hz0] at cv
 have HBD:Hid (Bld gb l w):=hb
 have HG:Hid (gb≤w.heap.size):=hg
 have hvl:=vF_length 6 z.toNat
 have HL:Hid (l.length+(vF 6 z.toNat).length≤1048576):=by unfold Hid;omega
 have hkI:(k:Int)≤1000:=by omega
 clear hb hg hl hvl
 generalize hvv:vF 6 z.toNat=vv at *
 by_cases hk:k=0
 ·rw[if_pos hk] at hz
  subst hz
  subst hk
  go_enter Tryd.func60,Tryd.ntmps60
  go_wp2_with fail
  refine (cv _).mono ?_
  rintro e w2 ⟨rfl,hb2⟩
  have HB2:Hid (Below gb w w2):=hb2.mono HG.out
  have Z2:Hid (gb≤w2.heap.size):=Nat.le_trans HG.out hb2.size
  have L2:Hid (Bld gb l w2):=HBD.out.on hb2
  clear hb2
  go_wp2_with fail
  refine (bldWriteT gb l vv w2 L2.out HL.out Z2.out).mono ?_
  rintro e w3 ⟨rfl,hB3,hb3,_⟩
  have HB3:Hid (Below gb w w3):=HB2.out.trans hb3
  clear hb3
  go_wp2_with fail
  exact bodyPost_end (v:=.tuple #[]) (by simp[results,go_sem]) rfl ⟨⟨_,rfl⟩,hB3,HB3.out⟩
 ·rw[if_neg hk] at hz
  have q1:(0:Int)<(k:Int):=by omega
  have q2:0<k:=by omega
  rw[← hz] at cz
  clear hz hk
  go_enter Tryd.func60,Tryd.ntmps60
  go_wp2_with fail
  refine (cz _).mono ?_
  rintro e w1 ⟨rfl,rfl⟩
  go_wp2_with fail
  refine (cv _).mono ?_
  rintro e w2 ⟨rfl,hb2⟩
  have HB2:Hid (Below gb w w2):=hb2.mono HG.out
  have Z2:Hid (gb≤w2.heap.size):=Nat.le_trans HG.out hb2.size
  have L2:Hid (Bld gb l w2):=HBD.out.on hb2
  clear hb2
  go_wp2_with fail
  refine (bldWriteT gb l vv w2 L2.out HL.out Z2.out).mono ?_
  rintro e w3 ⟨rfl,hB3,hb3,_⟩
  have HB3:Hid (Below gb w w3):=HB2.out.trans hb3
  clear hb3
  go_wp2_with fail
  exact bodyPost_end (v:=.tuple #[]) (by simp[results,go_sem]) rfl ⟨⟨_,rfl⟩,hB3,HB3.out⟩
set_option maxHeartbeats 1000000 in
theorem implShowTimes (l:List Int) (v:Value) (w:World) (B:Nat) (hv:NumsV w B v l) (hn:l.length≤1048576) (hB:B≤w.heap.size):Calls Tryd.prog 39 #[v] w fun e w'=>e=.returned (.string (showT l))∧Below w.heap.size w w':=by
 have c:=implTimesOk l v w B hv hn
 have HV:Hid (NumsV w B v l):=hv
 have HB:Hid (B≤w.heap.size):=hB
 by_cases ho:TOk l
 ·obtain ⟨g,off,cap,rfl,_,_,hg,hc0⟩:=hv.full ho.1
  have HC:Hid (∀ wx,Below w.heap.size w wx→wx.cell? ⟨g,off,none⟩=some (.int .i64 (l.getD 0 0))):=fun wx hx=>hc0 wx (hx.mono hB) 0 ho.1
  have HE:Hid (showT l=txt (cat (tPiece l) l.length)):=by unfold Hid showT;rw[if_pos ho]
  have HO:Hid (TOk l):=ho
  have HN:Hid (1≤l.length∧l.length≤60):=⟨ho.1,ho.2.1⟩
  rw[decide_eq_true ho] at c
  have q1:(1:Int)≤(l.length:Int):=by have:=ho.1;omega
  have q2:(l.length:Int)≤60:=by have:=ho.2.1;omega
  have k0:=Blk.new w #[.slice none 0 0] 41
  have b0:Below w.heap.size w (w.alloc (.cells #[.slice none 0 0] 41)):=(Below.refl _ _).alloc (Nat.le_refl _) _
  clear ho hB hc0 hv
  go_enter Tryd.func39,Tryd.ntmps39
  go_wp2_with fail
  refine c.mono ?_
  rintro e w0 ⟨rfl,rfl⟩
  go_wp2_with fail
  generalize w.alloc (.cells #[.slice none 0 0] 41)=W at *
  have cD:=differencesV l (.slice (some ⟨g,off,none⟩) l.length cap) W B 58 #[.pointer (some ⟨w.heap.size,0,none⟩)] (fun k wx=>Below w.heap.size w wx∧∃ v',Blk wx w.heap.size #[v'] 41∧Nums wx (w.heap.size+1) v' (difs l k)) (fun _ _=>by kernel_rfl) hn (fun k hk=>by have:=HO.out.dif k hk;omega) (fun k wx hx=>HV.out.on (hx.1.mono HB.out)) ⟨b0,_,k0,Nums.nil _ _⟩ (fun k hk wx hx=>by
   obtain ⟨hx1,v',hx2,hx3⟩:=hx
   have hd:=HO.out.dif k hk
   have hN:=HN.out
   refine (showTimes1 k (dif l k) w.heap.size (w.heap.size+1) (difs l k) v' wx hx2 hx3 (by rw[difs_length];omega) (by omega) hx2.lt).mono ?_
   rintro e w' ⟨hu,⟨v2,h1,h2⟩,h3⟩
   exact ⟨hu,hx1.trans h3,v2,h1,by rw[difs_succ];exact h2⟩)
  refine cD.mono ?_
  rintro e w2 ⟨⟨u,rfl⟩,hb2,v2,hk2,hN2⟩
  obtain ⟨A2,c2,rfl,hc2,hm2⟩:=hN2.shape
  rw[difs_length] at hk2 hc2
  obtain ⟨g2,rfl,hg2,hg3⟩:=hN2.block (by rw[difs_length];have:=HN.out;omega)
  have b3:Below w.heap.size w (w2.alloc (.cells #[.pointer none,.slice none 0 0] 76)):=hb2.alloc hb2.size _
  have k3:(w2.alloc (.cells #[.pointer none,.slice none 0 0] 76)).heap[w2.heap.size]?=some (.cells #[.pointer none,.slice none 0 0] 76 (0,0)):=heap_alloc_new w2 _
  have K3:Hid (Blk (w2.alloc (.cells #[.pointer none,.slice none 0 0] 76)) w.heap.size #[.slice (some ⟨g2,0,none⟩) l.length c2] 41):=hk2.alloc _
  have N3:Hid (Nums (w2.alloc (.cells #[.pointer none,.slice none 0 0] 76)) (w.heap.size+1) (.slice (some ⟨g2,0,none⟩) (difs l l.length).length c2) (difs l l.length)):=hN2.alloc _
  have e3:=HC.out _ b3
  have hT0:=HO.out.turn 0 HN.out.1
  have ht0:turn l 0=l.getD 0 0:=by unfold turn dif prv;simp
  have cv0:=fun wx=>impl_var (turn l 0).toNat wx (by omega)
  rw[Int.toNat_of_nonneg hT0.1] at cv0
  have HC1:Hid (vF 6 (turn l 0).toNat=cat (tPiece l) 1):=by unfold Hid;rw[cat_succ,cat_zero];rfl
  have HVL:Hid ((vF 6 (turn l 0).toNat).length≤7):=by have:=vF_length 6 (turn l 0).toNat;unfold Hid;omega
  generalize vF 6 (turn l 0).toNat=s1 at *
  rw[ht0] at cv0
  have LB3:Hid (Bld w2.heap.size [] (w2.alloc (.cells #[.pointer none,.slice none 0 0] 76))):=bld_new k3
  have B3:Hid (Below w.heap.size w (w2.alloc (.cells #[.pointer none,.slice none 0 0] 76))):=b3
  have Z3:Hid (w2.heap.size≤(w2.alloc (.cells #[.pointer none,.slice none 0 0] 76)).heap.size):=by unfold Hid;simp
  have GB:Hid (w.heap.size≤w2.heap.size):=hb2.size
  have G2:Hid (g2<w2.heap.size):=hg3
  have P2:Hid (w.heap.size<w2.heap.size):=hk2.lt
  clear cD hb2 hk2 hN2 hg2 hg3 b0 k0 k3 b3 hT0 ht0
  generalize l.getD 0 0=x0 at *
  go_wp2_with fail
  generalize w2.alloc (.cells #[.pointer none,.slice none 0 0] 76)=w3 at *
  generalize w2.heap.size=gb at *
  refine (cv0 _).mono ?_
  rintro e w4 ⟨rfl,hb4⟩
  have B4:Hid (Below w.heap.size w w4):=B3.out.trans (hb4.mono B3.out.size)
  have K4:Hid (Blk w4 w.heap.size #[.slice (some ⟨g2,0,none⟩) l.length c2] 41):=K3.out.on hb4 K3.out.lt
  have N4:Hid (Nums w4 (w.heap.size+1) (.slice (some ⟨g2,0,none⟩) (difs l l.length).length c2) (difs l l.length)):=N3.out.on hb4
  have LB4:Hid (Bld gb [] w4):=LB3.out.on hb4
  have Z4:Hid (gb≤w4.heap.size):=Nat.le_trans Z3.out hb4.size
  clear hb4 K3 N3 LB3 B3 Z3 e3 cv0
  go_wp2_with fail
  refine (bldWriteT gb [] s1 w4 LB4.out (by have:=HVL.out;simp;omega) Z4.out).mono ?_
  rintro e w5 ⟨rfl,hB5,hb5,_⟩
  have B5:Hid (Below w.heap.size w w5):=B4.out.trans (hb5.mono GB.out)
  have K5:Hid (Blk w5 w.heap.size #[.slice (some ⟨g2,0,none⟩) l.length c2] 41):=K4.out.on hb5 P2.out
  have N5:Hid (Nums w5 (w.heap.size+1) (.slice (some ⟨g2,0,none⟩) (difs l l.length).length c2) (difs l l.length)):=N4.out.kept fun g hg ho=>by
   injection ho with ho
   subst ho
   exact hb5.block _ G2.out
  have L5:Hid (Bld gb (cat (tPiece l) 1) w5):=by rw[HC1.out] at hB5;exact hB5
  have Z5:Hid (gb≤w5.heap.size):=Nat.le_trans Z4.out hb5.size
  have e5:=K5.out.cell 0 _ rfl
  clear hb5 hB5 K4 N4 LB4 B4 Z4
  have qc:(l.length:Int)≤(c2:Int):=by omega
  have hdl:((difs l l.length).drop 1).length=l.length - 1:=by rw[List.length_drop,difs_length]
  have cD2:∀ v2,NumsV w5 gb v2 ((difs l l.length).drop 1)→Calls Tryd.prog 57 #[v2,.func (.func 60) #[] #[.pointer (some ⟨gb,0,none⟩)]] w5 fun e w'=>(∃ u,e=.returned u)∧(Below w.heap.size w w'∧gb≤w'.heap.size)∧Bld gb (cat (tPiece l) l.length) w':=by
   intro v2 hv2
   have hN:=HN.out
   refine (differencesV ((difs l l.length).drop 1) v2 w5 gb 60 #[.pointer (some ⟨gb,0,none⟩)] (fun k wx=>((Below w.heap.size w wx∧gb≤wx.heap.size)∧Bld gb (cat (tPiece l) (k+1)) wx)∧NumsV wx gb v2 ((difs l l.length).drop 1)) (fun _ _=>by kernel_rfl) (by rw[hdl];omega) ?_ (fun k wx hx=>hx.2) ⟨⟨⟨B5.out,Z5.out⟩,L5.out⟩,hv2⟩ ?_).mono ?_
   ·intro k hk
    rw[hdl] at hk
    rw[dif_difs l l.length k (by omega)]
    have h1:=HO.out.dif 1 (by omega)
    have h2:=HO.out.dif (k+1) (by omega)
    have h3:=HO.out.dif k (by omega)
    split<;>omega
   ·intro k hk wx hx
    obtain ⟨⟨⟨x1,x2⟩,x3⟩,x4⟩:=hx
    rw[hdl] at hk
    have h1:=HO.out.dif 1 (by omega)
    have h2:=HO.out.dif (k+1) (by omega)
    have h3:=HO.out.dif k (by omega)
    have ht:=HO.out.turn (k+1) (by omega)
    have hcl:=cat_length (tPiece l) (tPiece_length l) (k+1)
    have ed:=dif_difs l l.length k (by omega)
    have et:turn l (k+1)=if k=0 then dif ((difs l l.length).drop 1) k else zig (dif ((difs l l.length).drop 1) k):=by
     rw[ed]
     unfold turn
     by_cases hk0:k=0
     ·subst hk0;simp
     ·rw[if_neg (by omega),if_neg hk0,if_neg hk0,Nat.add_sub_cancel]
    refine (showTimes2 k (dif ((difs l l.length).drop 1) k) (turn l (k+1)) gb (cat (tPiece l) (k+1)) wx et ht.1 ht.2 (by rw[ed];split<;>omega) (by rw[ed];split<;>omega) x3 (by omega) x2 (by omega)).mono ?_
    rintro e w' ⟨hu,y1,y2⟩
    exact ⟨hu,⟨⟨x1.trans (y2.mono GB.out),Nat.le_trans x2 y2.size⟩,by rw[cat_succ];exact y1⟩,x4.on y2⟩
   ·rintro e w' ⟨hu,⟨y1,y2⟩,_⟩
    rw[hdl,show l.length - 1+1=l.length by omega] at y2
    exact ⟨hu,y1,y2⟩
  have HD2:Hid (∀ v2,NumsV w5 gb v2 ((difs l l.length).drop 1)→Calls Tryd.prog 57 #[v2,.func (.func 60) #[] #[.pointer (some ⟨gb,0,none⟩)]] w5 fun e w'=>(∃ u,e=.returned u)∧(Below w.heap.size w w'∧gb≤w'.heap.size)∧Bld gb (cat (tPiece l) l.length) w'):=cD2
  have HDL:Hid (((difs l l.length).drop 1).length=l.length - 1):=hdl
  clear cD2 hdl
  go_wp2_with fail
  rotate_left
  ·refine (HD2.out _ ⟨_,c2 - 1,by rw[HDL.out],by rw[HDL.out];omega,by omega,fun j hj=>?_⟩).mono ?_
   ·rw[HDL.out] at hj
    refine ⟨g2,1,rfl,G2.out,?_⟩
    rw[drop_getD,Nat.add_comm 1 j]
    exact N5.out.cell (j+1) (by rw[difs_length];omega)
   rintro e w6 ⟨⟨u6,rfl⟩,⟨hb6,hz6⟩,hB6⟩
   have cS:=bldStringT gb _ w6 hB6 hz6
   have B6:Hid (Below w.heap.size w w6):=hb6
   clear hb6 hz6 hB6
   go_wp2_with fail
   refine cS.mono ?_
   rintro e w7 ⟨rfl,hb7⟩
   have B7:Hid (Below w.heap.size w w7):=B6.out.trans (hb7.mono GB.out)
   clear hb7 cS
   go_wp2_with fail
   go_ret
   exact ⟨by rw[HE.out];rfl,B7.out⟩
  ·refine (HD2.out _ ⟨_,0,by rw[HDL.out],by rw[HDL.out];omega,by unfold maxLen;omega,fun j hj=>?_⟩).mono ?_
   ·rw[HDL.out] at hj
    omega
   rintro e w6 ⟨⟨u6,rfl⟩,⟨hb6,hz6⟩,hB6⟩
   have cS:=bldStringT gb _ w6 hB6 hz6
   have B6:Hid (Below w.heap.size w w6):=hb6
   clear hb6 hz6 hB6
   go_wp2_with fail
   refine cS.mono ?_
   rintro e w7 ⟨rfl,hb7⟩
   have B7:Hid (Below w.heap.size w w7):=B6.out.trans (hb7.mono GB.out)
   clear hb7 cS
   go_wp2_with fail
   go_ret
   exact ⟨by rw[HE.out];rfl,B7.out⟩
 ·obtain ⟨A,cap,rfl,_,_,_⟩:=hv
  have HE:Hid (showT l=txt []):=by unfold Hid showT;rw[if_neg ho]
  rw[decide_eq_false ho] at c
  clear ho
  go_enter Tryd.func39,Tryd.ntmps39
  go_wp2_with fail
  refine c.mono ?_
  rintro e w0 ⟨rfl,rfl⟩
  go_wp2_with fail
  go_ret
  exact ⟨by rw[HE.out];rfl,Below.refl _ _⟩
end Go.Proofs.YtedmdilabbolaaaDoor
namespace Go.Proofs.YtedmdilabbolaaaDoor
open Go.ChangeShapes Go.WideShapes Go.ChangeAt Go.RowKit Go.PlainAid
set_option linter.unusedVariables false
def numR (l:List Int):List (List Value):=l.map fun z=>[.int .i64 z]
theorem numR_length (l:List Int):(numR l).length=l.length:=by simp[numR]
theorem numR_flat (l:List Int):(numR l).flatten=numCells l:=by
 induction l with
 | nil=>rfl
 | cons x l ih =>
  simp only[numR,numCells,List.map_cons,List.flatten_cons,List.cons_append,List.nil_append] at ih ⊢
  rw[ih]
theorem owns_nums {w:World} {b:Nat} {v:Value} {l:List Int} (h:Owns w b 3 1 v (numR l)):Nums w b v l:=by
 have:=h.2
 rw[numR_length,numR_flat] at this
 exact this
theorem num_cell (x:Int):∀ u∈([.int .i64 x]:List Value),u.oneCell'=true:=by
 intro u hu
 simp at hu
 subst hu
 rfl
theorem ts_snoc (l:List Pnt) (k:Nat) (h:k<l.length):numR ((ts l).take (k+1))=numR ((ts l).take k)++[[.int .i64 (tAt l k)]]:=by
 rw[take_num (ts l) k (by rw[ts_length];exact h),ts_get l k h,numR,List.map_append]
 rfl
theorem vs_snoc (l:List Pnt) (k:Nat) (h:k<l.length):numR ((vs l).take (k+1))=numR ((vs l).take k)++[[.int .i64 (vAt l k)]]:=by
 rw[take_num (vs l) k (by rw[vs_length];exact h),vs_get l k h,numR,List.map_append]
 rfl
theorem Apart.app {u u' v:Value} {z:Nat} (h:Apart u v) (hw:u'.ownBlock=u.ownBlock∨∀ g,u'.ownBlock=some g→z≤g) (hv:∀ g,v.ownBlock=some g→g<z):Apart u' v:=by
 intro g h1 h2
 rcases hw with e | hw
 ·rw[e] at h1
  exact h g h1 h2
 ·have:=hw g h1
  have:=hv g h2
  omega
set_option maxHeartbeats 2000000 in
theorem implRowsOf (l:List Pnt) (v:Value) (w:World) (B:Nat) (hv:Lies w B 2 v (ptR l)) (hn:l.length≤1048576) (hB:B≤w.heap.size):Calls Tryd.prog 42 #[v] w fun e w'=>(∃ u1 u2,e=.returned (.tuple #[u1,u2])∧Nums w' w.heap.size u1 (ts l)∧Nums w' w.heap.size u2 (vs l))∧Below w.heap.size w w':=by
 obtain ⟨A,cap,rfl,hl⟩:=pt_look hv
 have HL:Hid (∀ j,j<l.length→∃ g off,A=some ⟨g,off,none⟩∧g<B∧w.cell? ⟨g,off+j*2,none⟩=some (.int .i64 (tAt l j))∧w.cell? ⟨g,off+j*2+1,none⟩=some (.int .i64 (vAt l j))):=hl
 have HB:Hid (B≤w.heap.size):=hB
 have q0:(l.length:Int)≤1048576:=by omega
 clear hl hn hv hB
 generalize hN:l.length=n at *
 have HN:Hid (l.length=n):=hN
 clear hN
 go_enter Tryd.func42,Tryd.ntmps42
 go_wp2_with fail
 go_loopw [2,3,8] (fun v2 v3 v8 wr=>∃ k:Nat,k≤n∧v8=.int .i64 (k:Int)∧Owns wr w.heap.size 3 1 v2 (numR ((ts l).take k))∧Owns wr w.heap.size 3 1 v3 (numR ((vs l).take k))∧Apart v2 v3∧Below w.heap.size w wr) (fun _ _ i _=>n - (intOf i).toNat)
 case atStart=>exact ⟨0,by omega,rfl,Owns.nil _ _ _ _,Owns.nil _ _ _ _,fun g h=>(by cases h),Below.refl _ _⟩
 case round =>
  obtain ⟨k,hk,rfl,hO2,hO3,hap,hb⟩:=hrel
  have HO2:Hid (Owns wr w.heap.size 3 1 u2 (numR ((ts l).take k))):=hO2
  have HO3:Hid (Owns wr w.heap.size 3 1 u3 (numR ((vs l).take k))):=hO3
  have HAP:Hid (Apart u2 u3):=hap
  have HB1:Hid (Below w.heap.size w wr):=hb
  clear hO2 hO3 hap hb
  by_cases hlt:k<n
  ·have q2:(k:Int)<(n:Int):=by omega
   obtain ⟨g,off,rfl,hg,e1,e2⟩:=HL.out k hlt
   have hgw:g<w.heap.size:=Nat.lt_of_lt_of_le hg HB.out
   rw[← HB1.out.cell (p:=⟨_,_,none⟩) hgw] at e1
   rw[← HB1.out.cell (p:=⟨_,_,none⟩) hgw] at e2
   have HT:Hid (numR ((ts l).take (k+1))=numR ((ts l).take k)++[[.int .i64 (tAt l k)]]):=ts_snoc l k (by have:=HN.out;omega)
   have HVV:Hid (numR ((vs l).take (k+1))=numR ((vs l).take k)++[[.int .i64 (vAt l k)]]):=vs_snoc l k (by have:=HN.out;omega)
   have L2:Hid ((numR ((ts l).take k)).length≤2097152):=by unfold Hid;rw[numR_length,List.length_take,ts_length];have:=HN.out;omega
   have L3:Hid ((numR ((vs l).take k)).length≤2097152):=by unfold Hid;rw[numR_length,List.length_take,vs_length];have:=HN.out;omega
   generalize tAt l k=x at *
   generalize vAt l k=y at *
   have Z0:w.heap.size≤wr.heap.size:=HB1.out.size
   have A2:Hid (Owns (wr.alloc (.cells #[.int .i64 x,.int .i64 y] 45)) w.heap.size 3 1 u2 (numR ((ts l).take k))):=HO2.out.alloc _
   have A3:Hid (Owns (wr.alloc (.cells #[.int .i64 x,.int .i64 y] 45)) w.heap.size 3 1 u3 (numR ((vs l).take k))):=HO3.out.alloc _
   have BA:Hid (Below w.heap.size w (wr.alloc (.cells #[.int .i64 x,.int .i64 y] 45))):=HB1.out.alloc Z0 _
   have Z1:w.heap.size≤(wr.alloc (.cells #[.int .i64 x,.int .i64 y] 45)).heap.size:=BA.out.size
   have KB:Hid (Blk (wr.alloc (.cells #[.int .i64 x,.int .i64 y] 45)) wr.heap.size #[.int .i64 x,.int .i64 y] 45):=Blk.new _ _ _
   have NB:Hid (u2.ownBlock≠some wr.heap.size):=fun e=>by have:=(HO2.out.lt _ e).2;omega
   clear hgw hg
   go_wp2_with (at_builtin;refine wpList_append_row (w:=wr.alloc (.cells #[.int .i64 x,.int .i64 y] 45)) rfl (.tmp 12) (.tmp 15) 41 3 (.int .i64 0) 1 8 rfl Tryd.underlying41 Tryd.infoInt rfl (by omega) w.heap.size u2 (numR ((ts l).take k)) rfl A2.out [.int .i64 x] rfl (num_cell x) (by rw[World.size_alloc];rfl) L2.out (by omega) Z1 ?_;intro v2 w4 hO4 hb4 hk4 hw4;refine Shut.out ?_)
   unfold Shut
   have P2:Hid (Owns w4 w.heap.size 3 1 v2 (numR ((ts l).take (k+1)))):=by unfold Hid;rw[HT.out];exact hO4
   have Q3:Hid (Owns w4 w.heap.size 3 1 u3 (numR ((vs l).take k))):=A3.out.kept fun g hg ho=>hk4 g hg (HAP.out.symm g ho)
   have B4:Hid (Below w.heap.size w w4):=BA.out.trans hb4
   have AP4:Hid (Apart v2 u3):=HAP.out.app hw4 (fun g ho=>(A3.out.lt g ho).2)
   have Z4:w.heap.size≤w4.heap.size:=B4.out.size
   have K4:Hid (Blk w4 wr.heap.size #[.int .i64 x,.int .i64 y] 45):=by unfold Hid Blk;rw[hk4 wr.heap.size KB.out.lt NB.out];exact KB.out
   have k4:=K4.out.cell 1 (.int .i64 y) rfl
   clear hO4 hb4 hk4 hw4
   go_wp2_with (at_builtin;refine wpList_append_row (w:=w4) rfl (.tmp 17) (.tmp 20) 41 3 (.int .i64 0) 1 8 rfl Tryd.underlying41 Tryd.infoInt rfl (by omega) w.heap.size u3 (numR ((vs l).take k)) rfl Q3.out [.int .i64 y] rfl (num_cell y) rfl L3.out (by omega) Z4 ?_;intro v3 w5 hO5 hb5 hk5 hw5;refine Shut.out ?_)
   unfold Shut
   have P3:Hid (Owns w5 w.heap.size 3 1 v3 (numR ((vs l).take (k+1)))):=by unfold Hid;rw[HVV.out];exact hO5
   have P2':Hid (Owns w5 w.heap.size 3 1 v2 (numR ((ts l).take (k+1)))):=P2.out.kept fun g hg ho=>hk5 g hg (AP4.out g ho)
   have B5:Hid (Below w.heap.size w w5):=B4.out.trans hb5
   have AP5:Hid (Apart v2 v3):=(AP4.out.symm.app hw5 (fun g ho=>(P2.out.lt g ho).2)).symm
   clear hO5 hb5 hk5 hw5
   go_wp2_with fail
   go_roundw
   case rel=>exact ⟨k+1,by omega,by go_num,P2'.out,P3.out,AP5.out,B5.out⟩
   case measure=>simp[intOf];omega
  ·obtain rfl:k=n:=by omega
   have hA:=HO2.out
   have hC:=HO3.out
   rw[List.take_of_length_le (by rw[ts_length];have:=HN.out;omega)] at hA
   rw[List.take_of_length_le (by rw[vs_length];have:=HN.out;omega)] at hC
   have FA:Hid (Nums wr w.heap.size u2 (ts l)):=owns_nums hA
   have FC:Hid (Nums wr w.heap.size u3 (vs l)):=owns_nums hC
   clear hA hC
   go_wp2_with fail
   go_ret2
   exact ⟨⟨_,_,rfl,FA.out,FC.out⟩,HB1.out⟩
set_option maxHeartbeats 4000000 in
theorem implShowBlock (l:List Pnt) (v:Value) (w:World) (B:Nat) (hv:Lies w B 2 v (ptR l)) (hn:l.length≤1048576) (hB:B≤w.heap.size) (hst:SumTab w):Calls Tryd.prog 26 #[v] w fun e w'=>e=.returned (.string (showB l))∧Below w.heap.size w w':=by
 have ST:Hid (SumTab w):=hst
 have c1:=implPointsOk l v w B hv hn hB
 have HV0:Hid (Lies w B 2 v (ptR l)):=hv
 have HB:Hid (B≤w.heap.size):=hB
 obtain ⟨A,cap,rfl,hl⟩:=pt_look hv
 have q0:(l.length:Int)≤1048576:=by omega
 have HN0:Hid (l.length≤1048576):=hn
 clear hl hn hv hB hst
 by_cases h0:l.length=0
 ·have HS:Hid (showB l=⟨#[]⟩):=if_neg (fun hh=>by omega)
  have e0:(l.length:Int)=0:=by omega
  rw[h0]
  clear h0 e0
  go_enter Tryd.func26,Tryd.ntmps26
  go_wp2_with fail
  go_ret
  exact ⟨by rw[HS.out];rfl,Below.refl _ _⟩
 have d0:decide (l.length=0)=false:=decide_eq_false h0
 have d1:((l.length:Int) == 0)=false:=by rw[beq_eq_false_iff_ne];omega
 by_cases hok:¬ POk l
 ·have HS:Hid (showB l=⟨#[]⟩):=if_neg (fun hh=>hok hh.2)
  rw[decide_eq_false hok] at c1
  clear hok
  generalize l.length=n at *
  go_enter Tryd.func26,Tryd.ntmps26
  go_wp2_with fail
  refine c1.mono ?_
  rintro e w1 ⟨rfl,hb1⟩
  go_wp2_with fail
  go_ret
  exact ⟨by rw[HS.out];rfl,hb1⟩
 have hok':POk l:=(Decidable.not_not (p:=POk l)).1 hok
 have HS:Hid (showB l=frame (txt (vF 6 l.length)++showT (ts l)++showV (vs l))):=if_pos ⟨by omega,hok'⟩
 rw[decide_eq_true hok'] at c1
 have hn60:=hok'.1
 clear hok hok'
 generalize hN:l.length=n at *
 have HN:Hid (l.length=n):=hN
 clear hN
 go_enter Tryd.func26,Tryd.ntmps26
 go_wp2_with fail
 refine c1.mono ?_
 rintro e w1 ⟨rfl,hb1⟩
 have B1:Hid (Below w.heap.size w w1):=hb1
 clear hb1 c1
 have c2:=implRowsOf l (.slice A n cap) w1 B (HV0.out.on (B1.out.mono HB.out)) (by have:=HN.out;omega) (Nat.le_trans HB.out B1.out.size)
 go_wp2_with fail
 refine c2.mono ?_
 rintro e w2 ⟨⟨ut,uv,rfl,hT,hV⟩,hb2⟩
 have B2:Hid (Below w.heap.size w w2):=B1.out.trans (hb2.mono B1.out.size)
 have NT:Hid (Nums w2 w.heap.size ut (ts l)):=hT.mono B1.out.size
 have NV:Hid (Nums w2 w.heap.size uv (vs l)):=hV.mono B1.out.size
 clear hT hV hb2 c2
 have s1:=showT_size (ts l)
 have s2:=showV_size (vs l)
 have s3:(txt (vF 6 n)).size≤7:=by rw[txt_size];have:=vF_length 6 n;omega
 have z1:((txt (vF 6 n)).size:Int)+((showT (ts l)).size:Int)≤1000:=by omega
 have z2:((txt (vF 6 n)).size:Int)+((showT (ts l)).size:Int)+((showV (vs l)).size:Int)≤2000:=by omega
 have cv:=impl_var n w2 (by omega)
 go_wp2_with fail
 refine cv.mono ?_
 rintro e wa ⟨rfl,hba⟩
 have Ba:Hid (Below w.heap.size w wa):=B2.out.trans (hba.mono B2.out.size)
 have Ta:Hid (Nums wa w.heap.size ut (ts l)):=NT.out.on hba
 have Va:Hid (Nums wa w.heap.size uv (vs l)):=NV.out.on hba
 clear hba cv
 have ct:=implShowTimes (ts l) ut wa wa.heap.size Ta.out.lies (by rw[ts_length];have:=HN.out;omega) (Nat.le_refl _)
 go_wp2_with fail
 refine ct.mono ?_
 rintro e wb ⟨rfl,hbb⟩
 have Bb:Hid (Below w.heap.size w wb):=Ba.out.trans (hbb.mono Ba.out.size)
 have Vb:Hid (Nums wb w.heap.size uv (vs l)):=Va.out.on hbb
 clear hbb ct Ta Va
 have cu:=implShowValues (vs l) uv wb wb.heap.size Vb.out.lies (by rw[vs_length];have:=HN.out;omega) (Nat.le_refl _)
 go_wp2_with fail
 refine cu.mono ?_
 rintro e wc ⟨rfl,hbc⟩
 have Bc:Hid (Below w.heap.size w wc):=Bb.out.trans (hbc.mono Bb.out.size)
 clear hbc cu Vb
 have cf:=impl_frame (txt (vF 6 n)++showT (ts l)++showV (vs l)) wc (by rw[ByteArray.size_append,ByteArray.size_append,txt_size];have:=showT_size (ts l);have:=showV_size (vs l);have:=vF_length 6 n;omega) (ST.out.on Bc.out)
 go_wp2_with fail
 refine cf.mono ?_
 rintro e wd ⟨rfl,hbd⟩
 have Bd:Hid (Below w.heap.size w wd):=Bc.out.trans (hbd.mono Bc.out.size)
 clear hbd cf
 go_wp2_with fail
 go_ret
 exact ⟨by rw[HS.out];rfl,Bd.out⟩
end Go.Proofs.YtedmdilabbolaaaDoor
