/- BtDef BtMath BkMath OpDef RtDef RtRes RtLaw -/
import Derived.Test.YtedmdilabbolaaaGreatDoorQr2
import Derived.Test.YtedmdilabbolaaaGreatDoorQr0
import Derived.Test.YtedmdilabbolaaaGreatDoorRows
import Derived.Test.YtedmdilabbolaaaGreatDoorQr1
import Derived.Deep.Cut
import Derived.Handy
import Derived.WalkKit
import Derived.ProofKit
import Derived.OpenShut
import Derived.Below
import Derived.WalkSmall
import Derived.WalkLawsBesides
import Derived.Outline
import Derived.BigQuiet
import Derived.Deep.QuietTactic
import Derived.Deep.RegionWith
namespace Go.Proofs.YtedmdilabbolaaaGreatDoor
open Go.RowKit Go.PlainAid
def rv (v:List Int):Nat→Int
 | 0=>unz (v.getD 0 0)
 | i+1=>rv v i+unz (v.getD (i+1) 0)
def rowV (v:List Int):List Int:=rowOf (rv v) v.length
def gp (v:List Int):Nat→Int
 | 0=>0
 | i+1=>gp v i+if i=0 then v.getD 1 0 else unz (v.getD (i+1) 0)
def rt (v:List Int):Nat→Int
 | 0=>v.getD 0 0
 | i+1=>rt v i+gp v (i+1)
def rowT (v:List Int):List Int:=rowOf (rt v) v.length
theorem rv_bound (v:List Int) (i:Nat):-140737488355328*((i:Int)+1)≤rv v i∧rv v i≤140737488355328*((i:Int)+1):=by
 induction i with
 | zero=>have:=unz_range (v.getD 0 0);unfold rv;omega
 | succ i ih=>have:=unz_range (v.getD (i+1) 0);unfold rv;omega
theorem gp_bound (v:List Int) (hv:∀ j,0≤v.getD j 0∧v.getD j 0≤562949953421311) (i:Nat):-140737488355328*(i:Int)≤gp v i∧gp v i≤562949953421311+140737488355328*(i:Int):=by
 induction i with
 | zero=>unfold gp;omega
 | succ i ih =>
  have h1:=hv 1
  have h2:=unz_range (v.getD (i+1) 0)
  by_cases h0:i=0
  ·subst h0
   rw[gp,if_pos rfl]
   have:gp v 0=0:=rfl
   omega
  ·rw[gp,if_neg h0]
   omega
theorem rt_bound (v:List Int) (hv:∀ j,0≤v.getD j 0∧v.getD j 0≤562949953421311) (i:Nat) (hi:i≤60):-9007199254740992*((i:Int)+1)≤rt v i∧rt v i≤9007199254740992*((i:Int)+1):=by
 induction i with
 | zero=>have:=hv 0;unfold rt;omega
 | succ i ih =>
  have:=gp_bound v hv (i+1)
  have:=ih (by omega)
  unfold rt
  omega
theorem rowV_made (v:List Int):rowOf (auF 0 (rowOf (uzF 0 v) v.length)) v.length=rowV v:=by
 have key:∀ i,i<v.length→auF 0 (rowOf (uzF 0 v) v.length) i=rv v i:=by
  intro i
  induction i with
  | zero =>
   intro h
   rw[auF,rowOf_get _ _ _ h]
   rfl
  | succ i ih =>
   intro h
   rw[auF_gt _ _ _ (by omega),Nat.add_sub_cancel,ih (by omega),rowOf_get _ _ _ h]
   rfl
 apply nums_ext
 ·rw[rowOf_length,rowV,rowOf_length]
 ·intro j hj
  rw[rowOf_length] at hj
  rw[rowOf_get _ _ _ hj,rowV,rowOf_get _ _ _ hj,key j hj]
theorem gaps_made (v:List Int) (hv:1≤v.length) (i:Nat) (hi:i<v.length) (h1:1≤i):auF 1 (rowOf (uzF (min 2 v.length) v) v.length) i=gp v i:=by
 induction i with
 | zero=>omega
 | succ i ih =>
  by_cases h0:i=0
  ·subst h0
   rw[auF_le _ _ _ (by omega),rowOf_get _ _ _ hi]
   unfold uzF
   rw[if_neg (by omega)]
   simp[gp]
  ·rw[auF_gt _ _ _ (by omega),Nat.add_sub_cancel,ih (by omega) (by omega),rowOf_get _ _ _ hi]
   conv=>rhs;unfold gp
   rw[if_neg h0]
   unfold uzF
   rw[if_pos (by omega)]
theorem gaps_zero (v:List Int) (hv:1≤v.length):auF 1 (rowOf (uzF (min 2 v.length) v) v.length) 0=v.getD 0 0:=by
 rw[auF,rowOf_get _ _ _ (by omega)]
 unfold uzF
 rw[if_neg (by omega)]
theorem times_made (v:List Int) (hv:1≤v.length) (i:Nat) (hi:i<v.length):auF 0 (rowOf (auF 1 (rowOf (uzF (min 2 v.length) v) v.length)) v.length) i=rt v i:=by
 induction i with
 | zero =>
  rw[auF,rowOf_get _ _ _ hi,gaps_zero v hv]
  rfl
 | succ i ih =>
  rw[auF_gt _ _ _ (by omega),Nat.add_sub_cancel,ih (by omega),rowOf_get _ _ _ hi,gaps_made v hv _ hi (by omega)]
  rfl
theorem rowT_made (v:List Int) (hv:1≤v.length):rowOf (auF 0 (rowOf (auF 1 (rowOf (uzF (min 2 v.length) v) v.length)) v.length)) v.length=rowT v:=by
 apply nums_ext
 ·rw[rowOf_length,rowT,rowOf_length]
 ·intro j hj
  rw[rowOf_length] at hj
  rw[rowOf_get _ _ _ hj,rowT,rowOf_get _ _ _ hj,times_made v hv j hj]
def RdAns (shw:List Int→ByteArray) (row:List Int→List Int) (s:ByteArray) (n:Int) (l:List Int) (k:Nat):Prop :=
 (∃ (m:Nat) (v:List Int),n=(m:Int)∧1≤m∧m≤60∧Rd s m v k∧shw (row v)=s.extract 0 k∧l=row v) ∨
 ((∀ (m:Nat) (v:List Int) (u:Nat),n=(m:Int)→1≤m→m≤60→Rd s m v u→shw (row v)≠s.extract 0 u)∧l=[]∧k=0)
theorem RdAns.one {shw:List Int→ByteArray} {row:List Int→List Int} {s:ByteArray} {n:Int} {l l':List Int} {k k':Nat} (h:RdAns shw row s n l k) (h':RdAns shw row s n l' k'):l=l'∧k=k':=by
 rcases h with ⟨m,v,h1,h2,h3,h4,h5,h6⟩ | ⟨h1,h2,h3⟩<;>rcases h' with ⟨m',v',h1',h2',h3',h4',h5',h6'⟩ | ⟨h1',h2',h3'⟩
 ·obtain rfl:m=m':=by omega
  obtain ⟨rfl,rfl⟩:=h4.one h4'
  exact ⟨h6.trans h6'.symm,rfl⟩
 ·exact absurd h5 (h1' m v k h1 h2 h3 h4)
 ·exact absurd h5' (h1 m' v' k' h1' h2' h3' h4')
 ·exact ⟨h2.trans h2'.symm,h3.trans h3'.symm⟩
theorem extract_ne (s:ByteArray) (u:Nat) (h1:1≤u) (h2:u≤s.size):txt []≠s.extract 0 u:=by
 intro h
 have:=congrArg ByteArray.size h
 rw[ByteArray.size_extract,txt_size] at this
 simp at this
 omega
theorem rowV_length (v:List Int):(rowV v).length=v.length:=by rw[rowV,rowOf_length]
theorem rowT_length (v:List Int):(rowT v).length=v.length:=by rw[rowT,rowOf_length]
theorem showV_out (v:List Int) (j:Nat) (hj:j<v.length) (h:rv v j < -1099511627776∨1099511627776<rv v j):showV (rowV v)=txt []:=by
 unfold showV
 rw[if_neg]
 intro ho
 have:=ho.2.2 j (by rw[rowV_length];exact hj)
 rw[rowV,rowOf_get _ _ _ hj] at this
 omega
theorem showT_out (v:List Int) (j:Nat) (hj:j<v.length) (h:rt v j<0∨1099511627776<rt v j):showT (rowT v)=txt []:=by
 unfold showT
 rw[if_neg]
 intro ho
 have:=(ho.2.2 j (by rw[rowT_length];exact hj)).1
 rw[rowT,rowOf_get _ _ _ hj] at this
 omega
theorem RdAns.few {shw:List Int→ByteArray} {row:List Int→List Int} {s:ByteArray} {m:Nat} (h:RdNo s m):RdAns shw row s (m:Int) [] 0:=by
 refine .inr ⟨fun m' v u e _ _ hr=>?_,rfl,rfl⟩
 obtain rfl:m=m':=by omega
 exact absurd h hr.no
theorem RdAns.none {shw:List Int→ByteArray} {row:List Int→List Int} {s:ByteArray} {n:Int} (h:n<1∨60<n):RdAns shw row s n [] 0 :=
 .inr ⟨fun m' v u e _ _ hr=>by omega,rfl,rfl⟩
theorem RdAns.other {shw:List Int→ByteArray} {row:List Int→List Int} {s:ByteArray} {m:Nat} {v:List Int} {u:Nat} (hr:Rd s m v u) (h:shw (row v)≠s.extract 0 u):RdAns shw row s (m:Int) [] 0:=by
 refine .inr ⟨fun m' v' u' e _ _ hr'=>?_,rfl,rfl⟩
 obtain rfl:m=m':=by omega
 obtain ⟨rfl,rfl⟩:=hr.one hr'
 exact h
theorem RdAns.yes {shw:List Int→ByteArray} {row:List Int→List Int} {s:ByteArray} {m:Nat} {v:List Int} {u:Nat} (h1:1≤m) (h2:m≤60) (hr:Rd s m v u) (h:shw (row v)=s.extract 0 u):RdAns shw row s (m:Int) (row v) u :=
 .inl ⟨m,v,rfl,h1,h2,hr,h,rfl⟩
theorem RdAns.short {shw:List Int→ByteArray} {row:List Int→List Int} {s:ByteArray} {n:Int} {l:List Int} {k:Nat} (hrow:∀ v,(row v).length=v.length) (h:RdAns shw row s n l k):l.length≤60∧k≤s.size:=by
 rcases h with ⟨m,v,h1,h2,h3,h4,h5,h6⟩ | ⟨_,rfl,rfl⟩
 ·rw[h6,hrow,h4.length]
  exact ⟨h3,h4.le.2⟩
 ·simp
theorem bytes_ne {a b:ByteArray} (h:a≠b):(a.toList == b.toList)=false:=by
 rw[beq_eq_false_iff_ne]
 intro e
 apply h
 rw[Lib.toList_data,Lib.toList_data] at e
 cases a
 cases b
 simp only at e
 congr 1
 exact Array.ext' e
theorem bytes_eq {a b:ByteArray} (h:a=b):(a.toList == b.toList)=true:=by rw[h];simp
end Go.Proofs.YtedmdilabbolaaaGreatDoor
namespace Go.Proofs.YtedmdilabbolaaaGreatDoor
open Go.RowKit Go.PlainAid
theorem cat_split (f:Nat→List UInt8) (k n:Nat) (hk:k<n):∃ rest,cat f n=cat f k++(f k++rest):=by
 induction n with
 | zero=>omega
 | succ n ih =>
  by_cases e:k=n
  ·subst e
   exact ⟨[],by rw[cat_succ,List.append_nil]⟩
  ·obtain ⟨rest,h⟩:=ih (by omega)
   exact ⟨rest++f n,by rw[cat_succ,h];simp⟩
theorem extract_back (a b:List UInt8):(txt (a++b)).extract a.length (txt (a++b)).size=txt b:=by
 rw[txt_size]
 apply ByteArray.ext
 apply Array.toList_inj.1
 rw[Lib.extract_data]
 simp[txt]
theorem extract_front (a b:List UInt8):(txt (a++b)).extract 0 a.length=txt a:=by
 apply ByteArray.ext
 apply Array.toList_inj.1
 rw[Lib.extract_data]
 simp[txt]
theorem rd_cat (x:Nat→Nat) (n:Nat) (hx:∀ i,i<n→x i≤562949953421311) (tl:List UInt8) (k:Nat) (hk:k≤n):Rd (txt (cat (fun i=>vF 6 (x i)) n++tl)) k (rowOf (fun i=>(x i:Int)) k) (cat (fun i=>vF 6 (x i)) k).length:=by
 induction k with
 | zero=>exact ⟨rfl,rfl⟩
 | succ k ih =>
  obtain ⟨rest,h⟩:=cat_split (fun i=>vF 6 (x i)) k n (by omega)
  have e:txt (cat (fun i=>vF 6 (x i)) n++tl)=txt (cat (fun i=>vF 6 (x i)) k++(vF 6 (x k)++(rest++tl))):=by rw[h];simp
  have hf:=find_var (x k) (rest++tl) (hx k (by omega))
  refine ⟨_,_,(vF 6 (x k)).length,ih (by omega),?_,?_,?_⟩
  ·rw[e,extract_back]
   exact hf.1
  ·rw[e,extract_back,hf.2,rowOf_succ]
  ·rw[cat_succ,List.length_append]
theorem rowOf_ext (f g:Nat→Int) (n:Nat) (h:∀ i,i<n→f i=g i):rowOf f n=rowOf g n:=by
 apply nums_ext
 ·rw[rowOf_length,rowOf_length]
 ·intro j hj
  rw[rowOf_length] at hj
  rw[rowOf_get _ _ _ hj,rowOf_get _ _ _ hj,h j hj]
theorem gp_turn (l:List Int) (h:TOk l) (i:Nat) (h1:1≤i) (hi:i<l.length):gp (rowOf (turn l) l.length) i=dif l i:=by
 induction i with
 | zero=>omega
 | succ i ih =>
  by_cases h0:i=0
  ·subst h0
   rw[gp,if_pos rfl,rowOf_get _ _ _ hi]
   have:gp (rowOf (turn l) l.length) 0=0:=rfl
   rw[this]
   unfold turn
   rw[if_pos (by omega)]
   omega
  ·rw[gp,if_neg h0,ih (by omega) (by omega),rowOf_get _ _ _ hi]
   have d1:=h.dif (i+1) hi
   have d2:=h.dif i (by omega)
   unfold turn
   rw[if_neg (by omega),Nat.add_sub_cancel,unz_zig _ (by omega) (by omega)]
   omega
theorem rt_turn (l:List Int) (h:TOk l) (i:Nat) (hi:i<l.length):rt (rowOf (turn l) l.length) i=l.getD i 0:=by
 induction i with
 | zero =>
  rw[rt,rowOf_get _ _ _ hi]
  unfold turn dif prv
  simp
 | succ i ih =>
  rw[rt,ih (by omega),gp_turn l h (i+1) (by omega) hi]
  unfold dif
  rw[prv_succ]
  omega
theorem rowT_turn (l:List Int) (h:TOk l):rowT (rowOf (turn l) l.length)=l:=by
 unfold rowT
 rw[rowOf_length]
 apply nums_ext
 ·rw[rowOf_length]
 ·intro j hj
  rw[rowOf_length] at hj
  rw[rowOf_get _ _ _ hj,rt_turn l h j hj]
theorem readT_back (l:List Int) (h:TOk l) (tl:List UInt8):RdAns showT rowT (txt (cat (tPiece l) l.length++tl)) (l.length:Int) l (cat (tPiece l) l.length).length:=by
 have hr:=rd_cat (fun i=>(turn l i).toNat) l.length (fun i hi=>by have:=h.turn i hi;omega) tl l.length (Nat.le_refl _)
 rw[rowOf_ext (fun i=>(((turn l i).toNat:Nat):Int)) (turn l) l.length (fun i hi=>Int.toNat_of_nonneg (h.turn i hi).1)] at hr
 have hy:=RdAns.yes (shw:=showT) (row:=rowT) h.1 h.2.1 hr (by rw[rowT_turn l h];unfold showT;rw[if_pos h];exact (extract_front _ _).symm)
 rw[rowT_turn l h] at hy
 exact hy
theorem rv_zig (l:List Int) (h:VOk l) (i:Nat) (hi:i<l.length):rv (rowOf (fun i=>zig (dif l i)) l.length) i=l.getD i 0:=by
 induction i with
 | zero =>
  have d:=h.dif 0 hi
  rw[rv,rowOf_get _ _ _ hi,unz_zig _ (by omega) (by omega)]
  unfold dif prv
  simp
 | succ i ih =>
  have d:=h.dif (i+1) hi
  rw[rv,ih (by omega),rowOf_get _ _ _ hi,unz_zig _ (by omega) (by omega)]
  unfold dif
  rw[prv_succ]
  omega
theorem rowV_zig (l:List Int) (h:VOk l):rowV (rowOf (fun i=>zig (dif l i)) l.length)=l:=by
 unfold rowV
 rw[rowOf_length]
 apply nums_ext
 ·rw[rowOf_length]
 ·intro j hj
  rw[rowOf_length] at hj
  rw[rowOf_get _ _ _ hj,rv_zig l h j hj]
theorem readV_back (l:List Int) (h:VOk l) (tl:List UInt8):RdAns showV rowV (txt (cat (vPiece l) l.length++tl)) (l.length:Int) l (cat (vPiece l) l.length).length:=by
 have hz:∀ i,i<l.length→0≤zig (dif l i):=fun i hi=>zig_pos _ (by have:=h.dif i hi;omega) (by have:=h.dif i hi;omega)
 have hr:=rd_cat (fun i=>(zig (dif l i)).toNat) l.length (fun i hi=>by have:=(zig_range (dif l i)).2;omega) tl l.length (Nat.le_refl _)
 rw[rowOf_ext (fun i=>(((zig (dif l i)).toNat:Nat):Int)) (fun i=>zig (dif l i)) l.length (fun i hi=>Int.toNat_of_nonneg (hz i hi))] at hr
 have hy:=RdAns.yes (shw:=showV) (row:=rowV) h.1 h.2.1 hr (by rw[rowV_zig l h];unfold showV;rw[if_pos h];exact (extract_front _ _).symm)
 rw[rowV_zig l h] at hy
 exact hy
theorem showT_size (l:List Int):(showT l).size≤420:=by
 unfold showT
 split
 ·rename_i h
  rw[txt_size]
  have:=cat_length (tPiece l) (tPiece_length l) l.length
  have:=h.2.1
  omega
 ·rw[txt_size];simp
theorem showV_size (l:List Int):(showV l).size≤420:=by
 unfold showV
 split
 ·rename_i h
  rw[txt_size]
  have:=cat_length (vPiece l) (vPiece_length l) l.length
  have:=h.2.1
  omega
 ·rw[txt_size];simp
theorem cat_pos (f:Nat→List UInt8) (n:Nat) (h1:1≤n) (h:1≤(f 0).length):1≤(cat f n).length:=by
 obtain ⟨rest,e⟩:=cat_split f 0 n (by omega)
 rw[e,cat_zero,List.nil_append,List.length_append]
 omega
end Go.Proofs.YtedmdilabbolaaaGreatDoor
namespace Go.Proofs.YtedmdilabbolaaaGreatDoor
open Go.RowKit Go.PlainAid
def ts (l:List Pnt):List Int:=l.map fun p=>p.t
def vs (l:List Pnt):List Int:=l.map fun p=>p.v
theorem ts_length (l:List Pnt):(ts l).length=l.length:=by simp[ts]
theorem vs_length (l:List Pnt):(vs l).length=l.length:=by simp[vs]
theorem ts_get (l:List Pnt) (j:Nat) (h:j<l.length):(ts l).getD j 0=tAt l j:=by
 rw[tAt,← getD_at l j h]
 simp[ts,List.getD,h]
theorem vs_get (l:List Pnt) (j:Nat) (h:j<l.length):(vs l).getD j 0=vAt l j:=by
 rw[vAt,← getD_at l j h]
 simp[vs,List.getD,h]
theorem rows_of_ok {l:List Pnt} (h:POk l) (h1:1≤l.length):TOk (ts l)∧VOk (vs l):=by
 refine ⟨⟨by rw[ts_length];exact h1,by rw[ts_length];exact h.1,fun j hj=>?_⟩,by rw[vs_length];exact h1,by rw[vs_length];exact h.1,fun j hj=>?_⟩
 ·rw[ts_length] at hj
  rw[ts_get l j hj]
  refine ⟨(h.2 j hj).1.1,fun h0=>?_⟩
  rw[ts_get l (j - 1) (by omega)]
  exact (h.2 j hj).2 h0
 ·rw[vs_length] at hj
  rw[vs_get l j hj]
  exact (h.2 j hj).1.2
theorem ok_of_rows {l:List Pnt} (h:TOk (ts l)) (h':VOk (vs l)):POk l:=by
 refine ⟨by have:=h.2.1;rwa [ts_length] at this,fun j hj=>?_⟩
 have h1:=h.2.2 j (by rw[ts_length];exact hj)
 have h2:=h'.2.2 j (by rw[vs_length];exact hj)
 rw[ts_get l j hj] at h1
 rw[vs_get l j hj] at h2
 refine ⟨⟨h1.1,h2⟩,fun h0=>?_⟩
 have:=h1.2 h0
 rwa [ts_get l (j - 1) (by omega)] at this
def zipP (t v:List Int):List Pnt:=List.zipWith Pnt.mk t v
theorem zipP_length (t v:List Int):(zipP t v).length=min t.length v.length:=by simp[zipP]
theorem zipP_rows:∀ l:List Pnt,zipP (ts l) (vs l)=l
 | []=>rfl
 | p::l=>by
  have:=zipP_rows l
  simp only[zipP,ts,vs,List.map_cons,List.zipWith_cons_cons] at this ⊢
  rw[this]
theorem ts_zip:∀ (t v:List Int),t.length=v.length→ts (zipP t v)=t∧vs (zipP t v)=v
 | [],[],_=>⟨rfl,rfl⟩
 | [],_::_,h=>by simp at h
 | _::_,[],h=>by simp at h
 | x::t,y::v,h=>by
  have ih:=ts_zip t v (by simpa using h)
  simp only[zipP,ts,vs,List.zipWith_cons_cons,List.map_cons] at ih ⊢
  rw[ih.1,ih.2]
  exact ⟨rfl,rfl⟩
theorem zipP_get (t v:List Int) (k:Nat) (h1:k<t.length) (h2:k<v.length):(zipP t v).take (k+1)=(zipP t v).take k++[⟨t.getD k 0,v.getD k 0⟩]:=by
 have hk:k<(zipP t v).length:=by rw[zipP_length];omega
 rw[List.take_succ_eq_append_getElem hk]
 congr 2
 simp[zipP,List.getD,h1,h2]
def bodyB (l:List Pnt):List UInt8:=vF 6 l.length++(cat (tPiece (ts l)) l.length++cat (vPiece (vs l)) l.length)
def showB (l:List Pnt):ByteArray:=if 1≤l.length∧POk l then frame (txt (vF 6 l.length)++showT (ts l)++showV (vs l)) else txt []
theorem body_is {l:List Pnt} (h:POk l) (h1:1≤l.length):txt (vF 6 l.length)++showT (ts l)++showV (vs l)=txt (bodyB l):=by
 obtain ⟨ht,hv⟩:=rows_of_ok h h1
 unfold showT showV bodyB
 rw[if_pos ht,if_pos hv,ts_length,vs_length,txt_cat,txt_cat,List.append_assoc]
theorem bodyB_size {l:List Pnt} (h:POk l):1≤(bodyB l).length∧(bodyB l).length≤847:=by
 have h1:=vF_pos 6 l.length
 have h2:=vF_length 6 l.length
 have h3:=cat_length (tPiece (ts l)) (tPiece_length (ts l)) l.length
 have h4:=cat_length (vPiece (vs l)) (vPiece_length (vs l)) l.length
 have:=h.1
 unfold bodyB
 simp only[List.length_append]
 omega
def Good (s:ByteArray) (l:List Pnt):Prop:=1≤l.length∧POk l∧showB l=s
theorem Good.frame {s:ByteArray} {l:List Pnt} (h:Good s l):s=frameOf (txt (bodyB l)):=by
 obtain ⟨h1,h2,rfl⟩:=h
 have hb:=bodyB_size h2
 rw[showB,if_pos ⟨h1,h2⟩,body_is h2 h1,Go.Proofs.YtedmdilabbolaaaGreatDoor.frame,if_neg (by rw[txt_size];omega)]
theorem Good.read {s:ByteArray} {l:List Pnt} (h:Good s l):code s=0∧8+rdv s 4=s.size∧bodyOf s=txt (bodyB l):=by
 have hf:=h.frame
 have hb:=bodyB_size h.2.1
 have e:s=frameOf (txt (bodyB l))++ByteArray.empty:=by rw[ByteArray.append_empty];exact hf
 have hz:(txt (bodyB l)).size≤2000:=by rw[txt_size];omega
 refine ⟨by rw[e];exact code_frameOf _ _ (by rw[txt_size];omega) hz,?_,by rw[e];exact bodyOf_frameOf _ _ hz⟩
 have h4:rdv s 4=(txt (bodyB l)).size:=by rw[e];exact rdv_frameOf _ _ hz
 rw[h4,hf,frameOf_size]
def RdV (s:ByteArray) (n:Int) (k:Nat):Prop:=(FindV s k∧n=(vvS s 0 k:Int))∨((∀ j,¬ FindV s j)∧n=0∧k=0)
theorem ReadV.rd {s:ByteArray} {e:Ending} (h:ReadV s e):∃ n k,RdV s n k∧e=.returned (.tuple #[.int .i64 n,.int .i64 (k:Int)]):=by
 rcases h with ⟨k,h1,h2⟩ | ⟨h1,h2⟩
 ·exact ⟨_,k,.inl ⟨h1,rfl⟩,h2⟩
 ·exact ⟨0,0,.inr ⟨h1,rfl,rfl⟩,h2⟩
theorem RdV.one {s:ByteArray} {n n':Int} {k k':Nat} (h:RdV s n k) (h':RdV s n' k'):n=n'∧k=k':=by
 rcases h with ⟨h1,h2⟩ | ⟨h1,h2,h3⟩<;>rcases h' with ⟨h1',h2'⟩ | ⟨h1',h2',h3'⟩
 ·obtain rfl:=h1.one h1'
  exact ⟨h2.trans h2'.symm,rfl⟩
 ·exact absurd h1 (h1' k)
 ·exact absurd h1' (h1 k')
 ·exact ⟨h2.trans h2'.symm,h3.trans h3'.symm⟩
theorem RdV.le {s:ByteArray} {n:Int} {k:Nat} (h:RdV s n k):k≤s.size∧k≤7∧0≤n:=by
 rcases h with ⟨⟨_,h2,h3,_⟩,h4⟩ | ⟨_,h2,h3⟩
 ·exact ⟨h3,h2,by omega⟩
 ·omega
def bodyR (s:ByteArray):ByteArray:=if code s=0 then bodyOf s else ⟨#[]⟩
theorem bodyR_size (s:ByteArray):(bodyR s).size≤2000:=by
 unfold bodyR
 split
 ·rename_i h
  obtain ⟨_,_,h2,h8,_⟩:=(code_zero s).1 h
  rw[bodyOf_size s h8]
  exact h2
 ·exact Nat.zero_le _
structure Steps (s:ByteArray) (n:Int) (k:Nat) (t:List Int) (a:Nat) (v:List Int) (b:Nat):Prop where
 rn:RdV (bodyR s) n k
 rt:RdAns showT rowT ((bodyR s).extract k (bodyR s).size) n t a
 rv:RdAns showV rowV ((bodyR s).extract (k+a) (bodyR s).size) n v b
theorem Good.steps {s:ByteArray} {l:List Pnt} (h:Good s l):Steps s (l.length:Int) (vF 6 l.length).length (ts l) (cat (tPiece (ts l)) l.length).length (vs l) (cat (vPiece (vs l)) l.length).length:=by
 obtain ⟨hc,_,hb⟩:=h.read
 obtain ⟨ht,hv⟩:=rows_of_ok h.2.1 h.1
 have hB:bodyR s=txt (bodyB l):=by rw[bodyR,if_pos hc,hb]
 have hn:l.length≤562949953421311:=by have:=h.2.1.1;omega
 have hf:=find_var l.length (cat (tPiece (ts l)) l.length++cat (vPiece (vs l)) l.length) hn
 refine ⟨?_,?_,?_⟩
 ·rw[hB]
  exact .inl ⟨hf.1,by unfold bodyB;rw[hf.2]⟩
 ·rw[hB,bodyB,extract_back]
  have:=readT_back (ts l) ht (cat (vPiece (vs l)) l.length)
  rw[ts_length] at this
  exact this
 ·rw[hB]
  have e:bodyB l=(vF 6 l.length++cat (tPiece (ts l)) l.length)++cat (vPiece (vs l)) l.length:=by rw[bodyB,List.append_assoc]
  have:=readV_back (vs l) hv []
  rw[vs_length,List.append_nil] at this
  rw[e,← List.length_append,extract_back]
  exact this
theorem Steps.one {s:ByteArray} {n n':Int} {k k' a a' b b':Nat} {t t' v v':List Int} (h:Steps s n k t a v b) (h':Steps s n' k' t' a' v' b'):n=n'∧k=k'∧t=t'∧a=a'∧v=v'∧b=b':=by
 obtain ⟨rfl,rfl⟩:=h.rn.one h'.rn
 obtain ⟨rfl,rfl⟩:=h.rt.one h'.rt
 obtain ⟨rfl,rfl⟩:=h.rv.one h'.rv
 exact ⟨rfl,rfl,rfl,rfl,rfl,rfl⟩
theorem Steps.good {s:ByteArray} {n:Int} {k a b:Nat} {t v:List Int} (h:Steps s n k t a v b) {l:List Pnt} (hg:Good s l):zipP t v=l∧n=(l.length:Int)∧t=ts l∧v=vs l∧1≤k∧1≤a∧1≤b∧k+a+b=(bodyR s).size:=by
 obtain ⟨rfl,rfl,rfl,rfl,rfl,rfl⟩:=h.one hg.steps
 obtain ⟨hc,_,hb⟩:=hg.read
 have hB:bodyR s=txt (bodyB l):=by rw[bodyR,if_pos hc,hb]
 refine ⟨zipP_rows l,rfl,rfl,rfl,vF_pos _ _,cat_pos _ _ hg.1 (vF_pos _ _),cat_pos _ _ hg.1 (vF_pos _ _),?_⟩
 rw[hB,txt_size,bodyB]
 simp only[List.length_append]
 omega
theorem Good.one {s:ByteArray} {l m:List Pnt} (h:Good s l) (h':Good s m):l=m:=by
 have:=(h.steps.good h').1
 rw[zipP_rows] at this
 exact this
theorem RdAns.pos {shw:List Int→ByteArray} {row:List Int→List Int} {s:ByteArray} {n:Int} {l:List Int} {k:Nat} (hrow:∀ v,(row v).length=v.length) (h:RdAns shw row s n l k) (hk:k≠0):n=(l.length:Int)∧1≤l.length∧l.length≤60∧shw l=s.extract 0 k∧k≤s.size:=by
 rcases h with ⟨m,v,h1,h2,h3,h4,h5,h6⟩ | ⟨_,_,h0⟩
 ·have hl:l.length=m:=by rw[h6,hrow,h4.length]
  exact ⟨by rw[hl];exact h1,by omega,by omega,by rw[h6];exact h5,h4.le.2⟩
 ·exact absurd h0 hk
theorem okT_of_show {l:List Int} {s:ByteArray} {k:Nat} (h:showT l=s.extract 0 k) (hk:k≠0) (hs:k≤s.size):TOk l:=by
 by_cases ho:TOk l
 ·exact ho
 ·unfold showT at h
  rw[if_neg ho] at h
  exact absurd h (extract_ne s k (by omega) hs)
theorem okV_of_show {l:List Int} {s:ByteArray} {k:Nat} (h:showV l=s.extract 0 k) (hk:k≠0) (hs:k≤s.size):VOk l:=by
 by_cases ho:VOk l
 ·exact ho
 ·unfold showV at h
  rw[if_neg ho] at h
  exact absurd h (extract_ne s k (by omega) hs)
theorem Steps.back {s:ByteArray} {n:Int} {k a b:Nat} {t v:List Int} (h:Steps s n k t a v b) (hc:code s=0) (h8:8+rdv s 4=s.size) (hk:k≠0) (ha:a≠0) (hb:b≠0) (hs:k+a+b=(bodyR s).size):Good s (zipP t v)∧t.length=v.length∧n=(t.length:Int):=by
 obtain ⟨ht1,ht2,ht3,ht4,ht5⟩:=h.rt.pos rowT_length ha
 obtain ⟨hv1,hv2,hv3,hv4,hv5⟩:=h.rv.pos rowV_length hb
 have hlen:t.length=v.length:=by omega
 have hT:=okT_of_show ht4 ha ht5
 have hV:=okV_of_show hv4 hb hv5
 obtain ⟨e1,e2⟩:=ts_zip t v hlen
 have hzl:(zipP t v).length=t.length:=by rw[zipP_length];omega
 have hP:POk (zipP t v):=ok_of_rows (by rw[e1];exact hT) (by rw[e2];exact hV)
 have hfv:FindV (bodyR s) k∧n=(vvS (bodyR s) 0 k:Int):=by
  rcases h.rn with h | ⟨_,_,h0⟩
  ·exact h
  ·exact absurd h0 hk
 obtain ⟨⟨c1,c2,c3,c4⟩,hn⟩:=hfv
 have hvar:txt (vF 6 (zipP t v).length)=(bodyR s).extract 0 k:=by
  have hh:=(var_eq (bodyR s) k c1 c2 c3).2 c4
  have hm:vvS (bodyR s) 0 k=(zipP t v).length:=by omega
  rw[hm] at hh
  by_cases e:txt (vF 6 (zipP t v).length)=(bodyR s).extract 0 k
  ·exact e
  ·rw[bytes_ne e] at hh
   cases hh
 have hbody:txt (vF 6 (zipP t v).length)++showT (ts (zipP t v))++showV (vs (zipP t v))=bodyR s:=by
  rw[e1,e2,hvar,ht4,hv4,ByteArray.extract_extract,ByteArray.extract_extract,Nat.add_zero,Nat.add_zero,Nat.min_eq_left (by omega),Nat.min_eq_left (by omega),ByteArray.extract_append_extract,show min 0 k=0 by omega,show max k (k+a)=k+a by omega,ByteArray.extract_append_extract,show min 0 (k+a)=0 by omega,show max (k+a) (k+a+b)=k+a+b by omega,hs,ByteArray.extract_zero_size]
 refine ⟨⟨by omega,hP,?_⟩,hlen,ht1⟩
 rw[showB,if_pos ⟨by omega,hP⟩,hbody,bodyR,if_pos hc]
 obtain ⟨g4,g1,g2,g8,gs⟩:=(code_zero s).1 hc
 rw[(frame_fits s g4 g1 g2 g8).2 gs,h8,ByteArray.extract_zero_size]
theorem Steps.empty {n:Int} {k a b:Nat} {t v:List Int} (h:Steps (txt []) n k t a v b):t=[]:=by
 have hc:¬ code (txt [])=0:=fun hc=>by
  obtain ⟨h4,_⟩:=(code_zero _).1 hc
  rw[txt_size] at h4
  simp at h4
 have hB:bodyR (txt [])=⟨#[]⟩:=by rw[bodyR,if_neg hc]
 have hz:n=0:=by
  rcases h.rn with ⟨⟨h1,_,h3,_⟩,_⟩ | ⟨_,h0,_⟩
  ·rw[hB] at h3
   have:(ByteArray.mk #[]).size=0:=rfl
   omega
  ·exact h0
 rcases h.rt with ⟨m,v,h1,h2,_⟩ | ⟨_,h0,_⟩
 ·omega
 ·exact h0
theorem Steps.shown {s:ByteArray} {n:Int} {k a b:Nat} {t v:List Int} (h:Steps s n k t a v b) (h1:1≤(zipP t v).length) (hs:showB (zipP t v)=s):Good s (zipP t v):=by
 by_cases hp:POk (zipP t v)
 ·exact ⟨h1,hp,hs⟩
 ·exfalso
  rw[showB,if_neg (fun hh=>hp hh.2)] at hs
  subst hs
  rw[h.empty] at h1
  simp[zipP] at h1
def RbAns (s:ByteArray) (l:List Pnt) (ok:Bool):Prop:=(ok=true∧Good s l)∨(ok=false∧l=[]∧∀ m,¬ Good s m)
theorem RbAns.one {s:ByteArray} {l m:List Pnt} {x y:Bool} (h:RbAns s l x) (h':RbAns s m y):l=m∧x=y:=by
 rcases h with ⟨h1,h2⟩ | ⟨h1,h2,h3⟩<;>rcases h' with ⟨h1',h2'⟩ | ⟨h1',h2',h3'⟩
 ·exact ⟨h2.one h2',h1.trans h1'.symm⟩
 ·exact absurd h2 (h3' l)
 ·exact absurd h2' (h3 m)
 ·exact ⟨h2.trans h2'.symm,h1.trans h1'.symm⟩
theorem RbAns.len {s:ByteArray} {l:List Pnt} {x:Bool} (h:RbAns s l x):l.length≤60:=by
 rcases h with ⟨_,h2⟩ | ⟨_,h2,_⟩
 ·exact h2.2.1.1
 ·rw[h2];simp
end Go.Proofs.YtedmdilabbolaaaGreatDoor
namespace Go.Proofs.YtedmdilabbolaaaGreatDoor
open Go.ChangeShapes Go.WideShapes Go.ChangeAt Go.RowKit Go.PlainAid
set_option linter.unusedVariables false
def emB (s:ByteArray):Bool:=s.toList.isEmpty
theorem em_facts {s:ByteArray} (h:¬ s=⟨#[]⟩):(s.toList == [])=false∧(([]:List UInt8) == s.toList)=false∧s.toList.isEmpty=false∧emB s=false:=by
 have h0:¬ s.toList=[]:=fun e=>by
  rw[Lib.toList_data] at e
  exact h (ByteArray.ext (Array.toList_inj.1 e))
 have h1:s.toList.isEmpty=false:=by simpa using h0
 exact ⟨by simpa using h0,by simpa using h0,h1,h1⟩
theorem em_nil:emB ⟨#[]⟩=true:=by unfold emB;rw[Lib.toList_data];rfl
def zB (i:Int):Bool:=decide (i=0)
theorem z_facts {i:Int} (h:¬ i=0):(i == 0)=false∧((0:Int) == i)=false∧zB i=false:=⟨by simpa using h,by simpa using fun e=>h e.symm,decide_eq_false h⟩
theorem z_nil:zB 0=true:=rfl
def spanB (f t:Int):Bool:=decide (0≤f)&&decide (f<t)&&decide (t≤1099511627776)
open Classical in
noncomputable def rdB (s:ByteArray):Bool:=decide (∃ l,RbAns s l true)
open Classical in
theorem rdB_is {s:ByteArray} {l:List Pnt} {ok:Bool} (h:RbAns s l ok):rdB s=ok:=by
 unfold rdB
 cases ok
 ·exact decide_eq_false fun ⟨m,hm⟩=>by have:=(h.one hm).2;cases this
 ·exact decide_eq_true ⟨l,h⟩
open Classical in
noncomputable def keyB (s:ByteArray):Bool:=decide (KOk s)
noncomputable def opOk (x:Opx):Bool :=
 if x.kind=1 then spanB x.frm x.til&&emB x.key&&emB x.data
 else if x.kind=2∨x.kind=6 then inRg x.frm 0 1099511627776&&emB x.key&&zB x.til&&emB x.data
 else if x.kind=3 then inRg x.frm 0 100000&&emB x.key&&zB x.til&&emB x.data
 else if x.kind=4 then keyB x.key&&rdB x.data&&zB x.frm&&zB x.til
 else if x.kind=5 then keyB x.key&&spanB x.frm x.til&&emB x.data
 else if x.kind=7 then emB x.key&&zB x.frm&&zB x.til&&emB x.data
 else false
set_option maxHeartbeats 400000 in
theorem implSpanOk (f t:Int) (w:World):Calls Tryz.prog 122 #[.int .i64 f,.int .i64 t] w fun e w'=>e=.returned (.bool (spanB f t))∧w=w':=by
 unfold spanB
 by_cases h1:0≤f
 ·rw[decide_eq_true h1]
  by_cases h2:f<t
  ·rw[decide_eq_true h2]
   by_cases h3:t≤1099511627776
   ·rw[decide_eq_true h3]
    go_enter Tryz.func122,Tryz.ntmps122
    go_wp2
    go_ret
    exact ⟨rfl,rfl⟩
   ·have d:decide (t≤1099511627776)=false:=decide_eq_false h3
    rw[d]
    go_enter Tryz.func122,Tryz.ntmps122
    go_wp2
    go_ret
    exact ⟨rfl,rfl⟩
  ·have d:decide (f<t)=false:=decide_eq_false h2
   rw[d]
   go_enter Tryz.func122,Tryz.ntmps122
   go_wp2
   go_ret
   exact ⟨rfl,rfl⟩
 ·have d:decide (0≤f)=false:=decide_eq_false h1
  rw[d]
  go_enter Tryz.func122,Tryz.ntmps122
  go_wp2
  go_ret
  exact ⟨rfl,rfl⟩
end Go.Proofs.YtedmdilabbolaaaGreatDoor
namespace Go.Proofs.YtedmdilabbolaaaGreatDoor
open Go.ChangeShapes Go.WideShapes Go.ChangeAt Go.RowKit Go.PlainAid
set_option linter.unusedVariables false
theorem Hid.mkQ {p:Prop} (h:p):Hid p:=h
def mapK (k:Int):Int:=if k=1 then 4 else if k=2 then 5 else if k=3 then 2 else if k=4 then 3 else 0
noncomputable def callOk (x:Opx):Bool:=opOk ⟨mapK x.kind,x.key,x.frm,x.til,x.data⟩
theorem mapK_facts {k:Int} (h1:¬ k=1) (h2:¬ k=2) (h3:¬ k=3) (h4:¬ k=4):mapK k=0:=by
 unfold mapK
 rw[if_neg h1,if_neg h2,if_neg h3,if_neg h4]
structure Rtr where
 id:Int
 sers:List Int
 busy:Bool
 call:Opx
 begun:Int
 legs:List Lgx
 todo:List Tdo
def vRtr (x:Rtr) (us ul ut:Value):Value:=.agg #[.int .i64 x.id,us,.bool x.busy,.int .i64 x.call.kind,.string x.call.key,.int .i64 x.call.frm,.int .i64 x.call.til,.string x.call.data,.int .i64 x.begun,ul,ut]
def RtrV (w:World) (B:Nat) (v:Value) (x:Rtr):Prop:=∃ us ul ut,v=vRtr x us ul ut∧NumsV w B us x.sers∧Lies w B 11 ul (lgxR x.legs)∧Lies w B 6 ut (tdoR x.todo)
theorem RtrV.on {w w':World} {B:Nat} {v:Value} {x:Rtr} (h:RtrV w B v x) (hb:Below B w w'):RtrV w' B v x:=by
 obtain ⟨us,ul,ut,e,h1,h2,h3⟩:=h
 exact ⟨us,ul,ut,e,h1.on hb,h2.on hb,h3.on hb⟩
theorem RtrV.mono {w:World} {B C:Nat} {v:Value} {x:Rtr} (h:RtrV w B v x) (hB:B≤C):RtrV w C v x:=by
 obtain ⟨us,ul,ut,e,h1,h2,h3⟩:=h
 exact ⟨us,ul,ut,e,h1.mono hB,h2.mono hB,h3.mono hB⟩
structure FitsR (x:Rtr):Prop where
 n:x.sers.length≤maxLen
 l:x.legs.length≤maxLen
 t:x.todo.length≤maxLen
 ck:x.call.key.size≤maxLen
 cd:x.call.data.size≤maxLen
 lx:∀ y∈x.legs,y.key.size≤maxLen∧y.data.size≤maxLen∧y.told.size≤maxLen
 tx:∀ y∈x.todo,y.key.size≤maxLen∧y.data.size≤maxLen
structure LgOk (x:Lgx):Prop where
 g:0≤x.group∧x.group≤2
 s:1≤x.serial∧x.serial≤1000000
 o:opOk x.op=true
 a:ansOk x.ans=true
structure IdleOk (x:Rtr):Prop where
 k:x.call.kind=0
 ky:emB x.call.key=true
 f:x.call.frm=0
 t:x.call.til=0
 d:emB x.call.data=true
 b:x.begun=0
 l:x.legs=[]
 td:x.todo=[]
structure BusyOk (x:Rtr):Prop where
 c:callOk x.call=true
 one:0<x.todo.length
 few:x.todo.length+x.legs.length≤3
 first:x.legs=[]→x.todo.length=1∧(x.todo.getD 0 default).group=0
 td:∀ y∈x.todo,(0≤y.group∧y.group≤2)∧(x.legs≠[]→y.group≠0)∧opOk y.op=true
 lg:∀ y∈x.legs,LgOk y
 ser:1≤x.sers.getD (x.todo.getD 0 default).group.toNat 0
structure RtOk (x:Rtr):Prop where
 id:1≤x.id∧x.id≤4
 sn:x.sers.length=3
 bg:0≤x.begun∧x.begun≤1000000
 ser:∀ y∈x.sers,0≤y∧y≤1000000
 idle:x.busy=false→IdleOk x
 work:x.busy=true→BusyOk x
open Classical in
noncomputable def rtOk (x:Rtr):Bool:=decide (RtOk x)
open Classical in
theorem rtOk_yes {x:Rtr} (h:RtOk x):rtOk x=true:=decide_eq_true h
open Classical in
theorem rtOk_no {x:Rtr} (h:¬ RtOk x):rtOk x=false:=decide_eq_false h
end Go.Proofs.YtedmdilabbolaaaGreatDoor
namespace Go.Proofs.YtedmdilabbolaaaGreatDoor
open Go.ChangeShapes Go.WideShapes Go.ChangeAt Go.RowKit Go.PlainAid
set_option linter.unusedVariables false
theorem resR11 {w:World} {g:Nat} {a0 a1 a2 a3 a4 a5 a6 a7 a8 a9 a10 x0 x1 x2 x3 x4 x5 x6 x7 x8 x9 x10:Value} {t:TypeId} (h:Blk w g #[a0,a1,a2,a3,a4,a5,a6,a7,a8,a9,a10] t) :
  (w.cell? ⟨g,0,none⟩=some a0∧w.frozen? ⟨g,0,none⟩=false)∧((w.setCell ⟨g,0,none⟩ x0).cell? ⟨g,1,none⟩=some a1∧(w.setCell ⟨g,0,none⟩ x0).frozen? ⟨g,1,none⟩=false)∧(((w.setCell ⟨g,0,none⟩ x0).setCell ⟨g,1,none⟩ x1).cell? ⟨g,2,none⟩=some a2∧((w.setCell ⟨g,0,none⟩ x0).setCell ⟨g,1,none⟩ x1).frozen? ⟨g,2,none⟩=false)∧((((w.setCell ⟨g,0,none⟩ x0).setCell ⟨g,1,none⟩ x1).setCell ⟨g,2,none⟩ x2).cell? ⟨g,3,none⟩=some a3∧(((w.setCell ⟨g,0,none⟩ x0).setCell ⟨g,1,none⟩ x1).setCell ⟨g,2,none⟩ x2).frozen? ⟨g,3,none⟩=false)∧(((((w.setCell ⟨g,0,none⟩ x0).setCell ⟨g,1,none⟩ x1).setCell ⟨g,2,none⟩ x2).setCell ⟨g,3,none⟩ x3).cell? ⟨g,4,none⟩=some a4∧((((w.setCell ⟨g,0,none⟩ x0).setCell ⟨g,1,none⟩ x1).setCell ⟨g,2,none⟩ x2).setCell ⟨g,3,none⟩ x3).frozen? ⟨g,4,none⟩=false)∧((((((w.setCell ⟨g,0,none⟩ x0).setCell ⟨g,1,none⟩ x1).setCell ⟨g,2,none⟩ x2).setCell ⟨g,3,none⟩ x3).setCell ⟨g,4,none⟩ x4).cell? ⟨g,5,none⟩=some a5∧(((((w.setCell ⟨g,0,none⟩ x0).setCell ⟨g,1,none⟩ x1).setCell ⟨g,2,none⟩ x2).setCell ⟨g,3,none⟩ x3).setCell ⟨g,4,none⟩ x4).frozen? ⟨g,5,none⟩=false)∧(((((((w.setCell ⟨g,0,none⟩ x0).setCell ⟨g,1,none⟩ x1).setCell ⟨g,2,none⟩ x2).setCell ⟨g,3,none⟩ x3).setCell ⟨g,4,none⟩ x4).setCell ⟨g,5,none⟩ x5).cell? ⟨g,6,none⟩=some a6∧((((((w.setCell ⟨g,0,none⟩ x0).setCell ⟨g,1,none⟩ x1).setCell ⟨g,2,none⟩ x2).setCell ⟨g,3,none⟩ x3).setCell ⟨g,4,none⟩ x4).setCell ⟨g,5,none⟩ x5).frozen? ⟨g,6,none⟩=false)∧((((((((w.setCell ⟨g,0,none⟩ x0).setCell ⟨g,1,none⟩ x1).setCell ⟨g,2,none⟩ x2).setCell ⟨g,3,none⟩ x3).setCell ⟨g,4,none⟩ x4).setCell ⟨g,5,none⟩ x5).setCell ⟨g,6,none⟩ x6).cell? ⟨g,7,none⟩=some a7∧(((((((w.setCell ⟨g,0,none⟩ x0).setCell ⟨g,1,none⟩ x1).setCell ⟨g,2,none⟩ x2).setCell ⟨g,3,none⟩ x3).setCell ⟨g,4,none⟩ x4).setCell ⟨g,5,none⟩ x5).setCell ⟨g,6,none⟩ x6).frozen? ⟨g,7,none⟩=false)∧(((((((((w.setCell ⟨g,0,none⟩ x0).setCell ⟨g,1,none⟩ x1).setCell ⟨g,2,none⟩ x2).setCell ⟨g,3,none⟩ x3).setCell ⟨g,4,none⟩ x4).setCell ⟨g,5,none⟩ x5).setCell ⟨g,6,none⟩ x6).setCell ⟨g,7,none⟩ x7).cell? ⟨g,8,none⟩=some a8∧((((((((w.setCell ⟨g,0,none⟩ x0).setCell ⟨g,1,none⟩ x1).setCell ⟨g,2,none⟩ x2).setCell ⟨g,3,none⟩ x3).setCell ⟨g,4,none⟩ x4).setCell ⟨g,5,none⟩ x5).setCell ⟨g,6,none⟩ x6).setCell ⟨g,7,none⟩ x7).frozen? ⟨g,8,none⟩=false)∧((((((((((w.setCell ⟨g,0,none⟩ x0).setCell ⟨g,1,none⟩ x1).setCell ⟨g,2,none⟩ x2).setCell ⟨g,3,none⟩ x3).setCell ⟨g,4,none⟩ x4).setCell ⟨g,5,none⟩ x5).setCell ⟨g,6,none⟩ x6).setCell ⟨g,7,none⟩ x7).setCell ⟨g,8,none⟩ x8).cell? ⟨g,9,none⟩=some a9∧(((((((((w.setCell ⟨g,0,none⟩ x0).setCell ⟨g,1,none⟩ x1).setCell ⟨g,2,none⟩ x2).setCell ⟨g,3,none⟩ x3).setCell ⟨g,4,none⟩ x4).setCell ⟨g,5,none⟩ x5).setCell ⟨g,6,none⟩ x6).setCell ⟨g,7,none⟩ x7).setCell ⟨g,8,none⟩ x8).frozen? ⟨g,9,none⟩=false)∧(((((((((((w.setCell ⟨g,0,none⟩ x0).setCell ⟨g,1,none⟩ x1).setCell ⟨g,2,none⟩ x2).setCell ⟨g,3,none⟩ x3).setCell ⟨g,4,none⟩ x4).setCell ⟨g,5,none⟩ x5).setCell ⟨g,6,none⟩ x6).setCell ⟨g,7,none⟩ x7).setCell ⟨g,8,none⟩ x8).setCell ⟨g,9,none⟩ x9).cell? ⟨g,10,none⟩=some a10∧((((((((((w.setCell ⟨g,0,none⟩ x0).setCell ⟨g,1,none⟩ x1).setCell ⟨g,2,none⟩ x2).setCell ⟨g,3,none⟩ x3).setCell ⟨g,4,none⟩ x4).setCell ⟨g,5,none⟩ x5).setCell ⟨g,6,none⟩ x6).setCell ⟨g,7,none⟩ x7).setCell ⟨g,8,none⟩ x8).setCell ⟨g,9,none⟩ x9).frozen? ⟨g,10,none⟩=false) ∧
  (((((((((((w.setCell ⟨g,0,none⟩ x0).setCell ⟨g,1,none⟩ x1).setCell ⟨g,2,none⟩ x2).setCell ⟨g,3,none⟩ x3).setCell ⟨g,4,none⟩ x4).setCell ⟨g,5,none⟩ x5).setCell ⟨g,6,none⟩ x6).setCell ⟨g,7,none⟩ x7).setCell ⟨g,8,none⟩ x8).setCell ⟨g,9,none⟩ x9).setCell ⟨g,10,none⟩ x10).cell? ⟨g,0,none⟩=some x0∧(((((((((((w.setCell ⟨g,0,none⟩ x0).setCell ⟨g,1,none⟩ x1).setCell ⟨g,2,none⟩ x2).setCell ⟨g,3,none⟩ x3).setCell ⟨g,4,none⟩ x4).setCell ⟨g,5,none⟩ x5).setCell ⟨g,6,none⟩ x6).setCell ⟨g,7,none⟩ x7).setCell ⟨g,8,none⟩ x8).setCell ⟨g,9,none⟩ x9).setCell ⟨g,10,none⟩ x10).cell? ⟨g,1,none⟩=some x1∧(((((((((((w.setCell ⟨g,0,none⟩ x0).setCell ⟨g,1,none⟩ x1).setCell ⟨g,2,none⟩ x2).setCell ⟨g,3,none⟩ x3).setCell ⟨g,4,none⟩ x4).setCell ⟨g,5,none⟩ x5).setCell ⟨g,6,none⟩ x6).setCell ⟨g,7,none⟩ x7).setCell ⟨g,8,none⟩ x8).setCell ⟨g,9,none⟩ x9).setCell ⟨g,10,none⟩ x10).cell? ⟨g,2,none⟩=some x2∧(((((((((((w.setCell ⟨g,0,none⟩ x0).setCell ⟨g,1,none⟩ x1).setCell ⟨g,2,none⟩ x2).setCell ⟨g,3,none⟩ x3).setCell ⟨g,4,none⟩ x4).setCell ⟨g,5,none⟩ x5).setCell ⟨g,6,none⟩ x6).setCell ⟨g,7,none⟩ x7).setCell ⟨g,8,none⟩ x8).setCell ⟨g,9,none⟩ x9).setCell ⟨g,10,none⟩ x10).cell? ⟨g,3,none⟩=some x3∧(((((((((((w.setCell ⟨g,0,none⟩ x0).setCell ⟨g,1,none⟩ x1).setCell ⟨g,2,none⟩ x2).setCell ⟨g,3,none⟩ x3).setCell ⟨g,4,none⟩ x4).setCell ⟨g,5,none⟩ x5).setCell ⟨g,6,none⟩ x6).setCell ⟨g,7,none⟩ x7).setCell ⟨g,8,none⟩ x8).setCell ⟨g,9,none⟩ x9).setCell ⟨g,10,none⟩ x10).cell? ⟨g,4,none⟩=some x4∧(((((((((((w.setCell ⟨g,0,none⟩ x0).setCell ⟨g,1,none⟩ x1).setCell ⟨g,2,none⟩ x2).setCell ⟨g,3,none⟩ x3).setCell ⟨g,4,none⟩ x4).setCell ⟨g,5,none⟩ x5).setCell ⟨g,6,none⟩ x6).setCell ⟨g,7,none⟩ x7).setCell ⟨g,8,none⟩ x8).setCell ⟨g,9,none⟩ x9).setCell ⟨g,10,none⟩ x10).cell? ⟨g,5,none⟩=some x5∧(((((((((((w.setCell ⟨g,0,none⟩ x0).setCell ⟨g,1,none⟩ x1).setCell ⟨g,2,none⟩ x2).setCell ⟨g,3,none⟩ x3).setCell ⟨g,4,none⟩ x4).setCell ⟨g,5,none⟩ x5).setCell ⟨g,6,none⟩ x6).setCell ⟨g,7,none⟩ x7).setCell ⟨g,8,none⟩ x8).setCell ⟨g,9,none⟩ x9).setCell ⟨g,10,none⟩ x10).cell? ⟨g,6,none⟩=some x6∧(((((((((((w.setCell ⟨g,0,none⟩ x0).setCell ⟨g,1,none⟩ x1).setCell ⟨g,2,none⟩ x2).setCell ⟨g,3,none⟩ x3).setCell ⟨g,4,none⟩ x4).setCell ⟨g,5,none⟩ x5).setCell ⟨g,6,none⟩ x6).setCell ⟨g,7,none⟩ x7).setCell ⟨g,8,none⟩ x8).setCell ⟨g,9,none⟩ x9).setCell ⟨g,10,none⟩ x10).cell? ⟨g,7,none⟩=some x7∧(((((((((((w.setCell ⟨g,0,none⟩ x0).setCell ⟨g,1,none⟩ x1).setCell ⟨g,2,none⟩ x2).setCell ⟨g,3,none⟩ x3).setCell ⟨g,4,none⟩ x4).setCell ⟨g,5,none⟩ x5).setCell ⟨g,6,none⟩ x6).setCell ⟨g,7,none⟩ x7).setCell ⟨g,8,none⟩ x8).setCell ⟨g,9,none⟩ x9).setCell ⟨g,10,none⟩ x10).cell? ⟨g,8,none⟩=some x8∧(((((((((((w.setCell ⟨g,0,none⟩ x0).setCell ⟨g,1,none⟩ x1).setCell ⟨g,2,none⟩ x2).setCell ⟨g,3,none⟩ x3).setCell ⟨g,4,none⟩ x4).setCell ⟨g,5,none⟩ x5).setCell ⟨g,6,none⟩ x6).setCell ⟨g,7,none⟩ x7).setCell ⟨g,8,none⟩ x8).setCell ⟨g,9,none⟩ x9).setCell ⟨g,10,none⟩ x10).cell? ⟨g,9,none⟩=some x9∧(((((((((((w.setCell ⟨g,0,none⟩ x0).setCell ⟨g,1,none⟩ x1).setCell ⟨g,2,none⟩ x2).setCell ⟨g,3,none⟩ x3).setCell ⟨g,4,none⟩ x4).setCell ⟨g,5,none⟩ x5).setCell ⟨g,6,none⟩ x6).setCell ⟨g,7,none⟩ x7).setCell ⟨g,8,none⟩ x8).setCell ⟨g,9,none⟩ x9).setCell ⟨g,10,none⟩ x10).cell? ⟨g,10,none⟩=some x10:=by
 have h1:Blk (w.setCell ⟨g,0,none⟩ x0) g #[x0,a1,a2,a3,a4,a5,a6,a7,a8,a9,a10] t:=h.set 0 x0
 have h2:Blk ((w.setCell ⟨g,0,none⟩ x0).setCell ⟨g,1,none⟩ x1) g #[x0,x1,a2,a3,a4,a5,a6,a7,a8,a9,a10] t:=h1.set 1 x1
 have h3:Blk (((w.setCell ⟨g,0,none⟩ x0).setCell ⟨g,1,none⟩ x1).setCell ⟨g,2,none⟩ x2) g #[x0,x1,x2,a3,a4,a5,a6,a7,a8,a9,a10] t:=h2.set 2 x2
 have h4:Blk ((((w.setCell ⟨g,0,none⟩ x0).setCell ⟨g,1,none⟩ x1).setCell ⟨g,2,none⟩ x2).setCell ⟨g,3,none⟩ x3) g #[x0,x1,x2,x3,a4,a5,a6,a7,a8,a9,a10] t:=h3.set 3 x3
 have h5:Blk (((((w.setCell ⟨g,0,none⟩ x0).setCell ⟨g,1,none⟩ x1).setCell ⟨g,2,none⟩ x2).setCell ⟨g,3,none⟩ x3).setCell ⟨g,4,none⟩ x4) g #[x0,x1,x2,x3,x4,a5,a6,a7,a8,a9,a10] t:=h4.set 4 x4
 have h6:Blk ((((((w.setCell ⟨g,0,none⟩ x0).setCell ⟨g,1,none⟩ x1).setCell ⟨g,2,none⟩ x2).setCell ⟨g,3,none⟩ x3).setCell ⟨g,4,none⟩ x4).setCell ⟨g,5,none⟩ x5) g #[x0,x1,x2,x3,x4,x5,a6,a7,a8,a9,a10] t:=h5.set 5 x5
 have h7:Blk (((((((w.setCell ⟨g,0,none⟩ x0).setCell ⟨g,1,none⟩ x1).setCell ⟨g,2,none⟩ x2).setCell ⟨g,3,none⟩ x3).setCell ⟨g,4,none⟩ x4).setCell ⟨g,5,none⟩ x5).setCell ⟨g,6,none⟩ x6) g #[x0,x1,x2,x3,x4,x5,x6,a7,a8,a9,a10] t:=h6.set 6 x6
 have h8:Blk ((((((((w.setCell ⟨g,0,none⟩ x0).setCell ⟨g,1,none⟩ x1).setCell ⟨g,2,none⟩ x2).setCell ⟨g,3,none⟩ x3).setCell ⟨g,4,none⟩ x4).setCell ⟨g,5,none⟩ x5).setCell ⟨g,6,none⟩ x6).setCell ⟨g,7,none⟩ x7) g #[x0,x1,x2,x3,x4,x5,x6,x7,a8,a9,a10] t:=h7.set 7 x7
 have h9:Blk (((((((((w.setCell ⟨g,0,none⟩ x0).setCell ⟨g,1,none⟩ x1).setCell ⟨g,2,none⟩ x2).setCell ⟨g,3,none⟩ x3).setCell ⟨g,4,none⟩ x4).setCell ⟨g,5,none⟩ x5).setCell ⟨g,6,none⟩ x6).setCell ⟨g,7,none⟩ x7).setCell ⟨g,8,none⟩ x8) g #[x0,x1,x2,x3,x4,x5,x6,x7,x8,a9,a10] t:=h8.set 8 x8
 have h10:Blk ((((((((((w.setCell ⟨g,0,none⟩ x0).setCell ⟨g,1,none⟩ x1).setCell ⟨g,2,none⟩ x2).setCell ⟨g,3,none⟩ x3).setCell ⟨g,4,none⟩ x4).setCell ⟨g,5,none⟩ x5).setCell ⟨g,6,none⟩ x6).setCell ⟨g,7,none⟩ x7).setCell ⟨g,8,none⟩ x8).setCell ⟨g,9,none⟩ x9) g #[x0,x1,x2,x3,x4,x5,x6,x7,x8,x9,a10] t:=h9.set 9 x9
 have h11:Blk (((((((((((w.setCell ⟨g,0,none⟩ x0).setCell ⟨g,1,none⟩ x1).setCell ⟨g,2,none⟩ x2).setCell ⟨g,3,none⟩ x3).setCell ⟨g,4,none⟩ x4).setCell ⟨g,5,none⟩ x5).setCell ⟨g,6,none⟩ x6).setCell ⟨g,7,none⟩ x7).setCell ⟨g,8,none⟩ x8).setCell ⟨g,9,none⟩ x9).setCell ⟨g,10,none⟩ x10) g #[x0,x1,x2,x3,x4,x5,x6,x7,x8,x9,x10] t:=h10.set 10 x10
 exact ⟨⟨h.cell 0 _ rfl,h.free 0⟩,⟨h1.cell 1 _ rfl,h1.free 1⟩,⟨h2.cell 2 _ rfl,h2.free 2⟩,⟨h3.cell 3 _ rfl,h3.free 3⟩,⟨h4.cell 4 _ rfl,h4.free 4⟩,⟨h5.cell 5 _ rfl,h5.free 5⟩,⟨h6.cell 6 _ rfl,h6.free 6⟩,⟨h7.cell 7 _ rfl,h7.free 7⟩,⟨h8.cell 8 _ rfl,h8.free 8⟩,⟨h9.cell 9 _ rfl,h9.free 9⟩,⟨h10.cell 10 _ rfl,h10.free 10⟩,h11.cell 0 _ rfl,h11.cell 1 _ rfl,h11.cell 2 _ rfl,h11.cell 3 _ rfl,h11.cell 4 _ rfl,h11.cell 5 _ rfl,h11.cell 6 _ rfl,h11.cell 7 _ rfl,h11.cell 8 _ rfl,h11.cell 9 _ rfl,h11.cell 10 _ rfl⟩
theorem belowR11 {w w':World} {B g:Nat} (h:Below B w w') (hg:B≤g) (x0 x1 x2 x3 x4 x5 x6 x7 x8 x9 x10:Value):Below B w (((((((((((w'.setCell ⟨g,0,none⟩ x0).setCell ⟨g,1,none⟩ x1).setCell ⟨g,2,none⟩ x2).setCell ⟨g,3,none⟩ x3).setCell ⟨g,4,none⟩ x4).setCell ⟨g,5,none⟩ x5).setCell ⟨g,6,none⟩ x6).setCell ⟨g,7,none⟩ x7).setCell ⟨g,8,none⟩ x8).setCell ⟨g,9,none⟩ x9).setCell ⟨g,10,none⟩ x10):=(((((((((((h.setCell hg _).setCell hg _).setCell hg _).setCell hg _).setCell hg _).setCell hg _).setCell hg _).setCell hg _).setCell hg _).setCell hg _).setCell hg _)
structure RtRows (w:World) (base:Nat) (x:Rtr) (us ul ut:Value):Prop where
 s:Nums w base us x.sers
 l:Owns w base 74 11 ul (lgxR x.legs)
 t:Owns w base 67 6 ut (tdoR x.todo)
theorem RtRows.on {w w':World} {base:Nat} {x:Rtr} {us ul ut:Value} (h:RtRows w base x us ul ut) (hb:Below w.heap.size w w'):RtRows w' base x us ul ut:=⟨h.s.on hb,h.l.on hb,h.t.on hb⟩
theorem RtRows.mono {w:World} {b c:Nat} {x:Rtr} {us ul ut:Value} (h:RtRows w b x us ul ut) (hc:c≤b):RtRows w c x us ul ut:=⟨h.s.mono hc,h.l.mono hc,h.t.mono hc⟩
theorem RtRows.lies {w:World} {base:Nat} {x:Rtr} {us ul ut:Value} (h:RtRows w base x us ul ut):RtrV w w.heap.size (vRtr x us ul ut) x:=⟨us,ul,ut,rfl,h.s.lies,h.l.lies,h.t.lies⟩
theorem Nums.lowR {w:World} {bs g j:Nat} {v u:Value} {l:List Int} (h:Nums w bs u l) (hl:g<bs):Nums (w.setCell ⟨g,j,none⟩ v) bs u l:=h.other (fun e=>by have:=(h.lt g e).1;omega) j v
theorem Owns.lowR {w:World} {bs g j k:Nat} {t:TypeId} {v u:Value} {R:List (List Value)} (h:Owns w bs t k u R) (hl:g<bs):Owns (w.setCell ⟨g,j,none⟩ v) bs t k u R:=h.other (fun e=>by have:=(h.lt g e).1;omega) j v
theorem RtRows.low {w:World} {bs g j:Nat} {x:Rtr} {us ul ut v:Value} (h:RtRows w bs x us ul ut) (hl:g<bs):RtRows (w.setCell ⟨g,j,none⟩ v) bs x us ul ut:=⟨h.s.lowR hl,h.l.lowR hl,h.t.lowR hl⟩
theorem rowsR11 {w:World} {bs g:Nat} {x:Rtr} {us ul ut:Value} (h:RtRows w bs x us ul ut) (hl:g<bs) (x0 x1 x2 x3 x4 x5 x6 x7 x8 x9 x10:Value):RtRows (((((((((((w.setCell ⟨g,0,none⟩ x0).setCell ⟨g,1,none⟩ x1).setCell ⟨g,2,none⟩ x2).setCell ⟨g,3,none⟩ x3).setCell ⟨g,4,none⟩ x4).setCell ⟨g,5,none⟩ x5).setCell ⟨g,6,none⟩ x6).setCell ⟨g,7,none⟩ x7).setCell ⟨g,8,none⟩ x8).setCell ⟨g,9,none⟩ x9).setCell ⟨g,10,none⟩ x10) bs x us ul ut:=(((((((((((h.low hl).low hl).low hl).low hl).low hl).low hl).low hl).low hl).low hl).low hl).low hl)
end Go.Proofs.YtedmdilabbolaaaGreatDoor
namespace Go.Proofs.YtedmdilabbolaaaGreatDoor
open Go.ChangeShapes Go.WideShapes Go.ChangeAt Go.RowKit Go.PlainAid
set_option linter.unusedVariables false
theorem below_t2 (w:World) (a b:Obj):Below w.heap.size w ((w.alloc a).alloc b):=(((Below.refl _ w).alloc (Nat.le_refl _) a).alloc (by simp) b)
theorem below_t6 (w:World) (a b c d e f:Obj):Below w.heap.size w ((((((w.alloc a).alloc b).alloc c).alloc d).alloc e).alloc f):=(((((((Below.refl _ w).alloc (Nat.le_refl _) a).alloc (by simp) b).alloc (by simp;omega) c).alloc (by simp;omega) d).alloc (by simp;omega) e).alloc (by simp;omega) f)
theorem below_t9 (w:World) (a b c d e f g h i:Obj):Below w.heap.size w (((((((((w.alloc a).alloc b).alloc c).alloc d).alloc e).alloc f).alloc g).alloc h).alloc i):=((((((((((Below.refl _ w).alloc (Nat.le_refl _) a).alloc (by simp) b).alloc (by simp;omega) c).alloc (by simp;omega) d).alloc (by simp;omega) e).alloc (by simp;omega) f).alloc (by simp;omega) g).alloc (by simp;omega) h).alloc (by simp;omega) i)
set_option maxHeartbeats 400000 in
theorem toOpT (x:Opx) (w:World):Calls Tryz.prog 119 #[vOp x] w fun e w'=>e=.returned (vOp x)∧∃ oa ob oc,w'=((w.alloc oa).alloc ob).alloc oc:=by
 unfold vOp
 go_enter Tryz.func119,Tryz.ntmps119
 go_wp2
 exact bodyPost_ret (v:=.agg #[.int .i64 x.kind,.string x.key,.int .i64 x.frm,.int .i64 x.til,.string x.data]) (by simp[results,go_sem]) rfl ⟨rfl,_,_,_,rfl⟩
set_option maxHeartbeats 400000 in
theorem toAnswerT (x:Ans) (w:World):Calls Tryz.prog 120 #[vAns x] w fun e w'=>e=.returned (vAns x)∧∃ a b c,w'=((w.alloc a).alloc b).alloc c:=by
 unfold vAns
 go_enter Tryz.func120,Tryz.ntmps120
 go_wp2
 exact bodyPost_ret (v:=.agg #[.int .i64 x.code,.int .i64 x.index,.int .i64 x.mark,.string x.data]) (by simp[results,go_sem]) rfl ⟨rfl,_,_,_,rfl⟩
set_option maxHeartbeats 400000 in
theorem eqOpT (x:Opx) (w:World):Calls Tryz.prog 127 #[vOp x,vOp x] w fun e w'=>e=.returned (.bool true)∧Below w.heap.size w w':=by
 unfold vOp
 go_enter Tryz.func127,Tryz.ntmps127
 go_wp2
 go_ret
 exact ⟨rfl,below_t2 _ _ _⟩
set_option maxHeartbeats 400000 in
theorem eqAnswerT (x:Ans) (w:World):Calls Tryz.prog 128 #[vAns x,vAns x] w fun e w'=>e=.returned (.bool true)∧Below w.heap.size w w':=by
 unfold vAns
 go_enter Tryz.func128,Tryz.ntmps128
 go_wp2
 go_ret
 exact ⟨rfl,below_t2 _ _ _⟩
def wtD1 (x:Tdo):Nat:=x.key.size+x.data.size
def wtD:List Tdo→Nat
 | []=>0
 | x::r=>wtD1 x+wtD r
theorem wtD_snoc (l:List Tdo) (k:Nat) (h:k<l.length):wtD (l.take (k+1))=wtD (l.take k)+wtD1 (l.getD k default):=by
 rw[← getD_at l k h]
 induction l generalizing k with
 | nil=>simp at h
 | cons x r ih =>
  cases k with
  | zero=>simp[wtD]
  | succ k=>simp only[List.take_succ_cons,wtD,List.getElem_cons_succ];rw[ih k (by simpa using h)];omega
def vTdo (x:Tdo):Value:=.agg #[.int .i64 x.group,.int .i64 x.kind,.string x.key,.int .i64 x.frm,.int .i64 x.til,.string x.data]
set_option maxHeartbeats 1000000 in
theorem szTodo (x:Tdo) (left:Int) (w:World) (h0:0≤left) (h1:left≤1048576) (hx:x.key.size≤maxLen∧x.data.size≤maxLen) :
  Calls Tryz.prog 77 #[vTdo x,.int .i64 left] w fun e w'=>(∃ r,e=.returned (.int .i64 r)∧Hid (r=-1∨0≤r∧r+(wtD1 x:Int)=left))∧Below w.heap.size w w':=by
 unfold vTdo wtD1
 have c1:=fun wx=>szOp x.op left wx h0 h1 ⟨hx.1,hx.2⟩
 simp only[vOp,Tdo.op] at c1
 have HB:Hid (Below w.heap.size w (w.alloc (.cells #[.int .i64 x.group,.int .i64 x.kind,.string x.key,.int .i64 x.frm,.int .i64 x.til,.string x.data] 113))):=below_a1 _ _
 generalize hm:x.key.size=m at *
 generalize hn:x.data.size=n at *
 go_enter Tryz.func77,Tryz.ntmps77
 go_wp2_with fail
 refine (c1 _).mono ?_
 rintro e w1 ⟨⟨r,rfl,hr⟩,hb⟩
 have B1:Hid (Below w.heap.size w w1):=HB.out.trans (hb.mono HB.out.size)
 have KX:Hid (Blk w1 w.heap.size #[.int .i64 x.group,.int .i64 x.kind,.string x.key,.int .i64 x.frm,.int .i64 x.til,.string x.data] 113):=(Blk.new w #[.int .i64 x.group,.int .i64 x.kind,.string x.key,.int .i64 x.frm,.int .i64 x.til,.string x.data] 113).on hb (by simp)
 clear hb
 rcases hr.out with rfl | ⟨hr0,hr1⟩
 ·go_wp2_with fail
  go_ret
  exact ⟨⟨_,rfl,.inl rfl⟩,B1.out⟩
 ·have q:decide (r<0)=false:=decide_eq_false (by omega)
  have HR:Hid (r+(m:Int)+(n:Int)=left):=by unfold Hid;omega
  have q1:r≤1048576:=by omega
  clear hr1 c1
  have HR2:Hid (r+((m+n:Nat):Int)=left):=by have:=HR.out;unfold Hid;omega
  go_wp2_with fail
  go_ret
  exact ⟨⟨_,rfl,.inr ⟨hr0,HR2.out⟩⟩,B1.out⟩
set_option maxHeartbeats 1000000 in
theorem szTodoS (l:List Tdo) (v:Value) (left:Int) (w:World) (B:Nat) (hv:Lies w B 6 v (tdoR l)) (hd:∀ x∈l,x.key.size≤maxLen∧x.data.size≤maxLen) (hn:l.length≤maxLen) (h0:0≤left) (h1:left≤1048576) (hB:B≤w.heap.size) :
  Calls Tryz.prog 28 #[v,.int .i64 left] w fun e w'=>∃ r:Int,e=.returned (.int .i64 r)∧(r=-1∨0≤r∧r+((l.length+wtD l:Nat):Int)=left)∧Below w.heap.size w w':=by
 unfold maxLen at hn
 obtain ⟨A,cap,rfl,hl⟩:=tdo_look hv
 have HL:Hid (∀ j,j<l.length→∃ g off,A=some ⟨g,off,none⟩∧g<B∧_):=hl
 have HD:Hid (∀ x∈l,x.key.size≤maxLen∧x.data.size≤maxLen):=hd
 have HB:Hid (B≤w.heap.size):=hB
 clear hl hd hB hv
 have q1:(l.length:Int)≤9223372036854775807:=by omega
 have w2:wrap64 (left - (l.length:Int))=left - (l.length:Int):=by unfold wrap64;omega
 by_cases hs:left<(l.length:Int)
 ·have q2:left - (l.length:Int)<0:=by omega
  go_enter Tryz.func28,Tryz.ntmps28
  go_wp2_with fail
  go_ret
  exact ⟨-1,rfl,.inl rfl,Below.refl _ _⟩
 ·have q2:0≤left - (l.length:Int):=by omega
  have q3:decide (left - (l.length:Int)<0)=false:=decide_eq_false (by omega)
  have HQ:Hid (0≤left - (l.length:Int)):=q2
  generalize hN:l.length=n at *
  go_enter Tryz.func28,Tryz.ntmps28
  go_wp2_with fail
  clear q2 q3 w2
  go_loopw [1,5] (fun v1 v5 wr=>∃ (k:Nat) (r:Int),k≤n∧v5=.int .i64 (k:Int)∧v1=.int .i64 r∧0≤r∧r+((n+wtD (l.take k):Nat):Int)=left∧Below w.heap.size w wr) (fun _ i _=>n - (intOf i).toNat)
  case atStart=>exact ⟨0,left - (n:Int),by omega,rfl,rfl,HQ.out,by simp[wtD],Below.refl _ _⟩
  case round =>
   obtain ⟨k,r,hk,rfl,rfl,hr0,hr,hb⟩:=hrel
   have HR:Hid (r+((n+wtD (l.take k):Nat):Int)=left):=hr
   have HB1:Hid (Below w.heap.size w wr):=hb
   have q9:r≤1048576:=by omega
   clear hr hb
   by_cases hlt:k<n
   ·have q4:(k:Int)<(n:Int):=by omega
    obtain ⟨g,off,rfl,hg,hc0,hc1,hc2,hc3,hc4,hc5⟩:=HL.out k (by omega)
    have hgw:g<w.heap.size:=Nat.lt_of_lt_of_le hg HB.out
    rw[← HB1.out.cell (p:=⟨_,_,none⟩) hgw] at hc0
    rw[← HB1.out.cell (p:=⟨_,_,none⟩) hgw] at hc1
    rw[← HB1.out.cell (p:=⟨_,_,none⟩) hgw] at hc2
    rw[← HB1.out.cell (p:=⟨_,_,none⟩) hgw] at hc3
    rw[← HB1.out.cell (p:=⟨_,_,none⟩) hgw] at hc4
    rw[← HB1.out.cell (p:=⟨_,_,none⟩) hgw] at hc5
    have c1:=fun wx=>szTodo (l.getD k default) r wx hr0 q9 (HD.out _ (getD_mem l k (by omega)))
    have HW:Hid (wtD (l.take (k+1))=wtD (l.take k)+wtD1 (l.getD k default)):=wtD_snoc l k (by omega)
    unfold vTdo at c1
    generalize wtD1 (l.getD k default)=t at *
    generalize l.getD k default=x at *
    go_wp2_with fail
    refine (c1 _).mono ?_
    rintro e w2 ⟨⟨r2,rfl,hr2⟩,hb2⟩
    have HR2:Hid (r2=-1∨0≤r2∧r2+(t:Int)=r):=hr2
    have HB2:Hid (Below w.heap.size w w2):=HB1.out.trans (hb2.mono HB1.out.size)
    clear hr2 hb2
    rcases HR2.out with rfl | ⟨hp,hq⟩
    ·go_wp2_with fail
     go_ret
     exact ⟨-1,rfl,.inl rfl,HB2.out⟩
    ·have q5:decide (r2<0)=false:=decide_eq_false (by omega)
     have HQ2:Hid (r2+(t:Int)=r):=hq
     clear hq
     go_wp2_with fail
     go_roundw
     case rel=>exact ⟨k+1,r2,by omega,by go_num,rfl,hp,by have:=HR.out;have:=HQ2.out;rw[HW.out];omega,HB2.out⟩
     case measure=>simp[intOf];omega
   ·obtain rfl:k=n:=by omega
    go_wp2_with fail
    go_ret
    exact ⟨r,rfl,.inr ⟨hr0,by have:=HR.out;rw[← hN,List.take_length] at this;rw[← hN];exact this⟩,HB1.out⟩
set_option maxHeartbeats 1000000 in
theorem toTodo (x:Tdo) (w:World):Calls Tryz.prog 82 #[vTdo x] w fun e w'=>e=.returned (vTdo x)∧Below w.heap.size w w':=by
 unfold vTdo
 have c1:=fun wx=>toOpT x.op wx
 simp only[vOp,Tdo.op] at c1
 go_enter Tryz.func82,Tryz.ntmps82
 go_wp2_with fail
 refine (c1 _).mono ?_
 rintro e w1 ⟨rfl,oa,ob,oc,rfl⟩
 go_wp2_with fail
 exact bodyPost_ret (v:=.agg #[.int .i64 x.group,.int .i64 x.kind,.string x.key,.int .i64 x.frm,.int .i64 x.til,.string x.data]) (by simp[results,go_sem]) rfl ⟨rfl,below_t6 _ _ _ _ _ _ _⟩
theorem Tryz.infoTdo:(Tryz.prog.info? 67).map (fun i=>(i.zero,i.size,i.bytes))=some (some (.agg #[.int .i64 0,.int .i64 0,.string ⟨#[]⟩,.int .i64 0,.int .i64 0,.string ⟨#[]⟩]),6,64):=by kernel_rfl
def tdoZ:List Value:=[.int .i64 0,.int .i64 0,.string ⟨#[]⟩,.int .i64 0,.int .i64 0,.string ⟨#[]⟩]
theorem tdo_made (n:Nat):madeCells #[.int .i64 0,.int .i64 0,.string ⟨#[]⟩,.int .i64 0,.int .i64 0,.string ⟨#[]⟩] (n*6)=(List.replicate n tdoZ).flatten.toArray:=by
 apply Array.ext'
 rw[List.toList_toArray]
 apply List.ext_getElem?
 intro k
 have hz:∀ r∈List.replicate n tdoZ,r.length=6:=fun r hr=>by rw[List.eq_of_mem_replicate hr];rfl
 by_cases hk:k<n*6
 ·have e:k=k / 6*6+k % 6:=by omega
  have hf:k % 6<6:=Nat.mod_lt _ (by omega)
  have hj:k / 6<n:=Nat.div_lt_of_lt_mul (by omega)
  have:=flat_at 6 (List.replicate n tdoZ) hz (k / 6) (k % 6) (by simpa using hj) hf
  rw[← e] at this
  have hr:(List.replicate n tdoZ)[k / 6]'(by simpa using hj)=tdoZ:=by simp
  rw[this,hr]
  have hs:(madeCells #[.int .i64 0,.int .i64 0,.string ⟨#[]⟩,.int .i64 0,.int .i64 0,.string ⟨#[]⟩] (n*6)).toList[k]?=some (#[.int .i64 0,.int .i64 0,.string ⟨#[]⟩,.int .i64 0,.int .i64 0,.string ⟨#[]⟩].getD (k % 6) default):=by simp[madeCells,hk]
  rw[hs]
  have:k % 6=0∨k % 6=1∨k % 6=2∨k % 6=3∨k % 6=4∨k % 6=5:=by omega
  rcases this with h | h | h | h | h | h<;>rw[h]<;>rfl
 ·have hl:(List.replicate n tdoZ).flatten.length=n*6:=by rw[flat_length 6 _ hz];simp
  have hr:(List.replicate n tdoZ).flatten[k]?=none:=List.getElem?_eq_none (by omega)
  rw[hr]
  apply List.getElem?_eq_none
  rw[Array.length_toList,size_madeCells]
  omega
set_option maxHeartbeats 1000000 in
theorem toTodoS (l:List Tdo) (v:Value) (w:World) (B:Nat) (hv:Lies w B 6 v (tdoR l)) (hn:l.length≤1048576) (hB:B≤w.heap.size) :
  Calls Tryz.prog 37 #[v] w fun e w'=>∃ u,e=.returned u∧Owns w' w.heap.size 67 6 u (tdoR l)∧Below w.heap.size w w':=by
 obtain ⟨A,cap,rfl,hl⟩:=tdo_look hv
 have HL:Hid (∀ j,j<l.length→∃ g off,A=some ⟨g,off,none⟩∧g<B∧_):=hl
 have HB:Hid (B≤w.heap.size):=hB
 clear hl hB hv
 have q1:(l.length:Int)≤1048576:=by omega
 generalize hN:l.length=n at *
 obtain ⟨i0,hi,hz0,hz1,hz2⟩:=info_parts Tryz.infoTdo
 have hmk:∀ wx:World,(Instr.makeSlice 33 (.int .i64 (n:Int)) (.int .i64 (n:Int))).run Tryz.prog wx=.ok (.slice (some ⟨wx.heap.size,0,none⟩) n n) (wx.alloc (.cells (List.replicate n tdoZ).flatten.toArray 67)):=fun wx=>by
  have h:=run_make (P:=Tryz.prog) wx 33 67 i0 _ Tryz.underlying33 hi hz0 .i64 .i64 (n:Int) (n:Int) (by omega) (by omega) (by rw[hz2];omega) (by omega)
  rw[hz1] at h
  have e:(Value.agg #[.int .i64 0,.int .i64 0,.string ⟨#[]⟩,.int .i64 0,.int .i64 0,.string ⟨#[]⟩]).cells=#[.int .i64 0,.int .i64 0,.string ⟨#[]⟩,.int .i64 0,.int .i64 0,.string ⟨#[]⟩]:=rfl
  rw[e,Int.toNat_natCast,tdo_made] at h
  exact h
 clear hi hz0 hz1 hz2
 go_enter Tryz.func37,Tryz.ntmps37
 go_wp2_with fail
 go_loopw [4] (fun v4 wr=>∃ k:Nat,k≤n∧v4=.int .i64 (k:Int)∧Owns wr w.heap.size 67 6 (.slice (some ⟨w.heap.size,0,none⟩) n n) (tdoR (l.take k)++List.replicate (n - k) tdoZ)∧Below w.heap.size w wr) (fun i _=>n - (intOf i).toNat)
 case atStart =>
  refine ⟨0,by omega,rfl,?_,(Below.refl _ _).alloc (Nat.le_refl _) _⟩
  rw[List.take_zero,Nat.sub_zero,show tdoR []=[] from rfl,List.nil_append]
  refine ⟨fun r hr=>by rw[List.eq_of_mem_replicate hr];rfl,?_⟩
  have hz:∀ r∈List.replicate n tdoZ,r.length=6:=fun r hr=>by rw[List.eq_of_mem_replicate hr];rfl
  have hl:=flat_length 6 (List.replicate n tdoZ) hz
  rw[List.length_replicate] at hl ⊢
  exact World.ownsRow_lit w (List.replicate n tdoZ).flatten.toArray n (Nat.le_refl _) (by unfold maxLen;omega) (by simpa using hl)
 case round =>
  obtain ⟨k,hk,rfl,hO,hb⟩:=hrel
  have HO:Hid (Owns wr w.heap.size 67 6 (.slice (some ⟨w.heap.size,0,none⟩) n n) (tdoR (l.take k)++List.replicate (n - k) tdoZ)):=hO
  have HB1:Hid (Below w.heap.size w wr):=hb
  clear hO hb
  by_cases hlt:k<n
  ·have q4:(k:Int)<(n:Int):=by omega
   obtain ⟨g,off,rfl,hg,hc0,hc1,hc2,hc3,hc4,hc5⟩:=HL.out k (by omega)
   have hgw:g<w.heap.size:=Nat.lt_of_lt_of_le hg HB.out
   rw[← HB1.out.cell (p:=⟨_,_,none⟩) hgw] at hc0
   rw[← HB1.out.cell (p:=⟨_,_,none⟩) hgw] at hc1
   rw[← HB1.out.cell (p:=⟨_,_,none⟩) hgw] at hc2
   rw[← HB1.out.cell (p:=⟨_,_,none⟩) hgw] at hc3
   rw[← HB1.out.cell (p:=⟨_,_,none⟩) hgw] at hc4
   rw[← HB1.out.cell (p:=⟨_,_,none⟩) hgw] at hc5
   have c1:=fun wx=>toTodo (l.getD k default) wx
   unfold vTdo at c1
   generalize hx:l.getD k default=x at *
   have HX:Hid (l.getD k default=x):=hx
   clear hx
   go_wp2_with fail
   refine (c1 _).mono ?_
   rintro e w2 ⟨rfl,hb2⟩
   have hlen:(tdoR (l.take k)++List.replicate (n - k) tdoZ).length=n:=by rw[List.length_append,List.length_replicate];simp[tdoR];omega
   have hdl:(tdoR (l.take k)).length=k:=by simp[tdoR];omega
   have hO2:=HO.out.on hb2
   have hO3:=hO2
   rw[show (Value.slice (some ⟨w.heap.size,0,none⟩) n n)=.slice (some ⟨w.heap.size,0,none⟩) (tdoR (l.take k)++List.replicate (n - k) tdoZ).length n by rw[hlen]] at hO2
   obtain ⟨y0,d0⟩:=hO2.cellX k 0 (by rw[hlen];exact hlt) (by omega)
   have f0:=hO2.free (k*6)
   obtain ⟨y1,d1⟩:=hO2.cellX k 1 (by rw[hlen];exact hlt) (by omega)
   have f1:=hO2.free (k*6+1)
   obtain ⟨y2,d2⟩:=hO2.cellX k 2 (by rw[hlen];exact hlt) (by omega)
   have f2:=hO2.free (k*6+2)
   obtain ⟨y3,d3⟩:=hO2.cellX k 3 (by rw[hlen];exact hlt) (by omega)
   have f3:=hO2.free (k*6+3)
   obtain ⟨y4,d4⟩:=hO2.cellX k 4 (by rw[hlen];exact hlt) (by omega)
   have f4:=hO2.free (k*6+4)
   obtain ⟨y5,d5⟩:=hO2.cellX k 5 (by rw[hlen];exact hlt) (by omega)
   have f5:=hO2.free (k*6+5)
   rw[Nat.add_zero] at d0
   have hP:=hO2.put6 k (by rw[hlen];exact hlt) (.int .i64 x.group) (.int .i64 x.kind) (.string x.key) (.int .i64 x.frm) (.int .i64 x.til) (.string x.data)
   rw[hlen,fill_step _ _ _ n k hdl hlt,show tdoR (l.take k)++[[.int .i64 x.group,.int .i64 x.kind,.string x.key,.int .i64 x.frm,.int .i64 x.til,.string x.data]]=tdoR (l.take (k+1)) by rw[tdoR_snoc l k (by omega),HX.out];rfl] at hP
   have HP:Hid (Owns (((((((w2).setCell ⟨w.heap.size,k*6,none⟩ (.int .i64 x.group)).setCell ⟨w.heap.size,k*6+1,none⟩ (.int .i64 x.kind)).setCell ⟨w.heap.size,k*6+2,none⟩ (.string x.key)).setCell ⟨w.heap.size,k*6+3,none⟩ (.int .i64 x.frm)).setCell ⟨w.heap.size,k*6+4,none⟩ (.int .i64 x.til)).setCell ⟨w.heap.size,k*6+5,none⟩ (.string x.data)) w.heap.size 67 6 (.slice (some ⟨w.heap.size,0,none⟩) n n) (tdoR (l.take (k+1))++List.replicate (n - (k+1)) tdoZ)):=hP
   have HB2:Hid (Below w.heap.size w w2):=HB1.out.trans (hb2.mono HB1.out.size)
   clear hO2 hO3 hP hb2 hlen hdl
   go_wp2_with fail
   go_roundw
   case rel=>exact ⟨k+1,by omega,by go_num,HP.out,((((((HB2.out).setCell (Nat.le_refl _) _).setCell (Nat.le_refl _) _).setCell (Nat.le_refl _) _).setCell (Nat.le_refl _) _).setCell (Nat.le_refl _) _).setCell (Nat.le_refl _) _⟩
   case measure=>simp[intOf];omega
  ·obtain rfl:k=n:=by omega
   go_wp2_with fail
   go_ret
   refine ⟨_,rfl,?_,HB1.out⟩
   have:=HO.out
   rw[← hN,List.take_length,Nat.sub_self,List.replicate_zero,List.append_nil] at this
   rw[← hN]
   exact this
set_option maxHeartbeats 1000000 in
theorem eqTodo (x:Tdo) (w:World):Calls Tryz.prog 88 #[vTdo x,vTdo x] w fun e w'=>e=.returned (.bool true)∧Below w.heap.size w w':=by
 unfold vTdo
 have c1:=fun wx=>eqOpT x.op wx
 simp only[vOp,Tdo.op] at c1
 obtain ⟨X0,hX0⟩:∃ X0,X0=(w.alloc (.cells #[.int .i64 x.group,.int .i64 x.kind,.string x.key,.int .i64 x.frm,.int .i64 x.til,.string x.data] 67)).alloc (.cells #[.int .i64 x.group,.int .i64 x.kind,.string x.key,.int .i64 x.frm,.int .i64 x.til,.string x.data] 67):=⟨_,rfl⟩
 have HB:Hid (Below w.heap.size w X0):=by unfold Hid;rw[hX0];exact below_t2 w _ _
 have KA:Hid (Blk X0 w.heap.size #[.int .i64 x.group,.int .i64 x.kind,.string x.key,.int .i64 x.frm,.int .i64 x.til,.string x.data] 67):=by unfold Hid;rw[hX0];exact (Blk.new w _ _).alloc _
 have KB:Hid (Blk X0 (w.heap.size+1) #[.int .i64 x.group,.int .i64 x.kind,.string x.key,.int .i64 x.frm,.int .i64 x.til,.string x.data] 67):=by unfold Hid;rw[hX0];have:=Blk.new (w.alloc (.cells #[.int .i64 x.group,.int .i64 x.kind,.string x.key,.int .i64 x.frm,.int .i64 x.til,.string x.data] 67)) #[.int .i64 x.group,.int .i64 x.kind,.string x.key,.int .i64 x.frm,.int .i64 x.til,.string x.data] 67;rw[World.size_alloc] at this;exact this
 go_enter Tryz.func88,Tryz.ntmps88
 go_wp2_with fail
 rw[← hX0]
 clear hX0
 refine (c1 _).mono ?_
 rintro e w1 ⟨rfl,hb⟩
 have B1:Hid (Below w.heap.size w w1):=HB.out.trans (hb.mono HB.out.size)
 clear hb HB KA KB c1
 go_wp2_with fail
 go_ret
 exact ⟨rfl,B1.out⟩
set_option maxHeartbeats 1000000 in
theorem eqTodoS (l:List Tdo) (va vb:Value) (w:World) (B:Nat) (ha:Lies w B 6 va (tdoR l)) (hb:Lies w B 6 vb (tdoR l)) (hn:l.length≤1048576) (hB:B≤w.heap.size) :
  Calls Tryz.prog 44 #[va,vb] w fun e w'=>e=.returned (.bool true)∧Below w.heap.size w w':=by
 obtain ⟨A,cap,rfl,hl⟩:=tdo_look ha
 obtain ⟨A',cap',rfl,hl'⟩:=tdo_look hb
 have HL:Hid (∀ j,j<l.length→∃ g off,A=some ⟨g,off,none⟩∧g<B∧_):=hl
 have HL':Hid (∀ j,j<l.length→∃ g off,A'=some ⟨g,off,none⟩∧g<B∧_):=hl'
 have HB:Hid (B≤w.heap.size):=hB
 clear hl hl' hB ha hb
 have q1:(l.length:Int)≤1048576:=by omega
 generalize hN:l.length=n at *
 go_enter Tryz.func44,Tryz.ntmps44
 go_wp2_with fail
 go_loopw [5] (fun v5 wr=>∃ k:Nat,k≤n∧v5=.int .i64 (k:Int)∧Below w.heap.size w wr) (fun i _=>n - (intOf i).toNat)
 case atStart=>exact ⟨0,by omega,rfl,Below.refl _ _⟩
 case round =>
  obtain ⟨k,hk,rfl,hb⟩:=hrel
  have HB1:Hid (Below w.heap.size w wr):=hb
  clear hb
  by_cases hlt:k<n
  ·have q4:(k:Int)<(n:Int):=by omega
   obtain ⟨g,off,rfl,hg,ha0,ha1,ha2,ha3,ha4,ha5⟩:=HL.out k hlt
   obtain ⟨g',off',rfl,hg',hb0,hb1,hb2,hb3,hb4,hb5⟩:=HL'.out k hlt
   have hgw:g<w.heap.size:=Nat.lt_of_lt_of_le hg HB.out
   have hgw':g'<w.heap.size:=Nat.lt_of_lt_of_le hg' HB.out
   rw[← HB1.out.cell (p:=⟨_,_,none⟩) hgw] at ha0
   rw[← HB1.out.cell (p:=⟨_,_,none⟩) hgw'] at hb0
   rw[← HB1.out.cell (p:=⟨_,_,none⟩) hgw] at ha1
   rw[← HB1.out.cell (p:=⟨_,_,none⟩) hgw'] at hb1
   rw[← HB1.out.cell (p:=⟨_,_,none⟩) hgw] at ha2
   rw[← HB1.out.cell (p:=⟨_,_,none⟩) hgw'] at hb2
   rw[← HB1.out.cell (p:=⟨_,_,none⟩) hgw] at ha3
   rw[← HB1.out.cell (p:=⟨_,_,none⟩) hgw'] at hb3
   rw[← HB1.out.cell (p:=⟨_,_,none⟩) hgw] at ha4
   rw[← HB1.out.cell (p:=⟨_,_,none⟩) hgw'] at hb4
   rw[← HB1.out.cell (p:=⟨_,_,none⟩) hgw] at ha5
   rw[← HB1.out.cell (p:=⟨_,_,none⟩) hgw'] at hb5
   have c1:=fun wx=>eqTodo (l.getD k default) wx
   unfold vTdo at c1
   generalize l.getD k default=x at *
   have hsz:=HB1.out.size
   go_wp2_with fail
   go_region_with (go_at_call 88;refine (c1 _).mono ?_;rintro e w1 ⟨rfl,hb1⟩)
   all_goals go_wp2_with fail
   all_goals exact ⟨⟨k+1,by omega,by go_num,HB1.out.trans (((Below.refl _ wr).drew.trans hb1).mono hsz)⟩,by simp[intOf];omega⟩
  ·obtain rfl:k=n:=by omega
   go_wp2_with fail
   go_ret
   exact ⟨rfl,HB1.out⟩
def wtG1 (x:Lgx):Nat:=x.key.size+x.data.size+x.told.size
def wtG:List Lgx→Nat
 | []=>0
 | x::r=>wtG1 x+wtG r
theorem wtG_snoc (l:List Lgx) (k:Nat) (h:k<l.length):wtG (l.take (k+1))=wtG (l.take k)+wtG1 (l.getD k default):=by
 rw[← getD_at l k h]
 induction l generalizing k with
 | nil=>simp at h
 | cons x r ih =>
  cases k with
  | zero=>simp[wtG]
  | succ k=>simp only[List.take_succ_cons,wtG,List.getElem_cons_succ];rw[ih k (by simpa using h)];omega
def vLgx (x:Lgx):Value:=.agg #[.int .i64 x.group,.int .i64 x.serial,.int .i64 x.kind,.string x.key,.int .i64 x.frm,.int .i64 x.til,.string x.data,.int .i64 x.code,.int .i64 x.index,.int .i64 x.mark,.string x.told]
set_option maxHeartbeats 1000000 in
theorem szLeg (x:Lgx) (left:Int) (w:World) (h0:0≤left) (h1:left≤1048576) (hx:x.key.size≤maxLen∧x.data.size≤maxLen∧x.told.size≤maxLen) :
  Calls Tryz.prog 76 #[vLgx x,.int .i64 left] w fun e w'=>(∃ r,e=.returned (.int .i64 r)∧Hid (r=-1∨0≤r∧r+(wtG1 x:Int)=left))∧Below w.heap.size w w':=by
 unfold vLgx wtG1
 have c1:=fun wx=>szOp x.op left wx h0 h1 ⟨hx.1,hx.2.1⟩
 have c2:=fun lf h2 h3 wx=>szAnswer x.ans lf wx h2 h3 hx.2.2
 simp only[vOp,vAns,Lgx.op,Lgx.ans] at c1 c2
 have HB:Hid (Below w.heap.size w (w.alloc (.cells #[.int .i64 x.group,.int .i64 x.serial,.int .i64 x.kind,.string x.key,.int .i64 x.frm,.int .i64 x.til,.string x.data,.int .i64 x.code,.int .i64 x.index,.int .i64 x.mark,.string x.told] 110))):=below_a1 _ _
 generalize hm:x.key.size=m at *
 generalize hn:x.data.size=n at *
 generalize ho:x.told.size=o at *
 go_enter Tryz.func76,Tryz.ntmps76
 go_wp2_with fail
 refine (c1 _).mono ?_
 rintro e w1 ⟨⟨r,rfl,hr⟩,hb⟩
 have B1:Hid (Below w.heap.size w w1):=HB.out.trans (hb.mono HB.out.size)
 have KX:Hid (Blk w1 w.heap.size #[.int .i64 x.group,.int .i64 x.serial,.int .i64 x.kind,.string x.key,.int .i64 x.frm,.int .i64 x.til,.string x.data,.int .i64 x.code,.int .i64 x.index,.int .i64 x.mark,.string x.told] 110):=(Blk.new w #[.int .i64 x.group,.int .i64 x.serial,.int .i64 x.kind,.string x.key,.int .i64 x.frm,.int .i64 x.til,.string x.data,.int .i64 x.code,.int .i64 x.index,.int .i64 x.mark,.string x.told] 110).on hb (by simp)
 clear hb
 rcases hr.out with rfl | ⟨hr0,hr1⟩
 ·go_wp2_with fail
  go_ret
  exact ⟨⟨_,rfl,.inl rfl⟩,B1.out⟩
 ·have q:decide (r<0)=false:=decide_eq_false (by omega)
  have HR:Hid (r+(m:Int)+(n:Int)=left):=by unfold Hid;omega
  have q1:r≤1048576:=by omega
  clear hr1 c1
  obtain ⟨k0,k1,k2,k3,k4,k5,k6,k7,k8,k9,k10⟩:w1.cell? ⟨w.heap.size,0,none⟩=some (.int .i64 x.group)∧w1.cell? ⟨w.heap.size,1,none⟩=some (.int .i64 x.serial)∧w1.cell? ⟨w.heap.size,2,none⟩=some (.int .i64 x.kind)∧w1.cell? ⟨w.heap.size,3,none⟩=some (.string x.key)∧w1.cell? ⟨w.heap.size,4,none⟩=some (.int .i64 x.frm)∧w1.cell? ⟨w.heap.size,5,none⟩=some (.int .i64 x.til)∧w1.cell? ⟨w.heap.size,6,none⟩=some (.string x.data)∧w1.cell? ⟨w.heap.size,7,none⟩=some (.int .i64 x.code)∧w1.cell? ⟨w.heap.size,8,none⟩=some (.int .i64 x.index)∧w1.cell? ⟨w.heap.size,9,none⟩=some (.int .i64 x.mark)∧w1.cell? ⟨w.heap.size,10,none⟩=some (.string x.told):=⟨KX.out.cell 0 _ rfl,KX.out.cell 1 _ rfl,KX.out.cell 2 _ rfl,KX.out.cell 3 _ rfl,KX.out.cell 4 _ rfl,KX.out.cell 5 _ rfl,KX.out.cell 6 _ rfl,KX.out.cell 7 _ rfl,KX.out.cell 8 _ rfl,KX.out.cell 9 _ rfl,KX.out.cell 10 _ rfl⟩
  go_wp2_with fail
  refine (c2 r hr0 q1 _).mono ?_
  rintro e w2 ⟨⟨r2,rfl,hr2⟩,hb⟩
  have B2:Hid (Below w.heap.size w w2):=B1.out.trans (hb.mono B1.out.size)
  clear hb k0 k1 k2 k3 k4 k5 k6 k7 k8 k9 k10 c2
  rcases hr2.out with rfl | ⟨hr3,hr4⟩
  ·go_wp2_with fail
   go_ret
   exact ⟨⟨_,rfl,.inl rfl⟩,B2.out⟩
  ·have q2:decide (r2<0)=false:=decide_eq_false (by omega)
   have HR2:Hid (r2+((m+n+o:Nat):Int)=left):=by have:=HR.out;unfold Hid;omega
   clear hr4
   go_wp2_with fail
   go_ret
   exact ⟨⟨_,rfl,.inr ⟨hr3,HR2.out⟩⟩,B2.out⟩
set_option maxHeartbeats 1000000 in
theorem szLegS (l:List Lgx) (v:Value) (left:Int) (w:World) (B:Nat) (hv:Lies w B 11 v (lgxR l)) (hd:∀ x∈l,x.key.size≤maxLen∧x.data.size≤maxLen∧x.told.size≤maxLen) (hn:l.length≤maxLen) (h0:0≤left) (h1:left≤1048576) (hB:B≤w.heap.size) :
  Calls Tryz.prog 27 #[v,.int .i64 left] w fun e w'=>∃ r:Int,e=.returned (.int .i64 r)∧(r=-1∨0≤r∧r+((l.length+wtG l:Nat):Int)=left)∧Below w.heap.size w w':=by
 unfold maxLen at hn
 obtain ⟨A,cap,rfl,hl⟩:=lgx_look hv
 have HL:Hid (∀ j,j<l.length→∃ g off,A=some ⟨g,off,none⟩∧g<B∧_):=hl
 have HD:Hid (∀ x∈l,x.key.size≤maxLen∧x.data.size≤maxLen∧x.told.size≤maxLen):=hd
 have HB:Hid (B≤w.heap.size):=hB
 clear hl hd hB hv
 have q1:(l.length:Int)≤9223372036854775807:=by omega
 have w2:wrap64 (left - (l.length:Int))=left - (l.length:Int):=by unfold wrap64;omega
 by_cases hs:left<(l.length:Int)
 ·have q2:left - (l.length:Int)<0:=by omega
  go_enter Tryz.func27,Tryz.ntmps27
  go_wp2_with fail
  go_ret
  exact ⟨-1,rfl,.inl rfl,Below.refl _ _⟩
 ·have q2:0≤left - (l.length:Int):=by omega
  have q3:decide (left - (l.length:Int)<0)=false:=decide_eq_false (by omega)
  have HQ:Hid (0≤left - (l.length:Int)):=q2
  generalize hN:l.length=n at *
  go_enter Tryz.func27,Tryz.ntmps27
  go_wp2_with fail
  clear q2 q3 w2
  go_loopw [1,5] (fun v1 v5 wr=>∃ (k:Nat) (r:Int),k≤n∧v5=.int .i64 (k:Int)∧v1=.int .i64 r∧0≤r∧r+((n+wtG (l.take k):Nat):Int)=left∧Below w.heap.size w wr) (fun _ i _=>n - (intOf i).toNat)
  case atStart=>exact ⟨0,left - (n:Int),by omega,rfl,rfl,HQ.out,by simp[wtG],Below.refl _ _⟩
  case round =>
   obtain ⟨k,r,hk,rfl,rfl,hr0,hr,hb⟩:=hrel
   have HR:Hid (r+((n+wtG (l.take k):Nat):Int)=left):=hr
   have HB1:Hid (Below w.heap.size w wr):=hb
   have q9:r≤1048576:=by omega
   clear hr hb
   by_cases hlt:k<n
   ·have q4:(k:Int)<(n:Int):=by omega
    obtain ⟨g,off,rfl,hg,hc0,hc1,hc2,hc3,hc4,hc5,hc6,hc7,hc8,hc9,hc10⟩:=HL.out k (by omega)
    have hgw:g<w.heap.size:=Nat.lt_of_lt_of_le hg HB.out
    rw[← HB1.out.cell (p:=⟨_,_,none⟩) hgw] at hc0
    rw[← HB1.out.cell (p:=⟨_,_,none⟩) hgw] at hc1
    rw[← HB1.out.cell (p:=⟨_,_,none⟩) hgw] at hc2
    rw[← HB1.out.cell (p:=⟨_,_,none⟩) hgw] at hc3
    rw[← HB1.out.cell (p:=⟨_,_,none⟩) hgw] at hc4
    rw[← HB1.out.cell (p:=⟨_,_,none⟩) hgw] at hc5
    rw[← HB1.out.cell (p:=⟨_,_,none⟩) hgw] at hc6
    rw[← HB1.out.cell (p:=⟨_,_,none⟩) hgw] at hc7
    rw[← HB1.out.cell (p:=⟨_,_,none⟩) hgw] at hc8
    rw[← HB1.out.cell (p:=⟨_,_,none⟩) hgw] at hc9
    rw[← HB1.out.cell (p:=⟨_,_,none⟩) hgw] at hc10
    have c1:=fun wx=>szLeg (l.getD k default) r wx hr0 q9 (HD.out _ (getD_mem l k (by omega)))
    have HW:Hid (wtG (l.take (k+1))=wtG (l.take k)+wtG1 (l.getD k default)):=wtG_snoc l k (by omega)
    unfold vLgx at c1
    generalize wtG1 (l.getD k default)=t at *
    generalize l.getD k default=x at *
    go_wp2_with fail
    refine (c1 _).mono ?_
    rintro e w2 ⟨⟨r2,rfl,hr2⟩,hb2⟩
    have HR2:Hid (r2=-1∨0≤r2∧r2+(t:Int)=r):=hr2
    have HB2:Hid (Below w.heap.size w w2):=HB1.out.trans (hb2.mono HB1.out.size)
    clear hr2 hb2
    rcases HR2.out with rfl | ⟨hp,hq⟩
    ·go_wp2_with fail
     go_ret
     exact ⟨-1,rfl,.inl rfl,HB2.out⟩
    ·have q5:decide (r2<0)=false:=decide_eq_false (by omega)
     have HQ2:Hid (r2+(t:Int)=r):=hq
     clear hq
     go_wp2_with fail
     go_roundw
     case rel=>exact ⟨k+1,r2,by omega,by go_num,rfl,hp,by have:=HR.out;have:=HQ2.out;rw[HW.out];omega,HB2.out⟩
     case measure=>simp[intOf];omega
   ·obtain rfl:k=n:=by omega
    go_wp2_with fail
    go_ret
    exact ⟨r,rfl,.inr ⟨hr0,by have:=HR.out;rw[← hN,List.take_length] at this;rw[← hN];exact this⟩,HB1.out⟩
set_option maxHeartbeats 1000000 in
theorem toLeg (x:Lgx) (w:World):Calls Tryz.prog 81 #[vLgx x] w fun e w'=>e=.returned (vLgx x)∧Below w.heap.size w w':=by
 unfold vLgx
 have c1:=fun wx=>toOpT x.op wx
 have c2:=fun wx=>toAnswerT x.ans wx
 simp only[vOp,vAns,Lgx.op,Lgx.ans] at c1 c2
 go_enter Tryz.func81,Tryz.ntmps81
 go_wp2_with fail
 refine (c1 _).mono ?_
 rintro e w1 ⟨rfl,oa,ob,oc,rfl⟩
 go_wp2_with fail
 refine (c2 _).mono ?_
 rintro e w2 ⟨rfl,od,oe,of,rfl⟩
 go_wp2_with fail
 exact bodyPost_ret (v:=.agg #[.int .i64 x.group,.int .i64 x.serial,.int .i64 x.kind,.string x.key,.int .i64 x.frm,.int .i64 x.til,.string x.data,.int .i64 x.code,.int .i64 x.index,.int .i64 x.mark,.string x.told]) (by simp[results,go_sem]) rfl ⟨rfl,below_t9 _ _ _ _ _ _ _ _ _ _⟩
theorem Tryz.infoLgx:(Tryz.prog.info? 74).map (fun i=>(i.zero,i.size,i.bytes))=some (some (.agg #[.int .i64 0,.int .i64 0,.int .i64 0,.string ⟨#[]⟩,.int .i64 0,.int .i64 0,.string ⟨#[]⟩,.int .i64 0,.int .i64 0,.int .i64 0,.string ⟨#[]⟩]),11,112):=by kernel_rfl
def lgxZ:List Value:=[.int .i64 0,.int .i64 0,.int .i64 0,.string ⟨#[]⟩,.int .i64 0,.int .i64 0,.string ⟨#[]⟩,.int .i64 0,.int .i64 0,.int .i64 0,.string ⟨#[]⟩]
theorem lgx_made (n:Nat):madeCells #[.int .i64 0,.int .i64 0,.int .i64 0,.string ⟨#[]⟩,.int .i64 0,.int .i64 0,.string ⟨#[]⟩,.int .i64 0,.int .i64 0,.int .i64 0,.string ⟨#[]⟩] (n*11)=(List.replicate n lgxZ).flatten.toArray:=by
 apply Array.ext'
 rw[List.toList_toArray]
 apply List.ext_getElem?
 intro k
 have hz:∀ r∈List.replicate n lgxZ,r.length=11:=fun r hr=>by rw[List.eq_of_mem_replicate hr];rfl
 by_cases hk:k<n*11
 ·have e:k=k / 11*11+k % 11:=by omega
  have hf:k % 11<11:=Nat.mod_lt _ (by omega)
  have hj:k / 11<n:=Nat.div_lt_of_lt_mul (by omega)
  have:=flat_at 11 (List.replicate n lgxZ) hz (k / 11) (k % 11) (by simpa using hj) hf
  rw[← e] at this
  have hr:(List.replicate n lgxZ)[k / 11]'(by simpa using hj)=lgxZ:=by simp
  rw[this,hr]
  have hs:(madeCells #[.int .i64 0,.int .i64 0,.int .i64 0,.string ⟨#[]⟩,.int .i64 0,.int .i64 0,.string ⟨#[]⟩,.int .i64 0,.int .i64 0,.int .i64 0,.string ⟨#[]⟩] (n*11)).toList[k]?=some (#[.int .i64 0,.int .i64 0,.int .i64 0,.string ⟨#[]⟩,.int .i64 0,.int .i64 0,.string ⟨#[]⟩,.int .i64 0,.int .i64 0,.int .i64 0,.string ⟨#[]⟩].getD (k % 11) default):=by simp[madeCells,hk]
  rw[hs]
  have:k % 11=0∨k % 11=1∨k % 11=2∨k % 11=3∨k % 11=4∨k % 11=5∨k % 11=6∨k % 11=7∨k % 11=8∨k % 11=9∨k % 11=10:=by omega
  rcases this with h | h | h | h | h | h | h | h | h | h | h<;>rw[h]<;>rfl
 ·have hl:(List.replicate n lgxZ).flatten.length=n*11:=by rw[flat_length 11 _ hz];simp
  have hr:(List.replicate n lgxZ).flatten[k]?=none:=List.getElem?_eq_none (by omega)
  rw[hr]
  apply List.getElem?_eq_none
  rw[Array.length_toList,size_madeCells]
  omega
set_option maxHeartbeats 1000000 in
theorem toLegS (l:List Lgx) (v:Value) (w:World) (B:Nat) (hv:Lies w B 11 v (lgxR l)) (hn:l.length≤1048576) (hB:B≤w.heap.size) :
  Calls Tryz.prog 36 #[v] w fun e w'=>∃ u,e=.returned u∧Owns w' w.heap.size 74 11 u (lgxR l)∧Below w.heap.size w w':=by
 obtain ⟨A,cap,rfl,hl⟩:=lgx_look hv
 have HL:Hid (∀ j,j<l.length→∃ g off,A=some ⟨g,off,none⟩∧g<B∧_):=hl
 have HB:Hid (B≤w.heap.size):=hB
 clear hl hB hv
 have q1:(l.length:Int)≤1048576:=by omega
 generalize hN:l.length=n at *
 obtain ⟨i0,hi,hz0,hz1,hz2⟩:=info_parts Tryz.infoLgx
 have hmk:∀ wx:World,(Instr.makeSlice 32 (.int .i64 (n:Int)) (.int .i64 (n:Int))).run Tryz.prog wx=.ok (.slice (some ⟨wx.heap.size,0,none⟩) n n) (wx.alloc (.cells (List.replicate n lgxZ).flatten.toArray 74)):=fun wx=>by
  have h:=run_make (P:=Tryz.prog) wx 32 74 i0 _ Tryz.underlying32 hi hz0 .i64 .i64 (n:Int) (n:Int) (by omega) (by omega) (by rw[hz2];omega) (by omega)
  rw[hz1] at h
  have e:(Value.agg #[.int .i64 0,.int .i64 0,.int .i64 0,.string ⟨#[]⟩,.int .i64 0,.int .i64 0,.string ⟨#[]⟩,.int .i64 0,.int .i64 0,.int .i64 0,.string ⟨#[]⟩]).cells=#[.int .i64 0,.int .i64 0,.int .i64 0,.string ⟨#[]⟩,.int .i64 0,.int .i64 0,.string ⟨#[]⟩,.int .i64 0,.int .i64 0,.int .i64 0,.string ⟨#[]⟩]:=rfl
  rw[e,Int.toNat_natCast,lgx_made] at h
  exact h
 clear hi hz0 hz1 hz2
 go_enter Tryz.func36,Tryz.ntmps36
 go_wp2_with fail
 go_loopw [4] (fun v4 wr=>∃ k:Nat,k≤n∧v4=.int .i64 (k:Int)∧Owns wr w.heap.size 74 11 (.slice (some ⟨w.heap.size,0,none⟩) n n) (lgxR (l.take k)++List.replicate (n - k) lgxZ)∧Below w.heap.size w wr) (fun i _=>n - (intOf i).toNat)
 case atStart =>
  refine ⟨0,by omega,rfl,?_,(Below.refl _ _).alloc (Nat.le_refl _) _⟩
  rw[List.take_zero,Nat.sub_zero,show lgxR []=[] from rfl,List.nil_append]
  refine ⟨fun r hr=>by rw[List.eq_of_mem_replicate hr];rfl,?_⟩
  have hz:∀ r∈List.replicate n lgxZ,r.length=11:=fun r hr=>by rw[List.eq_of_mem_replicate hr];rfl
  have hl:=flat_length 11 (List.replicate n lgxZ) hz
  rw[List.length_replicate] at hl ⊢
  exact World.ownsRow_lit w (List.replicate n lgxZ).flatten.toArray n (Nat.le_refl _) (by unfold maxLen;omega) (by simpa using hl)
 case round =>
  obtain ⟨k,hk,rfl,hO,hb⟩:=hrel
  have HO:Hid (Owns wr w.heap.size 74 11 (.slice (some ⟨w.heap.size,0,none⟩) n n) (lgxR (l.take k)++List.replicate (n - k) lgxZ)):=hO
  have HB1:Hid (Below w.heap.size w wr):=hb
  clear hO hb
  by_cases hlt:k<n
  ·have q4:(k:Int)<(n:Int):=by omega
   obtain ⟨g,off,rfl,hg,hc0,hc1,hc2,hc3,hc4,hc5,hc6,hc7,hc8,hc9,hc10⟩:=HL.out k (by omega)
   have hgw:g<w.heap.size:=Nat.lt_of_lt_of_le hg HB.out
   rw[← HB1.out.cell (p:=⟨_,_,none⟩) hgw] at hc0
   rw[← HB1.out.cell (p:=⟨_,_,none⟩) hgw] at hc1
   rw[← HB1.out.cell (p:=⟨_,_,none⟩) hgw] at hc2
   rw[← HB1.out.cell (p:=⟨_,_,none⟩) hgw] at hc3
   rw[← HB1.out.cell (p:=⟨_,_,none⟩) hgw] at hc4
   rw[← HB1.out.cell (p:=⟨_,_,none⟩) hgw] at hc5
   rw[← HB1.out.cell (p:=⟨_,_,none⟩) hgw] at hc6
   rw[← HB1.out.cell (p:=⟨_,_,none⟩) hgw] at hc7
   rw[← HB1.out.cell (p:=⟨_,_,none⟩) hgw] at hc8
   rw[← HB1.out.cell (p:=⟨_,_,none⟩) hgw] at hc9
   rw[← HB1.out.cell (p:=⟨_,_,none⟩) hgw] at hc10
   have c1:=fun wx=>toLeg (l.getD k default) wx
   unfold vLgx at c1
   generalize hx:l.getD k default=x at *
   have HX:Hid (l.getD k default=x):=hx
   clear hx
   go_wp2_with fail
   refine (c1 _).mono ?_
   rintro e w2 ⟨rfl,hb2⟩
   have hlen:(lgxR (l.take k)++List.replicate (n - k) lgxZ).length=n:=by rw[List.length_append,List.length_replicate];simp[lgxR];omega
   have hdl:(lgxR (l.take k)).length=k:=by simp[lgxR];omega
   have hO2:=HO.out.on hb2
   have hO3:=hO2
   rw[show (Value.slice (some ⟨w.heap.size,0,none⟩) n n)=.slice (some ⟨w.heap.size,0,none⟩) (lgxR (l.take k)++List.replicate (n - k) lgxZ).length n by rw[hlen]] at hO2
   obtain ⟨y0,d0⟩:=hO2.cellX k 0 (by rw[hlen];exact hlt) (by omega)
   have f0:=hO2.free (k*11)
   obtain ⟨y1,d1⟩:=hO2.cellX k 1 (by rw[hlen];exact hlt) (by omega)
   have f1:=hO2.free (k*11+1)
   obtain ⟨y2,d2⟩:=hO2.cellX k 2 (by rw[hlen];exact hlt) (by omega)
   have f2:=hO2.free (k*11+2)
   obtain ⟨y3,d3⟩:=hO2.cellX k 3 (by rw[hlen];exact hlt) (by omega)
   have f3:=hO2.free (k*11+3)
   obtain ⟨y4,d4⟩:=hO2.cellX k 4 (by rw[hlen];exact hlt) (by omega)
   have f4:=hO2.free (k*11+4)
   obtain ⟨y5,d5⟩:=hO2.cellX k 5 (by rw[hlen];exact hlt) (by omega)
   have f5:=hO2.free (k*11+5)
   obtain ⟨y6,d6⟩:=hO2.cellX k 6 (by rw[hlen];exact hlt) (by omega)
   have f6:=hO2.free (k*11+6)
   obtain ⟨y7,d7⟩:=hO2.cellX k 7 (by rw[hlen];exact hlt) (by omega)
   have f7:=hO2.free (k*11+7)
   obtain ⟨y8,d8⟩:=hO2.cellX k 8 (by rw[hlen];exact hlt) (by omega)
   have f8:=hO2.free (k*11+8)
   obtain ⟨y9,d9⟩:=hO2.cellX k 9 (by rw[hlen];exact hlt) (by omega)
   have f9:=hO2.free (k*11+9)
   obtain ⟨y10,d10⟩:=hO2.cellX k 10 (by rw[hlen];exact hlt) (by omega)
   have f10:=hO2.free (k*11+10)
   rw[Nat.add_zero] at d0
   have hP:=hO2.put11 k (by rw[hlen];exact hlt) (.int .i64 x.group) (.int .i64 x.serial) (.int .i64 x.kind) (.string x.key) (.int .i64 x.frm) (.int .i64 x.til) (.string x.data) (.int .i64 x.code) (.int .i64 x.index) (.int .i64 x.mark) (.string x.told)
   rw[hlen,fill_step _ _ _ n k hdl hlt,show lgxR (l.take k)++[[.int .i64 x.group,.int .i64 x.serial,.int .i64 x.kind,.string x.key,.int .i64 x.frm,.int .i64 x.til,.string x.data,.int .i64 x.code,.int .i64 x.index,.int .i64 x.mark,.string x.told]]=lgxR (l.take (k+1)) by rw[lgxR_snoc l k (by omega),HX.out];rfl] at hP
   have HP:Hid (Owns ((((((((((((w2).setCell ⟨w.heap.size,k*11,none⟩ (.int .i64 x.group)).setCell ⟨w.heap.size,k*11+1,none⟩ (.int .i64 x.serial)).setCell ⟨w.heap.size,k*11+2,none⟩ (.int .i64 x.kind)).setCell ⟨w.heap.size,k*11+3,none⟩ (.string x.key)).setCell ⟨w.heap.size,k*11+4,none⟩ (.int .i64 x.frm)).setCell ⟨w.heap.size,k*11+5,none⟩ (.int .i64 x.til)).setCell ⟨w.heap.size,k*11+6,none⟩ (.string x.data)).setCell ⟨w.heap.size,k*11+7,none⟩ (.int .i64 x.code)).setCell ⟨w.heap.size,k*11+8,none⟩ (.int .i64 x.index)).setCell ⟨w.heap.size,k*11+9,none⟩ (.int .i64 x.mark)).setCell ⟨w.heap.size,k*11+10,none⟩ (.string x.told)) w.heap.size 74 11 (.slice (some ⟨w.heap.size,0,none⟩) n n) (lgxR (l.take (k+1))++List.replicate (n - (k+1)) lgxZ)):=hP
   have HB2:Hid (Below w.heap.size w w2):=HB1.out.trans (hb2.mono HB1.out.size)
   clear hO2 hO3 hP hb2 hlen hdl
   go_wp2_with fail
   go_roundw
   case rel=>exact ⟨k+1,by omega,by go_num,HP.out,(((((((((((HB2.out).setCell (Nat.le_refl _) _).setCell (Nat.le_refl _) _).setCell (Nat.le_refl _) _).setCell (Nat.le_refl _) _).setCell (Nat.le_refl _) _).setCell (Nat.le_refl _) _).setCell (Nat.le_refl _) _).setCell (Nat.le_refl _) _).setCell (Nat.le_refl _) _).setCell (Nat.le_refl _) _).setCell (Nat.le_refl _) _⟩
   case measure=>simp[intOf];omega
  ·obtain rfl:k=n:=by omega
   go_wp2_with fail
   go_ret
   refine ⟨_,rfl,?_,HB1.out⟩
   have:=HO.out
   rw[← hN,List.take_length,Nat.sub_self,List.replicate_zero,List.append_nil] at this
   rw[← hN]
   exact this
set_option maxHeartbeats 1000000 in
theorem eqLeg (x:Lgx) (w:World):Calls Tryz.prog 87 #[vLgx x,vLgx x] w fun e w'=>e=.returned (.bool true)∧Below w.heap.size w w':=by
 unfold vLgx
 have c1:=fun wx=>eqOpT x.op wx
 have c2:=fun wx=>eqAnswerT x.ans wx
 simp only[vOp,vAns,Lgx.op,Lgx.ans] at c1 c2
 obtain ⟨X0,hX0⟩:∃ X0,X0=(w.alloc (.cells #[.int .i64 x.group,.int .i64 x.serial,.int .i64 x.kind,.string x.key,.int .i64 x.frm,.int .i64 x.til,.string x.data,.int .i64 x.code,.int .i64 x.index,.int .i64 x.mark,.string x.told] 74)).alloc (.cells #[.int .i64 x.group,.int .i64 x.serial,.int .i64 x.kind,.string x.key,.int .i64 x.frm,.int .i64 x.til,.string x.data,.int .i64 x.code,.int .i64 x.index,.int .i64 x.mark,.string x.told] 74):=⟨_,rfl⟩
 have HB:Hid (Below w.heap.size w X0):=by unfold Hid;rw[hX0];exact below_t2 w _ _
 have KA:Hid (Blk X0 w.heap.size #[.int .i64 x.group,.int .i64 x.serial,.int .i64 x.kind,.string x.key,.int .i64 x.frm,.int .i64 x.til,.string x.data,.int .i64 x.code,.int .i64 x.index,.int .i64 x.mark,.string x.told] 74):=by unfold Hid;rw[hX0];exact (Blk.new w _ _).alloc _
 have KB:Hid (Blk X0 (w.heap.size+1) #[.int .i64 x.group,.int .i64 x.serial,.int .i64 x.kind,.string x.key,.int .i64 x.frm,.int .i64 x.til,.string x.data,.int .i64 x.code,.int .i64 x.index,.int .i64 x.mark,.string x.told] 74):=by unfold Hid;rw[hX0];have:=Blk.new (w.alloc (.cells #[.int .i64 x.group,.int .i64 x.serial,.int .i64 x.kind,.string x.key,.int .i64 x.frm,.int .i64 x.til,.string x.data,.int .i64 x.code,.int .i64 x.index,.int .i64 x.mark,.string x.told] 74)) #[.int .i64 x.group,.int .i64 x.serial,.int .i64 x.kind,.string x.key,.int .i64 x.frm,.int .i64 x.til,.string x.data,.int .i64 x.code,.int .i64 x.index,.int .i64 x.mark,.string x.told] 74;rw[World.size_alloc] at this;exact this
 go_enter Tryz.func87,Tryz.ntmps87
 go_wp2_with fail
 rw[← hX0]
 clear hX0
 refine (c1 _).mono ?_
 rintro e w1 ⟨rfl,hb⟩
 have B1:Hid (Below w.heap.size w w1):=HB.out.trans (hb.mono HB.out.size)
 have A1:=KA.out.on hb KA.out.lt
 have D1:=KB.out.on hb KB.out.lt
 have a0:=A1.cell 0 _ rfl
 have b0:=D1.cell 0 _ rfl
 have a1:=A1.cell 1 _ rfl
 have b1:=D1.cell 1 _ rfl
 have a2:=A1.cell 2 _ rfl
 have b2:=D1.cell 2 _ rfl
 have a3:=A1.cell 3 _ rfl
 have b3:=D1.cell 3 _ rfl
 have a4:=A1.cell 4 _ rfl
 have b4:=D1.cell 4 _ rfl
 have a5:=A1.cell 5 _ rfl
 have b5:=D1.cell 5 _ rfl
 have a6:=A1.cell 6 _ rfl
 have b6:=D1.cell 6 _ rfl
 have a7:=A1.cell 7 _ rfl
 have b7:=D1.cell 7 _ rfl
 have a8:=A1.cell 8 _ rfl
 have b8:=D1.cell 8 _ rfl
 have a9:=A1.cell 9 _ rfl
 have b9:=D1.cell 9 _ rfl
 have a10:=A1.cell 10 _ rfl
 have b10:=D1.cell 10 _ rfl
 clear hb HB KA KB A1 D1 c1
 go_wp2_with fail
 refine (c2 _).mono ?_
 rintro e w2 ⟨rfl,hb⟩
 have B2:Hid (Below w.heap.size w w2):=B1.out.trans (hb.mono B1.out.size)
 clear hb
 go_wp2_with fail
 go_ret
 exact ⟨rfl,B2.out⟩
set_option maxHeartbeats 1000000 in
theorem eqLegS (l:List Lgx) (va vb:Value) (w:World) (B:Nat) (ha:Lies w B 11 va (lgxR l)) (hb:Lies w B 11 vb (lgxR l)) (hn:l.length≤1048576) (hB:B≤w.heap.size) :
  Calls Tryz.prog 43 #[va,vb] w fun e w'=>e=.returned (.bool true)∧Below w.heap.size w w':=by
 obtain ⟨A,cap,rfl,hl⟩:=lgx_look ha
 obtain ⟨A',cap',rfl,hl'⟩:=lgx_look hb
 have HL:Hid (∀ j,j<l.length→∃ g off,A=some ⟨g,off,none⟩∧g<B∧_):=hl
 have HL':Hid (∀ j,j<l.length→∃ g off,A'=some ⟨g,off,none⟩∧g<B∧_):=hl'
 have HB:Hid (B≤w.heap.size):=hB
 clear hl hl' hB ha hb
 have q1:(l.length:Int)≤1048576:=by omega
 generalize hN:l.length=n at *
 go_enter Tryz.func43,Tryz.ntmps43
 go_wp2_with fail
 go_loopw [5] (fun v5 wr=>∃ k:Nat,k≤n∧v5=.int .i64 (k:Int)∧Below w.heap.size w wr) (fun i _=>n - (intOf i).toNat)
 case atStart=>exact ⟨0,by omega,rfl,Below.refl _ _⟩
 case round =>
  obtain ⟨k,hk,rfl,hb⟩:=hrel
  have HB1:Hid (Below w.heap.size w wr):=hb
  clear hb
  by_cases hlt:k<n
  ·have q4:(k:Int)<(n:Int):=by omega
   obtain ⟨g,off,rfl,hg,ha0,ha1,ha2,ha3,ha4,ha5,ha6,ha7,ha8,ha9,ha10⟩:=HL.out k hlt
   obtain ⟨g',off',rfl,hg',hb0,hb1,hb2,hb3,hb4,hb5,hb6,hb7,hb8,hb9,hb10⟩:=HL'.out k hlt
   have hgw:g<w.heap.size:=Nat.lt_of_lt_of_le hg HB.out
   have hgw':g'<w.heap.size:=Nat.lt_of_lt_of_le hg' HB.out
   rw[← HB1.out.cell (p:=⟨_,_,none⟩) hgw] at ha0
   rw[← HB1.out.cell (p:=⟨_,_,none⟩) hgw'] at hb0
   rw[← HB1.out.cell (p:=⟨_,_,none⟩) hgw] at ha1
   rw[← HB1.out.cell (p:=⟨_,_,none⟩) hgw'] at hb1
   rw[← HB1.out.cell (p:=⟨_,_,none⟩) hgw] at ha2
   rw[← HB1.out.cell (p:=⟨_,_,none⟩) hgw'] at hb2
   rw[← HB1.out.cell (p:=⟨_,_,none⟩) hgw] at ha3
   rw[← HB1.out.cell (p:=⟨_,_,none⟩) hgw'] at hb3
   rw[← HB1.out.cell (p:=⟨_,_,none⟩) hgw] at ha4
   rw[← HB1.out.cell (p:=⟨_,_,none⟩) hgw'] at hb4
   rw[← HB1.out.cell (p:=⟨_,_,none⟩) hgw] at ha5
   rw[← HB1.out.cell (p:=⟨_,_,none⟩) hgw'] at hb5
   rw[← HB1.out.cell (p:=⟨_,_,none⟩) hgw] at ha6
   rw[← HB1.out.cell (p:=⟨_,_,none⟩) hgw'] at hb6
   rw[← HB1.out.cell (p:=⟨_,_,none⟩) hgw] at ha7
   rw[← HB1.out.cell (p:=⟨_,_,none⟩) hgw'] at hb7
   rw[← HB1.out.cell (p:=⟨_,_,none⟩) hgw] at ha8
   rw[← HB1.out.cell (p:=⟨_,_,none⟩) hgw'] at hb8
   rw[← HB1.out.cell (p:=⟨_,_,none⟩) hgw] at ha9
   rw[← HB1.out.cell (p:=⟨_,_,none⟩) hgw'] at hb9
   rw[← HB1.out.cell (p:=⟨_,_,none⟩) hgw] at ha10
   rw[← HB1.out.cell (p:=⟨_,_,none⟩) hgw'] at hb10
   have c1:=fun wx=>eqLeg (l.getD k default) wx
   unfold vLgx at c1
   generalize l.getD k default=x at *
   have hsz:=HB1.out.size
   go_wp2_with fail
   go_region_with (go_at_call 87;refine (c1 _).mono ?_;rintro e w1 ⟨rfl,hb1⟩)
   all_goals go_wp2_with fail
   all_goals exact ⟨⟨k+1,by omega,by go_num,HB1.out.trans (((Below.refl _ wr).drew.trans hb1).mono hsz)⟩,by simp[intOf];omega⟩
  ·obtain rfl:k=n:=by omega
   go_wp2_with fail
   go_ret
   exact ⟨rfl,HB1.out⟩
end Go.Proofs.YtedmdilabbolaaaGreatDoor
