/- Aid CrcAid CrcImpl CrcSpec FrAid ErrIs Errs PtRow PtPut PtApp PtAid BtVar Num1In NmAid LikeAid NmLaw -/
import Derived.WalkKit
import Derived.ProofKit
import Derived.Laws.IdiomStrings
import Derived.Laws.BytesString
import Derived.PlainAid
import Derived.Lib.BufferRead
import Derived.Laws.OwnMore
import Derived.Below
import Derived.OwnWalk
import Derived.Lib.QuoteBits
import Derived.Lib.Bytealg
import Derived.Laws.BitsLemmas
import Derived.Laws.Bits64
import Derived.Lib.LaidTab
import Derived.Test.YtedmdilabbolaaaGreatDoorRows
import Derived.OpenShut
import Derived.WalkSmall
import Derived.WalkLawsBesides
import Derived.Outline
import Derived.BigQuiet
import Derived.Deep.QuietTactic
import Derived.LaidEql
import Derived.Stop.Asserts
import Derived.RowKitTokens
import Derived.WalkMore
import Derived.Lib.OwnKind
import Derived.Shelf.Strings.BuilderK
import Derived.Deep.RegionWith
namespace Go.Proofs.YtedmdilabbolaaaGreatDoor
open Go.RowKit Go.PlainAid
def byt (n:Nat):UInt8:=UInt8.ofNat n
theorem byt_toNat (n:Nat):(byt n).toNat=n % 256:=by simp[byt]
def txt (l:List UInt8):ByteArray:=⟨l.toArray⟩
theorem txt_size (l:List UInt8):(txt l).size=l.length:=by simp[txt,ByteArray.size]
theorem txt_cat (a b:List UInt8):txt a++txt b=txt (a++b):=ByteArray.mk_append_mk a b
theorem txt_inj (a b:List UInt8) (h:txt a=txt b):a=b:=by
 have:=congrArg (fun x:ByteArray=>x.data.toList) h
 simpa[txt] using this
theorem txt_toList (s:ByteArray):txt s.data.toList=s:=by simp[txt]
def low (n:Nat):Nat→List UInt8
 | 0=>[]
 | k+1=>byt (n / 256 ^ k)::low n k
theorem low_length (n k:Nat):(low n k).length=k:=by
 induction k with
 | zero=>rfl
 | succ k ih=>simp[low,ih]
theorem run_one_byte {P:Program} (w:World) (src dst e:TypeId) (hs:P.underlying src=some (.slice e)) (he:P.underlying e=some (.int .u8)) (hd:P.underlying dst=some .string) (x:Nat) (cap:Nat) :
  (convert src dst (.slice (some ⟨w.heap.size,0,none⟩) 1 cap)).run P (w.alloc (.cells #[.int .u8 ((x % 256:Nat):Int)] e))=.ok (.string (txt [byt x])) (w.alloc (.cells #[.int .u8 ((x % 256:Nat):Int)] e)):=by
 have h:=run_convert_bytes_back (P:=P) (w.alloc (.cells #[.int .u8 ((x % 256:Nat):Int)] e)) src dst e ⟨w.heap.size,0,none⟩ cap [byt x] hs he hd (by
  intro j hj
  match j,hj with
  | 0,_=>simp[Addr.add,byt_toNat])
 simpa[txt] using h
theorem shr8 (n k:Nat):(n:Int) / 2 ^ (8*k)=((n / 256 ^ k:Nat):Int):=by
 have e2:(256:Nat) ^ k=2 ^ (8*k):=by rw[Nat.pow_mul]
 rw[e2]
 norm_cast
def byteCells (l:List UInt8):Array Value:=(l.map fun b=>Value.int .u8 (b.toNat:Int)).toArray
theorem div_step (n k:Nat):n / 256 ^ (k+1)=n / 256 ^ k / 256:=by rw[Nat.div_div_eq_div_mul,Nat.pow_succ]
def fixRow (n k0 k:Nat):Array Value:=byteCells (List.replicate (k0 - k) 0++low n k)
theorem fixRow_zero (n k0:Nat):madeCells #[Value.int .u8 0] k0=fixRow n k0 0:=by
 apply Array.ext
 ·simp[fixRow,byteCells,low,size_madeCells]
 ·intro i h1 h2
  simp[fixRow,byteCells,low,madeCells,Nat.mod_one]
theorem fixRow_at (n k0 k:Nat) (h:k<k0):(fixRow n k0 k)[k0 - 1 - k]?=some (Value.int .u8 0):=by
 have e:k0 - k=(k0 - 1 - k)+1:=by omega
 simp only[fixRow,byteCells,e]
 rw[List.replicate_succ']
 simp
theorem fixRow_set (n k0 k:Nat) (h:k<k0):(fixRow n k0 k).setIfInBounds (k0 - 1 - k) (.int .u8 ((byt (n / 256 ^ k)).toNat:Int))=fixRow n k0 (k+1):=by
 have e:k0 - k=(k0 - 1 - k)+1:=by omega
 have e':k0 - (k+1)=k0 - 1 - k:=by omega
 simp only[fixRow,byteCells,e,e']
 rw[List.replicate_succ']
 simp[low]
theorem shr8_byte (n k:Nat):(n:Int) / 2 ^ (8*k) % 256=((byt (n / 256 ^ k)).toNat:Int):=by
 rw[shr8,byt_toNat]
 omega
theorem fixRow_full (n k:Nat):fixRow n k k=byteCells (low n k):=by simp[fixRow]
theorem run_row {P:Program} (w:World) (src dst e:TypeId) (hs:P.underlying src=some (.slice e)) (he:P.underlying e=some (.int .u8)) (hd:P.underlying dst=some .string) (l:List UInt8) (cap:Nat) :
  (convert src dst (.slice (some ⟨w.heap.size,0,none⟩) l.length cap)).run P (w.alloc (.cells (byteCells l) e))=.ok (.string (txt l)) (w.alloc (.cells (byteCells l) e)) :=
 run_convert_bytes_back (P:=P) (w.alloc (.cells (byteCells l) e)) src dst e ⟨w.heap.size,0,none⟩ cap l hs he hd (by
  intro j hj
  have e:(⟨w.heap.size,0,none⟩:Addr).add j=⟨w.heap.size,j,none⟩:=by cases j<;>simp[Addr.add]
  rw[e,World.cell?_alloc_mark]
  simp[byteCells,hj])
theorem or_join (i x y:Nat) (hx:x % 2 ^ i=0) (hy:y<2 ^ i) (h:x+y<9223372036854775808):bits .or .i64 (x:Int) (y:Int)=((x+y:Nat):Int):=by
 show IntKind.i64.wrap ((BitVec.ofInt 64 (x:Int) ||| BitVec.ofInt 64 (y:Int)).toNat:Int)=_
 rw[BitVec.toNat_or,ofInt_u64 x (by omega),ofInt_u64 y (by omega),nat_join i x y hx hy]
 exact Lib.wrap_i64_small _ h
def bn (s:ByteArray) (k:Nat):Nat:=(bt s k).toNat
theorem bt_bn (s:ByteArray) (k:Nat):bt s k=(bn s k:Int):=by have:=bt_nonneg s k;unfold bn;omega
theorem bn_lt (s:ByteArray) (k:Nat):bn s k<256:=by have:=bt_le s k;have:=bt_nonneg s k;unfold bn;omega
theorem get_bn (s:ByteArray):∀ (n:Nat) (h:n<s.size),((s[n]'h).toNat:Int)=(bn s n:Int):=fun n h=>by rw[← bt_bn];exact get_bt s n h
def rdv (s:ByteArray):Nat→Nat
 | 0=>0
 | k+1=>rdv s k*256+bn s k
theorem rdv_lt (s:ByteArray) (k:Nat):rdv s k<256 ^ k:=by
 induction k with
 | zero=>simp[rdv]
 | succ k ih =>
  have:=bn_lt s k
  rw[rdv,Nat.pow_succ]
  omega
theorem rdv_le (s:ByteArray) (k:Nat) (h:k≤6):rdv s k<281474976710656 :=
 Nat.lt_of_lt_of_le (rdv_lt s k) (Nat.pow_le_pow_right (by omega) h:256 ^ k≤256 ^ 6)
theorem shl8_or (s:ByteArray) (k:Nat) (h:k≤6):bits .or .i64 ((rdv s k:Int)*256) (bn s k:Int)=(rdv s (k+1):Int):=by
 have h1:=rdv_le s k h
 have h2:=bn_lt s k
 have e:=or_join 8 (rdv s k*256) (bn s k) (by omega) (by omega) (by omega)
 rw[show ((rdv s k:Int)*256)=((rdv s k*256:Nat):Int) by omega,e]
 rfl
def Buf (w:World) (base:Nat) (v:Value) (l:List UInt8):Prop:=w.ownsRow base 5 1 v l.length (byteCells l).toList
theorem byteCells_append (a b:List UInt8):(byteCells (a++b)).toList=(byteCells a).toList++(byteCells b).toList:=by simp[byteCells]
theorem Buf.alloc {w:World} {base:Nat} {v:Value} {l:List UInt8} (h:Buf w base v l) (o:Obj):Buf (w.alloc o) base v l:=World.ownsRow.alloc h o
theorem Buf.made (w:World) (base cap:Nat) (cur:Array Value) (hb:base≤w.heap.size) (hm:cap≤maxLen) (hs:cur.size=cap) :
  Buf (w.alloc (.cells cur 5)) base (.slice (some ⟨w.heap.size,0,none⟩) 0 cap) []:=by
 unfold Buf
 have:=World.ownsRow_made (base:=base) (e:=5) (size:=1) w cur cap hb hm (by omega)
 simpa[byteCells] using this
theorem wpList_append_bytes {P:Program} {w:World} {ops:Array Oper} {rest:List Oper} {o:Oper} {a:Act} {Q:Exit→Act→World→Prop} (hgd:o.guard=none) (s x:Operand) (t:TypeId)
  (ho:o.op=.call { callee:=.builtin .append,args:=#[s,x],argTypes:=#[t,t] })
  (ht:P.underlying t=some (.slice 5)) (hinfo:(P.info? 5).map (fun i=>(i.zero,i.size,i.bytes))=some (some (.int .u8 0),1,1))
  (base:Nat) (v:Value) (l:List UInt8) (hs:a.eval s=v) (hown:Buf w base v l) (cs:Array Value) (bs:List UInt8) (hcs:cs=byteCells bs) (m c:Nat) (hm:m=bs.length)
  (hx:a.eval x=.slice (some ⟨w.heap.size,0,none⟩) m c) (hlen:l.length+bs.length≤140737488355328) (hbase:base≤w.heap.size)
  (h:∀ v' w',Buf w' base v' (l++bs)→Below base w w'→wpList P ops Q rest (a.put o.dst v') w'):wpList P ops Q (o::rest) a (w.alloc (.cells cs 5)):=by
 obtain ⟨i0,hi,hz0,hz1,hz2⟩:=info_parts hinfo
 subst hm
 subst hcs
 refine wpList_append_own (w:=w.alloc (.cells (byteCells bs) 5)) hgd s x t ho base 5 i0 (.int .u8 0) 1 1 ht hi hz0 hz1 hz2 rfl (by decide) v l.length (byteCells l).toList hs (hown.alloc _) ⟨w.heap.size,0,none⟩ bs.length c (byteCells bs).toList hx (by simp[byteCells]) ?_ ?_ ?_ ?_ ?_ ?_
 ·intro j u hj
  have e:(⟨w.heap.size,0,none⟩:Addr).add j=⟨w.heap.size,j,none⟩:=by cases j<;>simp[Addr.add]
  rw[e,World.cell?_alloc_mark]
  simpa using hj
 ·intro u hu
  simp[byteCells] at hu
  obtain ⟨b,_,rfl⟩:=hu
  rfl
 ·unfold maxLen;omega
 ·omega
 ·simp;omega
 ·intro v' w' h1 h2 _
  have hb0:∀ k,v.ownBlock=some k→base≤k:=fun k hk=>(World.ownsRow.lt hown k hk).1
  refine h v' w' ?_ ?_
  ·unfold Buf
   rw[List.length_append,byteCells_append]
   exact h1
  ·exact ((Below.refl base w).alloc hbase _).grown h2 (by simp;omega) (by
    intro k hk
    exact hb0 k hk)
theorem Buf.string {P:Program} {w:World} {base:Nat} {v:Value} {l:List UInt8} (h:Buf w base v l) (src dst:TypeId) (hs:P.underlying src=some (.slice 5)) (he:P.underlying 5=some (.int .u8)) (hd:P.underlying dst=some .string) :
  (convert src dst v).run P w=.ok (.string (txt l)) w:=by
 obtain ⟨hl,⟨rfl,h0⟩ | ⟨g,cap,cur,rfl,hb,hh,hn,hm,hz,ht⟩⟩:=h
 ·have:l=[]:=List.eq_nil_of_length_eq_zero h0
  subst this
  exact Lib.run_convert_nil_bytes w src dst 5 0 hs he hd
 ·refine run_convert_bytes_back (P:=P) w src dst 5 ⟨g,0,none⟩ cap l hs he hd ?_
  intro j hj
  have hown:w.ownsRow base 5 1 (.slice (some ⟨g,0,none⟩) l.length cap) l.length (byteCells l).toList:=⟨hl,.inr ⟨g,cap,cur,rfl,hb,hh,hn,hm,hz,ht⟩⟩
  have e:(⟨g,0,none⟩:Addr).add j=⟨g,j,none⟩:=by cases j<;>simp[Addr.add]
  rw[e,World.ownsRow.cellAt hown j (by omega)]
  simp[byteCells,hj]
theorem one_cell (x:Int) (n:Nat) (h:x=(n:Int)) (hn:n<256):#[Value.int .u8 x]=byteCells [byt n]:=by
 subst h
 simp[byteCells,byt_toNat]
 omega
def vF:Nat→Nat→List UInt8
 | 0,n=>[byt n]
 | f+1,n=>if n<128 then [byt n] else byt (128+n % 128)::vF f (n / 128)
theorem vF_small (f n:Nat) (h:n<128):vF f n=[byt n]:=by
 cases f with
 | zero=>rfl
 | succ f=>rw[vF,if_pos h]
theorem vF_length (f n:Nat):(vF f n).length≤f+1:=by
 induction f generalizing n with
 | zero=>simp[vF]
 | succ f ih =>
  rw[vF]
  split
  ·simp
  ·have:=ih (n / 128)
   simp
   omega
theorem vF_round (f m:Nat) (pre:List UInt8) (hm:m<128 ^ (f+1)) (h:128≤m) :
  ∃ g,m / 128<128 ^ (g+1)∧(pre++[byt (128+m % 128)])++vF g (m / 128)=pre++vF f m∧(g+1=f):=by
 cases f with
 | zero=>simp at hm;omega
 | succ g =>
  refine ⟨g,?_,?_,rfl⟩
  ·rw[Nat.pow_succ] at hm
   exact Nat.div_lt_of_lt_mul (by rw[Nat.mul_comm];exact hm)
  ·rw[vF,if_neg (by omega)]
   simp
def vvS (s:ByteArray):Nat→Nat→Nat
 | _,0=>0
 | i,d+1=>bn s i % 128+128*vvS s (i+1) d
def sg (s:ByteArray):Nat→Nat→List UInt8
 | _,0=>[]
 | i,d+1=>byt (bn s i)::sg s (i+1) d
theorem sg_length (s:ByteArray) (d:Nat):∀ i,(sg s i d).length=d:=by
 induction d with
 | zero=>intro i;rfl
 | succ d ih=>intro i;simp[sg,ih]
theorem vvS_lt (s:ByteArray) (d:Nat):∀ i,vvS s i d<128 ^ d:=by
 induction d with
 | zero=>intro i;simp[vvS]
 | succ d ih =>
  intro i
  have:=ih (i+1)
  rw[vvS,Nat.pow_succ]
  omega
theorem vvS_le (s:ByteArray) (d:Nat) (h:d≤7) (i:Nat):vvS s i d≤562949953421311:=by
 have h1:=vvS_lt s d i
 have h2:128 ^ d≤128 ^ 7:=Nat.pow_le_pow_right (by omega) h
 omega
theorem vvS_snoc (s:ByteArray) (d:Nat):∀ i,vvS s i (d+1)=vvS s i d+bn s (i+d) % 128*128 ^ d:=by
 induction d with
 | zero=>intro i;simp[vvS]
 | succ d ih =>
  intro i
  rw[vvS,ih (i+1),vvS]
  rw[show i+1+d=i+(d+1) by omega,Nat.pow_succ]
  have e:128*(bn s (i+(d+1)) % 128*128 ^ d)=bn s (i+(d+1)) % 128*(128 ^ d*128):=by rw[Nat.mul_comm 128,Nat.mul_assoc]
  rw[Nat.mul_add,e]
  omega
def canonS (s:ByteArray):Nat→Nat→Prop
 | _,0=>False
 | i,1=>bn s i<128
 | i,d+2=>128≤bn s i∧0<vvS s (i+1) (d+1)∧canonS s (i+1) (d+1)
theorem canonS_iff (s:ByteArray) (d:Nat):∀ i f,d≤f→(vF f (vvS s i (d+1))=sg s i (d+1)↔canonS s i (d+1)):=by
 induction d with
 | zero =>
  intro i f _
  have hb:=bn_lt s i
  rw[vF_small f _ (by simp[vvS];omega)]
  simp only[vvS,sg,canonS,Nat.mul_zero,Nat.add_zero,List.cons.injEq,and_true]
  constructor
  ·intro h
   have:=congrArg UInt8.toNat h
   rw[byt_toNat,byt_toNat] at this
   omega
  ·intro h
   rw[Nat.mod_eq_of_lt h]
 | succ d ih =>
  intro i f hf
  have hb:=bn_lt s i
  obtain ⟨g,rfl⟩:∃ g,f=g+1:=⟨f - 1,by omega⟩
  have hI:=ih (i+1) g (by omega)
  have ev:vvS s i (d+2)=bn s i % 128+128*vvS s (i+1) (d+1):=rfl
  have es:sg s i (d+2)=byt (bn s i)::sg s (i+1) (d+1):=rfl
  have ec:canonS s i (d+2)=(128≤bn s i∧0<vvS s (i+1) (d+1)∧canonS s (i+1) (d+1)):=rfl
  show vF (g+1) (vvS s i (d+2))=sg s i (d+2)↔canonS s i (d+2)
  rw[ev,es,ec]
  generalize hV:vvS s (i+1) (d+1)=V at *
  by_cases h0:V=0
  ·subst h0
   rw[vF_small _ _ (by omega)]
   constructor
   ·intro h
    have:=congrArg List.length h
    simp[sg_length] at this
   ·intro h;omega
  ·rw[vF,if_neg (by omega),show (bn s i % 128+128*V) % 128=bn s i % 128 by omega,show (bn s i % 128+128*V) / 128=V by omega,List.cons.injEq,hI]
   constructor
   ·rintro ⟨h1,h2⟩
    have:=congrArg UInt8.toNat h1
    rw[byt_toNat,byt_toNat] at this
    exact ⟨by omega,by omega,h2⟩
   ·rintro ⟨h1,_,h2⟩
    exact ⟨by rw[show 128+bn s i % 128=bn s i by omega],h2⟩
theorem vvS_pos (s:ByteArray) (d:Nat) (i:Nat) (h:bn s (i+d) % 128≠0):0<vvS s i (d+1):=by
 rw[vvS_snoc]
 have:0<bn s (i+d) % 128*128 ^ d:=Nat.mul_pos (by omega) (Nat.pow_pos (by omega))
 omega
theorem canonS_char (s:ByteArray) (d:Nat):∀ i,canonS s i (d+1)↔(∀ j,j<d→128≤bn s (i+j))∧bn s (i+d)<128∧(d=0∨bn s (i+d)≠0):=by
 induction d with
 | zero=>intro i;simp[canonS]
 | succ d ih =>
  intro i
  have ec:canonS s i (d+2)=(128≤bn s i∧0<vvS s (i+1) (d+1)∧canonS s (i+1) (d+1)):=rfl
  show canonS s i (d+2)↔_
  rw[ec,ih (i+1)]
  rw[show i+1+d=i+(d+1) by omega]
  constructor
  ·rintro ⟨h1,h2,h3,h4,h5⟩
   refine ⟨?_,h4,.inr ?_⟩
   ·intro j hj
    cases j with
    | zero=>exact h1
    | succ j=>have:=h3 j (by omega);rwa [show i+1+j=i+(j+1) by omega] at this
   ·rcases h5 with rfl | h5
    ·simp[vvS] at h2
     intro h
     simp at h
     rw[h] at h2
     simp at h2
    ·exact h5
  ·rintro ⟨h1,h2,h3⟩
   have h4:bn s (i+(d+1))≠0:=by
    rcases h3 with h3 | h3
    ·omega
    ·exact h3
   refine ⟨h1 0 (by omega),?_,?_,h2,.inr h4⟩
   ·exact vvS_pos s d (i+1) (by rw[show i+1+d=i+(d+1) by omega];omega)
   ·intro j hj
    have:=h1 (j+1) (by omega)
    rwa [show i+(j+1)=i+1+j by omega] at this
def FindV (s:ByteArray) (k:Nat):Prop:=1≤k∧k≤7∧k≤s.size∧canonS s 0 k
theorem FindV.one {s:ByteArray} {k k':Nat} (h:FindV s k) (h':FindV s k'):k=k':=by
 obtain ⟨a1,a2,a3,a4⟩:=h
 obtain ⟨b1,b2,b3,b4⟩:=h'
 obtain ⟨d,rfl⟩:∃ d,k=d+1:=⟨k - 1,by omega⟩
 obtain ⟨d',rfl⟩:∃ d',k'=d'+1:=⟨k' - 1,by omega⟩
 obtain ⟨c1,c2,_⟩:=(canonS_char s d 0).1 a4
 obtain ⟨e1,e2,_⟩:=(canonS_char s d' 0).1 b4
 rcases Nat.lt_trichotomy d d' with h | h | h
 ·have:=e1 d h;omega
 ·omega
 ·have:=c1 d' h;omega
theorem sg_extract (s:ByteArray) (k:Nat) (h:k≤s.size):s.extract 0 k=txt (sg s 0 k):=by
 have key:∀ d i,i+d≤s.size→(s.data.toList.drop i).take d=sg s i d:=by
  intro d
  induction d with
  | zero=>intro i _;simp[sg]
  | succ d ih =>
   intro i hi
   have hlt:i<s.data.toList.length:=by simp;exact (by have:s.data.size=s.size:=rfl;omega)
   rw[List.drop_eq_getElem_cons hlt,List.take_succ_cons,ih (i+1) (by omega),sg]
   congr 1
   have hg:=get_bn s i (by omega)
   have:(s[i]'(by omega)).toNat=bn s i:=by omega
   rw[← this]
   simp[byt]
   rfl
 apply ByteArray.ext
 apply Array.toList_inj.1
 rw[Lib.extract_data]
 simp only[txt]
 rw[← key k 0 (by omega)]
 simp
end Go.Proofs.YtedmdilabbolaaaGreatDoor
namespace Go.Proofs.YtedmdilabbolaaaGreatDoor
open Go.RowKit Go.PlainAid
def half (c:Nat):Nat:=if c % 2=1 then c / 2 ^^^ 2197175160 else c / 2
def halfs:Nat→Nat→Nat
 | 0,c=>c
 | k+1,c=>half (halfs k c)
theorem halfs_succ (k c:Nat):halfs (k+1) c=half (halfs k c):=by rw[halfs]
theorem halfs_add (a b c:Nat):halfs (a+b) c=halfs a (halfs b c):=by
 induction a with
 | zero=>rw[Nat.zero_add];rfl
 | succ a ih=>rw[Nat.succ_add,halfs,ih,halfs]
theorem half_lt (c:Nat) (h:c<4294967296):half c<4294967296:=by
 unfold half
 split
 ·exact Nat.xor_lt_two_pow (n:=32) (by omega) (by omega)
 ·omega
theorem halfs_lt (k c:Nat) (h:c<4294967296):halfs k c<4294967296:=by
 induction k with
 | zero=>exact h
 | succ k ih=>exact half_lt _ ih
theorem xor_lt32 (a b:Nat) (ha:a<4294967296) (hb:b<4294967296):a ^^^ b<4294967296:=Nat.xor_lt_two_pow (n:=32) ha hb
theorem half_xor (a b:Nat):half (a ^^^ b)=half a ^^^ half b:=by
 have h1:(a ^^^ b) % 2=(a % 2+b % 2) % 2:=by
  have h:=Nat.xor_mod_two_pow (a:=a) (b:=b) (n:=1)
  rw[Nat.pow_one] at h
  rw[h]
  rcases Nat.mod_two_eq_zero_or_one a with ha | ha<;>rcases Nat.mod_two_eq_zero_or_one b with hb | hb<;>rw[ha,hb]<;>rfl
 have h2:(a ^^^ b) / 2=a / 2 ^^^ b / 2:=by
  have:=Nat.xor_div_two_pow (a:=a) (b:=b) (n:=1)
  simpa using this
 have h0:∀ x y z:Nat,x ^^^ z ^^^ (y ^^^ z)=x ^^^ y:=fun x y z=>by
  rw[Nat.xor_comm y z,Nat.xor_assoc,← Nat.xor_assoc z z y,Nat.xor_self,Nat.zero_xor]
 unfold half
 rw[h1,h2]
 rcases Nat.mod_two_eq_zero_or_one a with ha | ha<;>rcases Nat.mod_two_eq_zero_or_one b with hb | hb<;>simp only[ha,hb]<;>simp
 ·rw[Nat.xor_assoc]
 ·rw[Nat.xor_assoc,Nat.xor_assoc,Nat.xor_comm 2197175160]
 ·exact (h0 _ _ _).symm
theorem halfs_xor (k a b:Nat):halfs k (a ^^^ b)=halfs k a ^^^ halfs k b:=by
 induction k with
 | zero=>rfl
 | succ k ih=>rw[halfs,ih,half_xor,halfs,halfs]
theorem half_even (c:Nat):half (2*c)=c:=by
 unfold half
 rw[if_neg (by omega)]
 omega
theorem halfs_four (q:Nat):halfs 4 (16*q)=q:=by
 show half (half (half (half (16*q))))=q
 rw[show 16*q=2*(2*(2*(2*q))) by omega,half_even,half_even,half_even,half_even]
def sumTab:List Int:=[0,274646895,549293790,820201905,1098587580,1361435347,1640403810,1905808397,2197175160,2460548119,2722870694,2987750089,3280807620,3553878443,3811616794,4084100981]
theorem sumTab_length:sumTab.length=16:=rfl
theorem sumTab_all:∀ r:Fin 16,sumTab.getD r.val 0=(halfs 4 r.val:Int):=by decide +kernel
theorem sumTab_at (r:Nat) (h:r<16):sumTab.getD r 0=(halfs 4 r:Int):=sumTab_all ⟨r,h⟩
theorem step_four (c:Nat):c / 16 ^^^ halfs 4 (c % 16)=halfs 4 c:=by
 have e:c=16*(c / 16) ^^^ c % 16:=by
  have h1:=Nat.two_pow_add_eq_or_of_lt (i:=4) (b:=c % 16) (by omega) (c / 16)
  have h2:2 ^ 4*(c / 16) ||| c % 16=2 ^ 4*(c / 16) ^^^ c % 16:=by
   apply Nat.eq_of_testBit_eq
   intro i
   rw[Nat.testBit_or,Nat.testBit_xor,Nat.testBit_two_pow_mul]
   by_cases hi:4≤i
   ·rw[show (c % 16).testBit i=false from Nat.testBit_lt_two_pow (Nat.lt_of_lt_of_le (show c % 16<2 ^ 4 by omega) (Nat.pow_le_pow_right (by omega) hi))]
    simp
   ·simp[hi]
  rw[h2] at h1
  rw[show 16*(c / 16)=2 ^ 4*(c / 16) by omega,← h1]
  omega
 conv=>rhs;rw[e,halfs_xor,halfs_four]
def crcC (s:ByteArray):Nat→Nat
 | 0=>4294967295
 | k+1=>halfs 8 (crcC s k ^^^ bn s k)
theorem crcC_succ (s:ByteArray) (k:Nat):crcC s (k+1)=halfs 8 (crcC s k ^^^ bn s k):=by rw[crcC]
theorem crcC_lt (s:ByteArray) (k:Nat):crcC s k<4294967296:=by
 induction k with
 | zero=>rw[crcC];omega
 | succ k ih =>
  have:=bn_lt s k
  exact halfs_lt _ _ (xor_lt32 _ _ ih (by omega))
def crc (s:ByteArray):Nat:=4294967295 - crcC s s.size
theorem xor_i64 (a b:Nat) (ha:a<4294967296) (hb:b<4294967296):bits .xor .i64 (a:Int) (b:Int)=((a ^^^ b:Nat):Int):=by
 have:=xor_lt32 a b ha hb
 show IntKind.i64.wrap ((BitVec.ofInt 64 (a:Int) ^^^ BitVec.ofInt 64 (b:Int)).toNat:Int)=_
 rw[BitVec.toNat_xor,BitVec.ofInt_natCast,BitVec.ofInt_natCast,BitVec.toNat_ofNat,BitVec.toNat_ofNat,Nat.mod_eq_of_lt (by omega),Nat.mod_eq_of_lt (by omega),IntKind.wrap_i64]
 omega
theorem xor_u32 (a b:Nat) (ha:a<4294967296) (hb:b<4294967296):bits .xor .u32 (a:Int) (b:Int)=((a ^^^ b:Nat):Int):=by
 have:=xor_lt32 a b ha hb
 show IntKind.u32.wrap ((BitVec.ofInt 32 (a:Int) ^^^ BitVec.ofInt 32 (b:Int)).toNat:Int)=_
 rw[BitVec.toNat_xor,BitVec.ofInt_natCast,BitVec.ofInt_natCast,BitVec.toNat_ofNat,BitVec.toNat_ofNat,Nat.mod_eq_of_lt (by omega),Nat.mod_eq_of_lt (by omega),IntKind.wrap_u32]
 omega
theorem and_u32_15 (a:Nat) (ha:a<4294967296):bits .and .u32 (a:Int) 15=((a % 16:Nat):Int):=by
 have:=bits_mask .u32 32 (by decide) (fun n h0 h1=>by rw[IntKind.wrap_u32];omega) 4 (by omega) (a:Int) (by omega) (by omega)
 simpa using this
end Go.Proofs.YtedmdilabbolaaaGreatDoor
namespace Go.Proofs.YtedmdilabbolaaaGreatDoor
open Go.ChangeShapes Go.WideShapes Go.ChangeAt Go.RowKit Go.PlainAid
set_option linter.unusedVariables false
theorem gSum : Tryz.prog.globalNamed "loop.example/g00360/impl.halfSums" = some 3 := by kernel_rfl
def SumTab (w : World) : Prop := Lib.TabIs Tryz.prog w "loop.example/g00360/impl.halfSums" .u32 sumTab
theorem SumTab.below {B:Nat} {w w':World} (h:SumTab w) (hb:Below B w w') (hB:3<B):SumTab w':=var?_below hb gSum hB h
theorem SumTab.drewN {w:World} (h:SumTab w) (n:Nat):SumTab (w.drewN n):=h
set_option maxHeartbeats 400000 in
theorem impl_half4 (c:Nat) (w:World) (hc:c<4294967296) (ht:SumTab w) :
  Calls Tryz.prog 191 #[.int .u32 (c:Int)] w fun e w'=>e=.returned (.int .u32 ((halfs 4 c:Nat):Int))∧w=w':=by
 have e1:=and_u32_15 c hc
 have hcell:w.cell? ⟨3,c % 16,none⟩=some (.int .u32 ((halfs 4 (c % 16):Nat):Int)):=by
  rw[ht.cell gSum _ (by rw[sumTab_length];omega),sumTab_at _ (by omega)]
 have l1:=halfs_lt 4 (c % 16) (by omega)
 have e2:=xor_u32 (c / 16) (halfs 4 (c % 16)) (by omega) l1
 rw[step_four] at e2
 have e3:(c:Int) / 16=((c / 16:Nat):Int):=by omega
 have b1:((c % 16:Nat):Int)<16:=by omega
 have b2:c % 16<16:=by omega
 generalize halfs 4 (c % 16)=t at *
 generalize halfs 4 c=r at *
 generalize c / 16=d at *
 generalize c % 16=m at *
 clear hc l1 ht
 go_enter Tryz.func191,Tryz.ntmps191
 go_wp2_with fail
 go_ret
 exact ⟨rfl,rfl⟩
set_option maxHeartbeats 400000 in
theorem impl_with (c b:Nat) (w:World) (hc:c<4294967296) (hb:b<256) (ht:SumTab w) :
  Calls Tryz.prog 188 #[.int .u32 (c:Int),.int .u8 (b:Int)] w fun e w'=>e=.returned (.int .u32 ((halfs 8 (c ^^^ b):Nat):Int))∧w=w':=by
 have e1:=xor_u32 c b hc (by omega)
 have l1:=xor_lt32 c b hc (by omega)
 have e2:IntKind.u32.wrap (b:Int)=(b:Int):=by rw[IntKind.wrap_u32];omega
 have HT:Hid (SumTab w):=ht
 have L1:Hid (c ^^^ b<4294967296):=l1
 rw[show (8:Nat)=4+4 from rfl,halfs_add]
 generalize c ^^^ b=x at *
 have c1:=impl_half4 x w l1 ht
 have c2:=impl_half4 (halfs 4 x) w (halfs_lt _ _ l1) ht
 clear ht l1 hc
 go_enter Tryz.func188,Tryz.ntmps188
 go_wp2_with fail
 refine c1.mono ?_
 rintro e w1 ⟨rfl,rfl⟩
 go_wp2_with fail
 refine c2.mono ?_
 rintro e w1 ⟨rfl,rfl⟩
 go_wp2_with fail
 go_ret
 exact ⟨rfl,rfl⟩
set_option maxHeartbeats 400000 in
theorem impl_told (c:Nat) (w:World) (hc:c<4294967296) :
  Calls Tryz.prog 189 #[.int .u32 (c:Int)] w fun e w'=>e=.returned (.int .i64 ((4294967295 - c:Nat):Int))∧w=w':=by
 have e1:IntKind.i64.wrap (4294967295 - (c:Int))=((4294967295 - c:Nat):Int):=by rw[IntKind.wrap_i64];omega
 have e2:(4294967295:Int) - (c:Int)=((4294967295 - c:Nat):Int):=by omega
 have e3:IntKind.i64.wrap (c:Int)=(c:Int):=by rw[IntKind.wrap_i64];omega
 have e4:wrap64 (4294967295 - (c:Int))=((4294967295 - c:Nat):Int):=by unfold wrap64;omega
 generalize 4294967295 - c=r at *
 clear hc
 go_enter Tryz.func189,Tryz.ntmps189
 go_wp2_with fail
 go_ret
 exact ⟨rfl,rfl⟩
set_option maxHeartbeats 400000 in
theorem impl_crc (s:ByteArray) (w:World) (hs:s.size≤9223372036854775807) (ht:SumTab w) :
  Calls Tryz.prog 184 #[.string s] w fun e w'=>e=.returned (.int .i64 ((crc s:Nat):Int))∧w=w':=by
 have hbt:=get_bn s
 have HT:Hid (SumTab w):=ht
 clear ht
 go_enter Tryz.func184,Tryz.ntmps184
 go_wp2
 go_loop [3,7] (fun v3 v7=>∃ k:Nat,k≤s.size∧v7=.int .i64 k∧v3=.int .u32 ((crcC s k:Nat):Int)) (fun _ i=>s.size - (intOf i).toNat)
 case atStart=>exact ⟨0,by omega,rfl,rfl⟩
 case round =>
  obtain ⟨k,hk,rfl,rfl⟩:=hrel
  have hl:Hid (crcC s k<4294967296):=crcC_lt s k
  by_cases hlt:k<s.size
  ·have q1:(k:Int)<(s.size:Int):=by omega
   have r2:=bn_lt s k
   have c1:=impl_with (crcC s k) (bn s k) w hl.out r2 HT.out
   rw[← crcC] at c1
   go_wp2_with fail
   refine c1.mono ?_
   rintro e w1 ⟨rfl,rfl⟩
   go_wp2
   go_round
   case rel=>exact ⟨k+1,by omega,by go_num,rfl⟩
   case measure=>simp[intOf];omega
  ·have hkk:k=s.size:=by omega
   subst hkk
   have c1:=impl_told (crcC s s.size) w hl.out
   go_wp2_with fail
   refine c1.mono ?_
   rintro e w1 ⟨rfl,rfl⟩
   go_wp2
   go_ret
   exact ⟨rfl,rfl⟩
end Go.Proofs.YtedmdilabbolaaaGreatDoor
namespace Go.Proofs.YtedmdilabbolaaaGreatDoor
open Go.ChangeShapes Go.WideShapes Go.ChangeAt Go.RowKit Go.PlainAid
set_option linter.unusedVariables false
theorem wrap64_nat (y:Nat) (h:y<4294967296):wrap64 (y:Int)=(y:Int):=by
 unfold wrap64
 omega
theorem half_facts (y:Nat) (h:y<4294967296):(y:Int).tmod 2=((y % 2:Nat):Int)∧(y:Int).tdiv 2=((y / 2:Nat):Int)∧(y:Int) % 2=((y % 2:Nat):Int)∧(y:Int) / 2=((y / 2:Nat):Int) ∧
  wrap64 ((y / 2:Nat):Int)=((y / 2:Nat):Int)∧bits .xor .i64 ((y / 2:Nat):Int) 2197175160=((y / 2 ^^^ 2197175160:Nat):Int) :=
 ⟨(Int.ofNat_tmod y 2).symm,(Int.ofNat_tdiv y 2).symm,by omega,by omega,wrap64_nat _ (by omega),xor_i64 (y / 2) 2197175160 (by omega) (by omega)⟩
set_option maxHeartbeats 400000 in
theorem spec_crc (s:ByteArray) (w:World) (hs:s.size≤9223372036854775807) :
  Calls Tryz.prog 150 #[.string s] w fun e w'=>e=.returned (.int .i64 ((crc s:Nat):Int))∧w=w':=by
 have hbt:=get_bn s
 go_enter Tryz.func150,Tryz.ntmps150
 go_wp2
 go_loop [3,4] (fun v3 v4=>∃ k:Nat,k≤s.size∧v4=.int .i64 k∧v3=.int .i64 ((crcC s k:Nat):Int)) (fun _ i=>s.size - (intOf i).toNat)
 case atStart=>exact ⟨0,by omega,rfl,rfl⟩
 case round =>
  obtain ⟨k,hk,rfl,rfl⟩:=hrel
  have hl:Hid (crcC s k<4294967296):=crcC_lt s k
  by_cases hlt:k<s.size
  ·have q1:(k:Int)<(s.size:Int):=by omega
   have r2:=bn_lt s k
   have e1:=xor_i64 (crcC s k) (bn s k) hl.out (by omega)
   have eC:Hid (crcC s (k+1)=halfs 8 (crcC s k ^^^ bn s k)):=crcC_succ s k
   have l1:Hid (crcC s k ^^^ bn s k<4294967296):=xor_lt32 _ _ hl.out (by omega)
   generalize crcC s k ^^^ bn s k=x at *
   go_wp2
   go_loop [3,5] (fun v3 v5=>∃ j:Nat,j≤8∧v5=.int .i64 j∧v3=.int .i64 ((halfs j x:Nat):Int)) (fun _ i=>8 - (intOf i).toNat)
   case atStart=>exact ⟨0,by omega,rfl,rfl⟩
   case round =>
    obtain ⟨j,hj,rfl,rfl⟩:=hrel
    by_cases hlt:j<8
    ·have q2:(j:Int)<8:=by omega
     have l2:=halfs_lt j x l1.out
     have eJ:Hid (halfs (j+1) x=half (halfs j x)):=halfs_succ j x
     generalize halfs j x=y at *
     have e4:=half_facts y l2
     obtain ⟨e2,e3,e5,e6,e7,e8⟩:=e4
     have L2:Hid (y<4294967296):=l2
     clear l2
     by_cases ho:y % 2=1
     ·have o1:((y % 2:Nat):Int)=1:=by rw[ho];rfl
      have eH:Hid (half y=y / 2 ^^^ 2197175160):=by unfold Hid half;rw[if_pos ho]
      clear ho
      generalize y / 2 ^^^ 2197175160=z at *
      generalize y / 2=y2 at *
      generalize y % 2=m at *
      go_wp2_with fail
      clear e2 e3 e5 e6 e7 e8 o1
      go_round
      case rel=>exact ⟨j+1,by omega,by go_num,by rw[eJ.out,eH.out]⟩
      case measure=>simp[intOf];omega
     ·have o2:¬ ((y % 2:Nat):Int)=1:=fun h=>ho (by exact_mod_cast h)
      have o1:decide (((y % 2:Nat):Int)=1)=false:=decide_eq_false o2
      have eH:Hid (half y=y / 2):=by unfold Hid half;rw[if_neg ho]
      have E7:Hid (wrap64 ((y / 2:Nat):Int)=((y / 2:Nat):Int)):=e7
      clear e8 ho
      generalize y / 2=y2 at *
      generalize y % 2=m at *
      go_wp2_with fail
      clear e2 e3 e5 e6 e7 o1 o2
      go_round
      case rel=>exact ⟨j+1,by omega,by go_num,by rw[eJ.out,eH.out,E7.out]⟩
      case measure=>simp[intOf];omega
    ·have hjj:j=8:=by omega
     subst hjj
     go_wp2
     go_round
     case rel=>exact ⟨k+1,by omega,by go_num,by rw[eC.out]⟩
     case measure=>simp[intOf];omega
  ·have hkk:k=s.size:=by omega
   subst hkk
   have e2:(4294967295:Int) - (crcC s s.size:Int)=((crc s:Nat):Int):=by have:=hl.out;unfold crc;omega
   have e4:wrap64 (4294967295 - (crcC s s.size:Int))=((crc s:Nat):Int):=by
    have:crc s≤4294967295:=by unfold crc;omega
    rw[e2]
    unfold wrap64
    omega
   go_wp2
   go_ret
   exact ⟨rfl,rfl⟩
end Go.Proofs.YtedmdilabbolaaaGreatDoor
namespace Go.Proofs.YtedmdilabbolaaaGreatDoor
open Go.RowKit Go.PlainAid
def four (n:Nat):ByteArray:=txt (low n 4)
theorem four_size (n:Nat):(four n).size=4:=by rw[four,txt_size,low_length]
theorem rdv_four (s:ByteArray):rdv s 4=((bn s 0*256+bn s 1)*256+bn s 2)*256+bn s 3:=by simp[rdv]
theorem byt_congr (a b:Nat) (h:a % 256=b % 256):byt a=byt b:=by
 apply UInt8.toNat_inj.1
 rw[byt_toNat,byt_toNat,h]
theorem four_rdv (s:ByteArray) (h:4≤s.size):four (rdv s 4)=s.extract 0 4:=by
 rw[sg_extract s 4 h,four,rdv_four]
 have h0:=bn_lt s 0
 have h1:=bn_lt s 1
 have h2:=bn_lt s 2
 have h3:=bn_lt s 3
 have e:∀ a b c d:Nat,∀ a' b' c' d':Nat,a % 256=a' % 256→b % 256=b' % 256→c % 256=c' % 256→d % 256=d' % 256→[byt a,byt b,byt c,byt d]=[byt a',byt b',byt c',byt d']:=by
  intro a b c d a' b' c' d' ha hb hc hd
  rw[byt_congr a a' ha,byt_congr b b' hb,byt_congr c c' hc,byt_congr d d' hd]
 have e2:low (((bn s 0*256+bn s 1)*256+bn s 2)*256+bn s 3) 4=[byt ((((bn s 0*256+bn s 1)*256+bn s 2)*256+bn s 3) / 16777216),byt ((((bn s 0*256+bn s 1)*256+bn s 2)*256+bn s 3) / 65536),byt ((((bn s 0*256+bn s 1)*256+bn s 2)*256+bn s 3) / 256),byt ((((bn s 0*256+bn s 1)*256+bn s 2)*256+bn s 3) / 1)]:=rfl
 have e3:sg s 0 4=[byt (bn s 0),byt (bn s 1),byt (bn s 2),byt (bn s 3)]:=rfl
 rw[e2,e3]
 exact congrArg txt (e _ _ _ _ _ _ _ _ (by omega) (by omega) (by omega) (by omega))
theorem bn_get (s:ByteArray) (k:Nat) (h:k<s.size):bn s k=(s[k]'h).toNat:=by
 have:=get_bn s k h
 omega
theorem bn_append_left (a b:ByteArray) (k:Nat) (h:k<a.size):bn (a++b) k=bn a k:=by
 rw[bn_get _ _ (by rw[ByteArray.size_append];omega),bn_get _ _ h,ByteArray.getElem_append_left]
theorem rdv_append (a b:ByteArray) (k:Nat) (h:k≤a.size):rdv (a++b) k=rdv a k:=by
 induction k with
 | zero=>rfl
 | succ k ih=>rw[rdv,rdv,ih (by omega),bn_append_left _ _ _ (by omega)]
theorem bn_txt (l:List UInt8) (k:Nat) (h:k<l.length):bn (txt l) k=(l[k]).toNat:=by
 rw[bn_get _ _ (by rw[txt_size];exact h)]
 rfl
theorem rdv_four_four (n:Nat) (h:n<4294967296):rdv (four n) 4=n:=by
 rw[rdv_four,four,bn_txt _ 0 (by rw[low_length];omega),bn_txt _ 1 (by rw[low_length];omega),bn_txt _ 2 (by rw[low_length];omega),bn_txt _ 3 (by rw[low_length];omega)]
 simp only[low,List.getElem_cons_zero,List.getElem_cons_succ,byt_toNat]
 omega
def sumOf (a b:ByteArray):ByteArray:=four (crc (a++b))
theorem crc_lt (s:ByteArray):crc s<4294967296:=by unfold crc;omega
theorem sumOf_size (a b:ByteArray):(sumOf a b).size=4:=four_size _
def frameOf (b:ByteArray):ByteArray:=four b.size++sumOf (four b.size) b++b
theorem frameOf_size (b:ByteArray):(frameOf b).size=8+b.size:=by
 rw[frameOf,ByteArray.size_append,ByteArray.size_append,four_size,sumOf_size]
def frame (b:ByteArray):ByteArray:=if b.size=0∨2000<b.size then txt [] else frameOf b
def bodyOf (s:ByteArray):ByteArray:=s.extract 8 (8+rdv s 4)
theorem bodyOf_size (s:ByteArray) (h:8+rdv s 4≤s.size):(bodyOf s).size=rdv s 4:=by
 rw[bodyOf,ByteArray.size_extract]
 omega
def code (s:ByteArray):Nat :=
 if s.size<4 then 1 else if rdv s 4=0∨2000<rdv s 4 then 2 else if s.size<8+rdv s 4 then 1
 else if sumOf (s.extract 0 4) (bodyOf s)=s.extract 4 8 then 0 else 2
theorem code_zero (s:ByteArray):code s=0↔4≤s.size∧1≤rdv s 4∧rdv s 4≤2000∧8+rdv s 4≤s.size∧sumOf (s.extract 0 4) (bodyOf s)=s.extract 4 8:=by
 unfold code
 split
 ·constructor
  ·intro h;cases h
  ·intro h;omega
 ·split
  ·constructor
   ·intro h;cases h
   ·intro h;omega
  ·split
   ·constructor
    ·intro h;cases h
    ·intro h;omega
   ·split
    ·rename_i h
     constructor
     ·intro _;exact ⟨by omega,by omega,by omega,by omega,h⟩
     ·intro _;rfl
    ·rename_i h
     constructor
     ·intro h;cases h
     ·intro h';exact absurd h'.2.2.2.2 h
theorem pieces (s:ByteArray) (n:Nat):s.extract 0 (8+n)=s.extract 0 4++s.extract 4 8++s.extract 8 (8+n):=by
 rw[ByteArray.extract_append_extract,show min 0 4=0 by rfl,show max 4 8=8 by rfl,ByteArray.extract_append_extract,show min 0 8=0 by rfl,show max 8 (8+n)=8+n by omega]
theorem frame_fits (s:ByteArray) (h4:4≤s.size) (h1:1≤rdv s 4) (h2:rdv s 4≤2000) (h8:8+rdv s 4≤s.size) :
  frame (bodyOf s)=s.extract 0 (8+rdv s 4)↔sumOf (s.extract 0 4) (bodyOf s)=s.extract 4 8:=by
 have hb:=bodyOf_size s h8
 have e:s.extract 8 (8+rdv s 4)=bodyOf s:=rfl
 rw[frame,if_neg (by omega),frameOf,hb,four_rdv s h4,pieces,e]
 rw[ByteArray.append_left_inj,ByteArray.append_right_inj]
theorem rdv_frameOf (b t:ByteArray) (h:b.size≤2000):rdv (frameOf b++t) 4=b.size:=by
 rw[frameOf,ByteArray.append_assoc,ByteArray.append_assoc,rdv_append _ _ _ (by rw[four_size];omega),rdv_four_four _ (by omega)]
theorem bodyOf_frameOf (b t:ByteArray) (h:b.size≤2000):bodyOf (frameOf b++t)=b:=by
 have e:frameOf b++t=(four b.size++sumOf (four b.size) b)++(b++t):=by rw[frameOf,ByteArray.append_assoc]
 rw[bodyOf,rdv_frameOf b t h,e,ByteArray.extract_append,ByteArray.extract_eq_empty_iff.2 (by rw[ByteArray.size_append,four_size,sumOf_size];omega),ByteArray.size_append,four_size,sumOf_size]
 rw[ByteArray.empty_append,show 8 - (4+4)=0 by rfl,show 8+b.size - (4+4)=b.size by omega]
 exact ByteArray.extract_append_eq_left rfl
theorem code_frameOf (b t:ByteArray) (h1:1≤b.size) (h:b.size≤2000):code (frameOf b++t)=0:=by
 have hs:(frameOf b++t).size=8+b.size+t.size:=by rw[ByteArray.size_append,frameOf_size]
 rw[code_zero,rdv_frameOf b t h,bodyOf_frameOf b t h]
 refine ⟨by omega,h1,h,by omega,?_⟩
 have e:frameOf b++t=four b.size++(sumOf (four b.size) b++(b++t)):=by rw[frameOf,ByteArray.append_assoc,ByteArray.append_assoc]
 have e1:(frameOf b++t).extract 0 4=four b.size:=by rw[e];exact ByteArray.extract_append_eq_left (four_size _).symm
 have e2:(frameOf b++t).extract 4 8=sumOf (four b.size) b:=by
  rw[e,ByteArray.extract_append,ByteArray.extract_eq_empty_iff.2 (by rw[four_size];omega),four_size,ByteArray.empty_append]
  exact ByteArray.extract_append_eq_left (by rw[sumOf_size])
 rw[e1,e2]
def rest (s:ByteArray) (i:Nat):ByteArray:=s.extract i s.size
theorem rest_size (s:ByteArray) (i:Nat):(rest s i).size=s.size - i:=by rw[rest,ByteArray.size_extract];omega
theorem rest_zero (s:ByteArray):rest s 0=s:=ByteArray.extract_zero_size
def pos (s:ByteArray):Nat→Nat
 | 0=>0
 | k+1=>pos s k+(8+rdv (rest s (pos s k)) 4)
def Runs (s:ByteArray) (k:Nat):Prop:=∀ j,j<k→code (rest s (pos s j))=0
def Ends (s:ByteArray) (k:Nat):Prop:=Runs s k∧code (rest s (pos s k))≠0
theorem Runs.zero (s:ByteArray):Runs s 0:=fun j hj=>by omega
theorem Runs.succ {s:ByteArray} {k:Nat} (h:Runs s k) (hc:code (rest s (pos s k))=0):Runs s (k+1):=fun j hj=>by
 rcases Nat.lt_succ_iff_lt_or_eq.1 hj with h' | rfl
 ·exact h j h'
 ·exact hc
theorem Ends.one {s:ByteArray} {k k':Nat} (h:Ends s k) (h':Ends s k'):k=k':=by
 rcases Nat.lt_trichotomy k k' with hl | hl | hl
 ·exact absurd (h'.1 k hl) h.2
 ·exact hl
 ·exact absurd (h.1 k' hl) h'.2
end Go.Proofs.YtedmdilabbolaaaGreatDoor
namespace Go.Proofs.YtedmdilabbolaaaGreatDoor
open Go.RowKit Go.PlainAid
set_option linter.unusedVariables false
theorem isTypeOf (v:Value) (w:World):(callFunc 185 #[.iface 235 v]).run Tryz.prog w=.ok (.value (.iface 221 (.agg #[.pointer (some ⟨4,235,none⟩)]))) w:=by kernel_rfl
theorem isComparable (w:World):(callFunc 213 #[.agg #[.pointer (some ⟨4,235,none⟩)]]).run Tryz.prog w=.ok (.value (.bool true)) w:=by kernel_rfl
theorem isMethodComparable (v : Value) (w : World) : (Go.method 368 221 v "Comparable").run Tryz.prog w = .ok (213, v) w := by kernel_rfl
theorem isComp:(Tryz.prog.info? 235).map (·.comparable)=some true:=by kernel_rfl
theorem isSize:(Tryz.prog.info? 257).map (·.size)=some 1:=by kernel_rfl
theorem noIsE (v:Value) (xT:TypeId) (w:World):(Instr.typeAssert (.iface 235 v) xT 223 true).run Tryz.prog w=.ok (.tuple #[.nilIface,.bool false]) w:=run_typeAssert_lacksB Tryz.underlying223 (by kernel_rfl) (by kernel_rfl) v xT w
theorem noUnwrapE (v:Value) (xT:TypeId) (w:World):(Instr.typeAssert (.iface 235 v) xT 226 true).run Tryz.prog w=.ok (.tuple #[.nilIface,.bool false]) w:=run_typeAssert_lacksB Tryz.underlying226 (by kernel_rfl) (by kernel_rfl) v xT w
theorem noUnwrapsE (v:Value) (xT:TypeId) (w:World):(Instr.typeAssert (.iface 235 v) xT 228 true).run Tryz.prog w=.ok (.tuple #[.nilIface,.bool false]) w:=run_typeAssert_lacksB Tryz.underlying228 (by kernel_rfl) (by kernel_rfl) v xT w
theorem noIsW (v:Value) (xT:TypeId) (w:World):(Instr.typeAssert (.iface 201 v) xT 223 true).run Tryz.prog w=.ok (.tuple #[.nilIface,.bool false]) w:=run_typeAssert_lacksB Tryz.underlying223 (by kernel_rfl) (by kernel_rfl) v xT w
theorem hasUnwrapW (v:Value) (xT:TypeId) (w:World):(Instr.typeAssert (.iface 201 v) xT 226 true).run Tryz.prog w=.ok (.tuple #[.iface 201 v,.bool true]) w:=run_typeAssert_hasB Tryz.underlying226 (by kernel_rfl) v xT w
theorem methodUnwrap (v : Value) (w : World) : (Go.method 368 201 v "Unwrap").run Tryz.prog w = .ok (208, v) w := by kernel_rfl
theorem heap_alloc_old {w:World} {k:Nat} {o x:Obj} (h:w.heap[k]?=some x):(w.alloc o).heap[k]?=some x:=by
 show (w.heap.push o)[k]?=_
 rcases Nat.lt_or_ge k w.heap.size with h' | h'
 ·simp only[Array.getElem?_push,Nat.ne_of_lt h',if_false]
  exact h
 ·rw[Array.getElem?_eq_none h'] at h
  cases h
def wrapped (p:Int) (a:Addr):Value:=.iface 201 (.agg #[.int .i64 p,.iface 235 (.pointer (some a))])
set_option maxRecDepth 20000 in
set_option maxHeartbeats 1000000 in
theorem is_wrap_same (p:Int) (b:Addr) (w:World) :
  Calls Tryz.prog 173 #[wrapped p b,.iface 235 (.pointer (some b))] w fun e w'=>e=.returned (.bool true)∧Below w.heap.size w w':=by
 unfold wrapped
 obtain ⟨i,hi,hcmp⟩:=Option.map_eq_some_iff.1 isComp
 obtain ⟨j,hj,hjs⟩:=Option.map_eq_some_iff.1 isSize
 have tT:=isTypeOf
 have cT:=isComparable
 have mR:=isMethodComparable
 have nE:=noIsE
 have uE:=noUnwrapE
 have vE:=noUnwrapsE
 have nW:=noIsW
 have uW:=hasUnwrapW
 have mU:=methodUnwrap
 have heq:=fun wx:World=>run_eql_iface_ptr_same (P:=Tryz.prog) wx b Tryz.underlying191 Tryz.underlying235 hi hcmp hj
 have hty:=run_eql_iface_types (P:=Tryz.prog) 201 235 (.agg #[.int .i64 p,.iface 235 (.pointer (some b))]) (.pointer (some b)) Tryz.underlying191 (by decide) w
 go_enter Tryz.func173,Tryz.ntmps173
 go_wp2
 refine wp_loop_rounds 2 ?_
 rw[rounds_succ]
 go_wp2
 rw[rounds_succ]
 go_wp2
 go_ret
 exact ⟨rfl,(Below.refl _ _).alloc (Nat.le_refl _) _⟩
set_option maxRecDepth 20000 in
set_option maxHeartbeats 1000000 in
theorem is_wrap_other (p:Int) (a b:Addr) (ca cb:Array Value) (ta tb:TypeId) (w:World) (hne:a≠b) (ha:w.heap[a.block]?=some (.cells ca ta (0,0))) (hb:w.heap[b.block]?=some (.cells cb tb (0,0))) :
  Calls Tryz.prog 173 #[wrapped p a,.iface 235 (.pointer (some b))] w fun e w'=>e=.returned (.bool false)∧Below w.heap.size w w':=by
 unfold wrapped
 obtain ⟨i,hi,hcmp⟩:=Option.map_eq_some_iff.1 isComp
 obtain ⟨j,hj,hjs⟩:=Option.map_eq_some_iff.1 isSize
 have tT:=isTypeOf
 have cT:=isComparable
 have mR:=isMethodComparable
 have nE:=noIsE
 have uE:=noUnwrapE
 have vE:=noUnwrapsE
 have nW:=noIsW
 have uW:=hasUnwrapW
 have mU:=methodUnwrap
 have heq:∀ o:Obj,_:=fun o=>run_eql_iface_ptr_other (P:=Tryz.prog) (w.alloc o) Tryz.underlying191 Tryz.underlying235 hi hcmp hj (by rw[hjs];decide) hne (heap_alloc_old ha) (heap_alloc_old hb)
 have hty:=run_eql_iface_types (P:=Tryz.prog) 201 235 (.agg #[.int .i64 p,.iface 235 (.pointer (some a))]) (.pointer (some b)) Tryz.underlying191 (by decide) w
 clear ha hb hne
 go_enter Tryz.func173,Tryz.ntmps173
 go_wp2
 refine wp_loop_rounds 2 ?_
 rw[rounds_succ]
 go_wp2
 rw[rounds_succ]
 go_wp2
 go_ret
 exact ⟨rfl,(Below.refl _ _).alloc (Nat.le_refl _) _⟩
end Go.Proofs.YtedmdilabbolaaaGreatDoor
namespace Go.Proofs.YtedmdilabbolaaaGreatDoor
open Go.RowKit Go.PlainAid
set_option linter.unusedVariables false
structure Errs (w:World) (a0 a1 a2:Addr):Prop where
 v0 : w.var? Tryz.prog "loop.example/g00360/impl.errFrameShort" = some #[.iface 235 (.pointer (some a0))]
 v1 : w.var? Tryz.prog "loop.example/g00360/impl.errFrameLength" = some #[.iface 235 (.pointer (some a1))]
 v2 : w.var? Tryz.prog "loop.example/g00360/impl.errFrameSum" = some #[.iface 235 (.pointer (some a2))]
 n1:a1≠a0
 n2:a2≠a0
 h0:∃ c t,w.heap[a0.block]?=some (.cells c t (0,0))
 h1:∃ c t,w.heap[a1.block]?=some (.cells c t (0,0))
 h2:∃ c t,w.heap[a2.block]?=some (.cells c t (0,0))
theorem gShort : Tryz.prog.globalNamed "loop.example/g00360/impl.errFrameShort" = some 0 := by kernel_rfl
theorem gLen : Tryz.prog.globalNamed "loop.example/g00360/impl.errFrameLength" = some 1 := by kernel_rfl
theorem gBad : Tryz.prog.globalNamed "loop.example/g00360/impl.errFrameSum" = some 2 := by kernel_rfl
theorem Errs.c0 {w:World} {a0 a1 a2:Addr} (h:Errs w a0 a1 a2):w.cell? ⟨0,0,none⟩=some (.iface 235 (.pointer (some a0))):=by simpa using World.var?_cell gShort h.v0 0
theorem Errs.c1 {w:World} {a0 a1 a2:Addr} (h:Errs w a0 a1 a2):w.cell? ⟨1,0,none⟩=some (.iface 235 (.pointer (some a1))):=by simpa using World.var?_cell gLen h.v1 0
theorem Errs.c2 {w:World} {a0 a1 a2:Addr} (h:Errs w a0 a1 a2):w.cell? ⟨2,0,none⟩=some (.iface 235 (.pointer (some a2))):=by simpa using World.var?_cell gBad h.v2 0
theorem lt_of_some {w:World} {k:Nat} {x:Obj} (h:w.heap[k]?=some x):k<w.heap.size:=by
 rcases Nat.lt_or_ge k w.heap.size with h' | h'
 ·exact h'
 ·rw[Array.getElem?_eq_none h'] at h
  cases h
theorem Errs.on {w w':World} {a0 a1 a2:Addr} (h:Errs w a0 a1 a2) (hb:Below w.heap.size w w'):Errs w' a0 a1 a2 where
 v0:=var?_below hb gShort (World.block_lt_of_cell? _ _ h.c0) h.v0
 v1:=var?_below hb gLen (World.block_lt_of_cell? _ _ h.c1) h.v1
 v2:=var?_below hb gBad (World.block_lt_of_cell? _ _ h.c2) h.v2
 n1:=h.n1
 n2:=h.n2
 h0:=by obtain ⟨c,t,e⟩:=h.h0;exact ⟨c,t,by rw[hb.block _ (lt_of_some e)];exact e⟩
 h1:=by obtain ⟨c,t,e⟩:=h.h1;exact ⟨c,t,by rw[hb.block _ (lt_of_some e)];exact e⟩
 h2:=by obtain ⟨c,t,e⟩:=h.h2;exact ⟨c,t,by rw[hb.block _ (lt_of_some e)];exact e⟩
set_option maxHeartbeats 400000 in
theorem code_short (p:Int) (a0 a1 a2:Addr) (w:World) (h:Errs w a0 a1 a2) :
  Calls Tryz.prog 160 #[wrapped p a0] w fun e w'=>e=.returned (.int .i64 1)∧Below w.heap.size w w':=by
 have hc:=h.c0
 have c1:=is_wrap_same p a0 w
 clear h
 go_enter Tryz.func160,Tryz.ntmps160
 go_wp2_with fail
 refine c1.mono ?_
 rintro e w1 ⟨rfl,hb1⟩
 go_wp2_with fail
 go_ret
 exact ⟨rfl,hb1⟩
set_option maxHeartbeats 400000 in
theorem code_bad (p:Int) (a a0 a1 a2:Addr) (w:World) (h:Errs w a0 a1 a2) (ha:a=a1∨a=a2) :
  Calls Tryz.prog 160 #[wrapped p a] w fun e w'=>e=.returned (.int .i64 2)∧Below w.heap.size w w':=by
 have hc:=h.c0
 have c1:Calls Tryz.prog 173 #[wrapped p a,.iface 235 (.pointer (some a0))] w fun e w'=>e=.returned (.bool false)∧Below w.heap.size w w':=by
  obtain ⟨c,t,e⟩:=h.h0
  rcases ha with rfl | rfl
  ·obtain ⟨c',t',e'⟩:=h.h1
   exact is_wrap_other p a a0 c' c t' t w h.n1 e' e
  ·obtain ⟨c',t',e'⟩:=h.h2
   exact is_wrap_other p a a0 c' c t' t w h.n2 e' e
 clear h ha
 go_enter Tryz.func160,Tryz.ntmps160
 go_wp2_with fail
 refine c1.mono ?_
 rintro e w1 ⟨rfl,hb1⟩
 go_wp2_with fail
 go_ret
 exact ⟨rfl,hb1⟩
end Go.Proofs.YtedmdilabbolaaaGreatDoor
namespace Go.Proofs.YtedmdilabbolaaaGreatDoor
open Go.RowKit Go.PlainAid
structure Pnt where
 t:Int
 v:Int
instance:Inhabited Pnt:=⟨⟨0,0⟩⟩
theorem Pnt.same {x y:Pnt} (h1:x.t=y.t) (h2:x.v=y.v):x=y:=by
 cases x
 cases y
 simp only at h1 h2
 subst h1
 subst h2
 rfl
def Lies (w:World) (B sz:Nat) (v:Value) (rows:List (List Value)):Prop :=
 ∃ A cap,v=.slice A rows.length cap∧((A=none→cap=0)∧rows.length≤cap)∧(∀ r∈rows,r.length=sz)∧(rows.length=0∨∃ g off,A=some ⟨g,off,none⟩∧g<B∧∀ k x,rows.flatten[k]?=some x→w.cell? ⟨g,off+k,none⟩=some x)
theorem Lies.on {w w':World} {B sz:Nat} {v:Value} {rows:List (List Value)} (h:Lies w B sz v rows) (hb:Below B w w'):Lies w' B sz v rows:=by
 obtain ⟨A,cap,e,hz,hs,h⟩:=h
 refine ⟨A,cap,e,hz,hs,h.imp id ?_⟩
 rintro ⟨g,off,rfl,hg,hc⟩
 refine ⟨g,off,rfl,hg,fun k x hx=>?_⟩
 rw[← hc k x hx]
 exact World.cell?_of_block (w:=w) (hb.block g hg)
theorem Lies.heap {w w':World} {B sz:Nat} {v:Value} {rows:List (List Value)} (h:Lies w B sz v rows) (hh:w'.heap=w.heap):Lies w' B sz v rows:=by
 obtain ⟨A,cap,e,hz,hs,h⟩:=h
 refine ⟨A,cap,e,hz,hs,h.imp id ?_⟩
 rintro ⟨g,off,rfl,hg,hc⟩
 refine ⟨g,off,rfl,hg,fun k x hx=>?_⟩
 rw[← hc k x hx]
 exact World.cell?_of_block (w:=w) (by rw[hh])
theorem Lies.mono {w:World} {B C sz:Nat} {v:Value} {rows:List (List Value)} (h:Lies w B sz v rows) (hB:B≤C):Lies w C sz v rows:=by
 obtain ⟨A,cap,e,hz,hs,h⟩:=h
 refine ⟨A,cap,e,hz,hs,h.imp id ?_⟩
 rintro ⟨g,off,rfl,hg,hc⟩
 exact ⟨g,off,rfl,by omega,hc⟩
theorem flat_at (sz:Nat):∀ (rows:List (List Value)),(∀ r∈rows,r.length=sz)→∀ (j f:Nat) (hj:j<rows.length),f<sz→rows.flatten[j*sz+f]?=(rows[j])[f]?
 | [],_,j,f,hj,_=>by simp at hj
 | r::rs,hs,0,f,_,hf=>by
  have:=hs r (by simp)
  simp only[List.flatten_cons,Nat.zero_mul,Nat.zero_add,List.getElem_cons_zero]
  rw[List.getElem?_append_left (by omega)]
 | r::rs,hs,j+1,f,hj,hf=>by
  have hr:=hs r (by simp)
  have ih:=flat_at sz rs (fun r hr=>hs r (by simp[hr])) j f (by simp at hj;omega) hf
  simp only[List.flatten_cons,List.getElem_cons_succ]
  rw[List.getElem?_append_right (by rw[hr,Nat.succ_mul];omega),← ih,hr]
  congr 1
  rw[Nat.succ_mul]
  omega
theorem flat_length (sz:Nat) (rows:List (List Value)) (hs:∀ r∈rows,r.length=sz):rows.flatten.length=rows.length*sz:=by
 induction rows with
 | nil=>simp
 | cons r rs ih =>
  rw[List.flatten_cons,List.length_append,ih (fun r hr=>hs r (by simp[hr])),hs r (by simp),List.length_cons,Nat.succ_mul]
  omega
theorem Lies.look {w:World} {B sz:Nat} {v:Value} {rows:List (List Value)} (h:Lies w B sz v rows):∃ A cap,v=.slice A rows.length cap∧∀ j (hj:j<rows.length),∃ g off,A=some ⟨g,off,none⟩∧g<B∧∀ f x,f<sz→(rows[j])[f]?=some x→w.cell? ⟨g,off+(j*sz+f),none⟩=some x:=by
 obtain ⟨A,cap,rfl,_,hs,h⟩:=h
 refine ⟨A,cap,rfl,fun j hj=>?_⟩
 rcases h with h | ⟨g,off,rfl,hg,hc⟩
 ·omega
 ·exact ⟨g,off,rfl,hg,fun f x hf hx=>hc _ x (by rw[flat_at sz rows hs j f hj hf];exact hx)⟩
theorem Lies.first {w:World} {B sz:Nat} {A:Option Addr} {n c:Nat} {rows:List (List Value)} (h:Lies w B sz (.slice A n c) rows) (k:Nat) (hk:k≤rows.length):Lies w B sz (.slice A k c) (rows.take k):=by
 obtain ⟨A',c',e,hz,hs,h⟩:=h
 cases e
 have hl:(rows.take k).length=k:=by rw[List.length_take];omega
 refine ⟨A,c,by rw[hl],⟨hz.1,by rw[hl];exact Nat.le_trans hk hz.2⟩,fun r hr=>hs r (List.mem_of_mem_take hr),?_⟩
 rw[hl]
 rcases h with h | ⟨g,off,rfl,hg,hc⟩
 ·exact .inl (by omega)
 ·refine .inr ⟨g,off,rfl,hg,fun j x hx=>hc j x ?_⟩
  rw[← List.take_append_drop k rows,List.flatten_append,List.getElem?_append_left ((List.getElem?_eq_some_iff.1 hx).1)]
  exact hx
def Owns (w:World) (base:Nat) (e:TypeId) (sz:Nat) (v:Value) (rows:List (List Value)):Prop:=(∀ r∈rows,r.length=sz)∧w.ownsRow base e sz v rows.length rows.flatten
theorem Owns.lt {w:World} {base:Nat} {e:TypeId} {sz:Nat} {v:Value} {rows:List (List Value)} (h:Owns w base e sz v rows):∀ k,v.ownBlock=some k→base≤k∧k<w.heap.size:=World.ownsRow.lt h.2
theorem Owns.lies {w:World} {base:Nat} {e:TypeId} {sz:Nat} {v:Value} {rows:List (List Value)} (h:Owns w base e sz v rows):Lies w w.heap.size sz v rows:=by
 have hlt:=h.lt
 have hc:=fun g hg=>World.ownsRow.cells h.2 (g:=g) hg
 rcases h.2.2 with ⟨rfl,h0⟩ | ⟨g,cap,cur,rfl,_,_,hcap,_⟩
 ·exact ⟨none,0,by rw[h0],⟨fun _=>rfl,by omega⟩,h.1,.inl h0⟩
 ·refine ⟨_,cap,rfl,⟨fun e=>(by cases e),hcap⟩,h.1,.inr ⟨g,0,rfl,(hlt g rfl).2,fun k x hx=>?_⟩⟩
  have e:(⟨g,0,none⟩:Addr).add k=⟨g,0+k,none⟩:=by cases k<;>simp[Addr.add]
  rw[← e]
  exact hc g rfl k x hx
theorem Owns.kept {w w':World} {base:Nat} {e:TypeId} {sz:Nat} {v:Value} {rows:List (List Value)} (h:Owns w base e sz v rows) (hk:∀ g,g<w.heap.size→v.ownBlock=some g→w'.heap[g]?=w.heap[g]?):Owns w' base e sz v rows:=by
 have hl:=h.lt
 refine ⟨h.1,h.2.1,h.2.2.imp id ?_⟩
 rintro ⟨g,cap,cur,rfl,hg,hh,r⟩
 refine ⟨g,cap,cur,rfl,hg,?_,r⟩
 rw[hk g (hl g rfl).2 rfl]
 exact hh
theorem Owns.on {w w':World} {base:Nat} {e:TypeId} {sz:Nat} {v:Value} {rows:List (List Value)} (h:Owns w base e sz v rows) (hb:Below w.heap.size w w'):Owns w' base e sz v rows:=h.kept fun g hg _=>hb.block g hg
theorem Owns.heap {w w':World} {base:Nat} {e:TypeId} {sz:Nat} {v:Value} {rows:List (List Value)} (h:Owns w base e sz v rows) (hh:w'.heap=w.heap):Owns w' base e sz v rows:=h.kept fun g _ _=>by rw[hh]
theorem Owns.mono {w:World} {base base':Nat} {e:TypeId} {sz:Nat} {v:Value} {rows:List (List Value)} (h:Owns w base e sz v rows) (hb:base'≤base):Owns w base' e sz v rows :=
 ⟨h.1,h.2.1,h.2.2.imp id fun ⟨g,cap,cur,e,hg,r⟩=>⟨g,cap,cur,e,Nat.le_trans hb hg,r⟩⟩
theorem getD_mem {α:Type} [Inhabited α] (l:List α) (j:Nat) (h:j<l.length):l.getD j default∈l:=by
 rw[List.getD_eq_getElem?_getD,List.getElem?_eq_getElem h]
 exact List.getElem_mem h
theorem getD_at {α:Type} [Inhabited α] (l:List α) (j:Nat) (h:j<l.length):l[j]=l.getD j default:=by
 rw[List.getD_eq_getElem?_getD,List.getElem?_eq_getElem h]
 rfl
theorem take_getD {α:Type} [Inhabited α] (l:List α) (j:Nat) (h:j<l.length):l.take (j+1)=l.take j++[l.getD j default]:=by
 rw[List.take_add_one,List.getElem?_eq_getElem h,← getD_at l j h]
 rfl
def ptC (x:Pnt):List Value:=[.int .i64 x.t,.int .i64 x.v]
def ptR (l:List Pnt):List (List Value):=l.map ptC
theorem ptR_length (l:List Pnt):(ptR l).length=l.length:=by simp[ptR]
theorem ptR_append (l m:List Pnt):ptR (l++m)=ptR l++ptR m:=by simp[ptR]
theorem pt_look {w:World} {B:Nat} {v:Value} {l:List Pnt} (h:Lies w B 2 v (ptR l)):∃ A cap,v=.slice A l.length cap∧∀ j,j<l.length→∃ g off,A=some ⟨g,off,none⟩∧g<B ∧
  w.cell? ⟨g,off+j*2,none⟩=some (.int .i64 (l.getD j default).t)∧w.cell? ⟨g,off+j*2+1,none⟩=some (.int .i64 (l.getD j default).v):=by
 obtain ⟨A,cap,e,h⟩:=h.look
 refine ⟨A,cap,by rw[e];simp[ptR],fun j hj=>?_⟩
 rw[← getD_at l j hj]
 obtain ⟨g,off,e,hg,hc⟩:=h j (by simpa[ptR] using hj)
 refine ⟨g,off,e,hg,?_,?_⟩
 ·have:=hc 0 _ (by omega) (by simp[ptR,ptC];rfl);simpa[Nat.add_assoc] using this
 ·have:=hc 1 _ (by omega) (by simp[ptR,ptC];rfl);simpa[Nat.add_assoc] using this
theorem Lies.behind {w:World} {B sz g off n c:Nat} {rows:List (List Value)} (h:Lies w B sz (.slice (some ⟨g,off,none⟩) n c) rows) (k:Nat) (hk:k≤rows.length):Lies w B sz (.slice (some ⟨g,off+k*sz,none⟩) (n - k) (c - k)) (rows.drop k):=by
 obtain ⟨A',c',e,hz,hs,h⟩:=h
 cases e
 have hl:(rows.drop k).length=rows.length - k:=List.length_drop
 refine ⟨_,c - k,by rw[hl],⟨fun e=>(by cases e),by rw[hl];have:=hz.2;omega⟩,fun r hr=>hs r (List.mem_of_mem_drop hr),?_⟩
 rw[hl]
 rcases h with h | ⟨g',off',e,hg,hc⟩
 ·exact .inl (by omega)
 ·cases e
  refine .inr ⟨g,off+k*sz,rfl,hg,fun j x hx=>?_⟩
  have hl2:(rows.take k).flatten.length=k*sz:=by rw[flat_length sz _ (fun r hr=>hs r (List.mem_of_mem_take hr)),List.length_take,Nat.min_eq_left hk]
  have:=hc (k*sz+j) x (by
   rw[← List.take_append_drop k rows,List.flatten_append,List.getElem?_append_right (by omega),hl2,Nat.add_sub_cancel_left]
   exact hx)
  rw[← Nat.add_assoc] at this
  exact this
end Go.Proofs.YtedmdilabbolaaaGreatDoor
namespace Go.Proofs.YtedmdilabbolaaaGreatDoor
open Go.RowKit Go.PlainAid
theorem flat_parts (sz:Nat) (rows:List (List Value)) (hs:∀ r∈rows,r.length=sz) (k:Nat) (hk:k<rows.length) :
  ∃ F1 F2:List Value,F1.length=k*sz∧rows.flatten=F1++(rows[k]++F2)∧∀ r,(rows.set k r).flatten=F1++(r++F2):=by
 refine ⟨(rows.take k).flatten,(rows.drop (k+1)).flatten,?_,?_,?_⟩
 ·rw[flat_length sz _ (fun r hr=>hs r (List.mem_of_mem_take hr)),List.length_take,Nat.min_eq_left (by omega)]
 ·conv=>lhs;rw[← List.take_append_drop k rows,List.drop_eq_getElem_cons hk]
  rw[List.flatten_append,List.flatten_cons]
 ·intro r
  rw[List.set_eq_take_append_cons_drop,if_pos hk,List.flatten_append,List.flatten_cons]
theorem set_len {rows:List (List Value)} {sz k:Nat} {r:List Value} (hs:∀ r∈rows,r.length=sz) (hr:r.length=sz):∀ x∈rows.set k r,x.length=sz:=by
 intro x hx
 rcases List.mem_or_eq_of_mem_set hx with h | rfl
 ·exact hs x h
 ·exact hr
section
variable {w:World} {base:Nat} {e:TypeId} {sz g cap:Nat} {rows:List (List Value)}
theorem Owns.cellX (h:Owns w base e sz (.slice (some ⟨g,0,none⟩) rows.length cap) rows) (k f:Nat) (hk:k<rows.length) (hf:f<sz):∃ y,w.cell? ⟨g,k*sz+f,none⟩=some y:=by
 have hlt:k*sz+f<rows.length*sz:=by
  have:(k+1)*sz≤rows.length*sz:=Nat.mul_le_mul_right sz hk
  rw[Nat.succ_mul] at this
  omega
 rw[World.ownsRow.cellAt h.2 (k*sz+f) hlt]
 exact ⟨_,List.getElem?_eq_getElem (by rw[h.2.1];exact hlt)⟩
theorem Owns.free (h:Owns w base e sz (.slice (some ⟨g,0,none⟩) rows.length cap) rows) (j:Nat):w.frozen? ⟨g,j,none⟩=false:=World.ownsRow.frozenAt h.2 j
end
section
variable {w:World} {base:Nat} {e:TypeId} {sz g cap n j:Nat} {R:List (List Value)} {r:List Value}
end
theorem fill_step (Z:List Value) (done:List (List Value)) (r:List Value) (n k:Nat) (hk:done.length=k) (hn:k<n) :
  (done++List.replicate (n - k) Z).set k r=(done++[r])++List.replicate (n - (k+1)) Z:=by
 obtain ⟨m,rfl⟩:∃ m,n=k+1+m:=⟨n - (k+1),by omega⟩
 rw[show k+1+m - k=m+1 by omega,show k+1+m - (k+1)=m by omega,List.set_append_right _ _ (by omega),hk,Nat.sub_self,List.replicate_succ,List.set_cons_zero]
 simp
def Blk (w:World) (g:Nat) (cs:Array Value) (t:TypeId):Prop:=w.heap[g]?=some (.cells cs t (0,0))
theorem Blk.lt {w:World} {g:Nat} {cs:Array Value} {t:TypeId} (h:Blk w g cs t):g<w.heap.size:=lt_of_block h
theorem Blk.cell {w:World} {g:Nat} {cs:Array Value} {t:TypeId} (h:Blk w g cs t) (i:Nat) (x:Value) (hx:cs[i]?=some x):w.cell? ⟨g,i,none⟩=some x:=by
 rw[cell_of_row w g i cs t (0,0) h]
 exact hx
theorem Blk.free {w:World} {g:Nat} {cs:Array Value} {t:TypeId} (h:Blk w g cs t) (i:Nat):w.frozen? ⟨g,i,none⟩=false:=frozen_of_row w g i cs t h
theorem Blk.set {w:World} {g:Nat} {cs:Array Value} {t:TypeId} (h:Blk w g cs t) (i:Nat) (x:Value):Blk (w.setCell ⟨g,i,none⟩ x) g (cs.setIfInBounds i x) t:=heap_setCell_same w g i cs t x h
theorem Blk.other {w:World} {g g':Nat} {cs:Array Value} {t:TypeId} (h:Blk w g cs t) (hne:g≠g') (i:Nat) (x:Value):Blk (w.setCell ⟨g',i,none⟩ x) g cs t:=by
 unfold Blk
 rw[Below.heap_setCell _ _ _ _ hne]
 exact h
theorem Blk.on {w w':World} {B g:Nat} {cs:Array Value} {t:TypeId} (h:Blk w g cs t) (hb:Below B w w') (hg:g<B):Blk w' g cs t:=by
 unfold Blk
 rw[hb.block g hg]
 exact h
theorem Blk.new (w:World) (cs:Array Value) (t:TypeId):Blk (w.alloc (.cells cs t)) w.heap.size cs t:=heap_alloc_new w _
theorem Blk.alloc {w:World} {g:Nat} {cs:Array Value} {t:TypeId} (h:Blk w g cs t) (o:Obj):Blk (w.alloc o) g cs t:=by
 unfold Blk
 rw[Below.heap_alloc w o g h.lt]
 exact h
theorem Owns.other {w:World} {base:Nat} {e:TypeId} {sz:Nat} {v:Value} {rows:List (List Value)} (h:Owns w base e sz v rows) {g:Nat} (hne:v.ownBlock≠some g) (i:Nat) (x:Value):Owns (w.setCell ⟨g,i,none⟩ x) base e sz v rows :=
 h.kept fun k _ hk=>Below.heap_setCell _ _ _ _ (fun e=>hne (by rw[hk];exact congrArg some e))
theorem Owns.below {w:World} {base:Nat} {e:TypeId} {sz:Nat} {v:Value} {rows:List (List Value)} (h:Owns w base e sz v rows) {g:Nat} (hg:g<base):v.ownBlock≠some g:=fun e=>by
 have:=(h.lt g e).1
 omega
theorem Owns.shape {w:World} {base:Nat} {e:TypeId} {sz:Nat} {v:Value} {rows:List (List Value)} (h:Owns w base e sz v rows):∃ A m c,v=.slice A m c:=by
 rcases h.2.2 with ⟨rfl,_⟩ | ⟨g,cap,cur,rfl,_⟩
 ·exact ⟨_,_,_,rfl⟩
 ·exact ⟨_,_,_,rfl⟩
end Go.Proofs.YtedmdilabbolaaaGreatDoor
namespace Go.Proofs.YtedmdilabbolaaaGreatDoor
open Go.RowKit Go.PlainAid
theorem Owns.empty (w:World) (base:Nat) (e:TypeId) (sz:Nat) (hb:base≤w.heap.size):Owns (w.alloc (.cells #[] e)) base e sz (.slice (some ⟨w.heap.size,0,none⟩) 0 0) [] :=
 ⟨fun r hr=>by simp at hr,World.ownsRow_lit w #[] 0 hb (by unfold maxLen;omega) (by simp)⟩
theorem Owns.nil (w:World) (base:Nat) (e:TypeId) (sz:Nat):Owns w base e sz (.slice none 0 0) []:=⟨fun r hr=>by simp at hr,World.ownsRow_nil w base e sz⟩
theorem Owns.alloc {w:World} {base:Nat} {e:TypeId} {sz:Nat} {v:Value} {rows:List (List Value)} (h:Owns w base e sz v rows) (o:Obj):Owns (w.alloc o) base e sz v rows:=⟨h.1,World.ownsRow.alloc h.2 o⟩
theorem run_append_where {P:Program} (w:World) (base:Nat) (t ty e:TypeId) (i:TypeInfo) (z:Value) (size bytes:Nat) (ht:P.underlying t=some (.slice e)) (hi:P.info? e=some i) (hz:i.zero=some z)
  (hsize:i.size=size) (hby:i.bytes=bytes)
  (v:Value) (n:Nat) (xs:List Value) (hown:w.ownsRow base e size v n xs)
  (a:Addr) (m c:Nat) (news:List Value) (hl:news.length=m*size) (hnews:∀ j u,news[j]?=some u→w.cell? (a.add j)=some u) (h1:∀ u∈news,u.oneCell'=true)
  (h63:n+m≤maxLen) (hbytes:(n+m)*bytes≤140737488355328) (v':Value) (w':World)
  (h:(Builtin.append_ #[t,t] ty #[v,.slice (some a) m c]).run P w=.ok v' w'):v'.ownBlock=v.ownBlock∨v'.ownBlock=some w.heap.size:=by
 subst hsize
 subst hby
 have hsmall:n+m≤9223372036854775807:=by simp only[maxLen] at h63;omega
 rcases hown.2 with ⟨rfl,rfl⟩ | ⟨g,cap,cur,rfl,hbg,hg,hnc,hcm,hcs,htake⟩
 ·by_cases hm:m=0
  ·subst hm
   have hn:news=[]:=List.eq_nil_of_length_eq_zero (by simpa using hl)
   subst hn
   have hr:(Builtin.append_ #[t,t] ty #[.slice none 0 0,.slice (some a) 0 c]).run P w=.ok (.slice none 0 0) w:=by
    simp[Builtin.append_,run_underlying ht,sizeOf,typeInfo,hi,Builtin.lenOf,Builtin.firstCells,loadCells,loadCellsFrom]
   rw[hr] at h
   cases h
   exact .inl rfl
  ·have hr:=run_append_nil (P:=P) w t ty e i z ht hi hz a m c news hl hnews (by omega) (by omega) (by have hb:=hbytes;simp only[Nat.zero_add] at hb;omega)
   rw[hr] at h
   cases h
   exact .inr rfl
 ·by_cases hroom:n+m≤cap
  ·have hfit:n*i.size+news.length≤cur.size:=by rw[hl,hcs,← Nat.add_mul];exact Nat.mul_le_mul_right _ hroom
   have hr:=run_append_room (P:=P) w t ty e i ht hi g n cap cur hg a m c news hl hnews h1 hroom hfit
   rw[hr] at h
   cases h
   exact .inl rfl
  ·have holds:∀ j u,xs[j]?=some u→w.cell? ((⟨g,0,none⟩:Addr).add j)=some u:=hown.cells (g:=g) rfl
   have hr:=run_append_grow (P:=P) w t ty e i z ht hi hz ⟨g,0,none⟩ n cap xs hown.1 holds a m c news hl hnews (by omega) (by omega) (growslice_fits (by omega) hbytes)
   rw[hr] at h
   cases h
   exact .inr rfl
theorem wpList_append_own2 {P:Program} {w:World} {ops:Array Oper} {rest:List Oper} {o:Oper} {a:Act} {Q:Exit→Act→World→Prop} (hgd:o.guard=none) (s x:Operand) (t:TypeId)
  (ho:o.op=.call { callee:=.builtin .append,args:=#[s,x],argTypes:=#[t,t] })
  (base:Nat) (e:TypeId) (i:TypeInfo) (z:Value) (size bytes:Nat) (ht:P.underlying t=some (.slice e)) (hi:P.info? e=some i) (hz:i.zero=some z)
  (hsize:i.size=size) (hby:i.bytes=bytes) (hzs:z.cells.size=size) (hsz:0<size)
  (v:Value) (n:Nat) (xs:List Value) (hs:a.eval s=v) (hown:w.ownsRow base e size v n xs)
  (ad:Addr) (m c:Nat) (news:List Value) (hx:a.eval x=.slice (some ad) m c) (hl:news.length=m*size) (hnews:∀ j u,news[j]?=some u→w.cell? (ad.add j)=some u) (h1:∀ u∈news,u.oneCell'=true)
  (h63:n+m≤maxLen) (hbytes:(n+m)*bytes≤140737488355328) (hbase:base≤w.heap.size)
  (h:∀ v' w',w'.ownsRow base e size v' (n+m) (xs++news)→w.grownBy w' v.ownBlock→(v'.ownBlock=v.ownBlock∨v'.ownBlock=some w.heap.size)→wpList P ops Q rest (a.put o.dst v') w'):wpList P ops Q (o::rest) a w:=by
 obtain ⟨v',w',hr,h2,h3,_⟩:=run_append_own (P:=P) w base t o.type e i z size bytes ht hi hz hsize hby hzs hsz v n xs hown ad m c news hl hnews h1 h63 hbytes hbase
 have h5:=run_append_where (P:=P) w base t o.type e i z size bytes ht hi hz hsize hby v n xs hown ad m c news hl hnews h1 h63 hbytes v' w' hr
 refine wpList_plain hgd fun K hK=>?_
 unfold Oper.wp execOp
 simp only[ho,resolve,invoke,builtin,Sem.run_bind,Sem.run_pure,Result.andThen_ok,List.map_toArray,List.map_cons,List.map_nil,hs,hx,hr]
 exact hK _ _ (h v' w' h2 h3 h5)
theorem wpList_append_row {P:Program} {w:World} {ops:Array Oper} {rest:List Oper} {o:Oper} {a:Act} {Q:Exit→Act→World→Prop} (hgd:o.guard=none) (s x:Operand) (t e:TypeId) (z:Value) (sz bytes:Nat)
  (ho:o.op=.call { callee:=.builtin .append,args:=#[s,x],argTypes:=#[t,t] })
  (ht:P.underlying t=some (.slice e)) (hinfo:(P.info? e).map (fun i=>(i.zero,i.size,i.bytes))=some (some z,sz,bytes)) (hzs:z.cells.size=sz) (hsz:0<sz)
  (base:Nat) (v:Value) (rows:List (List Value)) (hs:a.eval s=v) (hown:Owns w base e sz v rows) (r:List Value) (hr:r.length=sz) (h1:∀ u∈r,u.oneCell'=true)
  (hx:a.eval x=.slice (some ⟨w.heap.size,0,none⟩) 1 1) (hlen:rows.length≤2097152) (hby:bytes≤1000) (hbase:base≤w.heap.size)
  (h:∀ v' w',Owns w' base e sz v' (rows++[r])→Below base w w'→(∀ g,g<w.heap.size→v.ownBlock≠some g→w'.heap[g]?=w.heap[g]?)→(v'.ownBlock=v.ownBlock∨∀ g,v'.ownBlock=some g→w.heap.size≤g)→wpList P ops Q rest (a.put o.dst v') w'):wpList P ops Q (o::rest) a (w.alloc (.cells r.toArray e)):=by
 obtain ⟨i0,hi,hz0,hz1,hz2⟩:=info_parts hinfo
 have hb1:(rows.length+1)*bytes≤140737488355328:=Nat.le_trans (Nat.mul_le_mul (show rows.length+1≤2097153 by omega) hby) (by omega)
 refine wpList_append_own2 (w:=w.alloc (.cells r.toArray e)) hgd s x t ho base e i0 z sz bytes ht hi hz0 hz1 hz2 hzs hsz v rows.length rows.flatten hs (World.ownsRow.alloc hown.2 _) ⟨w.heap.size,0,none⟩ 1 1 r hx (by rw[hr];omega) ?_ h1 (by unfold maxLen;omega) hb1 (by simp;omega) ?_
 ·intro j u hj
  have e1:(⟨w.heap.size,0,none⟩:Addr).add j=⟨w.heap.size,j,none⟩:=by cases j<;>simp[Addr.add]
  rw[e1,World.cell?_alloc_mark]
  simpa using hj
 ·intro v' w' h2 h3 h5
  have hb0:∀ k,v.ownBlock=some k→base≤k:=fun k hk=>(hown.lt k hk).1
  refine h v' w' ⟨?_,?_⟩ ?_ ?_ (h5.imp id fun e g hg=>by rw[e] at hg;cases hg;simp)
  ·intro y hy
   rcases List.mem_append.1 hy with hy | hy
   ·exact hown.1 y hy
   ·rw[List.mem_singleton.1 hy];exact hr
  ·rw[List.length_append,List.flatten_append]
   simpa using h2
  ·exact ((Below.refl base w).alloc hbase _).grown h3 (by simp;omega) hb0
  ·intro g hg hne
   rw[h3.block g (by simp;omega) (fun e=>hne e.symm)]
   exact Below.heap_alloc w _ g hg
theorem Owns.first {w:World} {base:Nat} {e:TypeId} {sz:Nat} {A:Option Addr} {n c:Nat} {rows:List (List Value)} (h:Owns w base e sz (.slice A n c) rows) (k:Nat) (hk:k≤rows.length):Owns w base e sz (.slice A k c) (rows.take k):=by
 obtain ⟨hs,hl,h⟩:=h
 have hkl:(rows.take k).length=k:=by rw[List.length_take];omega
 have hs':∀ r∈rows.take k,r.length=sz:=fun r hr=>hs r (List.mem_of_mem_take hr)
 have hft:(rows.take k).flatten=rows.flatten.take (k*sz):=by
  have h1:rows.flatten=(rows.take k).flatten++(rows.drop k).flatten:=by rw[← List.flatten_append,List.take_append_drop]
  have hl2:(rows.take k).flatten.length=k*sz:=by rw[flat_length sz _ hs',hkl]
  rw[h1]
  exact (List.take_left' hl2).symm
 refine ⟨hs',?_,?_⟩
 ·rw[flat_length sz _ hs']
 rcases h with ⟨e1,h0⟩ | ⟨g,cap,cur,e1,hb,hh,hn,hm,hz,ht⟩
 ·cases e1
  have:k=0:=by omega
  subst this
  exact .inl ⟨rfl,by simp⟩
 ·cases e1
  refine .inr ⟨g,c,cur,by rw[hkl],hb,hh,by rw[hkl];omega,hm,hz,?_⟩
  rw[hkl,hft,← ht,List.take_take]
  congr 1
  have:k*sz≤rows.length*sz:=Nat.mul_le_mul_right sz hk
  omega
end Go.Proofs.YtedmdilabbolaaaGreatDoor
namespace Go.Proofs.YtedmdilabbolaaaGreatDoor
open Go.RowKit Go.PlainAid
def tAt (l:List Pnt) (j:Nat):Int:=(l.getD j default).t
def vAt (l:List Pnt) (j:Nat):Int:=(l.getD j default).v
def POk (l:List Pnt):Prop:=l.length≤60∧∀ j,j<l.length→((0≤tAt l j∧tAt l j≤1099511627776)∧(-1099511627776≤vAt l j∧vAt l j≤1099511627776))∧(0<j→tAt l (j - 1)<tAt l j)
instance (l:List Pnt):Decidable (POk l):=by unfold POk;infer_instance
theorem POk.nil:POk []:=⟨by simp,fun j hj=>by simp at hj⟩
end Go.Proofs.YtedmdilabbolaaaGreatDoor
namespace Go.Proofs.YtedmdilabbolaaaGreatDoor
open Go.RowKit Go.PlainAid
theorem vvS_var (f n:Nat) (pre tl:List UInt8) (hn:n<128 ^ (f+1)):vvS (txt (pre++vF f n++tl)) pre.length (vF f n).length=n:=by
 induction f generalizing n pre with
 | zero =>
  simp at hn
  have e:(vF 0 n).length=1:=rfl
  rw[e]
  have hb:bn (txt (pre++vF 0 n++tl)) pre.length=n:=by
   rw[bn_txt _ _ (by simp[vF])]
   simp[vF,byt_toNat]
   omega
  simp only[vvS,hb]
  omega
 | succ f ih =>
  by_cases h:n<128
  ·rw[vF_small _ n h]
   have hb:bn (txt (pre++[byt n]++tl)) pre.length=n:=by
    rw[bn_txt _ _ (by simp)]
    simp[byt_toNat]
    omega
   simp only[List.length_cons,List.length_nil,vvS,hb]
   omega
  ·have e:vF (f+1) n=byt (128+n % 128)::vF f (n / 128):=by rw[vF,if_neg h]
   have hd:n / 128<128 ^ (f+1):=by
    rw[Nat.pow_succ] at hn
    exact Nat.div_lt_of_lt_mul (by rw[Nat.mul_comm];exact hn)
   rw[e]
   have hb:bn (txt (pre++(byt (128+n % 128)::vF f (n / 128))++tl)) pre.length=128+n % 128:=by
    rw[bn_txt _ _ (by simp)]
    simp[byt_toNat]
    omega
   have hi:=ih (n / 128) (pre++[byt (128+n % 128)]) hd
   have e2:pre++[byt (128+n % 128)]++vF f (n / 128)++tl=pre++(byt (128+n % 128)::vF f (n / 128))++tl:=by simp
   rw[e2] at hi
   simp only[List.length_cons,vvS,hb]
   simp only[List.length_append,List.length_cons,List.length_nil] at hi
   rw[Nat.zero_add] at hi
   rw[hi]
   omega
theorem sg_txt (l tl:List UInt8):sg (txt (l++tl)) 0 l.length=l:=by
 have h:=sg_extract (txt (l++tl)) l.length (by rw[txt_size];simp)
 have e:(txt (l++tl)).extract 0 l.length=txt l:=by
  apply ByteArray.ext
  apply Array.toList_inj.1
  rw[Lib.extract_data]
  simp[txt]
 rw[e] at h
 exact (txt_inj _ _ h).symm
theorem vF_pos (f n:Nat):1≤(vF f n).length:=by
 cases f with
 | zero=>simp[vF]
 | succ f=>rw[vF];split<;>simp
theorem find_var (n:Nat) (tl:List UInt8) (hn:n≤562949953421311):FindV (txt (vF 6 n++tl)) (vF 6 n).length∧vvS (txt (vF 6 n++tl)) 0 (vF 6 n).length=n:=by
 have hp:=vF_pos 6 n
 have hl:=vF_length 6 n
 have hv:=vvS_var 6 n [] tl (by omega)
 simp only[List.nil_append,List.length_nil] at hv
 refine ⟨⟨hp,hl,by rw[txt_size];simp,?_⟩,hv⟩
 obtain ⟨d,hd⟩:∃ d,(vF 6 n).length=d+1:=⟨(vF 6 n).length - 1,by omega⟩
 have hs:=sg_txt (vF 6 n) tl
 rw[hd] at hs hv ⊢
 rw[← canonS_iff _ d 0 6 (by omega),hv,hs]
end Go.Proofs.YtedmdilabbolaaaGreatDoor
namespace Go.Proofs.YtedmdilabbolaaaGreatDoor
open Go.ChangeShapes Go.WideShapes Go.ChangeAt Go.RowKit Go.PlainAid
set_option linter.unusedVariables false
set_option maxHeartbeats 400000 in
theorem in_yes (x lo hi:Int) (w:World) (h1:lo≤x) (h2:x≤hi) :
  Calls Tryz.prog 29 #[.int .i64 x,.int .i64 lo,.int .i64 hi] w fun e w'=>e=.returned (.bool true)∧w=w':=by
 go_enter Tryz.func29,Tryz.ntmps29
 go_wp2
 go_ret
 exact ⟨rfl,rfl⟩
set_option maxHeartbeats 400000 in
theorem in_no (x lo hi:Int) (w:World) (h:x<lo∨hi<x) :
  Calls Tryz.prog 29 #[.int .i64 x,.int .i64 lo,.int .i64 hi] w fun e w'=>e=.returned (.bool false)∧w=w':=by
 by_cases h1:x<lo
 ·go_enter Tryz.func29,Tryz.ntmps29
  go_wp2
  go_ret
  exact ⟨rfl,rfl⟩
 ·have h2:hi<x:=by omega
  have h3:decide (x≤hi)=false:=by simp;omega
  clear h
  go_enter Tryz.func29,Tryz.ntmps29
  go_wp2
  go_ret
  exact ⟨rfl,rfl⟩
end Go.Proofs.YtedmdilabbolaaaGreatDoor
namespace Go.Proofs.YtedmdilabbolaaaGreatDoor
open Go.RowKit Go.PlainAid
def numCells (l:List Int):List Value:=l.map fun z=>Value.int .i64 z
def Nums (w:World) (base:Nat) (v:Value) (l:List Int):Prop:=w.ownsRow base 3 1 v l.length (numCells l)
def NumsV (w:World) (B:Nat) (v:Value) (l:List Int):Prop :=
 ∃ A cap,v=.slice A l.length cap∧l.length≤cap∧cap≤maxLen∧∀ j,j<l.length→∃ g off,A=some ⟨g,off,none⟩∧g<B∧w.cell? ⟨g,off+j,none⟩=some (.int .i64 (l.getD j 0))
theorem Nums.nil (w:World) (base:Nat):Nums w base (.slice none 0 0) []:=World.ownsRow_nil w base 3 1
theorem Nums.empty (w:World) (base:Nat) (hb:base≤w.heap.size):Nums (w.alloc (.cells #[] 3)) base (.slice (some ⟨w.heap.size,0,none⟩) 0 0) [] :=
 World.ownsRow_lit w #[] 0 hb (by unfold maxLen;omega) rfl
theorem Nums.one (w:World) (base:Nat) (z:Int) (hb:base≤w.heap.size):Nums (w.alloc (.cells #[.int .i64 z] 3)) base (.slice (some ⟨w.heap.size,0,none⟩) 1 1) [z] :=
 World.ownsRow_lit w #[.int .i64 z] 1 hb (by unfold maxLen;omega) rfl
theorem Nums.mono {w:World} {base base':Nat} {v:Value} {l:List Int} (h:Nums w base v l) (hb:base'≤base):Nums w base' v l :=
 ⟨h.1,h.2.imp id fun ⟨g,cap,cur,e,hg,r⟩=>⟨g,cap,cur,e,Nat.le_trans hb hg,r⟩⟩
theorem Nums.lt {w:World} {base:Nat} {v:Value} {l:List Int} (h:Nums w base v l):∀ k,v.ownBlock=some k→base≤k∧k<w.heap.size:=World.ownsRow.lt h
theorem Nums.kept {w w':World} {base:Nat} {v:Value} {l:List Int} (h:Nums w base v l) (hk:∀ g,g<w.heap.size→v.ownBlock=some g→w'.heap[g]?=w.heap[g]?):Nums w' base v l:=by
 have hl:=World.ownsRow.lt h
 refine ⟨h.1,h.2.imp id ?_⟩
 rintro ⟨g,cap,cur,rfl,hg,hh,r⟩
 refine ⟨g,cap,cur,rfl,hg,?_,r⟩
 rw[hk g (hl g rfl).2 rfl]
 exact hh
theorem Nums.on {w w':World} {base:Nat} {v:Value} {l:List Int} (h:Nums w base v l) (hb:Below w.heap.size w w'):Nums w' base v l:=h.kept fun g hg _=>hb.block g hg
theorem Nums.under {w w':World} {base B:Nat} {v:Value} {l:List Int} (h:Nums w base v l) (hB:w.heap.size≤B) (hb:Below B w w'):Nums w' base v l:=h.kept fun g hg _=>hb.block g (Nat.lt_of_lt_of_le hg hB)
theorem Nums.heap {w w':World} {base:Nat} {v:Value} {l:List Int} (h:Nums w base v l) (hh:w'.heap=w.heap):Nums w' base v l:=h.kept fun g _ _=>by rw[hh]
theorem Nums.alloc {w:World} {base:Nat} {v:Value} {l:List Int} (h:Nums w base v l) (o:Obj):Nums (w.alloc o) base v l:=World.ownsRow.alloc h o
theorem Nums.other {w:World} {base:Nat} {v:Value} {l:List Int} (h:Nums w base v l) {g:Nat} (hne:v.ownBlock≠some g) (i:Nat) (x:Value):Nums (w.setCell ⟨g,i,none⟩ x) base v l :=
 h.kept fun k _ hk=>Below.heap_setCell _ _ _ _ (fun e=>hne (by rw[hk];exact congrArg some e))
theorem Nums.others {w w':World} {base b:Nat} {v:Value} {l:List Int} (h:Nums w base v l) (hk:Lib.OthersKept 5 (some b) w w') (hb:v.ownBlock≠some b):Nums w' base v l :=
 h.kept fun g hg ho=>by
  obtain ⟨c,fz,e1⟩:=Lib.ownsRow_kind h g ho
  rw[hk g _ e1 (fun e=>hb (by rw[ho];exact e)) (fun c fz e=>by cases e),e1]
theorem Nums.form {w:World} {base:Nat} {v:Value} {l:List Int} (h:Nums w base v l):(v=.slice none 0 0∧l=[])∨∃ g cap,v=.slice (some ⟨g,0,none⟩) l.length cap∧l.length≤cap∧cap≤maxLen∧base≤g∧g<w.heap.size:=by
 have hl:=World.ownsRow.lt h
 rcases h.2 with ⟨rfl,h0⟩ | ⟨g,cap,cur,rfl,hg,_,hc,hm,_⟩
 ·exact .inl ⟨rfl,List.eq_nil_of_length_eq_zero h0⟩
 ·exact .inr ⟨g,cap,rfl,hc,hm,hg,(hl g rfl).2⟩
theorem Nums.shape {w:World} {base:Nat} {v:Value} {l:List Int} (h:Nums w base v l):∃ A c,v=.slice A l.length c∧l.length≤c∧c≤maxLen:=by
 rcases h.form with ⟨rfl,rfl⟩ | ⟨g,c,rfl,h1,h2,_⟩
 ·exact ⟨_,_,rfl,by simp,by unfold maxLen;omega⟩
 ·exact ⟨_,_,rfl,h1,h2⟩
theorem Nums.len {w:World} {base n cap:Nat} {A:Option Addr} {l:List Int} (h:Nums w base (.slice A n cap) l):n=l.length:=by
 rcases h.form with ⟨e,e2⟩ | ⟨g',c',e,_⟩
 ·injection e with _ e1;rw[e1,e2];rfl
 ·injection e
theorem Nums.cell {w:World} {base g cap n:Nat} {l:List Int} (h:Nums w base (.slice (some ⟨g,0,none⟩) n cap) l) (j:Nat) (hj:j<l.length):w.cell? ⟨g,j,none⟩=some (.int .i64 (l.getD j 0)):=by
 have hn:=h.len
 subst hn
 rw[World.ownsRow.cellAt h j (by omega)]
 simp[numCells,hj]
theorem Nums.frozen {w:World} {base g cap n:Nat} {l:List Int} (h:Nums w base (.slice (some ⟨g,0,none⟩) n cap) l) (j:Nat):w.frozen? ⟨g,j,none⟩=false:=by
 have hn:=h.len
 subst hn
 exact World.ownsRow.frozenAt h j
theorem Nums.stored {w:World} {base g cap n:Nat} {l:List Int} (h:Nums w base (.slice (some ⟨g,0,none⟩) n cap) l) (j:Nat) (x:Int) :
  Nums (w.setCell ⟨g,j,none⟩ (.int .i64 x)) base (.slice (some ⟨g,0,none⟩) n cap) (l.set j x):=by
 have hn:=h.len
 subst hn
 have hs:=(World.ownsRow.stored h j (.int .i64 x)).1
 unfold Nums
 rw[List.length_set,numCells,List.map_set]
 exact hs
theorem Nums.block {w:World} {base n cap:Nat} {A:Option Addr} {l:List Int} (h:Nums w base (.slice A n cap) l) (hn:0<l.length):∃ g,A=some ⟨g,0,none⟩∧base≤g∧g<w.heap.size:=by
 rcases h.form with ⟨e,e2⟩ | ⟨g',c',e,_,_,h3,h4⟩
 ·rw[e2] at hn;simp at hn
 ·injection e with e1;exact ⟨g',e1,h3,h4⟩
theorem Nums.lies {w:World} {base:Nat} {v:Value} {l:List Int} (h:Nums w base v l):NumsV w w.heap.size v l:=by
 rcases h.form with ⟨rfl,rfl⟩ | ⟨g,c,rfl,h1,h2,h3,h4⟩
 ·exact ⟨none,0,rfl,Nat.zero_le _,by unfold maxLen;omega,fun j hj=>by simp at hj⟩
 ·exact ⟨_,c,rfl,h1,h2,fun j hj=>⟨g,0,rfl,h4,by rw[Nat.zero_add];exact h.cell j hj⟩⟩
theorem NumsV.on {w w':World} {B:Nat} {v:Value} {l:List Int} (h:NumsV w B v l) (hb:Below B w w'):NumsV w' B v l:=by
 obtain ⟨A,cap,rfl,h1,h2,h3⟩:=h
 refine ⟨A,cap,rfl,h1,h2,fun j hj=>?_⟩
 obtain ⟨g,off,rfl,hg,hc⟩:=h3 j hj
 exact ⟨g,off,rfl,hg,by rw[hb.cell (p:=⟨_,_,none⟩) hg];exact hc⟩
theorem NumsV.mono {w:World} {B C:Nat} {v:Value} {l:List Int} (h:NumsV w B v l) (hB:B≤C):NumsV w C v l:=by
 obtain ⟨A,cap,rfl,h1,h2,h3⟩:=h
 refine ⟨A,cap,rfl,h1,h2,fun j hj=>?_⟩
 obtain ⟨g,off,rfl,hg,hc⟩:=h3 j hj
 exact ⟨g,off,rfl,Nat.lt_of_lt_of_le hg hB,hc⟩
theorem NumsV.heap {w w':World} {B:Nat} {v:Value} {l:List Int} (h:NumsV w B v l) (hh:w'.heap=w.heap):NumsV w' B v l:=by
 obtain ⟨A,cap,rfl,h1,h2,h3⟩:=h
 refine ⟨A,cap,rfl,h1,h2,fun j hj=>?_⟩
 obtain ⟨g,off,rfl,hg,hc⟩:=h3 j hj
 exact ⟨g,off,rfl,hg,by unfold World.cell? at *;rw[hh];exact hc⟩
theorem NumsV.full {w:World} {B:Nat} {v:Value} {l:List Int} (h:NumsV w B v l) (hn:0<l.length):∃ g off cap,v=.slice (some ⟨g,off,none⟩) l.length cap∧l.length≤cap∧cap≤maxLen∧g<B∧∀ wx,Below B w wx→∀ j,j<l.length→wx.cell? ⟨g,off+j,none⟩=some (.int .i64 (l.getD j 0)):=by
 obtain ⟨A,cap,rfl,h1,h2,h3⟩:=h
 obtain ⟨g,off,rfl,hg,_⟩:=h3 0 hn
 refine ⟨g,off,cap,rfl,h1,h2,hg,fun wx hx j hj=>?_⟩
 obtain ⟨g',off',e,_,hc⟩:=h3 j hj
 injection e with e
 injection e with e1 e2
 subst e1
 subst e2
 rw[hx.cell (p:=⟨_,_,none⟩) hg]
 exact hc
theorem getD_set_same (l:List Int) (j:Nat) (x:Int) (h:j<l.length):(l.set j x).getD j 0=x:=by simp[List.getD,h]
theorem getD_set_ne (l:List Int) (j k:Nat) (x:Int) (h:j≠k):(l.set j x).getD k 0=l.getD k 0:=by simp[List.getD,List.getElem?_set_ne h]
theorem nums_ext {l m:List Int} (h:l.length=m.length) (hj:∀ j,j<l.length→l.getD j 0=m.getD j 0):l=m:=by
 apply List.ext_getElem h
 intro j h1 h2
 have:=hj j h1
 simpa[List.getD,h1,h2] using this
theorem take_num (l:List Int) (k:Nat) (h:k<l.length):l.take (k+1)=l.take k++[l.getD k 0]:=by
 rw[List.take_succ_eq_append_getElem h]
 simp[List.getD,h]
theorem fill_num (done:List Int) (r:Int) (n k:Nat) (hk:done.length=k) (hn:k<n):(done++List.replicate (n - k) 0).set k r=(done++[r])++List.replicate (n - (k+1)) 0:=by
 obtain ⟨m,rfl⟩:∃ m,n=k+1+m:=⟨n - (k+1),by omega⟩
 rw[show k+1+m - k=m+1 by omega,show k+1+m - (k+1)=m by omega,List.set_append_right _ _ (by omega),hk,Nat.sub_self,List.replicate_succ,List.set_cons_zero]
 simp
theorem wpList_append_num {P:Program} {w:World} {ops:Array Oper} {rest:List Oper} {o:Oper} {a:Act} {Q:Exit→Act→World→Prop} (hgd:o.guard=none) (s x:Operand) (t:TypeId)
  (ho:o.op=.call { callee:=.builtin .append,args:=#[s,x],argTypes:=#[t,t] })
  (ht:P.underlying t=some (.slice 3)) (hinfo:(P.info? 3).map (fun i=>(i.zero,i.size,i.bytes))=some (some (.int .i64 0),1,8))
  (base:Nat) (v:Value) (l:List Int) (hs:a.eval s=v) (hown:Nums w base v l) (z:Int)
  (hx:a.eval x=.slice (some ⟨w.heap.size,0,none⟩) 1 1) (hlen:l.length≤2097152) (hbase:base≤w.heap.size)
  (h:∀ v' w',Nums w' base v' (l++[z])→Below base w w'→(∀ g,g<w.heap.size→v.ownBlock≠some g→w'.heap[g]?=w.heap[g]?)→wpList P ops Q rest (a.put o.dst v') w'):wpList P ops Q (o::rest) a (w.alloc (.cells #[.int .i64 z] 3)):=by
 obtain ⟨i0,hi,hz0,hz1,hz2⟩:=info_parts hinfo
 refine wpList_append_own (w:=w.alloc (.cells #[.int .i64 z] 3)) hgd s x t ho base 3 i0 (.int .i64 0) 1 8 ht hi hz0 hz1 hz2 rfl (by decide) v l.length (numCells l) hs (hown.alloc _) ⟨w.heap.size,0,none⟩ 1 1 [.int .i64 z] hx rfl ?_ ?_ ?_ ?_ ?_ ?_
 ·intro j u hj
  have e:(⟨w.heap.size,0,none⟩:Addr).add j=⟨w.heap.size,j,none⟩:=by cases j<;>simp[Addr.add]
  rw[e,World.cell?_alloc_mark]
  simpa using hj
 ·intro u hu
  simp at hu
  subst hu
  rfl
 ·unfold maxLen;omega
 ·omega
 ·simp;omega
 ·intro v' w' h1 h2 _
  have hb0:∀ k,v.ownBlock=some k→base≤k:=fun k hk=>(World.ownsRow.lt hown k hk).1
  refine h v' w' ?_ ?_ ?_
  ·unfold Nums
   rw[List.length_append,numCells,List.map_append]
   exact h1
  ·exact ((Below.refl base w).alloc hbase _).grown h2 (by simp;omega) hb0
  ·intro g hg hne
   rw[h2.block g (by simp;omega) (fun e=>hne e.symm)]
   exact Below.heap_alloc w _ g hg
end Go.Proofs.YtedmdilabbolaaaGreatDoor
namespace Go.Proofs.YtedmdilabbolaaaGreatDoor
open Go.RowKit
theorem cell?_heap {w w':World} (h:w'.heap=w.heap) (a:Addr):w'.cell? a=w.cell? a:=by
 unfold World.cell?
 rw[h]
theorem below_heap {w w':World} (h1:w'.heap=w.heap) (h2:w'.os=w.os) (h3:w'.tape=w.tape) (h4:w'.output=w.output):Below w.heap.size w w':=⟨h2,h3,h4,by rw[h1];exact Nat.le_refl _,fun k _=>by rw[h1]⟩
def Like (w w':World):Prop:=w'.heap=w.heap∧w'.os=w.os∧w'.tape=w.tape∧w'.output=w.output
theorem Like.refl (w:World):Like w w:=⟨rfl,rfl,rfl,rfl⟩
theorem Like.drewN {w w':World} (h:Like w w') (n:Nat):Like w (w'.drewN n):=h
theorem Like.below {w w':World} (h:Like w w'):Below w.heap.size w w':=below_heap h.1 h.2.1 h.2.2.1 h.2.2.2
end Go.Proofs.YtedmdilabbolaaaGreatDoor
namespace Go.Proofs.YtedmdilabbolaaaGreatDoor
open Go.ChangeShapes Go.WideShapes Go.ChangeAt Go.RowKit Go.PlainAid
set_option linter.unusedVariables false
theorem Tryz.infoInt:(Tryz.prog.info? 3).map (fun i=>(i.zero,i.size,i.bytes))=some (some (.int .i64 0),1,8):=by kernel_rfl
theorem num_made (n:Nat):madeCells #[.int .i64 0] (n*1)=(numCells (List.replicate n 0)).toArray:=by
 apply Array.ext'
 rw[List.toList_toArray]
 apply List.ext_getElem?
 intro k
 by_cases hk:k<n
 ·simp[madeCells,numCells,hk,Nat.mod_one]
 ·simp[madeCells,numCells,hk]
set_option maxHeartbeats 1000000 in
theorem toIntS (l:List Int) (v:Value) (w:World) (B:Nat) (hv:NumsV w B v l) (hn:l.length≤1048576) (hB:B≤w.heap.size) :
  Calls Tryz.prog 34 #[v] w fun e w'=>∃ u,e=.returned u∧Nums w' w.heap.size u l∧Below w.heap.size w w':=by
 obtain ⟨A,cap,rfl,_,_,hl⟩:=hv
 have HL:Hid (∀ j,j<l.length→∃ g off,A=some ⟨g,off,none⟩∧g<B∧_):=hl
 have HB:Hid (B≤w.heap.size):=hB
 clear hl hB
 have q1:(l.length:Int)≤1048576:=by omega
 generalize hN:l.length=n at *
 obtain ⟨i0,hi,hz0,hz1,hz2⟩:=info_parts Tryz.infoInt
 have hmk:∀ wx:World,(Instr.makeSlice 22 (.int .i64 (n:Int)) (.int .i64 (n:Int))).run Tryz.prog wx=.ok (.slice (some ⟨wx.heap.size,0,none⟩) n n) (wx.alloc (.cells (numCells (List.replicate n 0)).toArray 3)):=fun wx=>by
  have h:=run_make (P:=Tryz.prog) wx 22 3 i0 _ Tryz.underlying22 hi hz0 .i64 .i64 (n:Int) (n:Int) (by omega) (by omega) (by rw[hz2];omega) (by omega)
  rw[hz1] at h
  have e:(Value.int .i64 0).cells=#[.int .i64 0]:=rfl
  rw[e,Int.toNat_natCast,num_made] at h
  exact h
 clear hi hz0 hz1 hz2
 have HLN:Hid (l.length=n):=hN
 clear hN
 go_enter Tryz.func34,Tryz.ntmps34
 go_wp2_with fail
 go_loopw [4] (fun v4 wr=>∃ k:Nat,k≤n∧v4=.int .i64 (k:Int)∧Nums wr w.heap.size (.slice (some ⟨w.heap.size,0,none⟩) n n) (l.take k++List.replicate (n - k) 0)∧Below w.heap.size w wr) (fun i _=>n - (intOf i).toNat)
 case atStart =>
  refine ⟨0,by omega,rfl,?_,(Below.refl _ _).alloc (Nat.le_refl _) _⟩
  rw[List.take_zero,Nat.sub_zero,List.nil_append]
  unfold Nums
  rw[List.length_replicate]
  exact World.ownsRow_lit w (numCells (List.replicate n 0)).toArray n (Nat.le_refl _) (by unfold maxLen;omega) (by simp[numCells])
 case round =>
  obtain ⟨k,hk,rfl,hO,hb⟩:=hrel
  have HB1:Hid (Below w.heap.size w wr):=hb
  have hml:(l.take k++List.replicate (n - k) (0:Int)).length=n:=by have:=HLN.out;simp;omega
  have HO:Hid (Nums wr w.heap.size (.slice (some ⟨w.heap.size,0,none⟩) n n) (l.take k++List.replicate (n - k) 0)):=hO
  by_cases hlt:k<n
  ·have q2:(k:Int)<(n:Int):=by omega
   obtain ⟨g,off,rfl,hg,hc⟩:=HL.out k (by have:=HLN.out;omega)
   rw[← hb.cell (p:=⟨_,_,none⟩) (Nat.lt_of_lt_of_le hg HB.out)] at hc
   have e1:=hO.cell k (by rw[hml];exact hlt)
   have e2:=hO.frozen k
   have hS:=hO.stored k (l.getD k 0)
   rw[fill_num (l.take k) (l.getD k 0) n k (by have:=HLN.out;simp;omega) hlt,← take_num l k (by have:=HLN.out;omega)] at hS
   have HS:Hid (Nums (wr.setCell ⟨w.heap.size,k,none⟩ (.int .i64 (l.getD k 0))) w.heap.size (.slice (some ⟨w.heap.size,0,none⟩) n n) (l.take (k+1)++List.replicate (n - (k+1)) 0)):=hS
   generalize (l.take k++List.replicate (n - k) (0:Int)).getD k 0=y at *
   generalize l.getD k 0=x at *
   clear hO hS hml hb
   go_wp2_with fail
   go_roundw
   case rel=>exact ⟨k+1,by omega,by go_num,HS.out,HB1.out.setCell (Nat.le_refl _) _⟩
   case measure=>simp[intOf];omega
  ·obtain rfl:k=n:=by omega
   have HF:Hid (Nums wr w.heap.size (.slice (some ⟨w.heap.size,0,none⟩) k k) l):=by
    have h:=HO.out
    rw[Nat.sub_self,List.replicate_zero,List.append_nil,List.take_of_length_le (by have:=HLN.out;omega)] at h
    exact h
   clear hO hb
   go_wp2_with fail
   go_ret
   exact ⟨_,rfl,HF.out,HB1.out⟩
set_option maxHeartbeats 1000000 in
theorem eqIntS (l:List Int) (va vb:Value) (w:World) (B:Nat) (ha:NumsV w B va l) (hb:NumsV w B vb l) (hl:l.length≤2097152) :
  Calls Tryz.prog 41 #[va,vb] w fun e w'=>e=.returned (.bool true)∧Like w w':=by
 obtain ⟨A,ca,rfl,_,_,ha⟩:=ha
 obtain ⟨A',cb,rfl,_,_,hb⟩:=hb
 have HA:Hid (∀ j,j<l.length→∃ g off,A=some ⟨g,off,none⟩∧g<B∧_):=ha
 have HB:Hid (∀ j,j<l.length→∃ g off,A'=some ⟨g,off,none⟩∧g<B∧_):=hb
 have q1:(l.length:Int)≤2097152:=by omega
 clear ha hb hl
 generalize hn:l.length=n at *
 clear hn
 go_enter Tryz.func41,Tryz.ntmps41
 go_wp2
 go_loopw [5] (fun v5 wr=>∃ k:Nat,k≤n∧v5=.int .i64 k∧Like w wr) (fun i _=>n - (intOf i).toNat)
 case atStart=>exact ⟨0,by omega,rfl,Like.refl _⟩
 case round =>
  obtain ⟨k,hk,rfl,hL⟩:=hrel
  by_cases hlt:k<n
  ·have q2:(k:Int)<(n:Int):=by omega
   obtain ⟨g,off,rfl,_,e1⟩:=HA.out k hlt
   obtain ⟨g',off',rfl,_,e2⟩:=HB.out k hlt
   rw[← cell?_heap hL.1] at e1 e2
   generalize l.getD k 0=x at *
   go_wp2
   go_quiet (fail)
   go_wp2
   go_roundw
   case rel=>exact ⟨k+1,by omega,by go_num,hL.drewN _⟩
   case measure=>simp[intOf];omega
  ·have hkk:k=n:=by omega
   subst hkk
   go_wp2
   go_ret
   exact ⟨rfl,hL⟩
end Go.Proofs.YtedmdilabbolaaaGreatDoor
