/- BkRead OpI CmMath CmPart CmOp MgVal RtSayD BkReadS -/
import Derived.Test.YtedmdilabbolaaaGreatDoorRows
import Derived.Test.YtedmdilabbolaaaGreatDoorQz1
import Derived.WalkKit
import Derived.ProofKit
import Derived.OpenShut
import Derived.Below
import Derived.WalkSmall
import Derived.WalkLawsBesides
import Derived.Outline
import Derived.BigQuiet
import Derived.Deep.QuietTactic
import Derived.Handy
import Derived.Deep.Cut
import Derived.Deep.CutRange
import Derived.Laws.StructEq
import Derived.Test.YtedmdilabbolaaaGreatDoorQz0
import Derived.Test.YtedmdilabbolaaaGreatDoorQz2
import Derived.Laws.DeepStrings4
import Derived.Defers
import Derived.Recover
import Derived.Test.YtedmdilabbolaaaGreatDoorQr0
import Derived.Test.YtedmdilabbolaaaGreatDoorQr1
import Derived.Test.YtedmdilabbolaaaGreatDoorQr2
import Derived.Test.YtedmdilabbolaaaGreatDoorQr3
import Derived.Test.YtedmdilabbolaaaGreatDoorQr4
import Derived.Test.YtedmdilabbolaaaGreatDoorQr5
import Derived.Test.YtedmdilabbolaaaGreatDoorQr6
import Derived.Test.YtedmdilabbolaaaGreatDoorQr7
open List (setIfInBounds_toArray set_cons_zero set_cons_succ)
namespace Go.Proofs.YtedmdilabbolaaaGreatDoor
open Go.ChangeShapes Go.WideShapes Go.ChangeAt Go.RowKit Go.PlainAid
set_option linter.unusedVariables false
end Go.Proofs.YtedmdilabbolaaaGreatDoor
namespace Go.Proofs.YtedmdilabbolaaaGreatDoor
open Go.ChangeShapes Go.WideShapes Go.ChangeAt Go.RowKit Go.PlainAid
set_option linter.unusedVariables false
end Go.Proofs.YtedmdilabbolaaaGreatDoor
namespace Go.Proofs.YtedmdilabbolaaaGreatDoor
open Go.ChangeShapes Go.WideShapes Go.ChangeAt Go.RowKit Go.PlainAid
set_option linter.unusedVariables false
def lf (s:ByteArray) (i:Nat):ByteArray:=s.extract i s.size
theorem lf_size (s:ByteArray) (i:Nat):(lf s i).size=s.size - i:=by rw[lf,ByteArray.size_extract];omega
def RdF (s:ByteArray) (a:Nat):Nat→List Int→Nat→Prop
 | 0,l,n=>l=[]∧n=a
 | k+1,l,n=>∃ l' n' m,RdF s a k l' n'∧FindV (lf s n') m∧l=l'++[(vvS (lf s n') 0 m:Int)]∧n=n'+m
theorem RdF.one {s:ByteArray} {a:Nat}:∀ {k:Nat} {l l':List Int} {n n':Nat},RdF s a k l n→RdF s a k l' n'→l=l'∧n=n'
 | 0,_,_,_,_,h,h'=>⟨h.1.trans h'.1.symm,h.2.trans h'.2.symm⟩
 | k+1,_,_,_,_,⟨a,b,m,h1,h2,h3,h4⟩,⟨a',b',m',h1',h2',h3',h4'⟩=>by
  obtain ⟨rfl,rfl⟩:=RdF.one h1 h1'
  have:=h2.one h2'
  subst this
  exact ⟨h3.trans h3'.symm,h4.trans h4'.symm⟩
theorem RdF.before {s:ByteArray} {a:Nat}:∀ {k:Nat} {l:List Int} {n:Nat},RdF s a k l n→∀ j,j<k→∃ l' n' m,RdF s a j l' n'∧FindV (lf s n') m
 | 0,_,_,_,j,hj=>by omega
 | k+1,_,_,⟨a,b,m,h1,h2,h3,h4⟩,j,hj=>by
  by_cases e:j=k
  ·subst e;exact ⟨a,b,m,h1,h2⟩
  ·exact RdF.before h1 j (by omega)
theorem RdF.no {s:ByteArray} {a k j:Nat} {l:List Int} {n:Nat} (h1:RdF s a j l n) (hj:j<k) (h2:∀ m,¬ FindV (lf s n) m):∀ l' n',¬ RdF s a k l' n':=by
 intro l' n' h
 obtain ⟨l2,n2,m,h3,h4⟩:=h.before j hj
 obtain ⟨rfl,rfl⟩:=h1.one h3
 exact h2 m h4
theorem RdF.length {s:ByteArray} {a:Nat}:∀ {k:Nat} {l:List Int} {n:Nat},RdF s a k l n→l.length=k
 | 0,_,_,h=>by rw[h.1];rfl
 | k+1,_,_,⟨a,b,m,h1,h2,h3,h4⟩=>by rw[h3,List.length_append,RdF.length h1];rfl
theorem RdF.ge {s:ByteArray} {a:Nat}:∀ {k:Nat} {l:List Int} {n:Nat},RdF s a k l n→a+k≤n∧(1≤k→n≤s.size)
 | 0,_,_,h=>⟨by rw[h.2];omega,by omega⟩
 | k+1,_,_,⟨a,b,m,h1,h2,h3,h4⟩=>by
  have h5:=RdF.ge h1
  obtain ⟨h6,h7,h8,_⟩:=h2
  rw[lf_size] at h8
  exact ⟨by omega,by omega⟩
theorem RdF.le {s:ByteArray} {a:Nat}:∀ {k:Nat} {l:List Int} {n:Nat},RdF s a k l n→n≤a+7*k
 | 0,_,_,h=>by rw[h.2];omega
 | k+1,_,_,⟨a,b,m,h1,h2,h3,h4⟩=>by
  have h5:=RdF.le h1
  obtain ⟨h6,h7,h8,_⟩:=h2
  omega
theorem RdF.bound {s:ByteArray} {a:Nat}:∀ {k:Nat} {l:List Int} {n:Nat},RdF s a k l n→∀ z∈l,0≤z∧z≤562949953421311
 | 0,_,_,h,z,hz=>by rw[h.1] at hz;cases hz
 | k+1,_,_,⟨a,b,m,h1,h2,h3,h4⟩,z,hz=>by
  rw[h3] at hz
  rcases List.mem_append.1 hz with hz | hz
  ·exact RdF.bound h1 z hz
  ·simp at hz
   have:=vvS_le (lf s b) m h2.2.1 0
   omega
theorem find_text {t:ByteArray} {m:Nat} (h:FindV t m):txt (vF 6 (vvS t 0 m))=t.extract 0 m:=by
 obtain ⟨h1,h7,h8,h9⟩:=h
 obtain ⟨d,rfl⟩:∃ d,m=d+1:=⟨m - 1,by omega⟩
 rw[sg_extract t _ h8,(canonS_iff t d 0 6 (by omega)).2 h9]
def varsT:List Int→ByteArray
 | []=>ByteArray.empty
 | z::l=>txt (vF 6 z.toNat)++varsT l
theorem varsT_append (l m:List Int):varsT (l++m)=varsT l++varsT m:=by
 induction l with
 | nil=>simp[varsT]
 | cons z l ih=>simp[varsT,ih,ByteArray.append_assoc]
theorem RdF.text {s:ByteArray} {a:Nat}:∀ {k:Nat} {l:List Int} {n:Nat},RdF s a k l n→s.extract a n=varsT l
 | 0,_,_,h=>by rw[h.1,h.2];apply ByteArray.ext;simp[varsT]
 | k+1,_,_,⟨l,b,m,h1,h2,h3,h4⟩=>by
  have h5:=RdF.text h1
  have hge:=RdF.ge h1
  have h8:=h2.2.2.1
  have h61:=h2.1
  rw[lf_size] at h8
  have e:s.extract a (b+m)=s.extract a b++s.extract b (b+m):=by
   rw[ByteArray.extract_append_extract]
   congr 1<;>omega
  have e2:(lf s b).extract 0 m=s.extract b (b+m):=by
   unfold lf
   rw[ByteArray.extract_extract]
   congr 1
   omega
  rw[h3,h4,e,h5,varsT_append,← e2,← find_text h2]
  simp[varsT]
end Go.Proofs.YtedmdilabbolaaaGreatDoor
namespace Go.Proofs.YtedmdilabbolaaaGreatDoor
open Go.ChangeShapes Go.WideShapes Go.ChangeAt Go.RowKit Go.PlainAid
set_option linter.unusedVariables false
def PKeep (g:Nat) (w w':World):Prop:=Below g w w'∧∀ b,b≠g→b<w.heap.size→w'.heap[b]?=w.heap[b]?
theorem PKeep.of {g:Nat} {w w':World} (h:Below w.heap.size w w') (hg:g≤w.heap.size):PKeep g w w':=⟨h.mono hg,fun b _ hb=>h.block b hb⟩
theorem PKeep.refl (g:Nat) (w:World):PKeep g w w:=⟨Below.refl _ _,fun _ _ _=>rfl⟩
theorem PKeep.trans {g:Nat} {w w' w'':World} (h:PKeep g w w') (h':PKeep g w' w''):PKeep g w w'':=⟨h.1.trans h'.1,fun b hb hl=>by rw[h'.2 b hb (Nat.lt_of_lt_of_le hl h.1.size),h.2 b hb hl]⟩
theorem PKeep.set {g:Nat} {w w':World} (h:PKeep g w w') (i:Nat) (x:Value):PKeep g w (w'.setCell ⟨g,i,none⟩ x):=⟨h.1.setCell (Nat.le_refl _) _,fun b hb hl=>by rw[Below.heap_setCell _ _ _ _ hb];exact h.2 b hb hl⟩
theorem PKeep.alloc {g:Nat} {w w':World} (h:PKeep g w w') (hg:g<w.heap.size) (o:Obj):PKeep g w (w'.alloc o):=⟨h.1.alloc (by have:=h.1.size;omega) _,fun b hb hl=>by rw[Below.heap_alloc _ _ _ (by have:=h.1.size;omega)];exact h.2 b hb hl⟩
theorem PKeep.cell {g:Nat} {w w':World} (h:PKeep g w w') {p:Addr} (hp:p.block≠g) (hl:p.block<w.heap.size):w'.cell? p=w.cell? p:=World.cell?_of_block (w:=w) (h.2 p.block hp hl)
theorem PKeep.frozen {g:Nat} {w w':World} (h:PKeep g w w') {p:Addr} (hp:p.block≠g) (hl:p.block<w.heap.size):w'.frozen? p=w.frozen? p:=World.frozen?_of_block (w:=w) (h.2 p.block hp hl)
theorem PKeep.below {g:Nat} {w w' w'':World} (h:PKeep g w w') (hg:g<w.heap.size) (hb:Below w'.heap.size w' w''):PKeep g w w'':=h.trans (PKeep.of hb (by have:=h.1.size;omega))
end Go.Proofs.YtedmdilabbolaaaGreatDoor
namespace Go.Proofs.YtedmdilabbolaaaGreatDoor
open Go.ChangeShapes Go.WideShapes Go.ChangeAt Go.RowKit Go.PlainAid
set_option linter.unusedVariables false
theorem Hid.mk {p:Prop} (h:p):Hid p:=h
theorem below_c1 (w:World) (a:Obj):Below w.heap.size w (w.alloc a):=(Below.refl _ w).alloc (Nat.le_refl _) a
noncomputable def opT (x:Opx):ByteArray:=if opOk x=true then txt [byt x.kind.toNat]++txt (vF 6 x.key.size)++x.key++txt (vF 6 x.frm.toNat)++txt (vF 6 x.til.toNat)++x.data else ⟨#[]⟩
def OpRd (s:ByteArray) (x:Opx):Prop:=∃ k n1 f t m,1≤s.size∧RdF s 1 1 [((k:Nat):Int)] n1∧n1+k≤s.size∧RdF s (n1+k) 2 [f,t] m∧x=⟨(bn s 0:Int),s.extract n1 (n1+k),f,t,lf s m⟩∧opOk x=true
theorem OpRd.one {s:ByteArray} {x y:Opx} (h:OpRd s x) (h':OpRd s y):x=y:=by
 obtain ⟨k,n1,f,t,m,_,h1,_,h2,rfl,_⟩:=h
 obtain ⟨k',n1',f',t',m',_,h1',_,h2',rfl,_⟩:=h'
 obtain ⟨e,rfl⟩:=h1.one h1'
 simp only[List.cons.injEq,and_true] at e
 obtain rfl:k=k':=by omega
 obtain ⟨e,rfl⟩:=h2.one h2'
 simp only[List.cons.injEq,and_true] at e
 obtain ⟨rfl,rfl⟩:=e
 rfl
def OpA (s:ByteArray) (e:Ending):Prop:=(∃ x,OpRd s x∧e=.returned (.tuple #[vOp x,.bool true]))∨((∀ x,¬ OpRd s x)∧e=.returned (.tuple #[vOp ⟨0,⟨#[]⟩,0,0,⟨#[]⟩⟩,.bool false]))
theorem OpA.one {s:ByteArray} {e e':Ending} (h:OpA s e) (h':OpA s e'):e=e':=by
 rcases h with ⟨x,hx,rfl⟩ | ⟨hn,rfl⟩<;>rcases h' with ⟨y,hy,rfl⟩ | ⟨hn',rfl⟩
 ·rw[hx.one hy]
 ·exact absurd hx (hn' x)
 ·exact absurd hy (hn y)
 ·rfl
theorem OpA.form {s:ByteArray} {e:Ending} (h:OpA s e):∃ x b,e=.returned (.tuple #[vOp x,.bool b]):=by
 rcases h with ⟨x,hx,rfl⟩ | ⟨hn,rfl⟩
 ·exact ⟨_,_,rfl⟩
 ·exact ⟨_,_,rfl⟩
theorem emB_size {s:ByteArray} (h:emB s=true):s.size=0:=by
 unfold emB at h
 rw[List.isEmpty_iff,Lib.toList_data] at h
 have h2:s.data.size=0:=by rw[← Array.length_toList,h];rfl
 exact h2
theorem keyB_size {s:ByteArray} (h:keyB s=true):s.size≤8:=(of_decide_eq_true h).2.1
theorem opOk_in {x:Opx} (h:opOk x=true):(1≤x.kind∧x.kind≤7)∧x.key.size≤8∧(0≤x.frm∧x.frm≤1099511627776)∧(0≤x.til∧x.til≤1099511627776):=by
 unfold opOk at h
 split at h
 ·simp only[spanB,Bool.and_eq_true,decide_eq_true_eq] at h
  have:=emB_size h.1.2
  omega
 ·split at h
  ·simp only[inRg,zB,Bool.and_eq_true,decide_eq_true_eq] at h
   have:=emB_size h.1.1.2
   omega
  ·split at h
   ·simp only[inRg,zB,Bool.and_eq_true,decide_eq_true_eq] at h
    have:=emB_size h.1.1.2
    omega
   ·split at h
    ·simp only[zB,Bool.and_eq_true,decide_eq_true_eq] at h
     have:=keyB_size h.1.1.1
     omega
    ·split at h
     ·simp only[spanB,Bool.and_eq_true,decide_eq_true_eq] at h
      have:=keyB_size h.1.1
      omega
     ·split at h
      ·simp only[zB,Bool.and_eq_true,decide_eq_true_eq] at h
       have:=emB_size h.1.1.1
       omega
      ·cases h
end Go.Proofs.YtedmdilabbolaaaGreatDoor
namespace Go.Proofs.YtedmdilabbolaaaGreatDoor
open Go.ChangeShapes Go.WideShapes Go.ChangeAt Go.RowKit Go.PlainAid
set_option linter.unusedVariables false
structure Mg where
 kind:Int
 frm:Int
 dst:Int
 term:Int
 index:Int
 iterm:Int
 commit:Int
 yes:Bool
 ents:List Ent
 data:ByteArray
def vMg (x:Mg) (u:Value):Value:=.agg #[.int .i64 x.kind,.int .i64 x.frm,.int .i64 x.dst,.int .i64 x.term,.int .i64 x.index,.int .i64 x.iterm,.int .i64 x.commit,.bool x.yes,u,.string x.data]
def MgV (w:World) (B:Nat) (v:Value) (x:Mg):Prop:=∃ u,v=vMg x u∧Lies w B 2 u (entR x.ents)
def MgO (w:World) (base:Nat) (v:Value) (x:Mg):Prop:=∃ u,v=vMg x u∧Owns w base 129 2 u (entR x.ents)
theorem MgV.on {w w':World} {B:Nat} {v:Value} {x:Mg} (h:MgV w B v x) (hb:Below B w w'):MgV w' B v x:=by
 obtain ⟨u,e,hl⟩:=h
 exact ⟨u,e,hl.on hb⟩
theorem MgV.mono {w:World} {B C:Nat} {v:Value} {x:Mg} (h:MgV w B v x) (hB:B≤C):MgV w C v x:=by
 obtain ⟨u,e,hl⟩:=h
 exact ⟨u,e,hl.mono hB⟩
theorem MgO.lies {w:World} {base:Nat} {v:Value} {x:Mg} (h:MgO w base v x):MgV w w.heap.size v x:=by
 obtain ⟨u,e,hl⟩:=h
 exact ⟨u,e,hl.lies⟩
theorem MgO.on {w w':World} {base:Nat} {v:Value} {x:Mg} (h:MgO w base v x) (hb:Below w.heap.size w w'):MgO w' base v x:=by
 obtain ⟨u,e,hl⟩:=h
 exact ⟨u,e,hl.on hb⟩
theorem MgO.mono {w:World} {base base':Nat} {v:Value} {x:Mg} (h:MgO w base v x) (hb:base'≤base):MgO w base' v x:=by
 obtain ⟨u,e,hl⟩:=h
 exact ⟨u,e,hl.mono hb⟩
def srvB (a:Int):Bool:=inRg a 0 4
theorem Hid.mkM {p:Prop} (h:p):Hid p:=h
end Go.Proofs.YtedmdilabbolaaaGreatDoor
namespace Go.Proofs.YtedmdilabbolaaaGreatDoor
open Go.ChangeShapes Go.WideShapes Go.ChangeAt Go.RowKit Go.PlainAid
set_option linter.unusedVariables false
def fstT (x:Rtr):Tdo:=x.todo.getD 0 default
noncomputable def sayB (x:Rtr) (d:Int):Bool:=rtOk x&&x.busy&&srvB d
noncomputable def sayM (x:Rtr) (d:Int):Mg:=if sayB x d=true then ⟨6,10+x.id,d,0,x.sers.getD (fstT x).group.toNat 0,0,0,false,[],opT (fstT x).op⟩ else ⟨0,0,0,0,0,0,0,false,[],⟨#[]⟩⟩
noncomputable def sayG (x:Rtr) (d:Int):Int:=if sayB x d=true then (fstT x).group else 0
theorem sayM_no {x:Rtr} {d:Int} (h:sayB x d=false):sayM x d=⟨0,0,0,0,0,0,0,false,[],⟨#[]⟩⟩:=by unfold sayM;rw[if_neg (by rw[h];decide)]
theorem sayG_no {x:Rtr} {d:Int} (h:sayB x d=false):sayG x d=0:=by unfold sayG;rw[if_neg (by rw[h];decide)]
theorem sayM_yes {x:Rtr} {d:Int} (h:sayB x d=true):sayM x d=⟨6,10+x.id,d,0,x.sers.getD (fstT x).group.toNat 0,0,0,false,[],opT (fstT x).op⟩:=by unfold sayM;rw[if_pos h]
theorem sayG_yes {x:Rtr} {d:Int} (h:sayB x d=true):sayG x d=(fstT x).group:=by unfold sayG;rw[if_pos h]
open Classical in
theorem rtOk_iff {x:Rtr}:rtOk x=true↔RtOk x:=⟨fun h=>of_decide_eq_true h,rtOk_yes⟩
theorem otherR10 {w:World} {k g:Nat} {cs:Array Value} {t:TypeId} (h:Blk w k cs t) (hn:k≠g) (x0 x1 x2 x3 x4 x5 x6 x7 x8 x9:Value):Blk ((((((((((w.setCell ⟨g,0,none⟩ x0).setCell ⟨g,1,none⟩ x1).setCell ⟨g,2,none⟩ x2).setCell ⟨g,3,none⟩ x3).setCell ⟨g,4,none⟩ x4).setCell ⟨g,5,none⟩ x5).setCell ⟨g,6,none⟩ x6).setCell ⟨g,7,none⟩ x7).setCell ⟨g,8,none⟩ x8).setCell ⟨g,9,none⟩ x9) k cs t:=((((((((((h.other hn 0 x0).other hn 1 x1).other hn 2 x2).other hn 3 x3).other hn 4 x4).other hn 5 x5).other hn 6 x6).other hn 7 x7).other hn 8 x8).other hn 9 x9)
end Go.Proofs.YtedmdilabbolaaaGreatDoor
namespace Go.Proofs.YtedmdilabbolaaaGreatDoor
open Go.ChangeShapes Go.WideShapes Go.ChangeAt Go.RowKit Go.PlainAid
set_option linter.unusedVariables false
end Go.Proofs.YtedmdilabbolaaaGreatDoor
