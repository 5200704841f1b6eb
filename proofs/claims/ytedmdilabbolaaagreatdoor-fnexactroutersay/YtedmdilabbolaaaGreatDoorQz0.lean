/- Aid CrcAid CrcImpl CrcSpec FrAid ErrIs Errs PtRow PtPut PtApp PtAid BtVar Num1In NmAid LikeAid -/
import Derived.WalkKit
import Derived.ProofKit
import Derived.Laws.IdiomStrings
import Derived.Laws.BytesString
import Derived.PlainAid
import Derived.Lib.BufferRead
import Derived.Laws.OwnMore
import Derived.Below
import Derived.OwnWalk
import Derived.Lib.QuoteBits
import Derived.Lib.Bytealg
import Derived.Laws.BitsLemmas
import Derived.Laws.Bits64
import Derived.Lib.LaidTab
import Derived.Test.YtedmdilabbolaaaGreatDoorRows
import Derived.OpenShut
import Derived.WalkSmall
import Derived.WalkLawsBesides
import Derived.Outline
import Derived.BigQuiet
import Derived.Deep.QuietTactic
import Derived.LaidEql
import Derived.Stop.Asserts
import Derived.RowKitTokens
import Derived.WalkMore
import Derived.Lib.OwnKind
import Derived.Shelf.Strings.BuilderK
import Derived.Test.YtedmdilabbolaaaGreatDoorQr0
import Derived.Test.YtedmdilabbolaaaGreatDoorQr1
namespace Go.Proofs.YtedmdilabbolaaaGreatDoor
open Go.RowKit Go.PlainAid
def digits:ByteArray:=⟨#[48,49,50,51,52,53,54,55,56,57,97,98,99,100,101,102]⟩
end Go.Proofs.YtedmdilabbolaaaGreatDoor
namespace Go.Proofs.YtedmdilabbolaaaGreatDoor
open Go.RowKit Go.PlainAid
end Go.Proofs.YtedmdilabbolaaaGreatDoor
namespace Go.Proofs.YtedmdilabbolaaaGreatDoor
open Go.ChangeShapes Go.WideShapes Go.ChangeAt Go.RowKit Go.PlainAid
set_option linter.unusedVariables false
end Go.Proofs.YtedmdilabbolaaaGreatDoor
namespace Go.Proofs.YtedmdilabbolaaaGreatDoor
open Go.ChangeShapes Go.WideShapes Go.ChangeAt Go.RowKit Go.PlainAid
set_option linter.unusedVariables false
end Go.Proofs.YtedmdilabbolaaaGreatDoor
namespace Go.Proofs.YtedmdilabbolaaaGreatDoor
open Go.RowKit Go.PlainAid
end Go.Proofs.YtedmdilabbolaaaGreatDoor
namespace Go.Proofs.YtedmdilabbolaaaGreatDoor
open Go.RowKit Go.PlainAid
set_option linter.unusedVariables false
end Go.Proofs.YtedmdilabbolaaaGreatDoor
namespace Go.Proofs.YtedmdilabbolaaaGreatDoor
open Go.RowKit Go.PlainAid
set_option linter.unusedVariables false
end Go.Proofs.YtedmdilabbolaaaGreatDoor
namespace Go.Proofs.YtedmdilabbolaaaGreatDoor
open Go.RowKit Go.PlainAid
instance:Inhabited Pnt:=⟨⟨0,0⟩⟩
end Go.Proofs.YtedmdilabbolaaaGreatDoor
namespace Go.Proofs.YtedmdilabbolaaaGreatDoor
open Go.RowKit Go.PlainAid
section
variable {w:World} {base:Nat} {e:TypeId} {sz g cap:Nat} {rows:List (List Value)}
end
theorem set_self {R:List (List Value)} (j:Nat) (hj:j<R.length):R.set j R[j]=R:=List.set_getElem_self hj
section
variable {w:World} {base:Nat} {e:TypeId} {sz g cap n j:Nat} {R:List (List Value)} {r:List Value}
theorem Owns.pokeAt (h:Owns w base e sz (.slice (some ⟨g,0,none⟩) n cap) (R.set j r)) (hn:R.length=n) (hj:j<n) (f:Nat) (hf:f<sz) (x:Value) :
  Owns (w.setCell ⟨g,j*sz+f,none⟩ x) base e sz (.slice (some ⟨g,0,none⟩) n cap) (R.set j (r.set f x)):=by
 subst hn
 have hl:(R.set j r).length=R.length:=List.length_set
 have h2:=h.2
 rw[hl] at h2
 have h1:=(World.ownsRow.stored h2 (j*sz+f) x).1
 obtain ⟨F1,F2,l1,e1,e2⟩:=flat_parts sz (R.set j r) h.1 j (by rw[hl];exact hj)
 have hrr:(R.set j r)[j]'(by rw[hl];exact hj)=r:=by simp
 have hr:r.length=sz:=by rw[← hrr];exact h.1 _ (List.getElem_mem _)
 have e3:=e2 (r.set f x)
 rw[List.set_set] at e3
 refine ⟨?_,?_⟩
 ·intro y hy
  obtain ⟨i,hi,rfl⟩:=List.getElem_of_mem hy
  have hi2:i<R.length:=by simpa using hi
  by_cases hij:i=j
  ·subst hij
   rw[List.getElem_set_self,List.length_set]
   exact hr
  ·have:(R.set j (r.set f x))[i]'hi=(R.set j r)[i]'(by rw[hl];exact hi2):=by rw[List.getElem_set_ne (Ne.symm hij),List.getElem_set_ne (Ne.symm hij)]
   rw[this]
   exact h.1 _ (List.getElem_mem _)
 ·rw[List.length_set,e3]
  rw[e1,hrr] at h1
  have:(F1++(r++F2)).set (j*sz+f) x=F1++(r.set f x++F2):=by
   rw[← l1,List.set_append_right _ _ (by omega),List.set_append_left _ _ (by omega)]
   simp
  rw[this] at h1
  exact h1
theorem Owns.cellAt2 (h:Owns w base e sz (.slice (some ⟨g,0,none⟩) n cap) (R.set j r)) (hn:R.length=n) (hj:j<n) (f:Nat) (hf:f<sz):∃ y,w.cell? ⟨g,j*sz+f,none⟩=some y:=by
 subst hn
 have hl:(R.set j r).length=R.length:=List.length_set
 have h2:=h
 rw[← hl] at h2
 exact h2.cellX j f (by rw[hl];exact hj) hf
theorem Owns.free2 (h:Owns w base e sz (.slice (some ⟨g,0,none⟩) n cap) (R.set j r)) (hn:R.length=n) (k:Nat):w.frozen? ⟨g,k,none⟩=false:=by
 subst hn
 have hl:(R.set j r).length=R.length:=List.length_set
 have h2:=h
 rw[← hl] at h2
 exact h2.free k
end
def newR (f:Nat→List Value) (j:Nat):List (List Value):=(List.range j).map f
theorem newR_length (f:Nat→List Value) (j:Nat):(newR f j).length=j:=by simp[newR]
def partR (f:Nat→List Value) (R:List (List Value)) (j:Nat):List (List Value):=newR f j++R.drop j
theorem partR_zero (f:Nat→List Value) (R:List (List Value)):partR f R 0=R:=by simp[partR,newR]
theorem partR_all (f:Nat→List Value) (R:List (List Value)):partR f R R.length=newR f R.length:=by simp[partR]
theorem partR_length (f:Nat→List Value) (R:List (List Value)) (j:Nat) (h:j≤R.length):(partR f R j).length=R.length:=by
 simp[partR,newR]
 omega
theorem partR_set (f:Nat→List Value) (R:List (List Value)) (j:Nat) (h:j<R.length):(partR f R j).set j (f j)=partR f R (j+1):=by
 unfold partR
 rw[List.set_append_right _ _ (by rw[newR_length];omega),newR_length,Nat.sub_self,List.drop_eq_getElem_cons h,List.set_cons_zero]
 unfold newR
 rw[List.range_succ,List.map_append]
 simp
end Go.Proofs.YtedmdilabbolaaaGreatDoor
namespace Go.Proofs.YtedmdilabbolaaaGreatDoor
open Go.RowKit Go.PlainAid
end Go.Proofs.YtedmdilabbolaaaGreatDoor
namespace Go.Proofs.YtedmdilabbolaaaGreatDoor
open Go.RowKit Go.PlainAid
instance (l:List Pnt):Decidable (POk l):=by unfold POk;infer_instance
end Go.Proofs.YtedmdilabbolaaaGreatDoor
namespace Go.Proofs.YtedmdilabbolaaaGreatDoor
open Go.RowKit Go.PlainAid
end Go.Proofs.YtedmdilabbolaaaGreatDoor
namespace Go.Proofs.YtedmdilabbolaaaGreatDoor
open Go.ChangeShapes Go.WideShapes Go.ChangeAt Go.RowKit Go.PlainAid
set_option linter.unusedVariables false
end Go.Proofs.YtedmdilabbolaaaGreatDoor
namespace Go.Proofs.YtedmdilabbolaaaGreatDoor
open Go.RowKit Go.PlainAid
def nmarks (k n:Nat):List Int:=(List.range n).map fun j=>((k+j:Nat):Int)
theorem nmarks_length (k n:Nat):(nmarks k n).length=n:=by simp[nmarks]
def nmarked (k:Nat) (l:List Int) (j:Nat):List Int:=nmarks k j++l.drop j
theorem nmarked_zero (k:Nat) (l:List Int):nmarked k l 0=l:=by simp[nmarked,nmarks]
theorem nmarked_length (k:Nat) (l:List Int) (j:Nat) (h:j≤l.length):(nmarked k l j).length=l.length:=by
 simp[nmarked,nmarks_length]
 omega
theorem nmarked_set (k:Nat) (l:List Int) (j:Nat) (h:j<l.length):(nmarked k l j).set j ((k+j:Nat):Int)=nmarked k l (j+1):=by
 unfold nmarked
 rw[List.set_append_right _ _ (by rw[nmarks_length];omega),nmarks_length,Nat.sub_self,List.drop_eq_getElem_cons h,List.set_cons_zero]
 unfold nmarks
 rw[List.range_succ,List.map_append]
 simp
theorem nmarked_all (k:Nat) (l:List Int):nmarked k l l.length=nmarks k l.length:=by simp[nmarked]
end Go.Proofs.YtedmdilabbolaaaGreatDoor
namespace Go.Proofs.YtedmdilabbolaaaGreatDoor
open Go.RowKit
end Go.Proofs.YtedmdilabbolaaaGreatDoor
