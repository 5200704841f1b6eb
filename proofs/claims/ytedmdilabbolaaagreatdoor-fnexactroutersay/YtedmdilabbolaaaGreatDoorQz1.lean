/- NmLaw Until PtLaw PtArg SrRow SrAid UntilS UntilF PtOk BldLay PtRun Clone SrLaw SrOk WkAid WkRow WkSz MgRes StrAid StrLaw WkEq WkMk WkHd -/
import Derived.Test.YtedmdilabbolaaaGreatDoorRows
import Derived.Test.YtedmdilabbolaaaGreatDoorQz0
import Derived.WalkKit
import Derived.ProofKit
import Derived.OpenShut
import Derived.Below
import Derived.WalkSmall
import Derived.WalkLawsBesides
import Derived.Outline
import Derived.BigQuiet
import Derived.Deep.QuietTactic
import Derived.Deep.RegionWith
import Derived.Deep.RegionHeld3
import Derived.StillTail
import Derived.Deep.Slices
import Derived.ChangeArms
import Derived.Shelf.Strings.BuilderK
import Derived.Shelf.Pu.Clone
import Derived.Laws.OwnMore
import Derived.OwnWalk
import Derived.Test.YtedmdilabbolaaaGreatDoorQr0
import Derived.Test.YtedmdilabbolaaaGreatDoorQr1
open List (setIfInBounds_toArray set_cons_zero set_cons_succ)
namespace Go.Proofs.YtedmdilabbolaaaGreatDoor
open Go.ChangeShapes Go.WideShapes Go.ChangeAt Go.RowKit Go.PlainAid
set_option linter.unusedVariables false
end Go.Proofs.YtedmdilabbolaaaGreatDoor
namespace Go.Proofs.YtedmdilabbolaaaGreatDoor
open Go
section
variable {P:Program} {ops:Array Oper} {Q:Exit→Act→World→Prop} {md:Region.Mode} {S:World→Prop} {T:Nat→Bool}
theorem until_two {l:List Oper} (i j:Nat) {oi oj:Oper} {rest rest':List Oper} {fuel:Nat} {listed:Array Bool} {a:Act} {w:World} (hd:l.drop i=oi::rest) (hd':l.drop j=oj::rest') (hr:Region.ready md l.toArray listed=[i,j])
  (h:∀ K:Act→World→Prop,Shut (∀ a' w',(T i=false→S w→S w')→wpUntil P md l.toArray Q S T fuel (listed.setIfInBounds i true) a' w'→K a' w')→if Region.wanted oi (yielded l.toArray a.tmps)=true then Oper.wp P oi a w K Q else K (a.put oi.dst undef) w)
  (h':∀ K:Act→World→Prop,Shut (∀ a' w',(T j=false→S w→S w')→wpUntil P md l.toArray Q S T fuel (listed.setIfInBounds j true) a' w'→K a' w')→if Region.wanted oj (yielded l.toArray a.tmps)=true then Oper.wp P oj a w K Q else K (a.put oj.dst undef) w) :
  wpUntil P md l.toArray Q S T (fuel+1) listed a w:=by
 refine ⟨fun h0=>(by rw[hr] at h0;cases h0),fun k hk=>?_⟩
 rw[hr] at hk
 have:k=i∨k=j:=by simpa using hk
 rcases this with rfl | rfl
 ·exact wpOp_step (drop_at hd) (fun K hK=>h K (fun a w h1 h2=>hK a w ⟨h1,h2⟩))
 ·exact wpOp_step (drop_at hd') (fun K hK=>h' K (fun a w h1 h2=>hK a w ⟨h1,h2⟩))
end
section
variable {P:Program} {Q:Exit→Act→World→Prop} {md:Region.Mode} {S:World→Prop} {T:Nat→Bool}
end
section
variable {P:Program} {Q:Exit→Act→World→Prop} {md:Region.Mode} {S:World→Prop} {T:Nat→Bool}
end
end Go.Proofs.YtedmdilabbolaaaGreatDoor
namespace Go.Proofs.YtedmdilabbolaaaGreatDoor
open Go.ChangeShapes Go.WideShapes Go.ChangeAt Go.RowKit Go.PlainAid
set_option linter.unusedVariables false
theorem below_alloc2 (w:World) (a b:Obj):Below w.heap.size w ((w.alloc a).alloc b):=((Below.refl _ w).alloc (Nat.le_refl _) a).alloc (by simp) b
end Go.Proofs.YtedmdilabbolaaaGreatDoor
namespace Go.Proofs.YtedmdilabbolaaaGreatDoor
open Go.ChangeShapes Go.WideShapes Go.ChangeAt Go.RowKit Go.PlainAid
set_option linter.unusedVariables false
section
variable {H:Type} {enc:TypeId×Value→H} {P:Program} {w:World} {base:Nat} {spare:Nat→Bool} {held:Bool}
end
section
variable {H:Type} {enc:TypeId×Value→H} {w:World} {base:Nat} {spare:Nat→Bool} {held:Bool}
end
end Go.Proofs.YtedmdilabbolaaaGreatDoor
namespace Go.Proofs.YtedmdilabbolaaaGreatDoor
open Go.RowKit Go.PlainAid
instance:Inhabited Ser:=⟨⟨⟨#[]⟩,[]⟩⟩
instance:Inhabited (Ser×Value):=⟨⟨default,.slice none 0 0⟩⟩
end Go.Proofs.YtedmdilabbolaaaGreatDoor
namespace Go.Proofs.YtedmdilabbolaaaGreatDoor
open Go.RowKit Go.PlainAid
instance (s:ByteArray):Decidable (KOk s):=by unfold KOk;infer_instance
instance (l:List Ser):Decidable (SOk l):=by unfold SOk;infer_instance
end Go.Proofs.YtedmdilabbolaaaGreatDoor
namespace Go.Proofs.YtedmdilabbolaaaGreatDoor
open Go
end Go.Proofs.YtedmdilabbolaaaGreatDoor
namespace Go.Proofs.YtedmdilabbolaaaGreatDoor
set_option linter.unusedVariables false
section
variable {P:Program} {Q:Exit→Act→World→Prop} {md:Region.Mode} {S:World→Prop} {T:Nat→Bool}
end
end Go.Proofs.YtedmdilabbolaaaGreatDoor
namespace Go.Proofs.YtedmdilabbolaaaGreatDoor
open Go.ChangeShapes Go.WideShapes Go.ChangeAt Go.RowKit Go.PlainAid
set_option linter.unusedVariables false
end Go.Proofs.YtedmdilabbolaaaGreatDoor
namespace Go.Proofs.YtedmdilabbolaaaGreatDoor
open Go.Shelf Go.RowKit
set_option linter.unusedVariables false
end Go.Proofs.YtedmdilabbolaaaGreatDoor
namespace Go.Proofs.YtedmdilabbolaaaGreatDoor
open Go.RowKit Go.PlainAid
end Go.Proofs.YtedmdilabbolaaaGreatDoor
namespace Go.Proofs.YtedmdilabbolaaaGreatDoor
open Go.RowKit
end Go.Proofs.YtedmdilabbolaaaGreatDoor
namespace Go.Proofs.YtedmdilabbolaaaGreatDoor
open Go.ChangeShapes Go.WideShapes Go.ChangeAt Go.RowKit Go.PlainAid
set_option linter.unusedVariables false
end Go.Proofs.YtedmdilabbolaaaGreatDoor
namespace Go.Proofs.YtedmdilabbolaaaGreatDoor
open Go.ChangeShapes Go.WideShapes Go.ChangeAt Go.RowKit Go.PlainAid
set_option linter.unusedVariables false
end Go.Proofs.YtedmdilabbolaaaGreatDoor
namespace Go.Proofs.YtedmdilabbolaaaGreatDoor
open Go.RowKit Go.PlainAid
structure Ent where
 term:Int
 data:ByteArray
structure Rcd where
 kind:Int
 term:Int
 index:Int
 vote:Int
 data:ByteArray
structure Wl where
 term:Int
 vote:Int
 base:Int
 bterm:Int
 ents:List Ent
instance:Inhabited Ent:=⟨⟨0,ByteArray.empty⟩⟩
instance:Inhabited Rcd:=⟨⟨0,0,0,0,ByteArray.empty⟩⟩
end Go.Proofs.YtedmdilabbolaaaGreatDoor
namespace Go.Proofs.YtedmdilabbolaaaGreatDoor
open Go.RowKit Go.PlainAid
def entC (x:Ent):List Value:=[.int .i64 x.term,.string x.data]
def entR (l:List Ent):List (List Value):=l.map entC
theorem entR_length (l:List Ent):(entR l).length=l.length:=by simp[entR]
theorem ent_look {w:World} {B:Nat} {v:Value} {l:List Ent} (h:Lies w B 2 v (entR l)):∃ A cap,v=.slice A l.length cap∧∀ j,j<l.length→∃ g off,A=some ⟨g,off,none⟩∧g<B ∧
  w.cell? ⟨g,off+j*2,none⟩=some (.int .i64 (l.getD j default).term)∧w.cell? ⟨g,off+j*2+1,none⟩=some (.string (l.getD j default).data):=by
 obtain ⟨A,cap,e,h⟩:=h.look
 refine ⟨A,cap,by rw[e];simp[entR],fun j hj=>?_⟩
 rw[← getD_at l j hj]
 obtain ⟨g,off,e,hg,hc⟩:=h j (by simpa[entR] using hj)
 refine ⟨g,off,e,hg,?_,?_⟩
 ·have:=hc 0 _ (by omega) (by simp[entR,entC];rfl);simpa[Nat.add_assoc] using this
 ·have:=hc 1 _ (by omega) (by simp[entR,entC];rfl);simpa[Nat.add_assoc] using this
def WalV (w:World) (B:Nat) (v:Value) (x:Wl):Prop:=∃ u,v=.agg #[.int .i64 x.term,.int .i64 x.vote,.int .i64 x.base,.int .i64 x.bterm,u]∧Lies w B 2 u (entR x.ents)
theorem WalV.on {w w':World} {B:Nat} {v:Value} {x:Wl} (h:WalV w B v x) (hb:Below B w w'):WalV w' B v x:=by
 obtain ⟨u,e,h⟩:=h
 exact ⟨u,e,h.on hb⟩
theorem WalV.mono {w:World} {B C:Nat} {v:Value} {x:Wl} (h:WalV w B v x) (hB:B≤C):WalV w C v x:=by
 obtain ⟨u,e,h⟩:=h
 exact ⟨u,e,h.mono hB⟩
def WalO (w:World) (base:Nat) (v:Value) (x:Wl):Prop:=∃ u,v=.agg #[.int .i64 x.term,.int .i64 x.vote,.int .i64 x.base,.int .i64 x.bterm,u]∧Owns w base 129 2 u (entR x.ents)
theorem WalO.lies {w:World} {base:Nat} {v:Value} {x:Wl} (h:WalO w base v x):WalV w w.heap.size v x:=by
 obtain ⟨u,e,h⟩:=h
 exact ⟨u,e,h.lies⟩
theorem WalO.on {w w':World} {base:Nat} {v:Value} {x:Wl} (h:WalO w base v x) (hb:Below w.heap.size w w'):WalO w' base v x:=by
 obtain ⟨u,e,h⟩:=h
 exact ⟨u,e,h.on hb⟩
theorem WalO.mono {w:World} {base base':Nat} {v:Value} {x:Wl} (h:WalO w base v x) (hb:base'≤base):WalO w base' v x:=by
 obtain ⟨u,e,h⟩:=h
 exact ⟨u,e,h.mono hb⟩
end Go.Proofs.YtedmdilabbolaaaGreatDoor
namespace Go.Proofs.YtedmdilabbolaaaGreatDoor
open Go.ChangeShapes Go.WideShapes Go.ChangeAt Go.RowKit Go.PlainAid
set_option linter.unusedVariables false
def vEnt (x:Ent):Value:=.agg #[.int .i64 x.term,.string x.data]
end Go.Proofs.YtedmdilabbolaaaGreatDoor
namespace Go.Proofs.YtedmdilabbolaaaGreatDoor
open Go.ChangeShapes Go.WideShapes Go.ChangeAt Go.RowKit Go.PlainAid
set_option linter.unusedVariables false
theorem resC10 {w:World} {g:Nat} {a0 a1 a2 a3 a4 a5 a6 a7 a8 a9 x0 x1 x2 x3 x4 x5 x6 x7 x8 x9:Value} {t:TypeId} (h:Blk w g #[a0,a1,a2,a3,a4,a5,a6,a7,a8,a9] t) :
  (w.cell? ⟨g,0,none⟩=some a0∧w.frozen? ⟨g,0,none⟩=false)∧((w.setCell ⟨g,0,none⟩ x0).cell? ⟨g,1,none⟩=some a1∧(w.setCell ⟨g,0,none⟩ x0).frozen? ⟨g,1,none⟩=false)∧(((w.setCell ⟨g,0,none⟩ x0).setCell ⟨g,1,none⟩ x1).cell? ⟨g,2,none⟩=some a2∧((w.setCell ⟨g,0,none⟩ x0).setCell ⟨g,1,none⟩ x1).frozen? ⟨g,2,none⟩=false)∧((((w.setCell ⟨g,0,none⟩ x0).setCell ⟨g,1,none⟩ x1).setCell ⟨g,2,none⟩ x2).cell? ⟨g,3,none⟩=some a3∧(((w.setCell ⟨g,0,none⟩ x0).setCell ⟨g,1,none⟩ x1).setCell ⟨g,2,none⟩ x2).frozen? ⟨g,3,none⟩=false)∧(((((w.setCell ⟨g,0,none⟩ x0).setCell ⟨g,1,none⟩ x1).setCell ⟨g,2,none⟩ x2).setCell ⟨g,3,none⟩ x3).cell? ⟨g,4,none⟩=some a4∧((((w.setCell ⟨g,0,none⟩ x0).setCell ⟨g,1,none⟩ x1).setCell ⟨g,2,none⟩ x2).setCell ⟨g,3,none⟩ x3).frozen? ⟨g,4,none⟩=false)∧((((((w.setCell ⟨g,0,none⟩ x0).setCell ⟨g,1,none⟩ x1).setCell ⟨g,2,none⟩ x2).setCell ⟨g,3,none⟩ x3).setCell ⟨g,4,none⟩ x4).cell? ⟨g,5,none⟩=some a5∧(((((w.setCell ⟨g,0,none⟩ x0).setCell ⟨g,1,none⟩ x1).setCell ⟨g,2,none⟩ x2).setCell ⟨g,3,none⟩ x3).setCell ⟨g,4,none⟩ x4).frozen? ⟨g,5,none⟩=false)∧(((((((w.setCell ⟨g,0,none⟩ x0).setCell ⟨g,1,none⟩ x1).setCell ⟨g,2,none⟩ x2).setCell ⟨g,3,none⟩ x3).setCell ⟨g,4,none⟩ x4).setCell ⟨g,5,none⟩ x5).cell? ⟨g,6,none⟩=some a6∧((((((w.setCell ⟨g,0,none⟩ x0).setCell ⟨g,1,none⟩ x1).setCell ⟨g,2,none⟩ x2).setCell ⟨g,3,none⟩ x3).setCell ⟨g,4,none⟩ x4).setCell ⟨g,5,none⟩ x5).frozen? ⟨g,6,none⟩=false)∧((((((((w.setCell ⟨g,0,none⟩ x0).setCell ⟨g,1,none⟩ x1).setCell ⟨g,2,none⟩ x2).setCell ⟨g,3,none⟩ x3).setCell ⟨g,4,none⟩ x4).setCell ⟨g,5,none⟩ x5).setCell ⟨g,6,none⟩ x6).cell? ⟨g,7,none⟩=some a7∧(((((((w.setCell ⟨g,0,none⟩ x0).setCell ⟨g,1,none⟩ x1).setCell ⟨g,2,none⟩ x2).setCell ⟨g,3,none⟩ x3).setCell ⟨g,4,none⟩ x4).setCell ⟨g,5,none⟩ x5).setCell ⟨g,6,none⟩ x6).frozen? ⟨g,7,none⟩=false)∧(((((((((w.setCell ⟨g,0,none⟩ x0).setCell ⟨g,1,none⟩ x1).setCell ⟨g,2,none⟩ x2).setCell ⟨g,3,none⟩ x3).setCell ⟨g,4,none⟩ x4).setCell ⟨g,5,none⟩ x5).setCell ⟨g,6,none⟩ x6).setCell ⟨g,7,none⟩ x7).cell? ⟨g,8,none⟩=some a8∧((((((((w.setCell ⟨g,0,none⟩ x0).setCell ⟨g,1,none⟩ x1).setCell ⟨g,2,none⟩ x2).setCell ⟨g,3,none⟩ x3).setCell ⟨g,4,none⟩ x4).setCell ⟨g,5,none⟩ x5).setCell ⟨g,6,none⟩ x6).setCell ⟨g,7,none⟩ x7).frozen? ⟨g,8,none⟩=false)∧((((((((((w.setCell ⟨g,0,none⟩ x0).setCell ⟨g,1,none⟩ x1).setCell ⟨g,2,none⟩ x2).setCell ⟨g,3,none⟩ x3).setCell ⟨g,4,none⟩ x4).setCell ⟨g,5,none⟩ x5).setCell ⟨g,6,none⟩ x6).setCell ⟨g,7,none⟩ x7).setCell ⟨g,8,none⟩ x8).cell? ⟨g,9,none⟩=some a9∧(((((((((w.setCell ⟨g,0,none⟩ x0).setCell ⟨g,1,none⟩ x1).setCell ⟨g,2,none⟩ x2).setCell ⟨g,3,none⟩ x3).setCell ⟨g,4,none⟩ x4).setCell ⟨g,5,none⟩ x5).setCell ⟨g,6,none⟩ x6).setCell ⟨g,7,none⟩ x7).setCell ⟨g,8,none⟩ x8).frozen? ⟨g,9,none⟩=false) ∧
  ((((((((((w.setCell ⟨g,0,none⟩ x0).setCell ⟨g,1,none⟩ x1).setCell ⟨g,2,none⟩ x2).setCell ⟨g,3,none⟩ x3).setCell ⟨g,4,none⟩ x4).setCell ⟨g,5,none⟩ x5).setCell ⟨g,6,none⟩ x6).setCell ⟨g,7,none⟩ x7).setCell ⟨g,8,none⟩ x8).setCell ⟨g,9,none⟩ x9).cell? ⟨g,0,none⟩=some x0∧((((((((((w.setCell ⟨g,0,none⟩ x0).setCell ⟨g,1,none⟩ x1).setCell ⟨g,2,none⟩ x2).setCell ⟨g,3,none⟩ x3).setCell ⟨g,4,none⟩ x4).setCell ⟨g,5,none⟩ x5).setCell ⟨g,6,none⟩ x6).setCell ⟨g,7,none⟩ x7).setCell ⟨g,8,none⟩ x8).setCell ⟨g,9,none⟩ x9).cell? ⟨g,1,none⟩=some x1∧((((((((((w.setCell ⟨g,0,none⟩ x0).setCell ⟨g,1,none⟩ x1).setCell ⟨g,2,none⟩ x2).setCell ⟨g,3,none⟩ x3).setCell ⟨g,4,none⟩ x4).setCell ⟨g,5,none⟩ x5).setCell ⟨g,6,none⟩ x6).setCell ⟨g,7,none⟩ x7).setCell ⟨g,8,none⟩ x8).setCell ⟨g,9,none⟩ x9).cell? ⟨g,2,none⟩=some x2∧((((((((((w.setCell ⟨g,0,none⟩ x0).setCell ⟨g,1,none⟩ x1).setCell ⟨g,2,none⟩ x2).setCell ⟨g,3,none⟩ x3).setCell ⟨g,4,none⟩ x4).setCell ⟨g,5,none⟩ x5).setCell ⟨g,6,none⟩ x6).setCell ⟨g,7,none⟩ x7).setCell ⟨g,8,none⟩ x8).setCell ⟨g,9,none⟩ x9).cell? ⟨g,3,none⟩=some x3∧((((((((((w.setCell ⟨g,0,none⟩ x0).setCell ⟨g,1,none⟩ x1).setCell ⟨g,2,none⟩ x2).setCell ⟨g,3,none⟩ x3).setCell ⟨g,4,none⟩ x4).setCell ⟨g,5,none⟩ x5).setCell ⟨g,6,none⟩ x6).setCell ⟨g,7,none⟩ x7).setCell ⟨g,8,none⟩ x8).setCell ⟨g,9,none⟩ x9).cell? ⟨g,4,none⟩=some x4∧((((((((((w.setCell ⟨g,0,none⟩ x0).setCell ⟨g,1,none⟩ x1).setCell ⟨g,2,none⟩ x2).setCell ⟨g,3,none⟩ x3).setCell ⟨g,4,none⟩ x4).setCell ⟨g,5,none⟩ x5).setCell ⟨g,6,none⟩ x6).setCell ⟨g,7,none⟩ x7).setCell ⟨g,8,none⟩ x8).setCell ⟨g,9,none⟩ x9).cell? ⟨g,5,none⟩=some x5∧((((((((((w.setCell ⟨g,0,none⟩ x0).setCell ⟨g,1,none⟩ x1).setCell ⟨g,2,none⟩ x2).setCell ⟨g,3,none⟩ x3).setCell ⟨g,4,none⟩ x4).setCell ⟨g,5,none⟩ x5).setCell ⟨g,6,none⟩ x6).setCell ⟨g,7,none⟩ x7).setCell ⟨g,8,none⟩ x8).setCell ⟨g,9,none⟩ x9).cell? ⟨g,6,none⟩=some x6∧((((((((((w.setCell ⟨g,0,none⟩ x0).setCell ⟨g,1,none⟩ x1).setCell ⟨g,2,none⟩ x2).setCell ⟨g,3,none⟩ x3).setCell ⟨g,4,none⟩ x4).setCell ⟨g,5,none⟩ x5).setCell ⟨g,6,none⟩ x6).setCell ⟨g,7,none⟩ x7).setCell ⟨g,8,none⟩ x8).setCell ⟨g,9,none⟩ x9).cell? ⟨g,7,none⟩=some x7∧((((((((((w.setCell ⟨g,0,none⟩ x0).setCell ⟨g,1,none⟩ x1).setCell ⟨g,2,none⟩ x2).setCell ⟨g,3,none⟩ x3).setCell ⟨g,4,none⟩ x4).setCell ⟨g,5,none⟩ x5).setCell ⟨g,6,none⟩ x6).setCell ⟨g,7,none⟩ x7).setCell ⟨g,8,none⟩ x8).setCell ⟨g,9,none⟩ x9).cell? ⟨g,8,none⟩=some x8∧((((((((((w.setCell ⟨g,0,none⟩ x0).setCell ⟨g,1,none⟩ x1).setCell ⟨g,2,none⟩ x2).setCell ⟨g,3,none⟩ x3).setCell ⟨g,4,none⟩ x4).setCell ⟨g,5,none⟩ x5).setCell ⟨g,6,none⟩ x6).setCell ⟨g,7,none⟩ x7).setCell ⟨g,8,none⟩ x8).setCell ⟨g,9,none⟩ x9).cell? ⟨g,9,none⟩=some x9:=by
 have h1:Blk (w.setCell ⟨g,0,none⟩ x0) g #[x0,a1,a2,a3,a4,a5,a6,a7,a8,a9] t:=h.set 0 x0
 have h2:Blk ((w.setCell ⟨g,0,none⟩ x0).setCell ⟨g,1,none⟩ x1) g #[x0,x1,a2,a3,a4,a5,a6,a7,a8,a9] t:=h1.set 1 x1
 have h3:Blk (((w.setCell ⟨g,0,none⟩ x0).setCell ⟨g,1,none⟩ x1).setCell ⟨g,2,none⟩ x2) g #[x0,x1,x2,a3,a4,a5,a6,a7,a8,a9] t:=h2.set 2 x2
 have h4:Blk ((((w.setCell ⟨g,0,none⟩ x0).setCell ⟨g,1,none⟩ x1).setCell ⟨g,2,none⟩ x2).setCell ⟨g,3,none⟩ x3) g #[x0,x1,x2,x3,a4,a5,a6,a7,a8,a9] t:=h3.set 3 x3
 have h5:Blk (((((w.setCell ⟨g,0,none⟩ x0).setCell ⟨g,1,none⟩ x1).setCell ⟨g,2,none⟩ x2).setCell ⟨g,3,none⟩ x3).setCell ⟨g,4,none⟩ x4) g #[x0,x1,x2,x3,x4,a5,a6,a7,a8,a9] t:=h4.set 4 x4
 have h6:Blk ((((((w.setCell ⟨g,0,none⟩ x0).setCell ⟨g,1,none⟩ x1).setCell ⟨g,2,none⟩ x2).setCell ⟨g,3,none⟩ x3).setCell ⟨g,4,none⟩ x4).setCell ⟨g,5,none⟩ x5) g #[x0,x1,x2,x3,x4,x5,a6,a7,a8,a9] t:=h5.set 5 x5
 have h7:Blk (((((((w.setCell ⟨g,0,none⟩ x0).setCell ⟨g,1,none⟩ x1).setCell ⟨g,2,none⟩ x2).setCell ⟨g,3,none⟩ x3).setCell ⟨g,4,none⟩ x4).setCell ⟨g,5,none⟩ x5).setCell ⟨g,6,none⟩ x6) g #[x0,x1,x2,x3,x4,x5,x6,a7,a8,a9] t:=h6.set 6 x6
 have h8:Blk ((((((((w.setCell ⟨g,0,none⟩ x0).setCell ⟨g,1,none⟩ x1).setCell ⟨g,2,none⟩ x2).setCell ⟨g,3,none⟩ x3).setCell ⟨g,4,none⟩ x4).setCell ⟨g,5,none⟩ x5).setCell ⟨g,6,none⟩ x6).setCell ⟨g,7,none⟩ x7) g #[x0,x1,x2,x3,x4,x5,x6,x7,a8,a9] t:=h7.set 7 x7
 have h9:Blk (((((((((w.setCell ⟨g,0,none⟩ x0).setCell ⟨g,1,none⟩ x1).setCell ⟨g,2,none⟩ x2).setCell ⟨g,3,none⟩ x3).setCell ⟨g,4,none⟩ x4).setCell ⟨g,5,none⟩ x5).setCell ⟨g,6,none⟩ x6).setCell ⟨g,7,none⟩ x7).setCell ⟨g,8,none⟩ x8) g #[x0,x1,x2,x3,x4,x5,x6,x7,x8,a9] t:=h8.set 8 x8
 have h10:Blk ((((((((((w.setCell ⟨g,0,none⟩ x0).setCell ⟨g,1,none⟩ x1).setCell ⟨g,2,none⟩ x2).setCell ⟨g,3,none⟩ x3).setCell ⟨g,4,none⟩ x4).setCell ⟨g,5,none⟩ x5).setCell ⟨g,6,none⟩ x6).setCell ⟨g,7,none⟩ x7).setCell ⟨g,8,none⟩ x8).setCell ⟨g,9,none⟩ x9) g #[x0,x1,x2,x3,x4,x5,x6,x7,x8,x9] t:=h9.set 9 x9
 exact ⟨⟨h.cell 0 _ rfl,h.free 0⟩,⟨h1.cell 1 _ rfl,h1.free 1⟩,⟨h2.cell 2 _ rfl,h2.free 2⟩,⟨h3.cell 3 _ rfl,h3.free 3⟩,⟨h4.cell 4 _ rfl,h4.free 4⟩,⟨h5.cell 5 _ rfl,h5.free 5⟩,⟨h6.cell 6 _ rfl,h6.free 6⟩,⟨h7.cell 7 _ rfl,h7.free 7⟩,⟨h8.cell 8 _ rfl,h8.free 8⟩,⟨h9.cell 9 _ rfl,h9.free 9⟩,h10.cell 0 _ rfl,h10.cell 1 _ rfl,h10.cell 2 _ rfl,h10.cell 3 _ rfl,h10.cell 4 _ rfl,h10.cell 5 _ rfl,h10.cell 6 _ rfl,h10.cell 7 _ rfl,h10.cell 8 _ rfl,h10.cell 9 _ rfl⟩
theorem belowC10 {w w':World} {B g:Nat} (h:Below B w w') (hg:B≤g) (x0 x1 x2 x3 x4 x5 x6 x7 x8 x9:Value):Below B w ((((((((((w'.setCell ⟨g,0,none⟩ x0).setCell ⟨g,1,none⟩ x1).setCell ⟨g,2,none⟩ x2).setCell ⟨g,3,none⟩ x3).setCell ⟨g,4,none⟩ x4).setCell ⟨g,5,none⟩ x5).setCell ⟨g,6,none⟩ x6).setCell ⟨g,7,none⟩ x7).setCell ⟨g,8,none⟩ x8).setCell ⟨g,9,none⟩ x9):=((((((((((h.setCell hg _).setCell hg _).setCell hg _).setCell hg _).setCell hg _).setCell hg _).setCell hg _).setCell hg _).setCell hg _).setCell hg _)
end Go.Proofs.YtedmdilabbolaaaGreatDoor
namespace Go.Proofs.YtedmdilabbolaaaGreatDoor
open Go.RowKit Go.PlainAid
def strCells (l:List ByteArray):List Value:=l.map Value.string
def Strs (w:World) (base:Nat) (v:Value) (l:List ByteArray):Prop:=w.ownsRow base 9 1 v l.length (strCells l)
theorem Strs.nil (w:World) (base:Nat):Strs w base (.slice none 0 0) []:=World.ownsRow_nil w base 9 1
theorem Strs.empty (w:World) (base:Nat) (hb:base≤w.heap.size):Strs (w.alloc (.cells #[] 9)) base (.slice (some ⟨w.heap.size,0,none⟩) 0 0) [] :=
 World.ownsRow_lit w #[] 0 hb (by unfold maxLen;omega) rfl
theorem Strs.mono {w:World} {base base':Nat} {v:Value} {l:List ByteArray} (h:Strs w base v l) (hb:base'≤base):Strs w base' v l :=
 ⟨h.1,h.2.imp id fun ⟨g,cap,cur,e,hg,r⟩=>⟨g,cap,cur,e,Nat.le_trans hb hg,r⟩⟩
theorem Strs.kept {w w':World} {base:Nat} {v:Value} {l:List ByteArray} (h:Strs w base v l) (hk:∀ g,g<w.heap.size→v.ownBlock=some g→w'.heap[g]?=w.heap[g]?):Strs w' base v l:=by
 have hl:=World.ownsRow.lt h
 refine ⟨h.1,h.2.imp id ?_⟩
 rintro ⟨g,cap,cur,rfl,hg,hh,r⟩
 refine ⟨g,cap,cur,rfl,hg,?_,r⟩
 rw[hk g (hl g rfl).2 rfl]
 exact hh
theorem Strs.on {w w':World} {base:Nat} {v:Value} {l:List ByteArray} (h:Strs w base v l) (hb:Below w.heap.size w w'):Strs w' base v l:=h.kept fun g hg _=>hb.block g hg
theorem Strs.under {w w':World} {base B:Nat} {v:Value} {l:List ByteArray} (h:Strs w base v l) (hB:w.heap.size≤B) (hb:Below B w w'):Strs w' base v l:=h.kept fun g hg _=>hb.block g (Nat.lt_of_lt_of_le hg hB)
theorem Strs.alloc {w:World} {base:Nat} {v:Value} {l:List ByteArray} (h:Strs w base v l) (o:Obj):Strs (w.alloc o) base v l:=World.ownsRow.alloc h o
theorem Strs.form {w:World} {base:Nat} {v:Value} {l:List ByteArray} (h:Strs w base v l):(v=.slice none 0 0∧l=[])∨∃ g cap,v=.slice (some ⟨g,0,none⟩) l.length cap∧base≤g∧g<w.heap.size:=by
 have hl:=World.ownsRow.lt h
 rcases h.2 with ⟨rfl,h0⟩ | ⟨g,cap,cur,rfl,hg,_⟩
 ·exact .inl ⟨rfl,List.eq_nil_of_length_eq_zero h0⟩
 ·exact .inr ⟨g,cap,rfl,hg,(hl g rfl).2⟩
theorem Strs.cell {w:World} {base g cap:Nat} {l:List ByteArray} (h:Strs w base (.slice (some ⟨g,0,none⟩) l.length cap) l) (j:Nat) (hj:j<l.length):w.cell? ⟨g,j,none⟩=some (.string l[j]):=by
 rw[World.ownsRow.cellAt h j (by omega)]
 simp[strCells,hj]
theorem Strs.frozen {w:World} {base g cap:Nat} {l:List ByteArray} (h:Strs w base (.slice (some ⟨g,0,none⟩) l.length cap) l) (j:Nat):w.frozen? ⟨g,j,none⟩=false:=World.ownsRow.frozenAt h j
theorem Strs.stored {w:World} {base g cap:Nat} {l:List ByteArray} (h:Strs w base (.slice (some ⟨g,0,none⟩) l.length cap) l) (j:Nat) (x:ByteArray) :
  Strs (w.setCell ⟨g,j,none⟩ (.string x)) base (.slice (some ⟨g,0,none⟩) l.length cap) (l.set j x):=by
 have hs:=(World.ownsRow.stored h j (.string x)).1
 unfold Strs
 rw[List.length_set,strCells,List.map_set]
 exact hs
def dg:Nat→Nat→List UInt8
 | 0,_=>[]
 | f+1,n=>if n=0 then [] else dg f (n / 10)++[byt (48+n % 10)]
theorem dg_zero (f:Nat):dg f 0=[]:=by
 cases f with
 | zero=>rfl
 | succ f=>rw[dg,if_pos rfl]
def mark (k:Nat):ByteArray:=txt (109::dg 20 k)
def marks (k:Nat):Nat→List ByteArray
 | 0=>[]
 | n+1=>marks k n++[mark (k+n)]
def marked (k:Nat) (l:List ByteArray) (j:Nat):List ByteArray:=marks k j++l.drop j
end Go.Proofs.YtedmdilabbolaaaGreatDoor
namespace Go.Proofs.YtedmdilabbolaaaGreatDoor
open Go.ChangeShapes Go.WideShapes Go.ChangeAt Go.RowKit Go.PlainAid
set_option linter.unusedVariables false
set_option maxHeartbeats 400000 in
theorem markText (k:Nat) (w:World) (h1:1≤k) (h2:k≤1000000000) :
  Calls Tryz.prog 93 #[.int .i64 (k:Int)] w fun e w'=>e=.returned (.string (mark k))∧Below w.heap.size w w':=by
 have q1:(1:Int)≤(k:Int):=by omega
 have q0:decide ((k:Int)≤0)=false:=decide_eq_false (by omega)
 have q2:¬ (k:Int)≤0:=by omega
 go_enter Tryz.func93,Tryz.ntmps93
 go_wp2
 go_loopw [0,3] (fun v0 v3 wr=>∃ (m f:Nat) (out:List UInt8),v0=.int .i64 m∧m≤1000000000∧m<10 ^ f∧v3=.string (txt out)∧dg f m++out=dg 20 k∧f+out.length≤20∧Below w.heap.size w wr) (fun i _ _=>(intOf i).toNat)
 case atStart=>exact ⟨k,20,[],rfl,h2,by omega,rfl,by simp,by simp,Below.refl _ _⟩
 case round =>
  obtain ⟨m,f,out,rfl,hm,hf,rfl,hd,hl,hb⟩:=hrel
  have HD:Hid (dg f m++out=dg 20 k):=hd
  have HF:Hid (m<10 ^ f):=hf
  clear hd hf
  by_cases hp:(0:Int)<(m:Int)
  ·obtain ⟨f',rfl⟩:∃ f',f=f'+1:=by
    cases f with
    | zero=>have:=HF.out;simp at this;omega
    | succ f'=>exact ⟨f',rfl⟩
   have e1:(48+(m:Int) % 10) % 256=(((48+m % 10) % 256:Nat):Int):=by omega
   have e2:(48+(m:Int) % 10)=(((48+m % 10) % 256:Nat):Int):=by omega
   have hc:∀ wx:World,(convert 48 9 (.slice (some ⟨wx.heap.size,0,none⟩) 1 1)).run Tryz.prog (wx.alloc (.cells #[.int .u8 (48+(m:Int) % 10)] 5))=.ok (.string (txt [byt (48+m % 10)])) (wx.alloc (.cells #[.int .u8 (48+(m:Int) % 10)] 5)):=by
    intro wx;rw[e2];exact run_one_byte wx 48 9 5 Tryz.underlying48 Tryz.underlying5 Tryz.underlying9 (48+m % 10) 1
   clear e1 e2
   have hz1:(txt [byt (48+m % 10)]).size=1:=rfl
   have hz2:(txt out).size=out.length:=txt_size out
   have hsum:(txt [byt (48+m % 10)]).size+(txt out).size≤9223372036854775807:=by omega
   clear hz1 hz2
   go_wp2
   go_roundw
   case rel =>
    refine ⟨m / 10,f',[byt (48+m % 10)]++out,by go_num,by omega,?_,by rw[txt_cat],?_,by simp;omega,hb.alloc (by have:=hb.size;omega) _⟩
    ·have:=HF.out
     rw[Nat.pow_succ] at this
     omega
    ·have:=HD.out
     rw[dg,if_neg (by omega)] at this
     rw[← this]
     simp
   case measure=>simp[intOf];omega
  ·have hm0:m=0:=by omega
   subst hm0
   have hz2:(txt out).size=out.length:=txt_size out
   have hz3:(⟨#[109]⟩:ByteArray).size=1:=rfl
   have hsum:(⟨#[109]⟩:ByteArray).size+(txt out).size≤9223372036854775807:=by omega
   clear hz2 hz3
   go_wp2
   go_ret
   refine ⟨?_,hb⟩
   have:=HD.out
   rw[dg_zero,List.nil_append] at this
   rw[this]
   rfl
end Go.Proofs.YtedmdilabbolaaaGreatDoor
namespace Go.Proofs.YtedmdilabbolaaaGreatDoor
open Go.ChangeShapes Go.WideShapes Go.ChangeAt Go.RowKit Go.PlainAid
set_option linter.unusedVariables false
set_option maxHeartbeats 400000 in
theorem eqEntry (x:Ent) (w:World):Calls Tryz.prog 92 #[vEnt x,vEnt x] w fun e w'=>e=.returned (.bool true)∧Below w.heap.size w w':=by
 unfold vEnt
 go_enter Tryz.func92,Tryz.ntmps92
 go_wp2
 go_ret
 exact ⟨rfl,below_alloc2 _ _ _⟩
set_option maxHeartbeats 1000000 in
theorem eqEntryS (l:List Ent) (va vb:Value) (w:World) (B:Nat) (ha:Lies w B 2 va (entR l)) (hb:Lies w B 2 vb (entR l)) (hn:l.length≤1048576) (hB:B≤w.heap.size) :
  Calls Tryz.prog 49 #[va,vb] w fun e w'=>e=.returned (.bool true)∧Below w.heap.size w w':=by
 obtain ⟨A,cap,rfl,hl⟩:=ent_look ha
 obtain ⟨A',cap',rfl,hl'⟩:=ent_look hb
 have HL:Hid (∀ j,j<l.length→∃ g off,A=some ⟨g,off,none⟩∧g<B∧_):=hl
 have HL':Hid (∀ j,j<l.length→∃ g off,A'=some ⟨g,off,none⟩∧g<B∧_):=hl'
 have HB:Hid (B≤w.heap.size):=hB
 clear hl hl' hB ha hb
 have q1:(l.length:Int)≤1048576:=by omega
 generalize hN:l.length=n at *
 go_enter Tryz.func49,Tryz.ntmps49
 go_wp2_with fail
 go_loopw [5] (fun v5 wr=>∃ k:Nat,k≤n∧v5=.int .i64 (k:Int)∧Below w.heap.size w wr) (fun i _=>n - (intOf i).toNat)
 case atStart=>exact ⟨0,by omega,rfl,Below.refl _ _⟩
 case round =>
  obtain ⟨k,hk,rfl,hb⟩:=hrel
  have HB1:Hid (Below w.heap.size w wr):=hb
  clear hb
  by_cases hlt:k<n
  ·have q4:(k:Int)<(n:Int):=by omega
   obtain ⟨g,off,rfl,hg,ha0,ha1⟩:=HL.out k hlt
   obtain ⟨g',off',rfl,hg',hb0,hb1⟩:=HL'.out k hlt
   have hgw:g<w.heap.size:=Nat.lt_of_lt_of_le hg HB.out
   have hgw':g'<w.heap.size:=Nat.lt_of_lt_of_le hg' HB.out
   rw[← HB1.out.cell (p:=⟨_,_,none⟩) hgw] at ha0
   rw[← HB1.out.cell (p:=⟨_,_,none⟩) hgw'] at hb0
   rw[← HB1.out.cell (p:=⟨_,_,none⟩) hgw] at ha1
   rw[← HB1.out.cell (p:=⟨_,_,none⟩) hgw'] at hb1
   have c1:=fun wx=>eqEntry (l.getD k default) wx
   unfold vEnt at c1
   generalize l.getD k default=x at *
   have hsz:=HB1.out.size
   go_wp2_with fail
   go_region_with (go_at_call 92;refine (c1 _).mono ?_;rintro e w1 ⟨rfl,hb1⟩)
   all_goals go_wp2_with fail
   all_goals exact ⟨⟨k+1,by omega,by go_num,HB1.out.trans (((Below.refl _ wr).drew.trans hb1).mono hsz)⟩,by simp[intOf];omega⟩
  ·obtain rfl:k=n:=by omega
   go_wp2_with fail
   go_ret
   exact ⟨rfl,HB1.out⟩
end Go.Proofs.YtedmdilabbolaaaGreatDoor
namespace Go.Proofs.YtedmdilabbolaaaGreatDoor
open Go.ChangeShapes Go.WideShapes Go.ChangeAt Go.RowKit Go.PlainAid
set_option linter.unusedVariables false
def mkEnt (k j:Nat):List Value:=[.int .i64 (((k+2*j:Nat):Int)),.string (mark (k+2*j+1))]
set_option maxHeartbeats 2000000 in
theorem markEntryS (k base:Nat) (v:Value) (R:List (List Value)) (w:World) (hv:Owns w base 129 2 v R) (hl:R.length≤1048576) (h1:1≤k) (h2:k≤10000000) (hbase:base≤w.heap.size) :
  Calls Tryz.prog 53 #[v,.int .i64 (k:Int)] w fun e w'=>e=.returned (.int .i64 ((k+2*R.length:Nat):Int))∧Owns w' base 129 2 v (newR (mkEnt k) R.length)∧Below base w w'∧(∀ g,g<w.heap.size→v.ownBlock≠some g→w'.heap[g]?=w.heap[g]?):=by
 obtain ⟨A,ca,rfl⟩:∃ A ca,v=.slice A R.length ca:=by
  rcases hv.2.2 with ⟨rfl,h0⟩ | ⟨g,c,cur,rfl,_⟩
  ·exact ⟨none,0,by rw[h0]⟩
  ·exact ⟨_,_,rfl⟩
 have HV:Hid (Owns w base 129 2 (.slice A R.length ca) R):=hv
 have q1:(R.length:Int)≤1048576:=by omega
 have q3:(k:Int)≤10000000:=by omega
 clear hv hl
 generalize hn:R.length=n at *
 go_enter Tryz.func53,Tryz.ntmps53
 go_wp2_with fail
 go_loopw [1,5] (fun v1 v5 wr=>∃ j:Nat,j≤n∧v5=.int .i64 (j:Int)∧v1=.int .i64 ((k+2*j:Nat):Int)∧Owns wr base 129 2 (.slice A n ca) (partR (mkEnt k) R j)∧Below base w wr∧(∀ g,g<w.heap.size→(Value.slice A n ca).ownBlock≠some g→wr.heap[g]?=w.heap[g]?)) (fun _ i _=>n - (intOf i).toNat)
 case atStart=>exact ⟨0,by omega,rfl,by simp,by rw[partR_zero];exact HV.out,Below.refl _ _,fun _ _ _=>rfl⟩
 case round =>
  obtain ⟨j,hj,rfl,rfl,hS,hB,hK⟩:=hrel
  have HS:Hid (Owns wr base 129 2 (.slice A n ca) (partR (mkEnt k) R j)):=hS
  have HB:Hid (Below base w wr):=hB
  have HK:Hid (∀ g,g<w.heap.size→(Value.slice A n ca).ownBlock≠some g→wr.heap[g]?=w.heap[g]?):=hK
  clear hS hB hK
  by_cases hlt:j<n
  ·have q2:(j:Int)<(n:Int):=by omega
   obtain ⟨g,rfl,hgb⟩:∃ g,A=some ⟨g,0,none⟩∧base≤g:=by
    rcases HS.out.2.2 with ⟨e,h0⟩ | ⟨g,c,cur,e,hg,_⟩
    ·rw[partR_length _ _ _ (by omega),hn] at h0;omega
    ·cases e;exact ⟨g,rfl,hg⟩
   have HG:Hid (base≤g):=hgb
   have hpl:(partR (mkEnt k) R j).length=n:=by rw[partR_length _ _ _ (by omega),hn]
   have HN2:Hid ((partR (mkEnt k) R j).length=n):=hpl
   have hO0:Owns wr base 129 2 (.slice (some ⟨g,0,none⟩) n ca) ((partR (mkEnt k) R j).set j ((partR (mkEnt k) R j)[j]'(by omega))):=by rw[set_self];exact HS.out
   have hrl:((partR (mkEnt k) R j)[j]'(by omega)).length=2:=HS.out.1 _ (List.getElem_mem _)
   have HF:Hid ((partR (mkEnt k) R j).set j (mkEnt k j)=partR (mkEnt k) R (j+1)):=partR_set _ _ _ (by omega)
   obtain ⟨y0,y1,hy⟩:∃ y0 y1,(partR (mkEnt k) R j)[j]'(by omega)=[y0,y1]:=by
    match hh:(partR (mkEnt k) R j)[j]'(by omega),hrl with
    | [y0,y1],_=>exact ⟨y0,y1,rfl⟩
   rw[hy] at hO0
   have hmk:mkEnt k j=[.int .i64 (((k+2*j:Nat):Int)),.string (mark (k+2*j+1))]:=rfl
   rw[hmk] at HF
   have HM:Hid (((k+2*(j+1):Nat):Int)=((k+2*j:Nat):Int)+2):=by unfold Hid;omega
   have q4:((k+2*j:Nat):Int)≤20000000:=by omega
   have HM1:Hid (1≤k+2*j):=by unfold Hid;omega
   have HM2:Hid (k+2*j≤20000000):=by unfold Hid;omega
   clear hmk hpl hrl hy
   generalize k+2*j=m at *
   generalize partR (mkEnt k) R j=P at *
   have hsz:=HB.out.size
   have hgw:g<wr.heap.size:=(hO0.lt g rfl).2
   obtain ⟨z0,d0⟩:=hO0.cellAt2 HN2.out hlt 0 (by omega)
   have f0:=hO0.free2 HN2.out (j*2)
   rw[Nat.add_zero] at d0
   have p0:=(hO0).pokeAt HN2.out hlt 0 (by omega) (.int .i64 ((m:Int)))
   rw[Nat.add_zero] at p0
   have Q0:Hid (Owns ((wr).setCell ⟨g,j*2,none⟩ (.int .i64 ((m:Int)))) base 129 2 (.slice (some ⟨g,0,none⟩) n ca) (P.set j [.int .i64 ((m:Int)),y1])):=p0
   have D0:Hid (Below base w ((wr).setCell ⟨g,j*2,none⟩ (.int .i64 ((m:Int))))):=(HB.out).setCell (show base≤g from HG.out) _
   have E0:Hid (∀ b,b<w.heap.size→(Value.slice (some ⟨g,0,none⟩) n ca).ownBlock≠some b→((wr).setCell ⟨g,j*2,none⟩ (.int .i64 ((m:Int)))).heap[b]?=w.heap[b]?):=fun b hb hne=>by rw[Below.heap_setCell _ _ _ _ (show b≠g from fun e=>hne (by rw[e];rfl))];exact HK.out b hb hne
   clear p0
   have hsz0:base≤((wr).setCell ⟨g,j*2,none⟩ (.int .i64 ((m:Int)))).heap.size:=Nat.le_trans hbase D0.out.size
   have hwz0:w.heap.size≤((wr).setCell ⟨g,j*2,none⟩ (.int .i64 ((m:Int)))).heap.size:=D0.out.size
   have c1:Calls Tryz.prog 93 #[.int .i64 ((m:Int)+1)] ((wr).setCell ⟨g,j*2,none⟩ (.int .i64 ((m:Int)))) fun e w'=>e=.returned (.string (mark (m+1)))∧Below ((wr).setCell ⟨g,j*2,none⟩ (.int .i64 ((m:Int)))).heap.size ((wr).setCell ⟨g,j*2,none⟩ (.int .i64 ((m:Int)))) w':=by
    have h:=markText (m+1) ((wr).setCell ⟨g,j*2,none⟩ (.int .i64 ((m:Int)))) (by have:=HM1.out;omega) (by have:=HM2.out;omega)
    rw[show ((m+1:Nat):Int)=(m:Int)+1 by omega] at h
    exact h
   go_wp2_with fail
   refine c1.mono ?_
   rintro e x1 ⟨rfl,hx1⟩
   have O1:Hid (Owns x1 base 129 2 (.slice (some ⟨g,0,none⟩) n ca) (P.set j [.int .i64 ((m:Int)),y1])):=Q0.out.on hx1
   have B1:Hid (Below base w x1):=(D0.out).trans (hx1.mono hsz0)
   have K1:Hid (∀ b,b<w.heap.size→(Value.slice (some ⟨g,0,none⟩) n ca).ownBlock≠some b→x1.heap[b]?=w.heap[b]?):=fun b hb hne=>(hx1.block b (Nat.lt_of_lt_of_le hb hwz0)).trans (E0.out b hb hne)
   have hwz:w.heap.size≤x1.heap.size:=B1.out.size
   clear hx1 c1
   obtain ⟨z1,d1⟩:=O1.out.cellAt2 HN2.out hlt 1 (by omega)
   have f1:=O1.out.free2 HN2.out (j*2+1)
   have p1:=(O1.out).pokeAt HN2.out hlt 1 (by omega) (.string (mark (m+1)))
   have Q1:Hid (Owns ((x1).setCell ⟨g,j*2+1,none⟩ (.string (mark (m+1)))) base 129 2 (.slice (some ⟨g,0,none⟩) n ca) (P.set j [.int .i64 ((m:Int)),.string (mark (m+1))])):=p1
   have D1:Hid (Below base w ((x1).setCell ⟨g,j*2+1,none⟩ (.string (mark (m+1))))):=(B1.out).setCell (show base≤g from HG.out) _
   have E1:Hid (∀ b,b<w.heap.size→(Value.slice (some ⟨g,0,none⟩) n ca).ownBlock≠some b→((x1).setCell ⟨g,j*2+1,none⟩ (.string (mark (m+1)))).heap[b]?=w.heap[b]?):=fun b hb hne=>by rw[Below.heap_setCell _ _ _ _ (show b≠g from fun e=>hne (by rw[e];rfl))];exact K1.out b hb hne
   clear p1
   go_wp2_with fail
   go_roundw
   case rel=>exact ⟨j+1,by omega,by go_num,by rw[HM.out];go_num,by rw[← HF.out];exact Q1.out,D1.out,E1.out⟩
   case measure=>simp[intOf];omega
  ·obtain rfl:j=n:=by omega
   go_wp2_with fail
   go_ret
   refine ⟨rfl,?_,HB.out,HK.out⟩
   have:=HS.out
   rw[← hn,partR_all] at this
   rw[← hn]
   exact this
end Go.Proofs.YtedmdilabbolaaaGreatDoor
namespace Go.Proofs.YtedmdilabbolaaaGreatDoor
open Go.ChangeShapes Go.WideShapes Go.ChangeAt Go.RowKit Go.PlainAid
set_option linter.unusedVariables false
theorem mkEnt_look {w:World} {B k n:Nat} {v:Value} (h:Lies w B 2 v (newR (mkEnt k) n)):∃ A cap,v=.slice A n cap∧∀ j,j<n→∃ g off,A=some ⟨g,off,none⟩∧g<B∧w.cell? ⟨g,off+j*2,none⟩=some (.int .i64 (((k+2*j:Nat):Int)))∧w.cell? ⟨g,off+j*2+1,none⟩=some (.string (mark (k+2*j+1))):=by
 obtain ⟨A,cap,e,h⟩:=h.look
 rw[newR_length] at e
 refine ⟨A,cap,e,fun j hj=>?_⟩
 obtain ⟨g,off,e,hg,hc⟩:=h j (by rw[newR_length];exact hj)
 have hr:(newR (mkEnt k) n)[j]'(by rw[newR_length];exact hj)=mkEnt k j:=by simp[newR]
 rw[hr] at hc
 refine ⟨g,off,e,hg,?_,?_⟩
 ·have:=hc 0 _ (by omega) rfl;simpa[Nat.add_assoc] using this
 ·have:=hc 1 _ (by omega) rfl;simpa[Nat.add_assoc] using this
set_option maxHeartbeats 2000000 in
theorem heldEntryS (k n:Nat) (v:Value) (w:World) (B:Nat) (hv:Lies w B 2 v (newR (mkEnt k) n)) (hl:n≤1048576) (h1:1≤k) (h2:k≤10000000) (hB:B≤w.heap.size) :
  Calls Tryz.prog 54 #[v,.int .i64 (k:Int)] w fun e w'=>e=.returned (.int .i64 ((k+2*n:Nat):Int))∧Below w.heap.size w w':=by
 obtain ⟨A,ca,rfl,hl'⟩:=mkEnt_look hv
 have HL:Hid (∀ j,j<n→∃ g off,A=some ⟨g,off,none⟩∧g<B∧_):=hl'
 have HB:Hid (B≤w.heap.size):=hB
 have q1:(n:Int)≤1048576:=by omega
 have q3:(k:Int)≤10000000:=by omega
 clear hv hl hl' hB
 go_enter Tryz.func54,Tryz.ntmps54
 go_wp2_with fail
 go_loopw [1,5] (fun v1 v5 wr=>∃ j:Nat,j≤n∧v5=.int .i64 (j:Int)∧v1=.int .i64 ((k+2*j:Nat):Int)∧Below w.heap.size w wr) (fun _ i _=>n - (intOf i).toNat)
 case atStart=>exact ⟨0,by omega,rfl,by simp,Below.refl _ _⟩
 case round =>
  obtain ⟨j,hj,rfl,rfl,hb⟩:=hrel
  have HB1:Hid (Below w.heap.size w wr):=hb
  clear hb
  by_cases hlt:j<n
  ·have q2:(j:Int)<(n:Int):=by omega
   obtain ⟨g,off,rfl,hg,d0,d1⟩:=HL.out j hlt
   have hgw:g<w.heap.size:=Nat.lt_of_lt_of_le hg HB.out
   rw[← HB1.out.cell (p:=⟨_,_,none⟩) hgw] at d0
   rw[← HB1.out.cell (p:=⟨_,_,none⟩) hgw] at d1
   have HM:Hid (((k+2*(j+1):Nat):Int)=((k+2*j:Nat):Int)+2):=by unfold Hid;omega
   have q4:((k+2*j:Nat):Int)≤20000000:=by omega
   have HM1:Hid (1≤k+2*j):=by unfold Hid;omega
   have HM2:Hid (k+2*j≤20000000):=by unfold Hid;omega
   generalize k+2*j=m at *
   have hsz:=HB1.out.size
   have hgl:Hid (g<wr.heap.size):=Nat.lt_of_lt_of_le hgw hsz
   have c1:∀ wx:World,Calls Tryz.prog 93 #[.int .i64 ((m:Int)+1)] wx fun e w'=>e=.returned (.string (mark (m+1)))∧Below wx.heap.size wx w':=fun wx=>by
    have h:=markText (m+1) wx (by have:=HM1.out;omega) (by have:=HM2.out;omega)
    rw[show ((m+1:Nat):Int)=(m:Int)+1 by omega] at h
    exact h
   clear hgw HL
   go_wp2_with fail
   (go_region_with (go_at_call 93;refine (c1 _).mono ?_;rintro e x0 ⟨rfl,hx0⟩;have a1:=(hx0.cell (p:=⟨g,off+j*2+1,none⟩) hgl.out).trans d1;have hg0:Hid (g<x0.heap.size):=Nat.lt_of_lt_of_le hgl.out hx0.size))
   all_goals go_wp2_with fail
   all_goals exact ⟨⟨j+1,by omega,by go_num,by rw[HM.out];go_num,(HB1.out).trans (((Below.refl _ wr).drew.trans hx0).mono hsz)⟩,by simp[intOf];omega⟩
  ·obtain rfl:j=n:=by omega
   go_wp2_with fail
   go_ret
   exact ⟨rfl,HB1.out⟩
end Go.Proofs.YtedmdilabbolaaaGreatDoor
