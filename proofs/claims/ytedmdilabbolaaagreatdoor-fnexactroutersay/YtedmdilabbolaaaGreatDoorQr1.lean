/- Until PtLaw PtArg SrRow SrAid UntilS UntilF PtOk BldLay PtRun Clone SrLaw SrOk -/
import Derived.Deep.RegionHeld3
import Derived.StillTail
import Derived.Test.YtedmdilabbolaaaGreatDoorRows
import Derived.Test.YtedmdilabbolaaaGreatDoorQr0
import Derived.WalkKit
import Derived.ProofKit
import Derived.OpenShut
import Derived.Below
import Derived.WalkSmall
import Derived.WalkLawsBesides
import Derived.Outline
import Derived.BigQuiet
import Derived.Deep.QuietTactic
import Derived.Deep.RegionWith
import Derived.Deep.Slices
import Derived.ChangeArms
import Derived.Shelf.Strings.BuilderK
import Derived.Shelf.Pu.Clone
open List (setIfInBounds_toArray set_cons_zero set_cons_succ)
namespace Go.Proofs.YtedmdilabbolaaaGreatDoor
open Go
section
variable {P:Program} {ops:Array Oper} {Q:Exit→Act→World→Prop} {md:Region.Mode} {S:World→Prop} {T:Nat→Bool}
def wpUntil (P:Program) (md:Region.Mode) (ops:Array Oper) (Q:Exit→Act→World→Prop) (S:World→Prop) (T:Nat→Bool):Nat→Array Bool→Act→World→Prop
 | 0,listed,a,w=>Region.ready md ops listed=[]∧Q .normal a w
 | fuel+1,listed,a,w =>
  (Region.ready md ops listed=[]→Q .normal a w)∧∀ i∈Region.ready md ops listed,wpOp P ops Q i (fun a' w'=>(T i=false→S w→S w')∧wpUntil P md ops Q S T fuel (listed.setIfInBounds i true) a' w') a w
theorem wpAny_of_until:∀ (fuel:Nat) (listed:Array Bool) (a:Act) (w:World),wpUntil P md ops Q S T fuel listed a w→wpAny P md ops Q fuel listed a w
 | 0,_,_,_,h=>h
 | fuel+1,_,_,_,h=>⟨h.1,fun i hi=>wpOp_mono (fun a' w' h'=>wpAny_of_until fuel _ a' w' h'.2) (h.2 i hi)⟩
def needs (md:Region.Mode) (ops:Array Oper):Nat→Nat→Nat→Bool
 | 0,_,_=>false
 | f+1,t,i=>match ops[t]? with
  | some o=>o.after.any fun e=>Region.binds md e&&(e.on == i||needs md ops f e.on i)
  | none=>false
def Closed (md:Region.Mode) (ops:Array Oper) (listed:Array Bool):Prop :=
 ∀ j oj,ops[j]?=some oj→listed.getD j false=true→∀ e∈oj.after,Region.binds md e=true→listed.getD e.on false=true
theorem needs_some {f t i:Nat} (h:needs md ops f t i=true):∃ o,ops[t]?=some o:=by
 cases f with
 | zero=>cases h
 | succ f =>
  unfold needs at h
  cases e:ops[t]? with
  | none=>rw[e] at h;cases h
  | some o=>exact ⟨o,rfl⟩
theorem needs_listed {listed:Array Bool} (hc:Closed md ops listed):∀ (f t i:Nat) (ot:Oper),ops[t]?=some ot→(∀ e∈ot.after,Region.binds md e=true→listed.getD e.on false=true)→needs md ops f t i=true→listed.getD i false=true
 | 0,_,_,_,_,_,h=>by cases h
 | f+1,t,i,ot,hot,hall,h=>by
  unfold needs at h
  rw[hot] at h
  obtain ⟨e,he,hb⟩:=Array.any_eq_true'.1 h
  rw[Bool.and_eq_true,Bool.or_eq_true] at hb
  have h1:=hall e he hb.1
  rcases hb.2 with h2 | h2
  ·rw[← beq_iff_eq.1 h2]
   exact h1
  ·obtain ⟨o2,ho2⟩:=needs_some h2
   exact needs_listed hc f e.on i o2 ho2 (hc e.on o2 ho2 h1) h2
theorem Closed.set {i:Nat} {listed:Array Bool} (h:Closed md ops listed) (hi:i∈Region.ready md ops listed):Closed md ops (listed.setIfInBounds i true):=by
 obtain ⟨_,oi,hoi,hall⟩:=mem_ready.1 hi
 intro j oj hj hl e he hb
 by_cases hij:i=j
 ·subst hij
  have:oj=oi:=Option.some.inj (hj.symm.trans hoi)
  subst this
  exact getD_set_true (hall e he hb)
 ·rw[_root_.Go.getD_set_ne false hij] at hl
  exact getD_set_true (h j oj hj hl e he hb)
theorem wpUntil_first {i:Nat} {oi:Oper} {v:Value} (hi:ops[i]?=some oi) (hsel:∀ (j:Nat) (o:Oper) cs b,ops[j]?=some o→o.op≠.select cs b)
  (hQ:∀ c a w,Q (.panic c) (a.put oi.dst v) w→Q (.panic c) a w) (hT:∀ t,t<ops.size→T t=true→needs md ops ops.size t i=true) :
  ∀ (fuel:Nat) (listed:Array Bool) (a:Act) (w:World),Closed md ops listed →
   (∀ j oj,ops[j]?=some oj→j≠i→listed.getD j true=false→(∀ e∈oj.after,Region.binds md e=true→e.on≠i)→oi.apart ops oj=true) →
   i∈Region.ready md ops listed→YieldsIf P ops S oi v a→S w →
   wpUntil P md ops Q S T fuel (listed.setIfInBounds i true) (a.put oi.dst v) w→wpUntil P md ops Q S T (fuel+1) listed a w:=by
 intro fuel
 induction fuel with
 | zero =>
  intro listed a w _ _ hr hy hS H
  refine ⟨fun h=>(by rw[h] at hr;cases hr),fun j hj=>?_⟩
  by_cases hji:j=i
  ·subst hji
   exact hy.wpOp hi hS ⟨fun _ h=>h,H⟩
  ·have:=ready_mono hj hji
   rw[H.1] at this
   cases this
 | succ fuel ih =>
  intro listed a w hc hfree hr hy hS H
  refine ⟨fun h=>(by rw[h] at hr;cases hr),fun j hj=>?_⟩
  by_cases hji:j=i
  ·subst hji
   exact hy.wpOp hi hS ⟨fun _ h=>h,H⟩
  ·have h1:=H.2 j (ready_mono hj hji)
   obtain ⟨hjun,oj,hoj,hall⟩:=mem_ready.1 hj
   have hun:=getD_both (mem_ready.1 hr).1
   have hnot:∀ e∈oj.after,Region.binds md e=true→e.on≠i:=fun e he hb heq=>by
    have h1:=hall e he hb
    rw[heq,hun] at h1
    cases h1
   have hTj:T j=false:=by
    cases e:T j with
    | false=>rfl
    | true =>
     have:=needs_listed hc _ j i oj hoj hall (hT j (Array.getElem?_eq_some_iff.1 hoj).1 e)
     rw[hun] at this
     cases this
   have h2:=wpOp_putIf hoj (hfree j oj hoj hji hjun hnot) (fun cs b=>hsel i oi cs b hi) (fun cs b=>hsel j oj cs b hoj) hQ hy h1
   have hfree':∀ k ok,ops[k]?=some ok→k≠i→(listed.setIfInBounds j true).getD k true=false →
     (∀ e∈ok.after,Region.binds md e=true→e.on≠i)→oi.apart ops ok=true:=fun k ok hk hki hun hno=>by
    refine hfree k ok hk hki ?_ hno
    by_cases hjk:j=k
    ·subst hjk
     exact hjun
    ·rw[_root_.Go.getD_set_ne true hjk] at hun
     exact hun
   refine wpOp_mono (fun a' w' h3=>⟨h3.2.1,ih (listed.setIfInBounds j true) a' w' (hc.set hj) hfree' (ready_mono hr (Ne.symm hji)) h3.1 (h3.2.1 hTj hS) ?_⟩) h2
   rw[Array.setIfInBounds_comm _ _ hji]
   exact h3.2.2
theorem wpUntil_pure {i:Nat} {oi:Oper} {v:Value} (hi:ops[i]?=some oi) (hsel:∀ (j:Nat) (o:Oper) cs b,ops[j]?=some o→o.op≠.select cs b)
  (hQ:∀ c a w,Q (.panic c) (a.put oi.dst v) w→Q (.panic c) a w) :
  ∀ (fuel:Nat) (listed:Array Bool) (a:Act) (w:World),
   (∀ j oj,ops[j]?=some oj→j≠i→listed.getD j true=false→(∀ e∈oj.after,Region.binds md e=true→e.on≠i)→oi.apart ops oj=true) →
   i∈Region.ready md ops listed→YieldsIf P ops (fun _=>True) oi v a →
   wpUntil P md ops Q S T fuel (listed.setIfInBounds i true) (a.put oi.dst v) w→wpUntil P md ops Q S T (fuel+1) listed a w:=by
 intro fuel
 induction fuel with
 | zero =>
  intro listed a w _ hr hy H
  refine ⟨fun h=>(by rw[h] at hr;cases hr),fun j hj=>?_⟩
  by_cases hji:j=i
  ·subst hji
   exact hy.wpOp hi trivial ⟨fun _ h=>h,H⟩
  ·have:=ready_mono hj hji
   rw[H.1] at this
   cases this
 | succ fuel ih =>
  intro listed a w hfree hr hy H
  refine ⟨fun h=>(by rw[h] at hr;cases hr),fun j hj=>?_⟩
  by_cases hji:j=i
  ·subst hji
   exact hy.wpOp hi trivial ⟨fun _ h=>h,H⟩
  ·have h1:=H.2 j (ready_mono hj hji)
   obtain ⟨hjun,oj,hoj,hall⟩:=mem_ready.1 hj
   have hun:=getD_both (mem_ready.1 hr).1
   have hnot:∀ e∈oj.after,Region.binds md e=true→e.on≠i:=fun e he hb heq=>by
    have h1:=hall e he hb
    rw[heq,hun] at h1
    cases h1
   have h2:=wpOp_putIf hoj (hfree j oj hoj hji hjun hnot) (fun cs b=>hsel i oi cs b hi) (fun cs b=>hsel j oj cs b hoj) hQ hy h1
   have hfree':∀ k ok,ops[k]?=some ok→k≠i→(listed.setIfInBounds j true).getD k true=false →
     (∀ e∈ok.after,Region.binds md e=true→e.on≠i)→oi.apart ops ok=true:=fun k ok hk hki hun hno=>by
    refine hfree k ok hk hki ?_ hno
    by_cases hjk:j=k
    ·subst hjk
     exact hjun
    ·rw[_root_.Go.getD_set_ne true hjk] at hun
     exact hun
   refine wpOp_mono (fun a' w' h3=>⟨h3.2.1,ih (listed.setIfInBounds j true) a' w' hfree' (ready_mono hr (Ne.symm hji)) h3.1 ?_⟩) h2
   rw[Array.setIfInBounds_comm _ _ hji]
   exact h3.2.2
def closedB (md:Region.Mode) (ops:Array Oper) (listed:Array Bool):Bool :=
 (List.range ops.size).all fun j=>match ops[j]? with
  | some oj=>!(listed.getD j false)||oj.after.all fun e=>!Region.binds md e||listed.getD e.on false
  | none=>true
theorem closedB_spec {listed:Array Bool} (h:closedB md ops listed=true):Closed md ops listed:=by
 intro j oj hj hl e he hb
 have h1:=List.all_eq_true.1 h j (List.mem_range.2 (Array.getElem?_eq_some_iff.1 hj).1)
 rw[hj] at h1
 simp only[hl,Bool.not_true,Bool.false_or] at h1
 have h2:=Array.all_eq_true'.1 h1 e he
 rw[hb] at h2
 simpa using h2
def takeB (md:Region.Mode) (ops:Array Oper) (T:Nat→Bool) (listed:Array Bool) (i:Nat):Bool :=
 Region.noSelect ops&&Region.free md ops listed i&&(Region.ready md ops listed).contains i&&closedB md ops listed&&(List.range ops.size).all fun t=>!T t||needs md ops ops.size t i
theorem drop_at {l:List Oper} {i:Nat} {o:Oper} {rest:List Oper} (h:l.drop i=o::rest):l.toArray[i]?=some o:=by
 have:=congrArg (fun x:List Oper=>x[0]?) h
 simpa[List.getElem?_drop] using this
theorem until_take {l:List Oper} (i:Nat) {oi:Oper} {rest:List Oper} {v:Value} {fuel:Nat} {listed:Array Bool} {a:Act} {w:World} (hd:l.drop i=oi::rest) (hB:takeB md l.toArray T listed i=true)
  (hQ:∀ c a w,Q (.panic c) (a.put oi.dst v) w→Q (.panic c) a w) (hw:Region.wanted oi (yielded l.toArray a.tmps)=true) (hy:∀ w,S w→(execOp a.eval oi).run P w=.ok (.value v) w) (hS:S w)
  (h:wpUntil P md l.toArray Q S T fuel (listed.setIfInBounds i true) (a.put oi.dst v) w):wpUntil P md l.toArray Q S T (fuel+1) listed a w:=by
 unfold takeB at hB
 simp only[Bool.and_eq_true] at hB
 obtain ⟨⟨⟨⟨hs,hf⟩,hr⟩,hc⟩,ht⟩:=hB
 refine wpUntil_first (drop_at hd) (Region.noSelect_spec hs) hQ (fun t htl htt=>?_) fuel listed a w (closedB_spec hc) (Region.free_spec (drop_at hd) hf) (by simpa using hr) (.inl ⟨hw,hy⟩) hS h
 have:=List.all_eq_true.1 ht t (List.mem_range.2 htl)
 rw[htt] at this
 simpa using this
def pureB (md:Region.Mode) (ops:Array Oper) (listed:Array Bool) (i:Nat):Bool:=Region.noSelect ops&&Region.free md ops listed i&&(Region.ready md ops listed).contains i
theorem until_pure {l:List Oper} (i:Nat) {oi:Oper} {rest:List Oper} {v:Value} {fuel:Nat} {listed:Array Bool} {a:Act} {w:World} (hd:l.drop i=oi::rest) (hB:pureB md l.toArray listed i=true)
  (hQ:∀ c a w,Q (.panic c) (a.put oi.dst v) w→Q (.panic c) a w) (hw:Region.wanted oi (yielded l.toArray a.tmps)=true) (hy:∀ w,(execOp a.eval oi).run P w=.ok (.value v) w)
  (h:wpUntil P md l.toArray Q S T fuel (listed.setIfInBounds i true) (a.put oi.dst v) w):wpUntil P md l.toArray Q S T (fuel+1) listed a w:=by
 unfold pureB at hB
 simp only[Bool.and_eq_true] at hB
 obtain ⟨⟨hs,hf⟩,hr⟩:=hB
 exact wpUntil_pure (drop_at hd) (Region.noSelect_spec hs) hQ fuel listed a w (Region.free_spec (drop_at hd) hf) (by simpa using hr) (.inl ⟨hw,fun w _=>hy w⟩) h
theorem until_one {l:List Oper} (i:Nat) {oi:Oper} {rest:List Oper} {fuel:Nat} {listed:Array Bool} {a:Act} {w:World} (hd:l.drop i=oi::rest) (hr:Region.ready md l.toArray listed=[i])
  (h:∀ K:Act→World→Prop,Shut (∀ a' w',(T i=false→S w→S w')→wpUntil P md l.toArray Q S T fuel (listed.setIfInBounds i true) a' w'→K a' w')→if Region.wanted oi (yielded l.toArray a.tmps)=true then Oper.wp P oi a w K Q else K (a.put oi.dst undef) w) :
  wpUntil P md l.toArray Q S T (fuel+1) listed a w:=by
 refine ⟨fun h0=>(by rw[hr] at h0;cases h0),fun j hj=>?_⟩
 rw[hr] at hj
 obtain rfl:j=i:=by simpa using hj
 exact wpOp_step (drop_at hd) (fun K hK=>h K (fun a w h1 h2=>hK a w ⟨h1,h2⟩))
theorem until_done {listed:Array Bool} {a:Act} {w:World} (hr:Region.ready md ops listed=[]) (h:Q .normal a w):∀ fuel,wpUntil P md ops Q S T fuel listed a w
 | 0=>⟨hr,h⟩
 | _+1=>⟨fun _=>h,by rw[hr];simp⟩
theorem wp_region_until {id:Nat} {l:List Oper} {a:Act} {w:World} (S:World→Prop) (T:Nat→Bool) (n:Nat) (hn:l.length=n) (hm:P.follows .mixedOrders=true)
  (h:wpUntil P .any l.toArray Q S T n (Array.replicate n false) a w.drew):(Code.region id l.toArray true).wp P Q a w:=by
 subst hn
 exact wp_region_any hm (wpAny_of_until _ _ _ _ (by simpa using h))
end
section
variable {P:Program} {Q:Exit→Act→World→Prop} {md:Region.Mode} {S:World→Prop} {T:Nat→Bool}
theorem tKe {l:List Oper} (i:Nat) {oi:Oper} {rest:List Oper} {v:Value} {fuel:Nat} {listed:Array Bool} {a:Act} {w:World} (hS:S w) (hy:∀ w,S w→(execOp a.eval oi).run P w=.ok (.value v) w) (h:wpUntil P md l.toArray Q S T fuel (listed.setIfInBounds i true) (a.put oi.dst v) w) (hd:l.drop i=oi::rest:=by rfl) (hB:takeB md l.toArray T listed i=true:=by kernel_rfl) (hQ:∀ c a w,Q (.panic c) (a.put oi.dst v) w→Q (.panic c) a w:=by exact fun _ _ _ h=>h) (hw:Region.wanted oi (yielded l.toArray a.tmps)=true:=by rfl):wpUntil P md l.toArray Q S T (fuel+1) listed a w:=until_take i hd hB hQ hw hy hS h
theorem pUr {l:List Oper} (i:Nat) {oi:Oper} {rest:List Oper} {v:Value} {fuel:Nat} {listed:Array Bool} {a:Act} {w:World} (hy:∀ w,(execOp a.eval oi).run P w=.ok (.value v) w) (h:wpUntil P md l.toArray Q S T fuel (listed.setIfInBounds i true) (a.put oi.dst v) w) (hd:l.drop i=oi::rest:=by rfl) (hB:pureB md l.toArray listed i=true:=by kernel_rfl) (hQ:∀ c a w,Q (.panic c) (a.put oi.dst v) w→Q (.panic c) a w:=by exact fun _ _ _ h=>h) (hw:Region.wanted oi (yielded l.toArray a.tmps)=true:=by rfl):wpUntil P md l.toArray Q S T (fuel+1) listed a w:=until_pure i hd hB hQ hw hy h
theorem uNe {l:List Oper} (i:Nat) {oi:Oper} {rest:List Oper} {fuel:Nat} {listed:Array Bool} {a:Act} {w:World} (h:∀ K:Act→World→Prop,Shut (∀ a' w',(T i=false→S w→S w')→wpUntil P md l.toArray Q S T fuel (listed.setIfInBounds i true) a' w'→K a' w')→if Region.wanted oi (yielded l.toArray a.tmps)=true then Oper.wp P oi a w K Q else K (a.put oi.dst undef) w) (hd:l.drop i=oi::rest:=by rfl) (hr:Region.ready md l.toArray listed=[i]:=by kernel_rfl):wpUntil P md l.toArray Q S T (fuel+1) listed a w:=until_one i hd hr h
end
theorem zQ1 {α:Type} (l:List α) (i:Nat) (a:α):l.toArray.setIfInBounds i a=(l.set i a).toArray:=List.setIfInBounds_toArray ..
theorem zQ2 {α:Type} (x:α) (l:List α) (a:α):(x::l).set 0 a=a::l:=rfl
theorem zQ3 {α:Type} (x:α) (l:List α) (n:Nat) (a:α):(x::l).set (n+1) a=x::l.set n a:=rfl
section
variable {P:Program} {Q:Exit→Act→World→Prop} {md:Region.Mode} {S:World→Prop} {T:Nat→Bool}
theorem tKf {l:List Oper} (i:Nat) {oi:Oper} {rest:List Oper} {v:Value} {fuel:Nat} {listed:Array Bool} {a b:Act} {w:World} (hS:S w) (h:wpUntil P md l.toArray Q S T fuel (listed.setIfInBounds i true) b w) (hd:l.drop i=oi::rest:=by rfl) (hB:takeB md l.toArray T listed i=true:=by kernel_rfl) (hw:Region.wanted oi (yielded l.toArray a.tmps)=true:=by rfl) (hy:∀ w,S w→(execOp a.eval oi).run P w=.ok (.value v) w:=by intro w hSw;(try dsimp only at hSw);go_simp;try with_reducible rfl) (hb:a.put oi.dst v=b:=by (try simp only[Act.put,zQ1,zQ2,zQ3]);exact rfl) (hQ:∀ c a w,Q (.panic c) (a.put oi.dst v) w→Q (.panic c) a w:=by exact fun _ _ _ h=>h):wpUntil P md l.toArray Q S T (fuel+1) listed a w:=until_take i hd hB hQ hw hy hS (hb ▸ h)
theorem pUf {l:List Oper} (i:Nat) {oi:Oper} {rest:List Oper} {v:Value} {fuel:Nat} {listed:Array Bool} {a b:Act} {w:World} (h:wpUntil P md l.toArray Q S T fuel (listed.setIfInBounds i true) b w) (hd:l.drop i=oi::rest:=by rfl) (hB:pureB md l.toArray listed i=true:=by kernel_rfl) (hw:Region.wanted oi (yielded l.toArray a.tmps)=true:=by rfl) (hy:∀ w,(execOp a.eval oi).run P w=.ok (.value v) w:=by intro w;go_simp;try with_reducible rfl) (hb:a.put oi.dst v=b:=by (try simp only[Act.put,zQ1,zQ2,zQ3]);exact rfl) (hQ:∀ c a w,Q (.panic c) (a.put oi.dst v) w→Q (.panic c) a w:=by exact fun _ _ _ h=>h):wpUntil P md l.toArray Q S T (fuel+1) listed a w:=until_pure i hd hB hQ hw hy (hb ▸ h)
end
end Go.Proofs.YtedmdilabbolaaaGreatDoor
namespace Go.Proofs.YtedmdilabbolaaaGreatDoor
open Go.ChangeShapes Go.WideShapes Go.ChangeAt Go.RowKit Go.PlainAid
set_option linter.unusedVariables false
theorem Tryz.infoPt:(Tryz.prog.info? 138).map (fun i=>(i.zero,i.size,i.bytes))=some (some (.agg #[.int .i64 0,.int .i64 0]),2,16):=by kernel_rfl
end Go.Proofs.YtedmdilabbolaaaGreatDoor
namespace Go.Proofs.YtedmdilabbolaaaGreatDoor
open Go.ChangeShapes Go.WideShapes Go.ChangeAt Go.RowKit Go.PlainAid
set_option linter.unusedVariables false
def Apart (u v:Value):Prop:=∀ g,u.ownBlock=some g→v.ownBlock≠some g
theorem Apart.symm {u v:Value} (h:Apart u v):Apart v u:=fun g h1 h2=>h g h2 h1
theorem Apart.of {w w':World} {b:Nat} {e:TypeId} {sz:Nat} {u v:Value} {r r':List (List Value)} (h:Owns w b e sz u r) (h':Owns w' w.heap.size e sz v r'):Apart u v:=fun g h1 h2=>by
 have:=(h.lt g h1).2
 have:=(h'.lt g h2).1
 omega
section
variable {H:Type} {enc:TypeId×Value→H} {P:Program} {w:World} {base:Nat} {spare:Nat→Bool} {held:Bool}
end
section
variable {H:Type} {enc:TypeId×Value→H} {w:World} {base:Nat} {spare:Nat→Bool} {held:Bool}
end
end Go.Proofs.YtedmdilabbolaaaGreatDoor
namespace Go.Proofs.YtedmdilabbolaaaGreatDoor
open Go.RowKit Go.PlainAid
structure Ser where
 key:ByteArray
 pts:List Pnt
instance:Inhabited Ser:=⟨⟨⟨#[]⟩,[]⟩⟩
theorem Ser.same {x y:Ser} (h1:x.key=y.key) (h2:x.pts=y.pts):x=y:=by
 cases x
 cases y
 simp only at h1 h2
 subst h1
 subst h2
 rfl
instance:Inhabited (Ser×Value):=⟨⟨default,.slice none 0 0⟩⟩
def srC (p:Ser×Value):List Value:=[.string p.1.key,p.2]
def srR (L:List (Ser×Value)):List (List Value):=L.map srC
theorem sr_look {w:World} {B:Nat} {v:Value} {L:List (Ser×Value)} (h:Lies w B 2 v (srR L)):∃ A cap,v=.slice A L.length cap∧∀ j,j<L.length→∃ g off,A=some ⟨g,off,none⟩∧g<B ∧
  w.cell? ⟨g,off+j*2,none⟩=some (.string (L.getD j default).1.key)∧w.cell? ⟨g,off+j*2+1,none⟩=some (L.getD j default).2:=by
 obtain ⟨A,cap,e,h⟩:=h.look
 refine ⟨A,cap,by rw[e];simp[srR],fun j hj=>?_⟩
 rw[← getD_at L j hj]
 obtain ⟨g,off,e,hg,hc⟩:=h j (by simpa[srR] using hj)
 refine ⟨g,off,e,hg,?_,?_⟩
 ·have:=hc 0 _ (by omega) (by simp[srR,srC];rfl);simpa[Nat.add_assoc] using this
 ·have:=hc 1 _ (by omega) (by simp[srR,srC];rfl);simpa[Nat.add_assoc] using this
def SerL (w:World) (B:Nat) (v:Value) (L:List (Ser×Value)):Prop:=Lies w B 2 v (srR L)∧∀ p∈L,Lies w B 2 p.2 (ptR p.1.pts)
theorem SerL.on {w w':World} {B:Nat} {v:Value} {L:List (Ser×Value)} (h:SerL w B v L) (hb:Below B w w'):SerL w' B v L:=⟨h.1.on hb,fun p hp=>(h.2 p hp).on hb⟩
theorem SerL.mono {w:World} {B C:Nat} {v:Value} {L:List (Ser×Value)} (h:SerL w B v L) (hB:B≤C):SerL w C v L:=⟨h.1.mono hB,fun p hp=>(h.2 p hp).mono hB⟩
theorem SerL.heap {w w':World} {B:Nat} {v:Value} {L:List (Ser×Value)} (h:SerL w B v L) (hh:w'.heap=w.heap):SerL w' B v L:=⟨h.1.heap hh,fun p hp=>(h.2 p hp).heap hh⟩
def SerV (w:World) (B:Nat) (v:Value) (l:List Ser):Prop:=∃ L:List (Ser×Value),L.map Prod.fst=l∧SerL w B v L
theorem SerV.on {w w':World} {B:Nat} {v:Value} {l:List Ser} (h:SerV w B v l) (hb:Below B w w'):SerV w' B v l:=h.imp fun _ h=>⟨h.1,h.2.on hb⟩
theorem SerV.mono {w:World} {B C:Nat} {v:Value} {l:List Ser} (h:SerV w B v l) (hB:B≤C):SerV w C v l:=h.imp fun _ h=>⟨h.1,h.2.mono hB⟩
theorem SerV.heap {w w':World} {B:Nat} {v:Value} {l:List Ser} (h:SerV w B v l) (hh:w'.heap=w.heap):SerV w' B v l:=h.imp fun _ h=>⟨h.1,h.2.heap hh⟩
theorem SerV.look {w:World} {B:Nat} {v:Value} {l:List Ser} (h:SerV w B v l):∃ A cap,v=.slice A l.length cap∧∀ j,j<l.length→∃ g off u,A=some ⟨g,off,none⟩∧g<B ∧
  w.cell? ⟨g,off+j*2,none⟩=some (.string (l.getD j default).key)∧w.cell? ⟨g,off+j*2+1,none⟩=some u∧Lies w B 2 u (ptR (l.getD j default).pts):=by
 obtain ⟨L,rfl,h,hp⟩:=h
 obtain ⟨A,cap,e,hl⟩:=sr_look h
 refine ⟨A,cap,by rw[e];simp,fun j hj=>?_⟩
 have hj':j<L.length:=by simpa using hj
 obtain ⟨g,off,e,hg,h1,h2⟩:=hl j hj'
 have hd:(L.map Prod.fst).getD j default=(L.getD j default).1:=by rw[← getD_at _ j hj,← getD_at _ j hj',List.getElem_map]
 rw[hd]
 exact ⟨g,off,_,e,hg,h1,h2,hp _ (getD_mem L j hj')⟩
end Go.Proofs.YtedmdilabbolaaaGreatDoor
namespace Go.Proofs.YtedmdilabbolaaaGreatDoor
open Go.RowKit Go.PlainAid
def KOk (s:ByteArray):Prop:=1≤s.size∧s.size≤8∧∀ j,j<s.size→97≤bn s j∧bn s j≤122
def ahd (a b:ByteArray):Bool:=Op.bytesLess a.toList b.toList
theorem toList_inj {a b:ByteArray} (h:a.toList=b.toList):a=b:=by
 rw[Lib.toList_data,Lib.toList_data] at h
 rw[← txt_toList a,← txt_toList b,h]
def sAt (l:List Ser) (j:Nat):Ser:=l.getD j default
def SOk (l:List Ser):Prop:=l.length≤5∧∀ j,j<l.length→(KOk (sAt l j).key∧(0<j→ahd (sAt l (j - 1)).key (sAt l j).key=true))∧1≤(sAt l j).pts.length∧POk (sAt l j).pts
instance (s:ByteArray):Decidable (KOk s):=by unfold KOk;infer_instance
instance (l:List Ser):Decidable (SOk l):=by unfold SOk;infer_instance
theorem SOk.nil:SOk []:=⟨by simp,fun j hj=>by simp at hj⟩
end Go.Proofs.YtedmdilabbolaaaGreatDoor
namespace Go.Proofs.YtedmdilabbolaaaGreatDoor
open Go
theorem until_skip {P:Program} {Q:Exit→Act→World→Prop} {md:Region.Mode} {S:World→Prop} {T:Nat→Bool} {l:List Oper} (i:Nat) {oi:Oper} {rest:List Oper} {fuel:Nat} {listed:Array Bool} {a:Act} {w:World} (hd:l.drop i=oi::rest) (hB:pureB md l.toArray listed i=true)
  (hQ:∀ c a w,Q (.panic c) (a.put oi.dst undef) w→Q (.panic c) a w) (hw:Region.wanted oi (yielded l.toArray a.tmps)=false)
  (h:wpUntil P md l.toArray Q S T fuel (listed.setIfInBounds i true) (a.put oi.dst undef) w):wpUntil P md l.toArray Q S T (fuel+1) listed a w:=by
 unfold pureB at hB
 simp only[Bool.and_eq_true] at hB
 obtain ⟨⟨hs,hf⟩,hr⟩:=hB
 exact wpUntil_pure (drop_at hd) (Region.noSelect_spec hs) hQ fuel listed a w (Region.free_spec (drop_at hd) hf) (by simpa using hr) (.inr ⟨hw,rfl⟩) h
theorem sKi {P:Program} {Q:Exit→Act→World→Prop} {md:Region.Mode} {S:World→Prop} {T:Nat→Bool} {l:List Oper} (i:Nat) {oi:Oper} {rest:List Oper} {fuel:Nat} {listed:Array Bool} {a:Act} {w:World} (h:wpUntil P md l.toArray Q S T fuel (listed.setIfInBounds i true) (a.put oi.dst undef) w) (hd:l.drop i=oi::rest:=by rfl) (hB:pureB md l.toArray listed i=true:=by kernel_rfl) (hQ:∀ c a w,Q (.panic c) (a.put oi.dst undef) w→Q (.panic c) a w:=by exact fun _ _ _ h=>h) (hw:Region.wanted oi (yielded l.toArray a.tmps)=false:=by rfl):wpUntil P md l.toArray Q S T (fuel+1) listed a w:=until_skip i hd hB hQ hw h
theorem sKf {P:Program} {Q:Exit→Act→World→Prop} {md:Region.Mode} {S:World→Prop} {T:Nat→Bool} {l:List Oper} (i:Nat) {oi:Oper} {rest:List Oper} {fuel:Nat} {listed:Array Bool} {a b:Act} {w:World} (h:wpUntil P md l.toArray Q S T fuel (listed.setIfInBounds i true) b w) (hd:l.drop i=oi::rest:=by rfl) (hB:pureB md l.toArray listed i=true:=by kernel_rfl) (hw:Region.wanted oi (yielded l.toArray a.tmps)=false:=by rfl) (hb:a.put oi.dst undef=b:=by (try simp only[Act.put,zQ1,zQ2,zQ3]);exact rfl) (hQ:∀ c a w,Q (.panic c) (a.put oi.dst undef) w→Q (.panic c) a w:=by exact fun _ _ _ h=>h):wpUntil P md l.toArray Q S T (fuel+1) listed a w:=until_skip i hd hB hQ hw (hb ▸ h)
end Go.Proofs.YtedmdilabbolaaaGreatDoor
namespace Go.Proofs.YtedmdilabbolaaaGreatDoor
set_option linter.unusedVariables false
section
variable {P:Program} {Q:Exit→Act→World→Prop} {md:Region.Mode} {S:World→Prop} {T:Nat→Bool}
theorem tF {l:List Oper} (i:Nat) {oi:Oper} {rest:List Oper} {v:Value} {fuel:Nat} {listed:Array Bool} {a b:Act} {w:World} (hS:S w) (h:wpUntil P md l.toArray Q S T fuel (listed.setIfInBounds i true) b w) (hd:l.drop i=oi::rest:=by rfl) (hB:takeB md l.toArray T listed i=true:=by kernel_rfl) (hw:Region.wanted oi (yielded l.toArray a.tmps)=true:=by rfl) (hy:∀ w,S w→(execOp a.eval oi).run P w=.ok (.value v) w:=by intro w hSw;(try dsimp only at hSw);go_simp;try with_reducible rfl) (hb:a.put oi.dst v=b:=by (try simp only[Act.put,zQ1,zQ2,zQ3]);exact rfl) (hQ:∀ c a w,Q (.panic c) (a.put oi.dst v) w→Q (.panic c) a w:=by exact fun _ _ _ h=>h):wpUntil P md l.toArray Q S T (fuel+1) listed a w:=until_take i hd hB hQ hw hy hS (hb ▸ h)
theorem pF {l:List Oper} (i:Nat) {oi:Oper} {rest:List Oper} {v:Value} {fuel:Nat} {listed:Array Bool} {a b:Act} {w:World} (h:wpUntil P md l.toArray Q S T fuel (listed.setIfInBounds i true) b w) (hd:l.drop i=oi::rest:=by rfl) (hB:pureB md l.toArray listed i=true:=by kernel_rfl) (hw:Region.wanted oi (yielded l.toArray a.tmps)=true:=by rfl) (hy:∀ w,(execOp a.eval oi).run P w=.ok (.value v) w:=by intro w;go_simp;try with_reducible rfl) (hb:a.put oi.dst v=b:=by (try simp only[Act.put,zQ1,zQ2,zQ3]);exact rfl) (hQ:∀ c a w,Q (.panic c) (a.put oi.dst v) w→Q (.panic c) a w:=by exact fun _ _ _ h=>h):wpUntil P md l.toArray Q S T (fuel+1) listed a w:=until_pure i hd hB hQ hw hy (hb ▸ h)
theorem sF {l:List Oper} (i:Nat) {oi:Oper} {rest:List Oper} {fuel:Nat} {listed:Array Bool} {a b:Act} {w:World} (h:wpUntil P md l.toArray Q S T fuel (listed.setIfInBounds i true) b w) (hd:l.drop i=oi::rest:=by rfl) (hB:pureB md l.toArray listed i=true:=by kernel_rfl) (hw:Region.wanted oi (yielded l.toArray a.tmps)=false:=by rfl) (hb:a.put oi.dst undef=b:=by (try simp only[Act.put,zQ1,zQ2,zQ3]);exact rfl) (hQ:∀ c a w,Q (.panic c) (a.put oi.dst undef) w→Q (.panic c) a w:=by exact fun _ _ _ h=>h):wpUntil P md l.toArray Q S T (fuel+1) listed a w:=until_skip i hd hB hQ hw (hb ▸ h)
end
end Go.Proofs.YtedmdilabbolaaaGreatDoor
namespace Go.Proofs.YtedmdilabbolaaaGreatDoor
open Go.ChangeShapes Go.WideShapes Go.ChangeAt Go.RowKit Go.PlainAid
set_option linter.unusedVariables false
theorem dec_of {p:Prop} [Decidable p] (b:Bool) (h:b=true↔p):decide p=b:=by
 cases b
 ·exact decide_eq_false fun hp=>by simp[hp] at h
 ·exact decide_eq_true (h.1 rfl)
set_option maxHeartbeats 1000000 in
theorem implPointsOk (l:List Pnt) (v:Value) (w:World) (B:Nat) (hv:Lies w B 2 v (ptR l)) (hn:l.length≤1048576) (hB:B≤w.heap.size):Calls Tryz.prog 166 #[v] w fun e w'=>e=.returned (.bool (decide (POk l)))∧Below w.heap.size w w':=by
 obtain ⟨A,cap,rfl,hl⟩:=pt_look hv
 have HL:Hid (∀ j,j<l.length→∃ g off,A=some ⟨g,off,none⟩∧g<B∧w.cell? ⟨g,off+j*2,none⟩=some (.int .i64 (tAt l j))∧w.cell? ⟨g,off+j*2+1,none⟩=some (.int .i64 (vAt l j))):=hl
 have HB:Hid (B≤w.heap.size):=hB
 have HD:Hid (∀ b,(b=true↔POk l)→decide (POk l)=b):=fun b hb=>dec_of b hb
 have HV:Hid (POk l↔l.length≤60∧∀ j,j<l.length→((0≤tAt l j∧tAt l j≤1099511627776)∧(-1099511627776≤vAt l j∧vAt l j≤1099511627776))∧(0<j→tAt l (j - 1)<tAt l j)):=Iff.rfl
 have q0:(l.length:Int)≤1048576:=by omega
 clear hl hn hv hB
 generalize hN:l.length=n at *
 clear hN
 by_cases h2:(60:Int)<(n:Int)
 ·go_enter Tryz.func166,Tryz.ntmps166
  go_wp2
  go_ret
  refine ⟨?_,Below.refl _ _⟩
  rw[HD.out false]
  ·rfl
  rw[HV.out]
  exact ⟨fun h=>(by cases h),fun h=>by omega⟩
 have q1:(n:Int)≤60:=by omega
 clear h2
 go_enter Tryz.func166,Tryz.ntmps166
 go_wp2
 go_loopw [3,11] (fun v3 v11 wr=>∃ (k:Nat) (m:Int),k≤n∧v11=.int .i64 (k:Int)∧v3=.int .i64 m∧0≤m∧m≤1099511627777∧Hid ((k=0→m=0)∧(0<k→m=tAt l (k - 1)+1))∧Below w.heap.size w wr∧Hid (∀ j,j<k→((0≤tAt l j∧tAt l j≤1099511627776)∧(-1099511627776≤vAt l j∧vAt l j≤1099511627776))∧(0<j→tAt l (j - 1)<tAt l j))) (fun _ i _=>n - (intOf i).toNat)
 case atStart=>exact ⟨0,0,by omega,rfl,rfl,by omega,by omega,⟨fun _=>rfl,fun h=>by omega⟩,Below.refl _ _,fun j hj=>by omega⟩
 case round =>
  obtain ⟨k,m,hk,rfl,rfl,hm0,hm1,HM,hb,HJ⟩:=hrel
  have HB1:Hid (Below w.heap.size w wr):=hb
  clear hb
  by_cases hlt:k<n
  ·have q2:(k:Int)<(n:Int):=by omega
   obtain ⟨g,off,rfl,hg,e1,e2⟩:=HL.out k hlt
   have hgw:g<w.heap.size:=Nat.lt_of_lt_of_le hg HB.out
   rw[← HB1.out.cell (p:=⟨_,_,none⟩) hgw] at e1
   rw[← HB1.out.cell (p:=⟨_,_,none⟩) hgw] at e2
   have HBa:Hid (∀ cs cs':Array Value,Below w.heap.size w ((wr.alloc (.cells cs 138)))):=fun cs _=>HB1.out.alloc HB1.out.size _
   generalize hx:tAt l k=x at *
   have HX:Hid (tAt l k=x):=hx
   clear hx
   generalize hy:vAt l k=y at *
   have HY:Hid (vAt l k=y):=hy
   clear hy hgw hg
   have HNo:Hid ((x<m∨1099511627776<x∨y < -1099511627776∨1099511627776<y)→decide (POk l)=false):=fun h=>by
    apply HD.out
    rw[HV.out]
    refine ⟨fun h=>(by cases h),fun h2=>?_⟩
    have h3:=h2.2 k hlt
    rw[HX.out,HY.out] at h3
    have h4:=HM.out
    by_cases h0:k=0
    ·have:=h4.1 h0;omega
    ·have:=h4.2 (by omega);have:=h3.2 (by omega);omega
   by_cases c1:x<m
   ·skip
    go_wp2
    go_ret
    exact ⟨by rw[HNo.out (.inl c1)];rfl,HBa.out _ #[]⟩
   by_cases c2:1099511627776<x
   ·skip
    go_wp2
    go_ret
    exact ⟨by rw[HNo.out (.inr (.inl c2))];rfl,HBa.out _ #[]⟩
   by_cases c3:y < -1099511627776
   ·skip
    go_wp2
    go_ret
    exact ⟨by rw[HNo.out (.inr (.inr (.inl c3)))];rfl,HBa.out _ #[]⟩
   by_cases c4:1099511627776<y
   ·skip
    go_wp2
    go_ret
    exact ⟨by rw[HNo.out (.inr (.inr (.inr c4)))];rfl,HBa.out _ #[]⟩
   go_wp2
   go_roundw
   case rel =>
    refine ⟨k+1,x+1,by omega,by go_num,by go_num,by omega,by omega,⟨fun h=>by omega,fun _=>by rw[Nat.add_sub_cancel,HX.out]⟩,HBa.out _ #[],fun j hj=>?_⟩
    by_cases e:j=k
    ·subst e
     rw[HX.out,HY.out]
     have h4:=HM.out
     refine ⟨⟨⟨by omega,by omega⟩,by omega,by omega⟩,fun h=>?_⟩
     have:=h4.2 h
     omega
    ·exact HJ.out j (by omega)
   case measure=>simp[intOf];omega
  ·have hkk:k=n:=by omega
   subst hkk
   go_wp2
   go_ret
   refine ⟨?_,HB1.out⟩
   rw[HD.out true]
   ·rfl
   rw[HV.out]
   exact ⟨fun _=>⟨by omega,HJ.out⟩,fun _=>rfl⟩
end Go.Proofs.YtedmdilabbolaaaGreatDoor
namespace Go.Proofs.YtedmdilabbolaaaGreatDoor
open Go.Shelf Go.RowKit
set_option linter.unusedVariables false
def bldRen:Go.Shelf.Ren:=⟨fun | 166=>178 | 169=>181 | 240=>187 | 276=>190 | f=>f,fun | 20=>20 | 37=>48 | 70=>206 | 72=>208 | 75=>191 | 80=>211 | 127=>189 | 164=>231 | t=>t,fun g=>g⟩
theorem bld_lays166:Go.Proofs.Lays.n166 Tryz.prog bldRen where
 mixed:=by kernel_rfl
 f166:=Tryz.func178.trans (congrArg some (by kernel_rfl))
 f240:=Tryz.func187.trans (congrArg some (by kernel_rfl))
 f276:=Tryz.func190.trans (congrArg some (by kernel_rfl))
 t0:=Tryz.underlying0
 a0:=Tryz.isAgg0
 z0:=Tryz.sizeOf0
 v0:=Tryz.zeroValue0
 t3:=Tryz.underlying3
 a3:=Tryz.isAgg3
 z3:=Tryz.sizeOf3
 v3:=Tryz.zeroValue3
 t4:=Tryz.underlying4
 a4:=Tryz.isAgg4
 z4:=Tryz.sizeOf4
 v4:=Tryz.zeroValue4
 t9:=Tryz.underlying9
 a9:=Tryz.isAgg9
 z9:=Tryz.sizeOf9
 v9:=Tryz.zeroValue9
 t20:=Tryz.underlying20
 a20:=Tryz.isAgg20
 z20:=Tryz.sizeOf20
 v20:=Tryz.zeroValue20
 t37:=Tryz.underlying48
 a37:=Tryz.isAgg48
 z37:=Tryz.sizeOf48
 v37:=Tryz.zeroValue48
 t70:=Tryz.underlying206
 a70:=Tryz.isAgg206
 z70:=Tryz.sizeOf206
 v70:=Tryz.zeroValue206
 t72:=Tryz.underlying208
 a72:=Tryz.isAgg208
 z72:=Tryz.sizeOf208
 v72:=Tryz.zeroValue208
 t75:=Tryz.underlying191
 a75:=Tryz.isAgg191
 z75:=Tryz.sizeOf191
 v75:=Tryz.zeroValue191
 t164:=Tryz.underlying231
 a164:=Tryz.isAgg231
 z164:=Tryz.sizeOf231
 v164:=Tryz.zeroValue231
theorem bld_lays169:Go.Proofs.Lays.n169 Tryz.prog bldRen where
 mixed:=by kernel_rfl
 f169:=Tryz.func181.trans (congrArg some (by kernel_rfl))
 t0:=Tryz.underlying0
 a0:=Tryz.isAgg0
 z0:=Tryz.sizeOf0
 v0:=Tryz.zeroValue0
 t3:=Tryz.underlying3
 a3:=Tryz.isAgg3
 z3:=Tryz.sizeOf3
 v3:=Tryz.zeroValue3
 t9:=Tryz.underlying9
 a9:=Tryz.isAgg9
 z9:=Tryz.sizeOf9
 v9:=Tryz.zeroValue9
 t37:=Tryz.underlying48
 a37:=Tryz.isAgg48
 z37:=Tryz.sizeOf48
 v37:=Tryz.zeroValue48
 t70:=Tryz.underlying206
 a70:=Tryz.isAgg206
 z70:=Tryz.sizeOf206
 v70:=Tryz.zeroValue206
 t72:=Tryz.underlying208
 a72:=Tryz.isAgg208
 z72:=Tryz.sizeOf208
 v72:=Tryz.zeroValue208
 t127:=Tryz.underlying189
 a127:=Tryz.isAgg189
 z127:=Tryz.sizeOf189
 v127:=Tryz.zeroValue189
theorem bld_extra:Go.Proofs.Builder.Extra Tryz.prog bldRen where
 sizeBuilder:=by kernel_rfl
 liesBuilder:=by kernel_rfl
 t5:=Tryz.underlying5
 a5:=Tryz.isAgg5
 z5:=Tryz.sizeOf5
 v5:=Tryz.zeroValue5
 infoByte:=by kernel_rfl
 cellsByte:=by kernel_rfl
 sizeByte:=by kernel_rfl
 neB5:=by decide
theorem bldWrite (B b:Nat) (bs:List Value) (s:ByteArray) (w:World) (h:Lib.IsBuilderF 208 5 B b bs w) (hlen:bs.length+s.size≤140737488355328) (hBw:B≤w.heap.size) :
  Calls Tryz.prog 178 #[.pointer (some ⟨b,0,none⟩),.string s] w fun e w'=>e=.returned (.tuple #[.int .i64 s.size,.nilIface])∧(Lib.BuilderAtF 208 5 B b (.pointer (some ⟨b,0,none⟩)) (bs++Lib.strCells s) w'∧Below B w w'∧Lib.OthersKept 5 (some b) w w'):=Any.Builder_WriteString_k bld_lays166 bld_extra B b bs s w h hlen hBw
theorem bldString (B b:Nat) (l:List UInt8) (w:World) (h:Lib.IsBuilderF 208 5 B b (Lib.byteCells l) w) (hBw:B≤w.heap.size) :
  Calls Tryz.prog 181 #[.pointer (some ⟨b,0,none⟩)] w fun e w'=>e=.returned (.string ⟨l.toArray⟩)∧(Lib.IsBuilderF 208 5 B b (Lib.byteCells l) w'∧Below B w w'∧Lib.OthersKept 5 (some b) w w'):=Any.Builder_String_any_k bld_lays169 bld_extra B b l w h hBw
end Go.Proofs.YtedmdilabbolaaaGreatDoor
namespace Go.Proofs.YtedmdilabbolaaaGreatDoor
open Go.RowKit Go.PlainAid
theorem run_append_row {P:Program} (w:World) (t ty e:TypeId) (z:Value) (sz bytes:Nat)
  (ht:P.underlying t=some (.slice e)) (hinfo:(P.info? e).map (fun i=>(i.zero,i.size,i.bytes))=some (some z,sz,bytes)) (hzs:z.cells.size=sz) (hsz:0<sz)
  (base:Nat) (v:Value) (rows:List (List Value)) (hown:Owns w base e sz v rows) (r:List Value) (hr:r.length=sz) (h1:∀ u∈r,u.oneCell'=true)
  (hlen:rows.length≤2097152) (hby:bytes≤1000) (hbase:base≤w.heap.size) :
  ∃ A m c w',(Builtin.append_ #[t,t] ty #[v,.slice (some ⟨w.heap.size,0,none⟩) 1 1]).run P (w.alloc (.cells r.toArray e))=.ok (.slice A m c) w'∧Owns w' base e sz (.slice A m c) (rows++[r])∧Below base w w'∧(∀ g,g<w.heap.size→v.ownBlock≠some g→w'.heap[g]?=w.heap[g]?)∧((Value.slice A m c).ownBlock=v.ownBlock∨∀ g,(Value.slice A m c).ownBlock=some g→w.heap.size≤g):=by
 obtain ⟨i0,hi,hz0,hz1,hz2⟩:=info_parts hinfo
 have hb1:(rows.length+1)*bytes≤140737488355328:=Nat.le_trans (Nat.mul_le_mul (show rows.length+1≤2097153 by omega) hby) (by omega)
 have hnews:∀ j u,r[j]?=some u→(w.alloc (.cells r.toArray e)).cell? ((⟨w.heap.size,0,none⟩:Addr).add j)=some u:=by
  intro j u hj
  have e1:(⟨w.heap.size,0,none⟩:Addr).add j=⟨w.heap.size,j,none⟩:=by cases j<;>simp[Addr.add]
  rw[e1,World.cell?_alloc_mark]
  simpa using hj
 obtain ⟨v',w',hrun,h2,h3,_⟩:=run_append_own (P:=P) (w.alloc (.cells r.toArray e)) base t ty e i0 z sz bytes ht hi hz0 hz1 hz2 hzs hsz v rows.length rows.flatten (World.ownsRow.alloc hown.2 _) ⟨w.heap.size,0,none⟩ 1 1 r (by rw[hr];omega) hnews h1 (by unfold maxLen;omega) hb1 (by simp;omega)
 have h5:=run_append_where (P:=P) (w.alloc (.cells r.toArray e)) base t ty e i0 z sz bytes ht hi hz0 hz1 hz2 v rows.length rows.flatten (World.ownsRow.alloc hown.2 _) ⟨w.heap.size,0,none⟩ 1 1 r (by rw[hr];omega) hnews h1 (by unfold maxLen;omega) hb1 v' w' hrun
 have hb0:∀ k,v.ownBlock=some k→base≤k:=fun k hk=>(hown.lt k hk).1
 have hO:Owns w' base e sz v' (rows++[r]):=by
  refine ⟨?_,?_⟩
  ·intro y hy
   rcases List.mem_append.1 hy with hy | hy
   ·exact hown.1 y hy
   ·rw[List.mem_singleton.1 hy];exact hr
  ·rw[List.length_append,List.flatten_append]
   simpa using h2
 obtain ⟨A,m,c,rfl⟩:=hO.shape
 refine ⟨A,m,c,w',hrun,hO,((Below.refl base w).alloc hbase _).grown h3 (by simp;omega) hb0,?_,h5.imp id fun e g hg=>by rw[e] at hg;cases hg;simp⟩
 intro g hg hne
 rw[h3.block g (by simp;omega) (fun e=>hne e.symm)]
 exact Below.heap_alloc w _ g hg
theorem step_append_run {P:Program} {ops:Array Oper} {o:Oper} {a:Act} {w:World} {K:Act→World→Prop} {Q:Exit→Act→World→Prop} {E:Prop}
  (hg:o.guard=none) (s x:Operand) (t:TypeId) (hop:o.op=Op.call { callee:=Callee.builtin Builtin.append,args:=#[s,x],argTypes:=#[t,t] })
  (v y r:Value) (w':World) (hs:a.eval s=v) (hx:a.eval x=y) (hrun:(Builtin.append_ #[t,t] o.type #[v,y]).run P w=.ok r w') (hK:K (a.put o.dst r) w') :
  if Region.wanted o (yielded ops a.tmps)=true then Oper.wp P o a w K Q else E:=by
 have hw:Region.wanted o (yielded ops a.tmps)=true:=by simp[Region.wanted,hg]
 rw[if_pos hw]
 unfold Oper.wp
 simp[execOp,hop,resolve,invoke,builtin,hs,hx,hrun,Result.andThen]
 exact hK
end Go.Proofs.YtedmdilabbolaaaGreatDoor
namespace Go.Proofs.YtedmdilabbolaaaGreatDoor
open Go.RowKit
def cloneRen:Go.Shelf.Ren:=⟨fun _=>138,fun | 37=>48 | 47=>189 | t=>t,fun g=>g⟩
theorem clone_lays:Go.Proofs.LaysPu.n25 Tryz.prog cloneRen where
 mixed:=by kernel_rfl
 f25:=Tryz.func138.trans (congrArg some (by kernel_rfl))
 t0:=Tryz.underlying0
 a0:=Tryz.isAgg0
 z0:=Tryz.sizeOf0
 v0:=Tryz.zeroValue0
 i0:=by kernel_rfl
 t3:=Tryz.underlying3
 a3:=Tryz.isAgg3
 z3:=Tryz.sizeOf3
 v3:=Tryz.zeroValue3
 i3:=by kernel_rfl
 t4:=Tryz.underlying4
 a4:=Tryz.isAgg4
 z4:=Tryz.sizeOf4
 v4:=Tryz.zeroValue4
 i4:=by kernel_rfl
 t5:=Tryz.underlying5
 a5:=Tryz.isAgg5
 z5:=Tryz.sizeOf5
 v5:=Tryz.zeroValue5
 i5:=by kernel_rfl
 t9:=Tryz.underlying9
 a9:=Tryz.isAgg9
 z9:=Tryz.sizeOf9
 v9:=Tryz.zeroValue9
 i9:=by kernel_rfl
 t37:=Tryz.underlying48
 a37:=Tryz.isAgg48
 z37:=Tryz.sizeOf48
 v37:=Tryz.zeroValue48
 i37:=by kernel_rfl
 t47:=Tryz.underlying189
 a47:=Tryz.isAgg189
 z47:=Tryz.sizeOf189
 v47:=Tryz.zeroValue189
 i47:=by kernel_rfl
theorem clone (s:ByteArray) (w:World) (hs:s.size≤281474976710656) :
  Calls Tryz.prog 108 #[.string s] w fun e w'=>e=.returned (.string s)∧Below w.heap.size w w':=by
 have c1:Calls Tryz.prog 138 #[.string s] w fun e w'=>e=.returned (.string s)∧Below w.heap.size w w':=AnyPu.stringslite_Clone clone_lays s w hs
 clear hs
 go_enter Tryz.func108,Tryz.ntmps108
 go_wp2_with fail
 refine c1.mono ?_
 rintro e w1 ⟨rfl,hb1⟩
 go_wp2_with fail
 go_ret
 exact ⟨rfl,hb1⟩
end Go.Proofs.YtedmdilabbolaaaGreatDoor
namespace Go.Proofs.YtedmdilabbolaaaGreatDoor
open Go.ChangeShapes Go.WideShapes Go.ChangeAt Go.RowKit Go.PlainAid
set_option linter.unusedVariables false
def wtS1 (x:Ser):Nat:=x.key.size+x.pts.length
def wtS (l:List Ser):Nat:=(l.map wtS1).sum
theorem wtS_mem (l:List Ser) (x:Ser) (h:x∈l):wtS1 x≤wtS l:=by
 induction l with
 | nil=>cases h
 | cons y l ih =>
  unfold wtS at ih ⊢
  rw[List.map_cons,List.sum_cons]
  rcases List.mem_cons.1 h with rfl | h
  ·omega
  ·have:=ih h
   omega
def SShort (l:List Ser):Prop:=l.length≤1048576∧∀ x∈l,x.pts.length≤1048576
theorem SShort.of {l:List Ser} {n:Nat} (h:l.length+wtS l≤n) (hn:n≤1048576):SShort l:=by
 refine ⟨by omega,fun x hx=>?_⟩
 have:=wtS_mem l x hx
 unfold wtS1 at this
 omega
theorem SShort.at {l:List Ser} (h:SShort l) (k:Nat) (hk:k<l.length):(l.getD k default).pts.length≤1048576:=h.2 _ (getD_mem l k hk)
end Go.Proofs.YtedmdilabbolaaaGreatDoor
namespace Go.Proofs.YtedmdilabbolaaaGreatDoor
open Go.ChangeShapes Go.WideShapes Go.ChangeAt Go.RowKit Go.PlainAid
set_option linter.unusedVariables false
set_option maxHeartbeats 1000000 in
theorem implIsKey (s:ByteArray) (w:World) (hs:s.size≤maxLen):Calls Tryz.prog 123 #[.string s] w fun e w'=>e=.returned (.bool (decide (KOk s)))∧w=w':=by
 have hbt:=get_bn s
 have q0:(s.size:Int)≤9223372036854775807:=by unfold maxLen at hs;omega
 have HD:Hid (∀ b,(b=true↔KOk s)→decide (KOk s)=b):=fun b hb=>dec_of b hb
 have HV:Hid (KOk s↔1≤s.size∧s.size≤8∧∀ j,j<s.size→97≤bn s j∧bn s j≤122):=Iff.rfl
 clear hs
 by_cases h0:s.size=0
 ·obtain rfl:s=⟨#[]⟩:=by
   have e:s.data.toList=[]:=List.eq_nil_of_length_eq_zero (by rw[Array.length_toList];exact h0)
   rw[← txt_toList s,e]
   rfl
  clear HV hbt q0 h0
  have he:decide (KOk ⟨#[]⟩)=false:=HD.out false ⟨fun h=>(by cases h),fun h=>absurd h.1 (by simp[ByteArray.size])⟩
  rw[he]
  go_enter Tryz.func123,Tryz.ntmps123
  go_wp2
  go_ret
  exact ⟨rfl,rfl⟩
 have hne:s.toList.isEmpty=false:=by
  rw[Lib.toList_data]
  cases e:s.data.toList with
  | nil=>exact absurd (by rw[ByteArray.size,← Array.length_toList,e];rfl) h0
  | cons a l=>rfl
 have H1:Hid (1≤s.size):=by unfold Hid;omega
 by_cases h2:(8:Int)<(s.size:Int)
 ·go_enter Tryz.func123,Tryz.ntmps123
  go_wp2
  go_ret
  refine ⟨?_,rfl⟩
  rw[HD.out false]
  ·rfl
  rw[HV.out]
  exact ⟨fun h=>(by cases h),fun h=>by omega⟩
 have q1:(s.size:Int)≤8:=by omega
 have q2:decide ((8:Int)<(s.size:Int))=false:=decide_eq_false h2
 clear h2 h0
 go_enter Tryz.func123,Tryz.ntmps123
 go_wp2_with fail
 go_loop [13] (fun v=>∃ k:Nat,k≤s.size∧v=.int .i64 (k:Int)∧Hid (∀ j,j<k→97≤bn s j∧bn s j≤122)) (fun i=>s.size - (intOf i).toNat)
 case atStart=>exact ⟨0,by omega,rfl,fun j hj=>by omega⟩
 case round =>
  obtain ⟨k,hk,rfl,HJ⟩:=hrel
  by_cases hlt:k<s.size
  ·have q4:(k:Int)<(s.size:Int):=by omega
   have r2:=bn_lt s k
   have HNo:Hid ((bn s k<97∨122<bn s k)→decide (KOk s)=false):=fun h=>by
    apply HD.out
    rw[HV.out]
    refine ⟨fun h=>(by cases h),fun h2=>?_⟩
    have:=h2.2.2 k hlt
    omega
   by_cases c2:(bn s k:Int)<97
   ·go_wp2_with fail
    go_ret
    exact ⟨by rw[HNo.out (.inl (by omega))];rfl,rfl⟩
   have d2:decide ((bn s k:Int)<97)=false:=decide_eq_false c2
   by_cases c3:(122:Int)<(bn s k:Int)
   ·go_wp2_with fail
    go_ret
    exact ⟨by rw[HNo.out (.inr (by omega))];rfl,rfl⟩
   have d3:decide ((122:Int)<(bn s k:Int))=false:=decide_eq_false c3
   go_wp2_with fail
   go_round
   case rel =>
    refine ⟨k+1,by omega,by go_num,fun j hj=>?_⟩
    by_cases e:j=k
    ·rw[e]
     omega
    ·exact HJ.out j (by omega)
   case measure=>simp[intOf];omega
  ·obtain rfl:k=s.size:=by omega
   go_wp2_with fail
   go_ret
   refine ⟨?_,rfl⟩
   rw[HD.out true]
   ·rfl
   rw[HV.out]
   exact ⟨fun _=>⟨H1.out,by omega,HJ.out⟩,fun _=>rfl⟩
set_option maxHeartbeats 1000000 in
theorem specKey (s:ByteArray) (w:World) (hs:s.size≤maxLen):Calls Tryz.prog 79 #[.string s] w fun e w'=>e=.returned (.bool (decide (KOk s)))∧w=w':=by
 have hbt:=get_bn s
 have q0:(s.size:Int)≤9223372036854775807:=by unfold maxLen at hs;omega
 have HD:Hid (∀ b,(b=true↔KOk s)→decide (KOk s)=b):=fun b hb=>dec_of b hb
 have HV:Hid (KOk s↔1≤s.size∧s.size≤8∧∀ j,j<s.size→97≤bn s j∧bn s j≤122):=Iff.rfl
 clear hs
 by_cases h2:(s.size:Int)<1∨(8:Int)<(s.size:Int)
 ·have c1:=fun wx=>in_no (s.size:Int) 1 8 wx h2
  have H2:Hid ((s.size:Int)<1∨(8:Int)<(s.size:Int)):=h2
  clear h2
  go_enter Tryz.func79,Tryz.ntmps79
  go_wp2_with fail
  refine (c1 _).mono ?_
  rintro e w' ⟨rfl,rfl⟩
  go_wp2_with fail
  go_ret
  refine ⟨?_,rfl⟩
  rw[HD.out false]
  ·rfl
  rw[HV.out]
  have:=H2.out
  exact ⟨fun h=>(by cases h),fun h=>by omega⟩
 have c1:=fun wx=>in_yes (s.size:Int) 1 8 wx (by omega) (by omega)
 have q1:(s.size:Int)≤8:=by omega
 have H1:Hid (1≤s.size):=by unfold Hid;omega
 clear h2
 go_enter Tryz.func79,Tryz.ntmps79
 go_wp2_with fail
 refine (c1 _).mono ?_
 rintro e w' ⟨rfl,rfl⟩
 go_wp2_with fail
 go_loop [3] (fun v=>∃ k:Nat,k≤s.size∧v=.int .i64 (k:Int)∧Hid (∀ j,j<k→97≤bn s j∧bn s j≤122)) (fun i=>s.size - (intOf i).toNat)
 case atStart=>exact ⟨0,by omega,rfl,fun j hj=>by omega⟩
 case round =>
  obtain ⟨k,hk,rfl,HJ⟩:=hrel
  by_cases hlt:k<s.size
  ·have q4:(k:Int)<(s.size:Int):=by omega
   have r2:=bn_lt s k
   have HNo:Hid ((bn s k<97∨122<bn s k)→decide (KOk s)=false):=fun h=>by
    apply HD.out
    rw[HV.out]
    refine ⟨fun h=>(by cases h),fun h2=>?_⟩
    have:=h2.2.2 k hlt
    omega
   by_cases c2:(bn s k:Int)<97
   ·go_wp2_with fail
    go_ret
    exact ⟨by rw[HNo.out (.inl (by omega))];rfl,rfl⟩
   have d2:decide ((bn s k:Int)<97)=false:=decide_eq_false c2
   by_cases c3:(122:Int)<(bn s k:Int)
   ·go_wp2_with fail
    go_ret
    exact ⟨by rw[HNo.out (.inr (by omega))];rfl,rfl⟩
   have d3:decide ((122:Int)<(bn s k:Int))=false:=decide_eq_false c3
   go_wp2_with fail
   go_round
   case rel =>
    refine ⟨k+1,by omega,by go_num,fun j hj=>?_⟩
    by_cases e:j=k
    ·rw[e]
     omega
    ·exact HJ.out j (by omega)
   case measure=>simp[intOf];omega
  ·obtain rfl:k=s.size:=by omega
   go_wp2_with fail
   go_ret
   refine ⟨?_,rfl⟩
   rw[HD.out true]
   ·rfl
   rw[HV.out]
   exact ⟨fun _=>⟨H1.out,by omega,HJ.out⟩,fun _=>rfl⟩
end Go.Proofs.YtedmdilabbolaaaGreatDoor
