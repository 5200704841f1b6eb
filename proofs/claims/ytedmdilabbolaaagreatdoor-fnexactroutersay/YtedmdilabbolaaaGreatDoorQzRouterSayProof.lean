/-
  Proved: at every router and number impl.RouterSay answers as spec.RouterSay, field by field, writes into no argument and keeps nothing of one; its answer owns its memory, behind another call too (laws.FnExactRouterSay returns true; where numbers, legs, what is to be done and the texts of all weigh more than 1048576 together the law says nothing), and the router, the table of sixteen sums and the three package errors read afterwards as before, where they start as their texts lay them (the card ties them); no other condition.
-/
import Derived.Test.YtedmdilabbolaaaGreatDoorRows
import Derived.Test.YtedmdilabbolaaaGreatDoorCards
import Derived.Test.YtedmdilabbolaaaGreatDoorTie
import Derived.Test.YtedmdilabbolaaaGreatDoorQz2
import Derived.Test.YtedmdilabbolaaaGreatDoorQz10
import Derived.WalkKit
import Derived.ProofKit
import Derived.OpenShut
import Derived.ShutString
import Derived.ChangeOld
import Derived.ChangeVars
import Derived.Below
import Derived.Carry
import Derived.LaidMore
import Derived.Lay
import Derived.SevenTiedAt
import Derived.Stop.Joined
import Derived.Stop.LaidErr
import Derived.Test.YtedmdilabbolaaaGreatDoorQz0
import Derived.Test.YtedmdilabbolaaaGreatDoorQz1
import Derived.Test.YtedmdilabbolaaaGreatDoorQz6
import Derived.Test.YtedmdilabbolaaaGreatDoorQz7
import Derived.Test.YtedmdilabbolaaaGreatDoorQz8
import Derived.Test.YtedmdilabbolaaaGreatDoorQz9
import Derived.Test.YtedmdilabbolaaaGreatDoorQr0
import Derived.Test.YtedmdilabbolaaaGreatDoorQr1
import Derived.Test.YtedmdilabbolaaaGreatDoorQr2
import Derived.Test.YtedmdilabbolaaaGreatDoorQr3
import Derived.Test.YtedmdilabbolaaaGreatDoorQr4
import Derived.Test.YtedmdilabbolaaaGreatDoorQr5
import Derived.Test.YtedmdilabbolaaaGreatDoorQr6
import Derived.Test.YtedmdilabbolaaaGreatDoorQr7
namespace Go.Proofs.YtedmdilabbolaaaGreatDoor
open Go.ChangeShapes Go.WideShapes Go.ChangeAt Go.RowKit
open Go.ChangeMaps (open_string shut_string)
set_option linter.unusedVariables false
theorem laidOut:laidOutB Tryz.prog=true:=by kernel_rfl
set_option maxRecDepth 100000 in
theorem fnExactRouterSay_lifted (os:Os) (started:os.Started) (H:Type) (enc:TypeId×Value→H) :
  ReturnsInHanded {} Tryz.checked os 4 .any (fun w args=>(Rows.fnExactRouterSaySpec.pre enc Tryz.prog Tryz.f4 Rows.fnExactRouterSayRow.domain false w args∧laidMetH Tryz.prog Rows.fnExactRouterSayRow.laid w)∧sizedMet enc Tryz.prog Tryz.f4 (OpenSpec.ofChange Rows.fnExactRouterSaySpec) false w args)
   (Rows.fnExactRouterSaySpec.post enc Tryz.prog Tryz.f4 false true false false):=by
 refine returnsInHanded_of_change_and (C:=Tryz.checked) (X:=fun w _=>laidMetH Tryz.prog Rows.fnExactRouterSayRow.laid w) (fun _ _ _ hh h=>h.of_heap hh) own started (by kernel_rfl) Tryz.func4
  (ChangeSpec.witness_shaped (enc:=enc) (C:=Tryz.checked) (os:=os) (X:=fun w _=>laidMetH Tryz.prog Rows.fnExactRouterSayRow.laid w) false (World.laidAll Tryz.prog os Rows.fnExactRouterSayRow.laid) #[.agg #[.int .i64 0,.slice none 0 0,.bool false,.int .i64 0,.string ⟨#[]⟩,.int .i64 0,.int .i64 0,.string ⟨#[]⟩,.int .i64 0,.slice none 0 0,.slice none 0 0],.int .i64 0] 8 (World.laidAll_os _ _ _)
   (World.shaped_of_ZipB (by kernel_rfl) (by kernel_rfl)) (by kernel_rfl) (by kernel_rfl) (by kernel_rfl)
   (by rw[MakeChecks.laidMetH_plain _ _ _ (by kernel_rfl)];exact laidMet_laidAll _ (by kernel_rfl) (by kernel_rfl))) ?_
 intro W base args ds gs before hval0 hW hc _ hL _
 have hval:∀ (j:Nat) t v,Tryz.f4.params[j]?=some t→args[j]?=some v→Value.okWide Tryz.prog W .any base t v:=hval0
 have hW':=hW
 obtain ⟨p,q,hA0,hV,rfl,_,_⟩:=hW
 have hA:DataW.TrodAll enc Tryz.prog W 0 (fun _=>true) true Tryz.f4.params.toList args.toList ds p:=hA0
 rw[Tryz.params4] at hA hval
 obtain ⟨v0,vs0,d0,ds0,p0,q0,hargs,rfl,rfl,h0,r0⟩:=trodAll_cons hA
 obtain ⟨v1,vs1,d1,ds1,p1,q1,rfl,rfl,rfl,h1,r1⟩:=trodAll_cons r0
 obtain ⟨rfl,rfl,rfl⟩:=trodAll_nil r1
 obtain rfl:args=#[v0,v1]:=by cases args;simp_all
 have hP:=met_sum hL
 obtain ⟨b0,b1,b2,hE⟩:=met_errs hL
 obtain ⟨rfl,rfl⟩:=DataW.TrodVars.unique (show DataW.TrodVars enc Tryz.prog W (fun _=>true) _ gs q from hV) (vars_errs enc hE hP _)
 have k0:=h0
 have lt0:∀ x∈p0,x.block<W.heap.size:=by obtain ⟨m,hm⟩:=k0;exact DataW.trod_lt m _ _ _ hm
 obtain ⟨D0,hD0,hF0,hI0⟩:=open_router (hval 0 28 v0 rfl rfl) h0
 obtain ⟨a1,rfl,rfl,rfl,w1⟩:=open_int Tryz.underlying3 (hval 1 3 v1 rfl rfl) h1
 clear hA0 hval0
 refine (law_fnExactRouterSay D0 v0 a1 W hD0 hF0 hI0 hP b0 b1 b2 hE).mono fun e W' ⟨he,bel⟩=>?_
 subst he
 exact ⟨_,rfl,_,_,_,[],_,_,hW',trodAll_mk1 (shut_bool Tryz.underlying4 _),(trodAll_cons_mk (Below.trod laidOut (by kernel_rfl) (of_decide_eq_true (by kernel_rfl)) k0 bel lt0) (trodAll_cons_mk (shut_int Tryz.underlying3 w1) trodAll_mk0)),vars_errs enc (hE.on bel) (hP.on bel) _,bel.frame _,fun h=>by cases h⟩
theorem fnExactRouterSay_row:Rows.FnExactRouterSaySaid :=
 OpenClaim.holds_of_wide 4 Tryz.f4 rfl rfl rfl rfl rfl rfl rfl ⟨rfl,rfl,rfl,rfl,rfl⟩ rfl rfl rfl rfl rfl (by kernel_rfl) Tryz.func4 (by kernel_rfl)
  (of_decide_eq_true (by kernel_rfl)) (by unfold Func.isWrapper;first | (rw[if_pos (by decide +kernel)];kernel_rfl) | (rw[if_neg (by decide +kernel)];exact ⟨rfl,rfl⟩))
  (fun os started H enc _=>fnExactRouterSay_lifted os started H enc)
theorem fnExactRouterSay_holds:Rows.FnExactRouterSayCardSaid :=
 Claim7.holds_tied_plain_at .later [] _ _ _ _ fnExactRouterSay_row (fun _ h=>by cases h) (by kernel_rfl) (fun _ h=>by cases h) fnExactRouterSay_row_tie rfl ⟨rfl,rfl⟩ (by kernel_rfl) rfl
  (fun f fn hf hfn=>by
   obtain rfl:f=4:=Option.some.inj ((show Tryz.prog.funcNamed Rows.fnExactRouterSayRow.func=some 4 by kernel_rfl).symm.trans hf) |>.symm
   obtain rfl:fn=Tryz.f4:=(Option.some.inj (Tryz.func4.symm.trans hfn)).symm
   exact ⟨by kernel_rfl,fun j t ht=>by
    rw[Tryz.params4] at ht
    have hm:t=28∨t=3:=by have:=Array.mem_of_getElem? ht;simpa using this
    rcases hm with rfl | rfl
    ·exact (show Tryz.prog.wantsStandIn 28=false by kernel_rfl)
    ·exact (show Tryz.prog.wantsStandIn 3=false by kernel_rfl)⟩) (by kernel_rfl)
#print axioms fnExactRouterSay_holds
end Go.Proofs.YtedmdilabbolaaaGreatDoor
