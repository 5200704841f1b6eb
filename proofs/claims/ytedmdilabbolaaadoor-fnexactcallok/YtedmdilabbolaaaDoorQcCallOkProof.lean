/-
  FnExactCallOk (the card): at every call whose texts have together at most 1048576 bytes (above that the law compares nothing) impl.CallOk answers as spec.CallOk. Conditions: the table of sixteen sums and the three package errors start as their texts lay them (the card ties them).
-/
import Derived.Test.YtedmdilabbolaaaDoorRows
import Derived.Test.YtedmdilabbolaaaDoorCards
import Derived.Test.YtedmdilabbolaaaDoorTie
import Derived.Test.YtedmdilabbolaaaDoorQc2
import Derived.Test.YtedmdilabbolaaaDoorQc5
import Derived.WalkKit
import Derived.ProofKit
import Derived.OpenShut
import Derived.ShutString
import Derived.ChangeOld
import Derived.ChangeVars
import Derived.Below
import Derived.Carry
import Derived.LaidMore
import Derived.Lay
import Derived.SevenTiedAt
import Derived.Stop.Joined
import Derived.Stop.LaidErr
namespace Go.Proofs.YtedmdilabbolaaaDoor
open Go.ChangeShapes Go.WideShapes Go.ChangeAt Go.RowKit
open Go.ChangeMaps (open_string shut_string)
set_option linter.unusedVariables false
theorem laidOut:laidOutB Tryd.prog=true:=by kernel_rfl
set_option maxRecDepth 100000 in
theorem fnExactCallOk_lifted (os:Os) (started:os.Started) (H:Type) (enc:TypeId×Value→H) :
  ReturnsInHanded {} Tryd.checked os 3 .any (fun w args=>(Rows.fnExactCallOkSpec.pre enc Tryd.prog Tryd.f3 Rows.fnExactCallOkRow.domain false w args∧laidMetH Tryd.prog Rows.fnExactCallOkRow.laid w)∧sizedMet enc Tryd.prog Tryd.f3 (OpenSpec.ofChange Rows.fnExactCallOkSpec) false w args)
   (Rows.fnExactCallOkSpec.post enc Tryd.prog Tryd.f3 false true false false):=by
 refine returnsInHanded_of_change_and (C:=Tryd.checked) (X:=fun w _=>laidMetH Tryd.prog Rows.fnExactCallOkRow.laid w) (fun _ _ _ hh h=>h.of_heap hh) own started (by kernel_rfl) Tryd.func3
  (ChangeSpec.witness_shaped (enc:=enc) (C:=Tryd.checked) (os:=os) (X:=fun w _=>laidMetH Tryd.prog Rows.fnExactCallOkRow.laid w) false (World.laidAll Tryd.prog os Rows.fnExactCallOkRow.laid) #[.agg #[.int .i64 0,.string ⟨#[]⟩,.int .i64 0,.int .i64 0,.string ⟨#[]⟩]] 8 (World.laidAll_os _ _ _)
   (World.shaped_of_ZipB (by kernel_rfl) (by kernel_rfl)) (by kernel_rfl) (by kernel_rfl) (by kernel_rfl)
   (by rw[MakeChecks.laidMetH_plain _ _ _ (by kernel_rfl)];exact laidMet_laidAll _ (by kernel_rfl) (by kernel_rfl))) ?_
 intro W base args ds gs before hval0 hW hc _ hL _
 have hval:∀ (j:Nat) t v,Tryd.f3.params[j]?=some t→args[j]?=some v→Value.okWide Tryd.prog W .any base t v:=hval0
 have hW':=hW
 obtain ⟨p,q,hA0,hV,rfl,_,_⟩:=hW
 have hA:DataW.TrodAll enc Tryd.prog W 0 (fun _=>true) true Tryd.f3.params.toList args.toList ds p:=hA0
 rw[Tryd.params3] at hA hval
 obtain ⟨v0,vs0,d0,ds0,p0,q0,hargs,rfl,rfl,h0,r0⟩:=trodAll_cons hA
 obtain ⟨rfl,rfl,rfl⟩:=trodAll_nil r0
 obtain rfl:args=#[v0]:=by cases args;simp_all
 have hP:=met_sum hL
 obtain ⟨b0,b1,b2,hE⟩:=met_errs hL
 obtain ⟨rfl,rfl⟩:=DataW.TrodVars.unique (show DataW.TrodVars enc Tryd.prog W (fun _=>true) _ gs q from hV) (vars_errs enc hE hP _)
 have k0:=h0
 have lt0:∀ x∈p0,x.block<W.heap.size:=by obtain ⟨m,hm⟩:=k0;exact DataW.trod_lt m _ _ _ hm
 obtain ⟨D0,hD0,hF0,hI0⟩:=open_call (hval 0 23 v0 rfl rfl) h0
 clear hA0 hval0
 refine (law_fnExactCallOk D0  v0 W hD0 hF0 hI0  hP b0 b1 b2 hE).mono fun e W' ⟨he,bel⟩=>?_
 subst he
 exact ⟨_,rfl,_,_,_,[],_,_,hW',trodAll_mk1 (shut_bool Tryd.underlying4 _),(trodAll_cons_mk (Below.trod laidOut (by kernel_rfl) (of_decide_eq_true (by kernel_rfl)) k0 bel lt0) trodAll_mk0),vars_errs enc (hE.on bel) (hP.on bel) _,bel.frame _,fun h=>by cases h⟩
theorem fnExactCallOk_row:Rows.FnExactCallOkSaid :=
 OpenClaim.holds_of_wide 3 Tryd.f3 rfl rfl rfl rfl rfl rfl rfl ⟨rfl,rfl,rfl,rfl,rfl⟩ rfl rfl rfl rfl rfl (by kernel_rfl) Tryd.func3 (by kernel_rfl)
  (of_decide_eq_true (by kernel_rfl)) (by unfold Func.isWrapper;first | (rw[if_pos (by decide +kernel)];kernel_rfl) | (rw[if_neg (by decide +kernel)];exact ⟨rfl,rfl⟩))
  (fun os started H enc _=>fnExactCallOk_lifted os started H enc)
theorem fnExactCallOk_holds:Rows.FnExactCallOkCardSaid :=
 Claim7.holds_tied_plain_at .later [] _ _ _ _ fnExactCallOk_row (fun _ h=>by cases h) (by kernel_rfl) (fun _ h=>by cases h) fnExactCallOk_row_tie rfl ⟨rfl,rfl⟩ (by kernel_rfl) rfl
  (fun f fn hf hfn=>by
   obtain rfl:f=3:=Option.some.inj ((show Tryd.prog.funcNamed Rows.fnExactCallOkRow.func=some 3 by kernel_rfl).symm.trans hf) |>.symm
   obtain rfl:fn=Tryd.f3:=(Option.some.inj (Tryd.func3.symm.trans hfn)).symm
   exact ⟨by kernel_rfl,fun j t ht=>by
    rw[Tryd.params3] at ht
    obtain rfl:t=23:=by have:=Array.mem_of_getElem? ht;simpa using this
    exact (show Tryd.prog.wantsStandIn 23=false by kernel_rfl)⟩) (by kernel_rfl)
#print axioms fnExactCallOk_holds
end Go.Proofs.YtedmdilabbolaaaDoor
