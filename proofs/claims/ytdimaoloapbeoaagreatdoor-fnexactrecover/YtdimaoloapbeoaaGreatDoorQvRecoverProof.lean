/-
  At every disk Recover of the program answers as the specification, and its answer is its own, where the table of sixteen sums and the three package errors are as they are laid; a disk that weighs above 1048576 the law lets pass without a comparison.
-/
import Derived.Test.YtdimaoloapbeoaaGreatDoorRows
import Derived.Test.YtdimaoloapbeoaaGreatDoorCards
import Derived.Test.YtdimaoloapbeoaaGreatDoorTie
import Derived.Test.YtdimaoloapbeoaaGreatDoorQv1
import Derived.Test.YtdimaoloapbeoaaGreatDoorQv32
import Derived.WalkKit
import Derived.ProofKit
import Derived.OpenShut
import Derived.ShutString
import Derived.ChangeOld
import Derived.ChangeVars
import Derived.Below
import Derived.Carry
import Derived.LaidMore
import Derived.Lay
import Derived.SevenTiedAt
import Derived.Stop.Joined
import Derived.Stop.LaidErr
namespace Go.Proofs.YtdimaoloapbeoaaGreatDoor
open Go.ChangeShapes Go.WideShapes Go.ChangeAt Go.RowKit
open Go.ChangeMaps (open_string shut_string)
set_option linter.unusedVariables false
theorem laidOut : laidOutB Tryz.prog = true := by kernel_rfl
set_option maxRecDepth 100000 in
theorem fnExactRecover_lifted (os : Os) (started : os.Started) (H : Type) (enc : TypeId × Value → H) :
  ReturnsInHanded {} Tryz.checked os 3 .any (fun w args => (Rows.fnExactRecoverSpec.pre enc Tryz.prog Tryz.f3 Rows.fnExactRecoverRow.domain false w args ∧ laidMetH Tryz.prog Rows.fnExactRecoverRow.laid w) ∧ sizedMet enc Tryz.prog Tryz.f3 (OpenSpec.ofChange Rows.fnExactRecoverSpec) false w args)
   (Rows.fnExactRecoverSpec.post enc Tryz.prog Tryz.f3 false true false false) := by
 refine returnsInHanded_of_change_and (C := Tryz.checked) (X := fun w _ => laidMetH Tryz.prog Rows.fnExactRecoverRow.laid w) (fun _ _ _ hh h => h.of_heap hh) own started (by kernel_rfl) Tryz.func3
  (ChangeSpec.witness_shaped (enc := enc) (C := Tryz.checked) (os := os) (X := fun w _ => laidMetH Tryz.prog Rows.fnExactRecoverRow.laid w) false (World.laidAll Tryz.prog os Rows.fnExactRecoverRow.laid) #[.agg #[.int .i64 0, .int .i64 0, .slice none 0 0, .slice none 0 0, .slice none 0 0]] 8 (World.laidAll_os _ _ _)
   (World.shaped_of_ZipB (by kernel_rfl) (by kernel_rfl)) (by kernel_rfl) (by kernel_rfl) (by kernel_rfl)
   (by rw [MakeChecks.laidMetH_plain _ _ _ (by kernel_rfl)]; exact laidMet_laidAll _ (by kernel_rfl) (by kernel_rfl))) ?_
 intro W base args ds gs before hval0 hW hc _ hL _
 have hval : ∀ (j : Nat) t v, Tryz.f3.params[j]? = some t → args[j]? = some v → Value.okWide Tryz.prog W .any base t v := hval0
 have hW' := hW
 obtain ⟨p, q, hA0, hV, rfl, _, _⟩ := hW
 have hA : DataW.TrodAll enc Tryz.prog W 0 (fun _ => true) true Tryz.f3.params.toList args.toList ds p := hA0
 rw [Tryz.params3] at hA hval
 obtain ⟨v0, vs0, d0, ds0, p0, q0, hargs, rfl, rfl, h0, r0⟩ := trodAll_cons hA
 obtain ⟨rfl, rfl, rfl⟩ := trodAll_nil r0
 obtain rfl : args = #[v0] := by cases args; simp_all
 have hP := met_sum hL
 obtain ⟨b0, b1, b2, hE⟩ := met_errs hL
 obtain ⟨rfl, rfl⟩ := DataW.TrodVars.unique (show DataW.TrodVars enc Tryz.prog W (fun _ => true) _ gs q from hV) (vars_errs enc hE hP _)
 have k0 := h0
 have lt0 : ∀ x ∈ p0, x.block < W.heap.size := by obtain ⟨m, hm⟩ := k0; exact DataW.trod_lt m _ _ _ hm
 obtain ⟨D0, hD0, hF0, hI0, _⟩ := open_disk (hval 0 26 v0 rfl rfl) h0
 clear hA0 hval0
 refine (law_fnExactRecover D0  v0 W hD0 hF0 hI0  hP b0 b1 b2 hE).mono fun e W' ⟨he, bel⟩ => ?_
 subst he
 exact ⟨_, rfl, _, _, _, [], _, _, hW', trodAll_mk1 (shut_bool Tryz.underlying4 _), (trodAll_cons_mk (Below.trod laidOut (by kernel_rfl) (of_decide_eq_true (by kernel_rfl)) k0 bel lt0) trodAll_mk0), vars_errs enc (hE.on bel) (hP.on bel) _, bel.frame _, fun h => by cases h⟩
theorem fnExactRecover_row : Rows.FnExactRecoverSaid :=
 OpenClaim.holds_of_wide 3 Tryz.f3 rfl rfl rfl rfl rfl rfl rfl ⟨rfl, rfl, rfl, rfl, rfl⟩ rfl rfl rfl rfl rfl (by kernel_rfl) Tryz.func3 (by kernel_rfl)
  (of_decide_eq_true (by kernel_rfl)) (by unfold Func.isWrapper; first | (rw [if_pos (by decide +kernel)]; kernel_rfl) | (rw [if_neg (by decide +kernel)]; exact ⟨rfl, rfl⟩))
  (fun os started H enc _ => fnExactRecover_lifted os started H enc)
theorem fnExactRecover_holds : Rows.FnExactRecoverCardSaid :=
 Claim7.holds_tied_plain_at .later [] _ _ _ _ fnExactRecover_row (fun _ h => by cases h) (by kernel_rfl) (fun _ h => by cases h) fnExactRecover_row_tie rfl ⟨rfl, rfl⟩ (by kernel_rfl) rfl
  (fun f fn hf hfn => by
   obtain rfl : f = 3 := Option.some.inj ((show Tryz.prog.funcNamed Rows.fnExactRecoverRow.func = some 3 by kernel_rfl).symm.trans hf) |>.symm
   obtain rfl : fn = Tryz.f3 := (Option.some.inj (Tryz.func3.symm.trans hfn)).symm
   exact ⟨by kernel_rfl, fun j t ht => by
    rw [Tryz.params3] at ht
    obtain rfl : t = 26 := by have := Array.mem_of_getElem? ht; simpa using this
    exact (show Tryz.prog.wantsStandIn 26 = false by kernel_rfl)⟩) (by kernel_rfl)
#print axioms fnExactRecover_holds
end Go.Proofs.YtdimaoloapbeoaaGreatDoor
