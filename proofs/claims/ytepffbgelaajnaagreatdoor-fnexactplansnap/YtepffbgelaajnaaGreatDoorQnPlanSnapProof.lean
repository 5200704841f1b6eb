/-
  Proved: at every disk, snapshot and log impl.PlanSnap answers as spec.PlanSnap, writes into none and keeps nothing of them, and its answer is its own (laws.FnExactPlanSnap returns true; of what weighs above 1048576 together the law says nothing), and the arguments and the table of sixteen sums read afterwards as before, where the table starts as its text lays it (the card ties it).
-/
import Derived.Test.YtepffbgelaajnaaGreatDoorRows
import Derived.Test.YtepffbgelaajnaaGreatDoorCards
import Derived.Test.YtepffbgelaajnaaGreatDoorTie
import Derived.Test.YtepffbgelaajnaaGreatDoorQn0
import Derived.Test.YtepffbgelaajnaaGreatDoorQn9
import Derived.Test.YtepffbgelaajnaaGreatDoorQn19
import Derived.Test.YtepffbgelaajnaaGreatDoorQn20
import Derived.WalkKit
import Derived.ProofKit
import Derived.OpenShut
import Derived.ShutString
import Derived.ChangeOld
import Derived.ChangeVars
import Derived.Below
import Derived.LaidMore
import Derived.Carry
import Derived.Lay
import Derived.SevenTiedAt
import Derived.Stop.Joined
import Derived.Stop.LaidErr
namespace Go.Proofs.YtepffbgelaajnaaGreatDoor
open Go.ChangeShapes Go.WideShapes Go.ChangeAt Go.RowKit
open Go.ChangeMaps (open_string shut_string)
set_option linter.unusedVariables false
theorem own : ownKnob Tryz.prog.godebug = none := by kernel_rfl
theorem laidOut : laidOutB Tryz.prog = true := by kernel_rfl
theorem typeSum : (Tryz.prog.globals[0]?).map (·.type) = some 182 := by kernel_rfl
theorem cellsSum : Tryz.prog.cellsOf 182 = 16 := by kernel_rfl
theorem cellsU32 : Tryz.prog.cellsOf 171 = 1 := by kernel_rfl
theorem sum_data : (Rows.laid_loop_example_g00360_impl_halfSums : DataW Unit) = Lib.tabData .u32 sumTab := by kernel_rfl
def sumCells : List Value := sumTab.map fun z => Value.int .u32 z
set_option maxRecDepth 100000 in
theorem sum_met {W : World} (h : laidMetH Tryz.prog Rows.fnExactPlanSnapRow.laid W) : SumTab W := by
 rw [MakeChecks.laidMetH_plain _ _ _ (by kernel_rfl)] at h
 have h2 : laidMet Tryz.prog [("loop.example/g00360/impl.halfSums", Lib.tabData .u32 sumTab)] W := by
  rw [← sum_data]
  exact h
 exact Lib.tabIs_of_head gSum typeSum Tryz.underlying182 Tryz.underlying171 cellsU32 cellsSum h2
theorem sum_lt {W : World} (h : SumTab W) : 0 < W.heap.size := by
 unfold SumTab Lib.TabIs World.var? at h
 simp only [gSum, Option.bind_some] at h
 by_cases hlt : 0 < W.heap.size
 ·exact hlt
 ·rw [Array.getElem?_eq_none (by omega)] at h
  simp at h
theorem sum_shut {H : Type} (enc : TypeId × Value → H) (W : World) (sp : Nat → Bool) (n : Nat) : DataW.trod enc Tryz.prog W 0 sp true (n + 2) 182 sumCells = some (Lib.tabData .u32 sumTab, []) := by kernel_rfl
set_option maxRecDepth 100000 in
theorem sum_open {H : Type} {enc : TypeId × Value → H} {W : World} {sp : Nat → Bool} {fuel : Nat} {d : DataW H} {p : List MemPlace} (h : DataW.trod enc Tryz.prog W 0 sp true fuel 182 sumCells = some (d, p)) : d = Lib.tabData .u32 sumTab ∧ p = [] := by
 match fuel, h with
 | 0, h => cases h
 | 1, h =>
  have e : DataW.trod enc Tryz.prog W 0 sp true 1 182 sumCells = none := by kernel_rfl
  rw [e] at h
  cases h
 | n + 2, h =>
  rw [sum_shut] at h
  cases h
  exact ⟨rfl, rfl⟩
set_option maxRecDepth 100000 in
theorem fnExactPlanSnap_lifted (os : Os) (started : os.Started) (H : Type) (enc : TypeId × Value → H) :
  ReturnsInHanded {} Tryz.checked os 4 .any (fun w args => (Rows.fnExactPlanSnapSpec.pre enc Tryz.prog Tryz.f4 Rows.fnExactPlanSnapRow.domain false w args ∧ laidMetH Tryz.prog Rows.fnExactPlanSnapRow.laid w) ∧ sizedMet enc Tryz.prog Tryz.f4 (OpenSpec.ofChange Rows.fnExactPlanSnapSpec) false w args)
   (Rows.fnExactPlanSnapSpec.post enc Tryz.prog Tryz.f4 false true false false) := by
 refine returnsInHanded_of_change_and (C := Tryz.checked) (X := fun w _ => laidMetH Tryz.prog Rows.fnExactPlanSnapRow.laid w) (fun _ _ _ hh h => h.of_heap hh) own started (by kernel_rfl) Tryz.func4
  (ChangeSpec.witness_shaped (enc := enc) (C := Tryz.checked) (os := os) (X := fun w _ => laidMetH Tryz.prog Rows.fnExactPlanSnapRow.laid w) false (World.laidAll Tryz.prog os Rows.fnExactPlanSnapRow.laid) #[.agg #[.int .i64 0, .int .i64 0, .slice none 0 0, .slice none 0 0, .slice none 0 0], .agg #[.int .i64 0, .int .i64 0, .string ⟨#[]⟩], .agg #[.int .i64 0, .int .i64 0, .int .i64 0, .int .i64 0, .slice none 0 0]] 8 (World.laidAll_os _ _ _)
   (World.shaped_of_ZipB (by kernel_rfl) (by kernel_rfl)) (by kernel_rfl) (by kernel_rfl) (by kernel_rfl)
   (by rw [MakeChecks.laidMetH_plain _ _ _ (by kernel_rfl)]; exact laidMet_laidAll _ (by kernel_rfl) (by kernel_rfl))) ?_
 intro W base args ds gs before hval0 hW hc _ hL _
 have hval : ∀ (j : Nat) t v, Tryz.f4.params[j]? = some t → args[j]? = some v → Value.okWide Tryz.prog W .any base t v := hval0
 have hW' := hW
 obtain ⟨p, q, hA0, hV, rfl, _, _⟩ := hW
 have hA : DataW.TrodAll enc Tryz.prog W 0 (fun _ => true) true Tryz.f4.params.toList args.toList ds p := hA0
 rw [Tryz.params4] at hA hval
 obtain ⟨v0, vs0, d0, ds0, p0, q0, hargs, rfl, rfl, h0, r0⟩ := trodAll_cons hA
 obtain ⟨vS, vsS, dS, dsS, pS, qS, rfl, rfl, rfl, hS, rS⟩ := trodAll_cons r0
 obtain ⟨v1, vs1, d1, ds1, p1, q1, rfl, rfl, rfl, h1, r1⟩ := trodAll_cons rS
 obtain ⟨rfl, rfl, rfl⟩ := trodAll_nil r1
 obtain rfl : args = #[v0, vS, v1] := by cases args; simp_all
 have hP := sum_met hL
 obtain ⟨g, t, cs, fuel, d, p', rfl, hg, hty, hvar, hd, rfl⟩ := trodVars_one hV
 obtain rfl := Option.some.inj (gSum.symm.trans hg)
 obtain rfl := Option.some.inj (typeSum.symm.trans hty)
 obtain rfl := Option.some.inj (hP.symm.trans hvar)
 obtain ⟨rfl, rfl⟩ := sum_open (show DataW.trod enc Tryz.prog W 0 (fun _ => true) true fuel 182 sumCells = some (d, p') from hd)
 have k0 := h0
 have lt0 : ∀ x ∈ p0, x.block < W.heap.size := by obtain ⟨m, hm⟩ := k0; exact DataW.trod_lt m _ _ _ hm
 obtain ⟨D0, hD0, hF0, hI0, _, _⟩ := open_disk (hval 0 26 v0 rfl rfl) h0
 have kS := hS
 have ltS : ∀ x ∈ pS, x.block < W.heap.size := by obtain ⟨m, hm⟩ := kS; exact DataW.trod_lt m _ _ _ hm
 obtain ⟨DS, rfl, hdS, hIS⟩ := open_snap (hval 1 52 vS rfl rfl) hS
 have k1 := h1
 have lt1 : ∀ x ∈ p1, x.block < W.heap.size := by obtain ⟨m, hm⟩ := k1; exact DataW.trod_lt m _ _ _ hm
 obtain ⟨D1, hD1, hF1, hI1⟩ := open_wal (hval 2 29 v1 rfl rfl) h1
 clear hA0 hval0
 refine (law_fnExactPlanSnap D0 v0 DS D1 v1 W hD0 hF0 hI0 hD1 hF1 hdS hP).mono fun e W' ⟨he, bel⟩ => ?_
 subst he
 exact ⟨_, rfl, _, _, _, [], _, _, hW', trodAll_mk1 (shut_bool Tryz.underlying4 _), (trodAll_cons_mk (Below.trod laidOut (by kernel_rfl) (of_decide_eq_true (by kernel_rfl)) k0 bel lt0) (trodAll_cons_mk (Below.trod laidOut (by kernel_rfl) (of_decide_eq_true (by kernel_rfl)) kS bel ltS) (trodAll_cons_mk (Below.trod laidOut (by kernel_rfl) (of_decide_eq_true (by kernel_rfl)) k1 bel lt1) trodAll_mk0))), trodVars_mk1 gSum typeSum (hP.below bel (sum_lt hP)) (sum_shut enc W' _ 0), bel.frame _, fun h => by cases h⟩
theorem fnExactPlanSnap_row : Rows.FnExactPlanSnapSaid :=
 OpenClaim.holds_of_wide 4 Tryz.f4 rfl rfl rfl rfl rfl rfl rfl ⟨rfl, rfl, rfl, rfl, rfl⟩ rfl rfl rfl rfl rfl (by kernel_rfl) Tryz.func4 (by kernel_rfl)
  (of_decide_eq_true (by kernel_rfl)) (by unfold Func.isWrapper; first | (rw [if_pos (by decide +kernel)]; kernel_rfl) | (rw [if_neg (by decide +kernel)]; exact ⟨rfl, rfl⟩))
  (fun os started H enc _ => fnExactPlanSnap_lifted os started H enc)
theorem fnExactPlanSnap_holds : Rows.FnExactPlanSnapCardSaid :=
 Claim7.holds_tied_plain_at .later [] _ _ _ _ fnExactPlanSnap_row (fun _ h => by cases h) (by kernel_rfl) (fun _ h => by cases h) fnExactPlanSnap_row_tie rfl ⟨rfl, rfl⟩ (by kernel_rfl) rfl
  (fun f fn hf hfn => by
   obtain rfl : f = 4 := Option.some.inj ((show Tryz.prog.funcNamed Rows.fnExactPlanSnapRow.func = some 4 by kernel_rfl).symm.trans hf) |>.symm
   obtain rfl : fn = Tryz.f4 := (Option.some.inj (Tryz.func4.symm.trans hfn)).symm
   exact ⟨by kernel_rfl, fun j t ht => by
    rw [Tryz.params4] at ht
    have hm : t = 26 ∨ t = 52 ∨ t = 29 := by have := Array.mem_of_getElem? ht; simpa using this
    rcases hm with rfl | rfl | rfl
    ·exact (show Tryz.prog.wantsStandIn 26 = false by kernel_rfl)
    ·exact (show Tryz.prog.wantsStandIn 52 = false by kernel_rfl)
    ·exact (show Tryz.prog.wantsStandIn 29 = false by kernel_rfl)⟩) (by kernel_rfl)
#print axioms fnExactPlanSnap_holds
end Go.Proofs.YtepffbgelaajnaaGreatDoor
