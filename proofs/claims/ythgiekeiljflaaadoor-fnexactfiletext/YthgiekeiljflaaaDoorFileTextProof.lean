/-
  FnExactFileText (the card): at every slice of series that weighs at most 1048576 (above that the law compares nothing) impl.FileText answers as spec.FileText and leaves its argument as it was. Conditions: the table of sixteen sums starts as the program lays it (the card ties that to the text).
-/
import Derived.Test.YthgiekeiljflaaaDoorRows
import Derived.Test.YthgiekeiljflaaaDoorCards
import Derived.Test.YthgiekeiljflaaaDoorTie
import Derived.Test.YthgiekeiljflaaaDoorFrame
import Derived.Test.YthgiekeiljflaaaDoorSrArg
import Derived.Test.YthgiekeiljflaaaDoorLawFileText
import Derived.WalkKit
import Derived.ProofKit
import Derived.OpenShut
import Derived.ShutString
import Derived.ChangeOld
import Derived.ChangeVars
import Derived.Below
import Derived.LaidMore
import Derived.Carry
import Derived.Lay
import Derived.SevenTiedAt
import Derived.Stop.Joined
import Derived.Stop.LaidErr
namespace Go.Proofs.YthgiekeiljflaaaDoor
open Go.ChangeShapes Go.WideShapes Go.ChangeAt Go.RowKit
open Go.ChangeMaps (open_string shut_string)
set_option linter.unusedVariables false

theorem own : ownKnob Tryd.prog.godebug = none := by kernel_rfl

theorem laidOut : laidOutB Tryd.prog = true := by kernel_rfl
theorem typeSum : (Tryd.prog.globals[0]?).map (·.type) = some 130 := by kernel_rfl
theorem cellsSum : Tryd.prog.cellsOf 130 = 16 := by kernel_rfl
theorem cellsU32 : Tryd.prog.cellsOf 88 = 1 := by kernel_rfl
theorem sum_data : (Rows.laid_loop_example_g00360_impl_halfSums : DataW Unit) = Lib.tabData .u32 sumTab := by kernel_rfl
/-- The table's cells. -/
def sumCells : List Value := sumTab.map fun z => Value.int .u32 z

set_option maxRecDepth 100000 in
/-- What the row's list gives: the table. -/
theorem sum_met {W : World} (h : laidMetH Tryd.prog Rows.fnExactFileTextRow.laid W) : SumTab W := by
  rw [MakeChecks.laidMetH_plain _ _ _ (by kernel_rfl)] at h
  have h2 : laidMet Tryd.prog [("loop.example/g00360/impl.halfSums", Lib.tabData .u32 sumTab)] W := by
    rw [← sum_data]
    exact h
  exact Lib.tabIs_of_head gSum typeSum Tryd.underlying130 Tryd.underlying88 cellsU32 cellsSum h2
theorem sum_lt {W : World} (h : SumTab W) : 0 < W.heap.size := by
  unfold SumTab Lib.TabIs World.var? at h
  simp only [gSum, Option.bind_some] at h
  by_cases hlt : 0 < W.heap.size
  · exact hlt
  · rw [Array.getElem?_eq_none (by omega)] at h
    simp at h
/-- The table as it is read, in any world. -/
theorem sum_shut {H : Type} (enc : TypeId × Value → H) (W : World) (sp : Nat → Bool) (n : Nat) : DataW.trod enc Tryd.prog W 0 sp true (n + 2) 130 sumCells = some (Lib.tabData .u32 sumTab, []) := by kernel_rfl
set_option maxRecDepth 100000 in
theorem sum_open {H : Type} {enc : TypeId × Value → H} {W : World} {sp : Nat → Bool} {fuel : Nat} {d : DataW H} {p : List MemPlace} (h : DataW.trod enc Tryd.prog W 0 sp true fuel 130 sumCells = some (d, p)) : d = Lib.tabData .u32 sumTab ∧ p = [] := by
  match fuel, h with
  | 0, h => cases h
  | 1, h =>
    have e : DataW.trod enc Tryd.prog W 0 sp true 1 130 sumCells = none := by kernel_rfl
    rw [e] at h
    cases h
  | n + 2, h =>
    rw [sum_shut] at h
    cases h
    exact ⟨rfl, rfl⟩

set_option maxRecDepth 100000 in
theorem fnExactFileText_lifted (os : Os) (started : os.Started) (H : Type) (enc : TypeId × Value → H) :
    ReturnsInHanded {} Tryd.checked os 4 .any (fun w args => (Rows.fnExactFileTextSpec.pre enc Tryd.prog Tryd.f4 Rows.fnExactFileTextRow.domain false w args ∧ laidMetH Tryd.prog Rows.fnExactFileTextRow.laid w) ∧ sizedMet enc Tryd.prog Tryd.f4 (OpenSpec.ofChange Rows.fnExactFileTextSpec) false w args)
      (Rows.fnExactFileTextSpec.post enc Tryd.prog Tryd.f4 false true false false) := by
  refine returnsInHanded_of_change_and (C := Tryd.checked) (X := fun w _ => laidMetH Tryd.prog Rows.fnExactFileTextRow.laid w) (fun _ _ _ hh h => h.of_heap hh) own started (by kernel_rfl) Tryd.func4
    (ChangeSpec.witness_shaped (enc := enc) (C := Tryd.checked) (os := os) (X := fun w _ => laidMetH Tryd.prog Rows.fnExactFileTextRow.laid w) false (World.laidAll Tryd.prog os Rows.fnExactFileTextRow.laid) #[.slice none 0 0] 8 (World.laidAll_os _ _ _)
      (World.shaped_of_ZipB (by kernel_rfl) (by kernel_rfl)) (by kernel_rfl) (by kernel_rfl) (by kernel_rfl)
      (by rw [MakeChecks.laidMetH_plain _ _ _ (by kernel_rfl)]; exact laidMet_laidAll _ (by kernel_rfl) (by kernel_rfl))) ?_
  intro W base args ds gs before hval0 hW hc _ hL _
  have hval : ∀ (j : Nat) t v, Tryd.f4.params[j]? = some t → args[j]? = some v → Value.okWide Tryd.prog W .any base t v := hval0
  have hW' := hW
  obtain ⟨p, q, hA0, hV, rfl, _, _⟩ := hW
  have hA : DataW.TrodAll enc Tryd.prog W 0 (fun _ => true) true Tryd.f4.params.toList args.toList ds p := hA0
  rw [Tryd.params4] at hA hval
  obtain ⟨v0, d0, rfl, rfl, h0⟩ := trodAll_one hA
  have hP := sum_met hL
  obtain ⟨g, t, cs, fuel, d, p', rfl, hg, hty, hvar, hd, rfl⟩ := trodVars_one hV
  obtain rfl := Option.some.inj (gSum.symm.trans hg)
  obtain rfl := Option.some.inj (typeSum.symm.trans hty)
  obtain rfl := Option.some.inj (hP.symm.trans hvar)
  obtain ⟨rfl, rfl⟩ := sum_open (show DataW.trod enc Tryd.prog W 0 (fun _ => true) true fuel 130 sumCells = some (d, p') from hd)
  have k0 := h0
  have lt0 : ∀ x ∈ p, x.block < W.heap.size := by obtain ⟨m, hm⟩ := k0; exact DataW.trod_lt m _ _ _ hm
  obtain ⟨D0, hD0, hF0⟩ := open_srs (hval 0 42 v0 rfl rfl) h0
  clear hA0 hval0
  refine (law_fnExactFileText D0 v0 W hD0 hF0 hP).mono fun e W' ⟨he, bel⟩ => ?_
  subst he
  exact ⟨_, rfl, _, _, _, [], _, _, hW', trodAll_mk1 (shut_bool Tryd.underlying4 _), trodAll_mk1 (Below.trod laidOut (by kernel_rfl) (of_decide_eq_true (by kernel_rfl)) k0 bel lt0), trodVars_mk1 gSum typeSum (hP.below bel (sum_lt hP)) (sum_shut enc W' _ 0), bel.frame _, fun h => by cases h⟩

theorem fnExactFileText_row : Rows.FnExactFileTextSaid :=
  OpenClaim.holds_of_wide 4 Tryd.f4 rfl rfl rfl rfl rfl rfl rfl ⟨rfl, rfl, rfl, rfl, rfl⟩ rfl rfl rfl rfl rfl (by kernel_rfl) Tryd.func4 (by kernel_rfl)
    (of_decide_eq_true (by kernel_rfl)) (by unfold Func.isWrapper; first | (rw [if_pos (by decide +kernel)]; kernel_rfl) | (rw [if_neg (by decide +kernel)]; exact ⟨rfl, rfl⟩))
    (fun os started H enc _ => fnExactFileText_lifted os started H enc)

/-- The given statement: the card. -/
theorem fnExactFileText_holds : Rows.FnExactFileTextCardSaid :=
  Claim7.holds_tied_plain_at .later [] _ _ _ _ fnExactFileText_row (fun _ h => by cases h) (by kernel_rfl) (fun _ h => by cases h) fnExactFileText_row_tie rfl ⟨rfl, rfl⟩ (by kernel_rfl) rfl
    (fun f fn hf hfn => by
      obtain rfl : f = 4 := Option.some.inj ((show Tryd.prog.funcNamed Rows.fnExactFileTextRow.func = some 4 by kernel_rfl).symm.trans hf) |>.symm
      obtain rfl : fn = Tryd.f4 := (Option.some.inj (Tryd.func4.symm.trans hfn)).symm
      exact ⟨by kernel_rfl, fun j t ht => by
        rw [Tryd.params4] at ht
        obtain rfl : t = 42 := by simpa using Array.mem_of_getElem? ht
        exact (show Tryd.prog.wantsStandIn 42 = false by kernel_rfl)⟩) (by kernel_rfl)
#print axioms fnExactFileText_holds
end Go.Proofs.YthgiekeiljflaaaDoor
