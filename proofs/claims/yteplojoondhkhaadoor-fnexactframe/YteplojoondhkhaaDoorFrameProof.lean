/-
  Proved: at every text impl.Frame answers as spec.Frame (laws.FnExactFrame returns true; behind 1048576 bytes the law says nothing), and the text and the table of sixteen sums read afterwards as before, where the table starts as its text lays it (the card ties it); no other condition.
-/
import Derived.Test.YteplojoondhkhaaDoorRows
import Derived.Test.YteplojoondhkhaaDoorCards
import Derived.Test.YteplojoondhkhaaDoorTie
import Derived.Test.YteplojoondhkhaaDoorFrame
import Derived.WalkKit
import Derived.ProofKit
import Derived.OpenShut
import Derived.ShutString
import Derived.ChangeOld
import Derived.ChangeVars
import Derived.Below
import Derived.LaidMore
import Derived.Lay
import Derived.SevenTiedAt
import Derived.Stop.Joined
import Derived.Stop.LaidErr
namespace Go.Proofs.YteplojoondhkhaaDoor
open Go.ChangeShapes Go.WideShapes Go.ChangeAt Go.RowKit
open Go.ChangeMaps (open_string shut_string)
set_option linter.unusedVariables false

theorem own : ownKnob Tryd.prog.godebug = none := by kernel_rfl

set_option maxHeartbeats 400000 in
theorem law_fnExactFrame (s : ByteArray) (w : World) (hs : s.size ≤ maxLen) (ht : SumTab w) :
    Calls Tryd.prog 4 #[.string s] w fun e w' => e = .returned (.bool true) ∧ Below w.heap.size w w' := by
  have HT : Hid (SumTab w) := ht
  clear ht
  unfold maxLen at hs
  by_cases hl : s.size ≤ 1048576
  · have q1 : (s.size : Int) ≤ 1048576 := by omega
    have c1 := spec_frame s w hl
    have HL : Hid (s.size ≤ 1048576) := hl
    go_enter Tryd.func4, Tryd.ntmps4
    go_wp2_with fail
    refine c1.mono ?_
    rintro e w1 ⟨rfl, hb1⟩
    have c2 := impl_frame s w1 HL.out (HT.out.on hb1)
    go_wp2_with fail
    refine c2.mono ?_
    rintro e w2 ⟨rfl, hb2⟩
    go_wp2_with fail
    go_ret
    exact ⟨rfl, hb1.trans (hb2.mono hb1.size)⟩
  · have q1 : (1048576 : Int) < (s.size : Int) := by omega
    go_enter Tryd.func4, Tryd.ntmps4
    go_wp2_with fail
    go_ret
    exact ⟨rfl, Below.refl _ _⟩

theorem typeSum : (Tryd.prog.globals[3]?).map (·.type) = some 82 := by kernel_rfl
theorem cellsSum : Tryd.prog.cellsOf 82 = 16 := by kernel_rfl
theorem cellsU32 : Tryd.prog.cellsOf 60 = 1 := by kernel_rfl
theorem sum_data : (Rows.laid_loop_example_g00360_impl_halfSums : DataW Unit) = Lib.tabData .u32 sumTab := by kernel_rfl
/-- The table's cells. -/
def sumCells : List Value := sumTab.map fun z => Value.int .u32 z

/-- What the row's list gives: the table. -/
theorem sum_met {W : World} (h : laidMetH Tryd.prog Rows.fnExactFrameRow.laid W) : SumTab W := by
  rw [MakeChecks.laidMetH_plain _ _ _ (by kernel_rfl)] at h
  have h2 : laidMet Tryd.prog [("loop.example/g00360/impl.halfSums", Lib.tabData .u32 sumTab)] W := by
    rw [← sum_data]
    exact h
  exact Lib.tabIs_of_head gSum typeSum Tryd.underlying82 Tryd.underlying60 cellsU32 cellsSum h2
theorem sum_lt {W : World} (h : SumTab W) : 3 < W.heap.size := by
  unfold SumTab Lib.TabIs World.var? at h
  simp only [gSum, Option.bind_some] at h
  by_cases hlt : 3 < W.heap.size
  · exact hlt
  · rw [Array.getElem?_eq_none (by omega)] at h
    simp at h
/-- The table as it is read, in any world. -/
theorem sum_shut {H : Type} (enc : TypeId × Value → H) (W : World) (sp : Nat → Bool) (n : Nat) : DataW.trod enc Tryd.prog W 0 sp true (n + 2) 82 sumCells = some (Lib.tabData .u32 sumTab, []) := by kernel_rfl
theorem sum_open {H : Type} {enc : TypeId × Value → H} {W : World} {sp : Nat → Bool} {fuel : Nat} {d : DataW H} {p : List MemPlace} (h : DataW.trod enc Tryd.prog W 0 sp true fuel 82 sumCells = some (d, p)) : d = Lib.tabData .u32 sumTab ∧ p = [] := by
  match fuel, h with
  | 0, h => cases h
  | 1, h =>
    have e : DataW.trod enc Tryd.prog W 0 sp true 1 82 sumCells = none := by kernel_rfl
    rw [e] at h
    cases h
  | n + 2, h =>
    rw [sum_shut] at h
    cases h
    exact ⟨rfl, rfl⟩

set_option maxRecDepth 100000 in
theorem fnExactFrame_lifted (os : Os) (started : os.Started) (H : Type) (enc : TypeId × Value → H) :
    ReturnsInHanded {} Tryd.checked os 4 .any (fun w args => (Rows.fnExactFrameSpec.pre enc Tryd.prog Tryd.f4 Rows.fnExactFrameRow.domain false w args ∧ laidMetH Tryd.prog Rows.fnExactFrameRow.laid w) ∧ sizedMet enc Tryd.prog Tryd.f4 (OpenSpec.ofChange Rows.fnExactFrameSpec) false w args)
      (Rows.fnExactFrameSpec.post enc Tryd.prog Tryd.f4 false true false false) := by
  refine returnsInHanded_of_change_and (C := Tryd.checked) (X := fun w _ => laidMetH Tryd.prog Rows.fnExactFrameRow.laid w) (fun _ _ _ hh h => h.of_heap hh) own started (by kernel_rfl) Tryd.func4
    (ChangeSpec.witness_shaped (enc := enc) (C := Tryd.checked) (os := os) (X := fun w _ => laidMetH Tryd.prog Rows.fnExactFrameRow.laid w) false (World.laidAll Tryd.prog os Rows.fnExactFrameRow.laid) #[.string ⟨#[]⟩] 8 (World.laidAll_os _ _ _)
      (World.shaped_of_ZipB (by kernel_rfl) (by kernel_rfl)) (by kernel_rfl) (by kernel_rfl) (by kernel_rfl)
      (by rw [MakeChecks.laidMetH_plain _ _ _ (by kernel_rfl)]; exact laidMet_laidAll _ (by kernel_rfl) (by kernel_rfl))) ?_
  intro W base args ds gs before hval0 hW hc _ hL _
  have hval : ∀ (j : Nat) t v, Tryd.f4.params[j]? = some t → args[j]? = some v → Value.okWide Tryd.prog W .any base t v := hval0
  have hW' := hW
  obtain ⟨p, q, hA0, hV, rfl, _, _⟩ := hW
  have hA : DataW.TrodAll enc Tryd.prog W 0 (fun _ => true) true Tryd.f4.params.toList args.toList ds p := hA0
  rw [Tryd.params4] at hA hval
  obtain ⟨v0, d0, rfl, rfl, h0⟩ := trodAll_one hA
  have hP := sum_met hL
  obtain ⟨g, t, cs, fuel, d, p', rfl, hg, hty, hvar, hd, rfl⟩ := trodVars_one hV
  obtain rfl := Option.some.inj (gSum.symm.trans hg)
  obtain rfl := Option.some.inj (typeSum.symm.trans hty)
  obtain rfl := Option.some.inj (hP.symm.trans hvar)
  obtain ⟨rfl, rfl⟩ := sum_open (show DataW.trod enc Tryd.prog W 0 (fun _ => true) true fuel 82 sumCells = some (d, p') from hd)
  obtain ⟨x, rfl, rfl, rfl, wx⟩ := open_string Tryd.underlying9 (hval 0 9 v0 rfl rfl) h0
  clear hA0 hval0
  refine (law_fnExactFrame x W wx hP).mono fun e W' ⟨he, bel⟩ => ?_
  subst he
  exact ⟨_, rfl, _, _, _, [], [], _, hW', trodAll_mk1 (shut_bool Tryd.underlying4 _), trodAll_mk1 (shut_string Tryd.underlying9 wx), trodVars_mk1 gSum typeSum (hP.below bel (sum_lt hP)) (sum_shut enc W' _ 0), bel.frame _, fun h => by cases h⟩

theorem fnExactFrame_row : Rows.FnExactFrameSaid :=
  OpenClaim.holds_of_wide 4 Tryd.f4 rfl rfl rfl rfl rfl rfl rfl ⟨rfl, rfl, rfl, rfl, rfl⟩ rfl rfl rfl rfl rfl (by kernel_rfl) Tryd.func4 (by kernel_rfl)
    (of_decide_eq_true (by kernel_rfl)) (by unfold Func.isWrapper; first | (rw [if_pos (by decide +kernel)]; kernel_rfl) | (rw [if_neg (by decide +kernel)]; exact ⟨rfl, rfl⟩))
    (fun os started H enc _ => fnExactFrame_lifted os started H enc)

/-- The given statement: the card. -/
theorem fnExactFrame_holds : Rows.FnExactFrameCardSaid :=
  Claim7.holds_tied_plain_at .later [] _ _ _ _ fnExactFrame_row (fun _ h => by cases h) (by kernel_rfl) (fun _ h => by cases h) fnExactFrame_row_tie rfl ⟨rfl, rfl⟩ (by kernel_rfl) rfl
    (fun f fn hf hfn => by
      obtain rfl : f = 4 := Option.some.inj ((show Tryd.prog.funcNamed Rows.fnExactFrameRow.func = some 4 by kernel_rfl).symm.trans hf) |>.symm
      obtain rfl : fn = Tryd.f4 := (Option.some.inj (Tryd.func4.symm.trans hfn)).symm
      exact ⟨by kernel_rfl, fun j t ht => by
        rw [Tryd.params4] at ht
        obtain rfl : t = 9 := by simpa using Array.mem_of_getElem? ht
        exact (show Tryd.prog.wantsStandIn 9 = false by kernel_rfl)⟩) (by kernel_rfl)
#print axioms fnExactFrame_holds
end Go.Proofs.YteplojoondhkhaaDoor
