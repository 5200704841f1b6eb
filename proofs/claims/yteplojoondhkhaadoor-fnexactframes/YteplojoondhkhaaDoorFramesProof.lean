/-
  Proved: at every text impl.Frames answers as spec.Frames, its answer holds what is written into it behind another call too (laws.FnExactFrames returns true; behind 1048576 bytes the law says nothing), and the text, the table of sixteen sums and the three package errors read afterwards as before, where these four variables start as their texts lay them (the card ties them); no other condition.
-/
import Derived.Test.YteplojoondhkhaaDoorRows
import Derived.Test.YteplojoondhkhaaDoorCards
import Derived.Test.YteplojoondhkhaaDoorTie
import Derived.Test.YteplojoondhkhaaDoorFrLaid
import Derived.Test.YteplojoondhkhaaDoorFrames
import Derived.WalkKit
import Derived.ProofKit
import Derived.OpenShut
import Derived.ShutString
import Derived.ChangeOld
import Derived.ChangeVars
import Derived.Below
import Derived.LaidMore
import Derived.Lay
import Derived.SevenTiedAt
import Derived.Stop.Joined
import Derived.Stop.LaidErr
namespace Go.Proofs.YteplojoondhkhaaDoor
open Go.ChangeShapes Go.WideShapes Go.ChangeAt Go.RowKit
open Go.ChangeMaps (open_string shut_string)
set_option linter.unusedVariables false

set_option maxHeartbeats 1000000 in
theorem law_fnExactFrames (s : ByteArray) (w : World) (hs : s.size ≤ maxLen) (ht : SumTab w) (a0 a1 a2 : Addr) (he : Errs w a0 a1 a2) :
    Calls Tryd.prog 6 #[.string s] w fun e w' => e = .returned (.bool true) ∧ Below w.heap.size w w' := by
  have HT : Hid (SumTab w) := ht
  have HE : Hid (Errs w a0 a1 a2) := he
  clear ht he
  unfold maxLen at hs
  by_cases hl : s.size ≤ 1048576
  · have q1 : (s.size : Int) ≤ 1048576 := by omega
    have HS : Hid (s.size ≤ 1048576) := hl
    have c1 := spec_frames s w hl
    clear hl hs
    go_enter Tryd.func6, Tryd.ntmps6
    go_wp2_with fail
    refine c1.mono ?_
    rintro e w1 ⟨K, v0, hK, rfl, hS1, hb1⟩
    have hlen : Hid (K * 9 ≤ pos s K ∧ pos s K ≤ s.size) := hK.1.pos_le
    have hbl : Hid ((bods s K).length = K) := bods_length s K
    have c2 := impl_frames s w1 HS.out (HT.out.on hb1) a0 a1 a2 (HE.out.on hb1)
    have HK : Hid (Ends s K) := hK
    have H1 : Hid (Strs w1 w.heap.size v0 (bods s K)) := hS1
    have B1 : Hid (Below w.heap.size w w1) := hb1
    clear hK hS1 hb1
    go_wp2_with fail
    refine c2.mono ?_
    rintro e w2 ⟨K', g0, hK', rfl, hS2, hb2⟩
    obtain rfl := hK'.one HK.out
    have hbd : (bods s K').length ≤ 2097152 := by have := hlen.out; have := HS.out; rw [hbl.out]; omega
    have c3 := eq_same _ _ g0 v0 (bods s K') w2 hS2 (H1.out.on hb2) hbd
    have H2 : Hid (Strs w2 w1.heap.size g0 (bods s K')) := hS2
    have B2 : Hid (Below w1.heap.size w1 w2) := hb2
    have HD : Hid ((bods s K').length ≤ 2097152) := hbd
    generalize hpos : pos s K' = P0 at *
    clear hK' hS2 hb2 hbd
    go_wp2_with fail
    refine c3.mono ?_
    rintro e w3 ⟨rfl, hL3⟩
    have B3 : Hid (Below w1.heap.size w1 w3) := B2.out.trans (hL3.below.mono B2.out.size)
    have H3 : Hid (Strs w3 w1.heap.size g0 (bods s K')) := H2.out.heap hL3.1
    have c4 := mark_all 1 w1.heap.size g0 (bods s K') w3 H3.out HD.out (by omega) (by omega) B3.out.size
    rw [hbl.out] at c4
    clear hL3
    go_wp2_with fail
    refine c4.mono ?_
    rintro e w4 ⟨rfl, hS4, hb4⟩
    have B4 : Hid (Below w1.heap.size w1 w4) := B3.out.trans hb4
    have H4 : Hid (Strs w4 w1.heap.size g0 (marks 1 K')) := hS4
    have q2 : ((1 + K' : Nat) : Int) ≤ 1048576 := by have := hlen.out; have := HS.out; omega
    have q3 : (1 : Int) ≤ ((1 + K' : Nat) : Int) := by omega
    have hKle : Hid (K' ≤ 2097152) := by have := HD.out; rw [hbl.out] at this; exact this
    have c5 := held_all 1 w1.heap.size K' g0 w4 H4.out hKle.out (by omega) (by omega)
    generalize hm : 1 + K' = M at *
    clear hS4 hb4
    go_wp2_with fail
    refine c5.mono ?_
    rintro e w5 ⟨rfl, hb5⟩
    have B5 : Hid (Below w1.heap.size w1 w5) := B4.out.trans (hb5.mono B4.out.size)
    have H5 : Hid (Strs w5 w1.heap.size g0 (marks 1 K')) := H4.out.on hb5
    have BW5 : Hid (Below w.heap.size w w5) := B1.out.trans (B5.out.mono B1.out.size)
    have c6 := impl_frames s w5 HS.out (HT.out.on BW5.out) a0 a1 a2 (HE.out.on BW5.out)
    clear hb5
    go_wp2_with fail
    refine c6.mono ?_
    rintro e w6 ⟨K2, h0, hK2, rfl, hS6, hb6⟩
    obtain rfl := hK2.one HK.out
    rw [hpos]
    have B6 : Hid (Below w1.heap.size w1 w6) := B5.out.trans (hb6.mono B5.out.size)
    have c7 := eq_same _ _ h0 v0 (bods s K2) w6 hS6 (H1.out.on B6.out) HD.out
    have H6 : Hid (Strs w6 w1.heap.size g0 (marks 1 K2)) := H5.out.on hb6
    clear hK2 hS6 hb6
    go_wp2_with fail
    refine c7.mono ?_
    rintro e w7 ⟨rfl, hL7⟩
    have B7 : Hid (Below w1.heap.size w1 w7) := B6.out.trans (hL7.below.mono B6.out.size)
    have c8 := held_all 1 w1.heap.size K2 g0 w7 (H6.out.heap hL7.1) hKle.out (by omega) (by omega)
    rw [hm] at c8
    clear hL7
    go_wp2_with fail
    refine c8.mono ?_
    rintro e w8 ⟨rfl, hb8⟩
    have B8 : Hid (Below w1.heap.size w1 w8) := B7.out.trans (hb8.mono B7.out.size)
    clear hb8
    go_wp2_with fail
    go_ret
    exact ⟨rfl, B1.out.trans (B8.out.mono B1.out.size)⟩
  · have q1 : (1048576 : Int) < (s.size : Int) := by omega
    go_enter Tryd.func6, Tryd.ntmps6
    go_wp2_with fail
    go_ret
    exact ⟨rfl, Below.refl _ _⟩

set_option maxRecDepth 100000 in
theorem fnExactFrames_lifted (os : Os) (started : os.Started) (H : Type) (enc : TypeId × Value → H) :
    ReturnsInHanded {} Tryd.checked os 6 .any (fun w args => (Rows.fnExactFramesSpec.pre enc Tryd.prog Tryd.f6 Rows.fnExactFramesRow.domain false w args ∧ laidMetH Tryd.prog Rows.fnExactFramesRow.laid w) ∧ sizedMet enc Tryd.prog Tryd.f6 (OpenSpec.ofChange Rows.fnExactFramesSpec) false w args)
      (Rows.fnExactFramesSpec.post enc Tryd.prog Tryd.f6 false true false false) := by
  refine returnsInHanded_of_change_and (C := Tryd.checked) (X := fun w _ => laidMetH Tryd.prog Rows.fnExactFramesRow.laid w) (fun _ _ _ hh h => h.of_heap hh) own started (by kernel_rfl) Tryd.func6
    (ChangeSpec.witness_shaped (enc := enc) (C := Tryd.checked) (os := os) (X := fun w _ => laidMetH Tryd.prog Rows.fnExactFramesRow.laid w) false (World.laidAll Tryd.prog os Rows.fnExactFramesRow.laid) #[.string ⟨#[]⟩] 8 (World.laidAll_os _ _ _)
      (World.shaped_of_ZipB (by kernel_rfl) (by kernel_rfl)) (by kernel_rfl) (by kernel_rfl) (by kernel_rfl)
      (by rw [MakeChecks.laidMetH_plain _ _ _ (by kernel_rfl)]; exact laidMet_laidAll _ (by kernel_rfl) (by kernel_rfl))) ?_
  intro W base args ds gs before hval0 hW hc _ hL _
  have hval : ∀ (j : Nat) t v, Tryd.f6.params[j]? = some t → args[j]? = some v → Value.okWide Tryd.prog W .any base t v := hval0
  have hW' := hW
  obtain ⟨p, q, hA0, hV, rfl, _, _⟩ := hW
  have hA : DataW.TrodAll enc Tryd.prog W 0 (fun _ => true) true Tryd.f6.params.toList args.toList ds p := hA0
  rw [Tryd.params6] at hA hval
  obtain ⟨v0, d0, rfl, rfl, h0⟩ := trodAll_one hA
  have hP := met_sum hL
  obtain ⟨a0, a1, a2, hE⟩ := met_errs hL
  obtain ⟨rfl, rfl⟩ := DataW.TrodVars.unique (show DataW.TrodVars enc Tryd.prog W (fun _ => true) _ gs q from hV) (vars_errs enc hE hP _)
  obtain ⟨x, rfl, rfl, rfl, wx⟩ := open_string Tryd.underlying9 (hval 0 9 v0 rfl rfl) h0
  clear hA0 hval0
  refine (law_fnExactFrames x W wx hP a0 a1 a2 hE).mono fun e W' ⟨he, bel⟩ => ?_
  subst he
  exact ⟨_, rfl, _, _, _, [], [], _, hW', trodAll_mk1 (shut_bool Tryd.underlying4 _), trodAll_mk1 (shut_string Tryd.underlying9 wx), vars_errs enc (hE.on bel) (hP.on bel) _, bel.frame _, fun h => by cases h⟩

theorem fnExactFrames_row : Rows.FnExactFramesSaid :=
  OpenClaim.holds_of_wide 6 Tryd.f6 rfl rfl rfl rfl rfl rfl rfl ⟨rfl, rfl, rfl, rfl, rfl⟩ rfl rfl rfl rfl rfl (by kernel_rfl) Tryd.func6 (by kernel_rfl)
    (of_decide_eq_true (by kernel_rfl)) (by unfold Func.isWrapper; first | (rw [if_pos (by decide +kernel)]; kernel_rfl) | (rw [if_neg (by decide +kernel)]; exact ⟨rfl, rfl⟩))
    (fun os started H enc _ => fnExactFrames_lifted os started H enc)

/-- The given statement: the card. -/
theorem fnExactFrames_holds : Rows.FnExactFramesCardSaid :=
  Claim7.holds_tied_plain_at .later [] _ _ _ _ fnExactFrames_row (fun _ h => by cases h) (by kernel_rfl) (fun _ h => by cases h) fnExactFrames_row_tie rfl ⟨rfl, rfl⟩ (by kernel_rfl) rfl
    (fun f fn hf hfn => by
      obtain rfl : f = 6 := Option.some.inj ((show Tryd.prog.funcNamed Rows.fnExactFramesRow.func = some 6 by kernel_rfl).symm.trans hf) |>.symm
      obtain rfl : fn = Tryd.f6 := (Option.some.inj (Tryd.func6.symm.trans hfn)).symm
      exact ⟨by kernel_rfl, fun j t ht => by
        rw [Tryd.params6] at ht
        obtain rfl : t = 9 := by simpa using Array.mem_of_getElem? ht
        exact (show Tryd.prog.wantsStandIn 9 = false by kernel_rfl)⟩) (by kernel_rfl)
#print axioms fnExactFrames_holds
end Go.Proofs.YteplojoondhkhaaDoor
