/-
  Contract of the laws' own sameSeries.
-/
import Derived.Test.YthgiekeiljflaaaDoorSrLaw
import Derived.Test.YthgiekeiljflaaaDoorPtSam1
import Derived.Test.YthgiekeiljflaaaDoorUntil
import Derived.Test.YthgiekeiljflaaaDoorGB
import Derived.WalkKit
import Derived.ProofKit
import Derived.OpenShut
import Derived.Below
import Derived.WalkSmall
import Derived.BigQuiet
import Derived.Deep.QuietTactic
import Derived.Deep.RegionWith
import Derived.Handy
namespace Go.Proofs.YthgiekeiljflaaaDoor
open Go.ChangeShapes Go.WideShapes Go.ChangeAt Go.RowKit Go.PlainAid
set_option linter.unusedVariables false

set_option maxHeartbeats 4000000 in
theorem sameSeries (l : List Ser) (va vb : Value) (w : World) (B : Nat) (ha : SerV w B va l) (hb : SerV w B vb l) (hn : SShort l) : Calls Tryd.prog 14 #[va, vb] w fun e w' => e = .returned (.bool true) ∧ Like w w' := by
  obtain ⟨A, cap, rfl, hl⟩ := ha.look
  obtain ⟨A', cap', rfl, hl'⟩ := hb.look
  have HL : Hid (∀ j, j < l.length → ∃ g off u, A = some ⟨g, off, none⟩ ∧ g < B ∧ _) := hl
  have HL' : Hid (∀ j, j < l.length → ∃ g off u, A' = some ⟨g, off, none⟩ ∧ g < B ∧ _) := hl'
  have HS : Hid (SShort l) := hn
  have q1 : (l.length : Int) ≤ 1048576 := by have := hn.1; omega
  clear hl hl' ha hb hn
  generalize hN : l.length = n at *
  go_enter Tryd.func14, Tryd.ntmps14
  go_wp2_with fail
  go_loopw [5] (fun v5 wr => ∃ k : Nat, k ≤ n ∧ v5 = .int .i64 (k : Int) ∧ Like w wr) (fun i _ => n - (intOf i).toNat)
  case atStart => exact ⟨0, by omega, rfl, Like.refl _⟩
  case round =>
    obtain ⟨k, hk, rfl, hLk⟩ := hrel
    by_cases hlt : k < n
    · have q4 : (k : Int) < (n : Int) := by omega
      obtain ⟨g, off, u, rfl, hg, a0, a1, hu⟩ := HL.out k hlt
      obtain ⟨g', off', u', rfl, hg', b0, b1, hu'⟩ := HL'.out k hlt
      rw [← cell?_heap hLk.1] at a0 a1 b0 b1
      have cS := fun (wx : World) (hx : Like w wx) => samePoints (l.getD k default).pts u u' wx B (hu.heap hx.1) (hu'.heap hx.1) (HS.out.at k (by omega))
      obtain ⟨A1, cap1, rfl, _⟩ := pt_look hu
      obtain ⟨A2, cap2, rfl, _⟩ := pt_look hu'
      clear hu hu' hg hg'
      generalize (l.getD k default).pts.length = pn at *
      generalize (l.getD k default).key = x at *
      have hkk : (x.toList == x.toList) = true := by simp
      have S0 : Hid ((fun w' => w'.cell? ⟨g, off + k * 2, none⟩ = some (.string x) ∧ w'.cell? ⟨g, off + k * 2 + 1, none⟩ = some (.slice A1 pn cap1) ∧ w'.cell? ⟨g', off' + k * 2, none⟩ = some (.string x) ∧ w'.cell? ⟨g', off' + k * 2 + 1, none⟩ = some (.slice A2 pn cap2)) wr.drew) := ⟨a0, a1, b0, b1⟩
      have HLD : Hid (Like w wr.drew) := hLk
      clear a0 a1 b0 b1
      go_wp2_with fail
      refine wp_region_until (fun w' => w'.cell? ⟨g, off + k * 2, none⟩ = some (.string x) ∧ w'.cell? ⟨g, off + k * 2 + 1, none⟩ = some (.slice A1 pn cap1) ∧ w'.cell? ⟨g', off' + k * 2, none⟩ = some (.string x) ∧ w'.cell? ⟨g', off' + k * 2 + 1, none⟩ = some (.slice A2 pn cap2)) (fun _ => false) 25 (by rfl) (by kernel_rfl) ?_
      refine until_take 0 (v := ?_) (by rfl) (by kernel_rfl) (by exact fun _ _ _ h => h) (by rfl) ?_ S0.out ?_
      rotate_left
      · intro w hSw
        try dsimp only at hSw
        go_simp
        try with_reducible rfl
      try simp only [Act.put, List.setIfInBounds_toArray, List.set_cons_zero, List.set_cons_succ]
      refine until_take 1 (v := ?_) (by rfl) (by kernel_rfl) (by exact fun _ _ _ h => h) (by rfl) ?_ S0.out ?_
      rotate_left
      · intro w hSw
        try dsimp only at hSw
        go_simp
        try with_reducible rfl
      try simp only [Act.put, List.setIfInBounds_toArray, List.set_cons_zero, List.set_cons_succ]
      refine until_take 2 (v := ?_) (by rfl) (by kernel_rfl) (by exact fun _ _ _ h => h) (by rfl) ?_ S0.out ?_
      rotate_left
      · intro w hSw
        try dsimp only at hSw
        go_simp
        try with_reducible rfl
      try simp only [Act.put, List.setIfInBounds_toArray, List.set_cons_zero, List.set_cons_succ]
      refine until_take 3 (v := ?_) (by rfl) (by kernel_rfl) (by exact fun _ _ _ h => h) (by rfl) ?_ S0.out ?_
      rotate_left
      · intro w hSw
        try dsimp only at hSw
        go_simp
        try with_reducible rfl
      try simp only [Act.put, List.setIfInBounds_toArray, List.set_cons_zero, List.set_cons_succ]
      refine until_take 4 (v := ?_) (by rfl) (by kernel_rfl) (by exact fun _ _ _ h => h) (by rfl) ?_ S0.out ?_
      rotate_left
      · intro w hSw
        try dsimp only at hSw
        go_simp
        try with_reducible rfl
      try simp only [Act.put, List.setIfInBounds_toArray, List.set_cons_zero, List.set_cons_succ]
      refine until_take 5 (v := ?_) (by rfl) (by kernel_rfl) (by exact fun _ _ _ h => h) (by rfl) ?_ S0.out ?_
      rotate_left
      · intro w hSw
        try dsimp only at hSw
        go_simp
        try with_reducible rfl
      try simp only [Act.put, List.setIfInBounds_toArray, List.set_cons_zero, List.set_cons_succ]
      refine until_take 6 (v := ?_) (by rfl) (by kernel_rfl) (by exact fun _ _ _ h => h) (by rfl) ?_ S0.out ?_
      rotate_left
      · intro w hSw
        try dsimp only at hSw
        go_simp
        try with_reducible rfl
      try simp only [Act.put, List.setIfInBounds_toArray, List.set_cons_zero, List.set_cons_succ]
      refine until_take 7 (v := ?_) (by rfl) (by kernel_rfl) (by exact fun _ _ _ h => h) (by rfl) ?_ S0.out ?_
      rotate_left
      · intro w hSw
        try dsimp only at hSw
        go_simp
        try with_reducible rfl
      try simp only [Act.put, List.setIfInBounds_toArray, List.set_cons_zero, List.set_cons_succ]
      refine until_take 8 (v := ?_) (by rfl) (by kernel_rfl) (by exact fun _ _ _ h => h) (by rfl) ?_ S0.out ?_
      rotate_left
      · intro w hSw
        try dsimp only at hSw
        go_simp
        try with_reducible rfl
      try simp only [Act.put, List.setIfInBounds_toArray, List.set_cons_zero, List.set_cons_succ]
      refine until_take 9 (v := ?_) (by rfl) (by kernel_rfl) (by exact fun _ _ _ h => h) (by rfl) ?_ S0.out ?_
      rotate_left
      · intro w hSw
        try dsimp only at hSw
        go_simp
        try with_reducible rfl
      try simp only [Act.put, List.setIfInBounds_toArray, List.set_cons_zero, List.set_cons_succ]
      refine until_take 10 (v := ?_) (by rfl) (by kernel_rfl) (by exact fun _ _ _ h => h) (by rfl) ?_ S0.out ?_
      rotate_left
      · intro w hSw
        try dsimp only at hSw
        go_simp
        try with_reducible rfl
      try simp only [Act.put, List.setIfInBounds_toArray, List.set_cons_zero, List.set_cons_succ]
      refine until_take 11 (v := ?_) (by rfl) (by kernel_rfl) (by exact fun _ _ _ h => h) (by rfl) ?_ S0.out ?_
      rotate_left
      · intro w hSw
        try dsimp only at hSw
        go_simp
        try with_reducible rfl
      try simp only [Act.put, List.setIfInBounds_toArray, List.set_cons_zero, List.set_cons_succ]
      refine until_take 12 (v := ?_) (by rfl) (by kernel_rfl) (by exact fun _ _ _ h => h) (by rfl) ?_ S0.out ?_
      rotate_left
      · intro w hSw
        try dsimp only at hSw
        go_simp
        try with_reducible rfl
      try simp only [Act.put, List.setIfInBounds_toArray, List.set_cons_zero, List.set_cons_succ]
      refine until_take 13 (v := ?_) (by rfl) (by kernel_rfl) (by exact fun _ _ _ h => h) (by rfl) ?_ S0.out ?_
      rotate_left
      · intro w hSw
        try dsimp only at hSw
        go_simp
        try with_reducible rfl
      try simp only [Act.put, List.setIfInBounds_toArray, List.set_cons_zero, List.set_cons_succ]
      refine until_take 14 (v := ?_) (by rfl) (by kernel_rfl) (by exact fun _ _ _ h => h) (by rfl) ?_ S0.out ?_
      rotate_left
      · intro w hSw
        try dsimp only at hSw
        go_simp
        try with_reducible rfl
      try simp only [Act.put, List.setIfInBounds_toArray, List.set_cons_zero, List.set_cons_succ]
      refine until_take 15 (v := ?_) (by rfl) (by kernel_rfl) (by exact fun _ _ _ h => h) (by rfl) ?_ S0.out ?_
      rotate_left
      · intro w hSw
        try dsimp only at hSw
        go_simp
        try with_reducible rfl
      try simp only [Act.put, List.setIfInBounds_toArray, List.set_cons_zero, List.set_cons_succ]
      refine until_take 16 (v := ?_) (by rfl) (by kernel_rfl) (by exact fun _ _ _ h => h) (by rfl) ?_ S0.out ?_
      rotate_left
      · intro w hSw
        try dsimp only at hSw
        go_simp
        try with_reducible rfl
      try simp only [Act.put, List.setIfInBounds_toArray, List.set_cons_zero, List.set_cons_succ]
      refine until_take 17 (v := ?_) (by rfl) (by kernel_rfl) (by exact fun _ _ _ h => h) (by rfl) ?_ S0.out ?_
      rotate_left
      · intro w hSw
        try dsimp only at hSw
        go_simp
        try with_reducible rfl
      try simp only [Act.put, List.setIfInBounds_toArray, List.set_cons_zero, List.set_cons_succ]
      refine until_take 18 (v := ?_) (by rfl) (by kernel_rfl) (by exact fun _ _ _ h => h) (by rfl) ?_ S0.out ?_
      rotate_left
      · intro w hSw
        try dsimp only at hSw
        go_simp
        try with_reducible rfl
      try simp only [Act.put, List.setIfInBounds_toArray, List.set_cons_zero, List.set_cons_succ]
      refine until_take 19 (v := ?_) (by rfl) (by kernel_rfl) (by exact fun _ _ _ h => h) (by rfl) ?_ S0.out ?_
      rotate_left
      · intro w hSw
        try dsimp only at hSw
        go_simp
        try with_reducible rfl
      try simp only [Act.put, List.setIfInBounds_toArray, List.set_cons_zero, List.set_cons_succ]
      refine until_take 20 (v := ?_) (by rfl) (by kernel_rfl) (by exact fun _ _ _ h => h) (by rfl) ?_ S0.out ?_
      rotate_left
      · intro w hSw
        try dsimp only at hSw
        go_simp
        try with_reducible rfl
      try simp only [Act.put, List.setIfInBounds_toArray, List.set_cons_zero, List.set_cons_succ]
      refine until_take 21 (v := ?_) (by rfl) (by kernel_rfl) (by exact fun _ _ _ h => h) (by rfl) ?_ S0.out ?_
      rotate_left
      · intro w hSw
        try dsimp only at hSw
        go_simp
        try with_reducible rfl
      try simp only [Act.put, List.setIfInBounds_toArray, List.set_cons_zero, List.set_cons_succ]
      refine until_one 22 (by rfl) (by kernel_rfl) (fun K hK => ?_)
      go_simp
      refine (cS _ HLD.out).mono ?_
      rintro e w' ⟨rfl, hLi⟩
      have L2 : Hid (Like w w') := ⟨hLi.1.trans HLD.out.1, hLi.2.1.trans HLD.out.2.1, hLi.2.2.1.trans HLD.out.2.2.1, hLi.2.2.2.trans HLD.out.2.2.2⟩
      have S2 : Hid ((fun w' => w'.cell? ⟨g, off + k * 2, none⟩ = some (.string x) ∧ w'.cell? ⟨g, off + k * 2 + 1, none⟩ = some (.slice A1 pn cap1) ∧ w'.cell? ⟨g', off' + k * 2, none⟩ = some (.string x) ∧ w'.cell? ⟨g', off' + k * 2 + 1, none⟩ = some (.slice A2 pn cap2)) w') := ⟨(cell?_heap hLi.1 _).trans S0.out.1, (cell?_heap hLi.1 _).trans S0.out.2.1, (cell?_heap hLi.1 _).trans S0.out.2.2.1, (cell?_heap hLi.1 _).trans S0.out.2.2.2⟩
      clear hLi
      go_wp2_with fail
      refine hK.out _ _ (fun _ _ => S2.out) ?_
      clear hK K
      try simp only [Act.put, List.setIfInBounds_toArray, List.set_cons_zero, List.set_cons_succ]
      refine until_take 23 (v := ?_) (by rfl) (by kernel_rfl) (by exact fun _ _ _ h => h) (by rfl) ?_ S2.out ?_
      rotate_left
      · intro w hSw
        try dsimp only at hSw
        go_simp
        try with_reducible rfl
      try simp only [Act.put, List.setIfInBounds_toArray, List.set_cons_zero, List.set_cons_succ]
      refine until_take 24 (v := ?_) (by rfl) (by kernel_rfl) (by exact fun _ _ _ h => h) (by rfl) ?_ S2.out ?_
      rotate_left
      · intro w hSw
        try dsimp only at hSw
        go_simp
        try with_reducible rfl
      try simp only [Act.put, List.setIfInBounds_toArray, List.set_cons_zero, List.set_cons_succ]
      refine until_done (by kernel_rfl) ?_ _
      go_wp2_with fail
      go_roundw
      case rel => exact ⟨k + 1, by omega, by go_num, L2.out⟩
      case measure => simp [intOf]; omega
    · obtain rfl : k = n := by omega
      go_wp2_with fail
      go_ret
      exact ⟨rfl, hLk⟩
end Go.Proofs.YthgiekeiljflaaaDoor
