/-
  Contracts of the laws' own comparison of steps that hold the same: eqStep, eqStepS.
-/
import Derived.Test.YtcghclaobodgjaaDoorRows
import Derived.Test.YtcghclaobodgjaaDoorSpRow
import Derived.Deep.RegionWith
namespace Go.Proofs.YtcghclaobodgjaaDoor
open Go.ChangeShapes Go.WideShapes Go.ChangeAt Go.RowKit Go.PlainAid
set_option linter.unusedVariables false

set_option maxHeartbeats 400000 in
theorem eqStep (x : Stp) (w : World) : Calls Tryd.prog 23 #[vStp x, vStp x] w fun e w' => e = .returned (.bool true) ∧ Below w.heap.size w w' := by
  unfold vStp
  go_enter Tryd.func23, Tryd.ntmps23
  go_wp2
  go_ret
  exact ⟨rfl, below_alloc2 _ _ _⟩

set_option maxHeartbeats 1000000 in
theorem eqStepS (l : List Stp) (va vb : Value) (w : World) (B : Nat) (ha : Lies w B 4 va (stpR l)) (hb : Lies w B 4 vb (stpR l)) (hn : l.length ≤ 1048576) (hB : B ≤ w.heap.size) :
    Calls Tryd.prog 8 #[va, vb] w fun e w' => e = .returned (.bool true) ∧ Below w.heap.size w w' := by
  obtain ⟨A, cap, rfl, hl⟩ := stp_look ha
  obtain ⟨A', cap', rfl, hl'⟩ := stp_look hb
  have HL : Hid (∀ j, j < l.length → ∃ g off, A = some ⟨g, off, none⟩ ∧ g < B ∧ _) := hl
  have HL' : Hid (∀ j, j < l.length → ∃ g off, A' = some ⟨g, off, none⟩ ∧ g < B ∧ _) := hl'
  have HB : Hid (B ≤ w.heap.size) := hB
  clear hl hl' hB ha hb
  have q1 : (l.length : Int) ≤ 1048576 := by omega
  generalize hN : l.length = n at *
  go_enter Tryd.func8, Tryd.ntmps8
  go_wp2_with fail
  go_loopw [5] (fun v5 wr => ∃ k : Nat, k ≤ n ∧ v5 = .int .i64 (k : Int) ∧ Below w.heap.size w wr) (fun i _ => n - (intOf i).toNat)
  case atStart => exact ⟨0, by omega, rfl, Below.refl _ _⟩
  case round =>
    obtain ⟨k, hk, rfl, hb⟩ := hrel
    have HB1 : Hid (Below w.heap.size w wr) := hb
    clear hb
    by_cases hlt : k < n
    · have q4 : (k : Int) < (n : Int) := by omega
      obtain ⟨g, off, rfl, hg, ha0, ha1, ha2, ha3⟩ := HL.out k hlt
      obtain ⟨g', off', rfl, hg', hb0, hb1, hb2, hb3⟩ := HL'.out k hlt
      have hgw : g < w.heap.size := Nat.lt_of_lt_of_le hg HB.out
      have hgw' : g' < w.heap.size := Nat.lt_of_lt_of_le hg' HB.out
      rw [← HB1.out.cell (p := ⟨_, _, none⟩) hgw] at ha0
      rw [← HB1.out.cell (p := ⟨_, _, none⟩) hgw'] at hb0
      rw [← HB1.out.cell (p := ⟨_, _, none⟩) hgw] at ha1
      rw [← HB1.out.cell (p := ⟨_, _, none⟩) hgw'] at hb1
      rw [← HB1.out.cell (p := ⟨_, _, none⟩) hgw] at ha2
      rw [← HB1.out.cell (p := ⟨_, _, none⟩) hgw'] at hb2
      rw [← HB1.out.cell (p := ⟨_, _, none⟩) hgw] at ha3
      rw [← HB1.out.cell (p := ⟨_, _, none⟩) hgw'] at hb3
      have c1 := fun wx => eqStep (l.getD k default) wx
      unfold vStp at c1
      generalize l.getD k default = x at *
      have hsz := HB1.out.size
      go_wp2_with fail
      go_region_with (go_at_call 23; refine (c1 _).mono ?_; rintro e w1 ⟨rfl, hb1⟩)
      all_goals go_wp2_with fail
      all_goals exact ⟨⟨k + 1, by omega, by go_num, HB1.out.trans (((Below.refl _ wr).drew.trans hb1).mono hsz)⟩, by simp [intOf]; omega⟩
    · obtain rfl : k = n := by omega
      go_wp2_with fail
      go_ret
      exact ⟨rfl, HB1.out⟩
end Go.Proofs.YtcghclaobodgjaaDoor
