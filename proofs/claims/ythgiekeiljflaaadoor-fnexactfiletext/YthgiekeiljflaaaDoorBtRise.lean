/-
  Contract of spec.l7Rise.
-/
import Derived.Test.YthgiekeiljflaaaDoorRows
import Derived.Test.YthgiekeiljflaaaDoorBtOk
namespace Go.Proofs.YthgiekeiljflaaaDoor
open Go.ChangeShapes Go.WideShapes Go.ChangeAt Go.RowKit Go.PlainAid
set_option linter.unusedVariables false

set_option maxHeartbeats 1000000 in
theorem specRise (l : List Int) (v : Value) (w : World) (B : Nat) (hv : NumsV w B v l) (hn : l.length ≤ 1048576) : Calls Tryd.prog 78 #[v] w fun e w' => e = .returned (.bool (decide (TOk l))) ∧ Like w w' := by
  obtain ⟨A, cap, rfl, _, _, hl⟩ := hv
  have HL : Hid (∀ j, j < l.length → ∃ g off, A = some ⟨g, off, none⟩ ∧ g < B ∧ _) := hl
  have HD : Hid (∀ b, (b = true ↔ TOk l) → decide (TOk l) = b) := by
    intro b hb
    cases b
    · exact decide_eq_false fun h => by simp [h] at hb
    · exact decide_eq_true (hb.1 rfl)
  have HV : Hid (TOk l ↔ 1 ≤ l.length ∧ l.length ≤ 60 ∧ ∀ j, j < l.length → (0 ≤ l.getD j 0 ∧ l.getD j 0 ≤ 1099511627776) ∧ (0 < j → l.getD (j - 1) 0 < l.getD j 0)) := Iff.rfl
  have q0 : (l.length : Int) ≤ 1048576 := by omega
  clear hl hn
  generalize hN : l.length = n at *
  clear hN
  by_cases h1 : (n : Int) < 1 ∨ (60 : Int) < (n : Int)
  · have c := fun wx => in_no (n : Int) 1 60 wx h1
    have H1 : Hid ((n : Int) < 1 ∨ (60 : Int) < (n : Int)) := h1
    clear h1
    go_enter Tryd.func78, Tryd.ntmps78
    go_wp2_with (go_at_call 59; refine (c _).mono ?_; rintro e w' ⟨rfl, rfl⟩)
    go_ret
    refine ⟨?_, Like.refl _⟩
    rw [HD.out false]
    · rfl
    rw [HV.out]
    constructor
    · intro h; cases h
    · intro h; have := H1.out; omega
  have c := fun wx => in_yes (n : Int) 1 60 wx (by omega) (by omega)
  have q1 : (n : Int) ≤ 60 := by omega
  have q11 : (1 : Int) ≤ (n : Int) := by omega
  clear h1
  go_enter Tryd.func78, Tryd.ntmps78
  go_wp2_with (go_at_call 59; refine (c _).mono ?_; rintro e w' ⟨rfl, rfl⟩)
  go_loopw [3] (fun v3 wr => ∃ k : Nat, k ≤ n ∧ v3 = .int .i64 (k : Int) ∧ Like w wr ∧ Hid (∀ j, j < k → (0 ≤ l.getD j 0 ∧ l.getD j 0 ≤ 1099511627776) ∧ (0 < j → l.getD (j - 1) 0 < l.getD j 0))) (fun i _ => n - (intOf i).toNat)
  case atStart => exact ⟨0, by omega, rfl, Like.refl _, fun j hj => by omega⟩
  case round =>
    obtain ⟨k, hk, rfl, hLk, HJ⟩ := hrel
    by_cases hlt : k < n
    · have q2 : (k : Int) < (n : Int) := by omega
      obtain ⟨g, off, rfl, _, e1⟩ := HL.out k hlt
      obtain ⟨g', off', eA, _, e0⟩ := HL.out (k - 1) (by omega)
      injection eA with eA
      injection eA with eA1 eA2
      subst eA1
      subst eA2
      rw [← cell?_heap hLk.1] at e1 e0
      generalize hx : l.getD k 0 = x at *
      have HXX : Hid (l.getD k 0 = x) := hx
      clear hx
      generalize hy : l.getD (k - 1) 0 = y at *
      have HYY : Hid (l.getD (k - 1) 0 = y) := hy
      clear hy
      by_cases c1 : x < 0 ∨ 1099511627776 < x
      · have c2 := fun wx => in_no x 0 1099511627776 wx c1
        have H1 : Hid (x < 0 ∨ 1099511627776 < x) := c1
        clear c1
        go_wp2_with fail
        go_quiet ((go_at_call 59; exact Calls.quiet_of_same ((c2 _).mono fun _ _ h => ⟨h.1, h.2.symm⟩)))
        go_wp2_with fail
        go_ret
        refine ⟨?_, hLk.drewN _⟩
        rw [HD.out false]
        · rfl
        rw [HV.out]
        constructor
        · intro h; cases h
        · intro h; have := h.2.2 k hlt; rw [HXX.out] at this; have := H1.out; omega
      have c2 := fun wx => in_yes x 0 1099511627776 wx (by omega) (by omega)
      have H1 : Hid (¬ (x < 0 ∨ 1099511627776 < x)) := c1
      clear c1
      by_cases hk0 : k = 0
      · have d0 : decide ((0 : Int) < (k : Int)) = false := decide_eq_false (by omega)
        have d1 : decide (0 < k) = false := decide_eq_false (by omega)
        have HK0 : Hid (k = 0) := hk0
        clear e0 hk0
        go_wp2_with fail
        go_quiet ((go_at_call 59; exact Calls.quiet_of_same ((c2 _).mono fun _ _ h => ⟨h.1, h.2.symm⟩)))
        go_wp2_with fail
        go_roundw
        case rel =>
          refine ⟨k + 1, by omega, by go_num, hLk.drewN _, fun j hj => ?_⟩
          have hk0 := HK0.out
          obtain rfl : j = k := by omega
          rw [HXX.out]
          have := H1.out
          exact ⟨by omega, fun h => by omega⟩
        case measure => simp [intOf]; omega
      have q3 : (0 : Int) < (k : Int) := by omega
      have q4 : decide (0 < k) = true := decide_eq_true (by omega)
      have q5 : 0 < k := by omega
      have e3 : ((k : Int) - 1).toNat = k - 1 := by omega
      by_cases c3 : x ≤ y
      · go_wp2_with fail
        go_quiet ((go_at_call 59; exact Calls.quiet_of_same ((c2 _).mono fun _ _ h => ⟨h.1, h.2.symm⟩)))
        go_wp2_with fail
        go_ret
        refine ⟨?_, hLk.drewN _⟩
        rw [HD.out false]
        · rfl
        rw [HV.out]
        constructor
        · intro h; cases h
        · intro h; have := (h.2.2 k hlt).2 (by omega); rw [HXX.out, HYY.out] at this; omega
      · have d1 : decide (x ≤ y) = false := decide_eq_false c3
        go_wp2_with fail
        go_quiet ((go_at_call 59; exact Calls.quiet_of_same ((c2 _).mono fun _ _ h => ⟨h.1, h.2.symm⟩)))
        go_wp2_with fail
        go_roundw
        case rel =>
          refine ⟨k + 1, by omega, by go_num, hLk.drewN _, fun j hj => ?_⟩
          by_cases e : j = k
          · subst e
            rw [HXX.out, HYY.out]
            have := H1.out
            exact ⟨by omega, fun _ => by omega⟩
          · exact HJ.out j (by omega)
        case measure => simp [intOf]; omega
    · have hkk : k = n := by omega
      subst hkk
      go_wp2
      go_ret
      refine ⟨?_, hLk⟩
      rw [HD.out true]
      · rfl
      rw [HV.out]
      exact ⟨fun _ => ⟨by omega, by omega, HJ.out⟩, fun _ => rfl⟩
end Go.Proofs.YthgiekeiljflaaaDoor
