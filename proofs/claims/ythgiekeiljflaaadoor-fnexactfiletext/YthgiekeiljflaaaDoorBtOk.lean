/-
  Contracts of impl.valuesOk, impl.timesOk, spec.l7Values, spec.l7Rise.
-/
import Derived.Test.YthgiekeiljflaaaDoorRows
import Derived.Test.YthgiekeiljflaaaDoorNmLaw
import Derived.Test.YthgiekeiljflaaaDoorBtAid
import Derived.Test.YthgiekeiljflaaaDoorNumV
import Derived.Test.YthgiekeiljflaaaDoorUntil
namespace Go.Proofs.YthgiekeiljflaaaDoor
open Go.ChangeShapes Go.WideShapes Go.ChangeAt Go.RowKit Go.PlainAid
set_option linter.unusedVariables false

set_option maxHeartbeats 1000000 in
theorem implValuesOk (l : List Int) (v : Value) (w : World) (B : Nat) (hv : NumsV w B v l) (hn : l.length ≤ 1048576) : Calls Tryd.prog 91 #[v] w fun e w' => e = .returned (.bool (decide (VOk l))) ∧ w = w' := by
  obtain ⟨A, cap, rfl, _, _, hl⟩ := hv
  have HL : Hid (∀ j, j < l.length → ∃ g off, A = some ⟨g, off, none⟩ ∧ g < B ∧ _) := hl
  have HD : Hid (∀ b, (b = true ↔ VOk l) → decide (VOk l) = b) := by
    intro b hb
    cases b
    · exact decide_eq_false fun h => by simp [h] at hb
    · exact decide_eq_true (hb.1 rfl)
  have HV : Hid (VOk l ↔ 1 ≤ l.length ∧ l.length ≤ 60 ∧ ∀ j, j < l.length → -1099511627776 ≤ l.getD j 0 ∧ l.getD j 0 ≤ 1099511627776) := Iff.rfl
  have q0 : (l.length : Int) ≤ 1048576 := by omega
  clear hl hn
  generalize hN : l.length = n at *
  clear hN
  by_cases h1 : (n : Int) < 1
  · go_enter Tryd.func91, Tryd.ntmps91
    go_wp2
    go_ret
    refine ⟨?_, rfl⟩
    rw [HD.out false]
    · rfl
    rw [HV.out]
    constructor
    · intro h; cases h
    · intro h; omega
  by_cases h2 : (60 : Int) < (n : Int)
  · go_enter Tryd.func91, Tryd.ntmps91
    go_wp2
    go_ret
    refine ⟨?_, rfl⟩
    rw [HD.out false]
    · rfl
    rw [HV.out]
    constructor
    · intro h; cases h
    · intro h; omega
  go_enter Tryd.func91, Tryd.ntmps91
  go_wp2
  go_loop [15] (fun v15 => ∃ k : Nat, k ≤ n ∧ v15 = .int .i64 (k : Int) ∧ Hid (∀ j, j < k → -1099511627776 ≤ l.getD j 0 ∧ l.getD j 0 ≤ 1099511627776)) (fun i => n - (intOf i).toNat)
  case atStart => exact ⟨0, by omega, rfl, fun j hj => by omega⟩
  case round =>
    obtain ⟨k, hk, rfl, HJ⟩ := hrel
    by_cases hlt : k < n
    · have q2 : (k : Int) < (n : Int) := by omega
      obtain ⟨g, off, rfl, _, e1⟩ := HL.out k hlt
      have HX : Hid (l.getD k 0 = l.getD k 0) := rfl
      generalize hx : l.getD k 0 = x at *
      have HXX : Hid (l.getD k 0 = x) := hx
      clear hx HX
      by_cases c1 : x < -1099511627776
      · go_wp2
        go_ret
        refine ⟨?_, rfl⟩
        rw [HD.out false]
        · rfl
        rw [HV.out]
        constructor
        · intro h; cases h
        · intro h; have := h.2.2 k hlt; rw [HXX.out] at this; omega
      by_cases c2 : 1099511627776 < x
      · go_wp2
        go_ret
        refine ⟨?_, rfl⟩
        rw [HD.out false]
        · rfl
        rw [HV.out]
        constructor
        · intro h; cases h
        · intro h; have := h.2.2 k hlt; rw [HXX.out] at this; omega
      go_wp2
      go_round
      case rel =>
        refine ⟨k + 1, by omega, by go_num, fun j hj => ?_⟩
        by_cases e : j = k
        · subst e; rw [HXX.out]; omega
        · exact HJ.out j (by omega)
      case measure => simp [intOf]; omega
    · have hkk : k = n := by omega
      subst hkk
      go_wp2
      go_ret
      refine ⟨?_, rfl⟩
      rw [HD.out true]
      · rfl
      rw [HV.out]
      exact ⟨fun _ => ⟨by omega, by omega, HJ.out⟩, fun _ => rfl⟩

set_option maxHeartbeats 1000000 in
theorem implTimesOk (l : List Int) (v : Value) (w : World) (B : Nat) (hv : NumsV w B v l) (hn : l.length ≤ 1048576) : Calls Tryd.prog 84 #[v] w fun e w' => e = .returned (.bool (decide (TOk l))) ∧ w = w' := by
  obtain ⟨A, cap, rfl, _, _, hl⟩ := hv
  have HL : Hid (∀ j, j < l.length → ∃ g off, A = some ⟨g, off, none⟩ ∧ g < B ∧ _) := hl
  have HD : Hid (∀ b, (b = true ↔ TOk l) → decide (TOk l) = b) := by
    intro b hb
    cases b
    · exact decide_eq_false fun h => by simp [h] at hb
    · exact decide_eq_true (hb.1 rfl)
  have HV : Hid (TOk l ↔ 1 ≤ l.length ∧ l.length ≤ 60 ∧ ∀ j, j < l.length → (0 ≤ l.getD j 0 ∧ l.getD j 0 ≤ 1099511627776) ∧ (0 < j → l.getD (j - 1) 0 < l.getD j 0)) := Iff.rfl
  have q0 : (l.length : Int) ≤ 1048576 := by omega
  clear hl hn
  generalize hN : l.length = n at *
  clear hN
  by_cases h1 : (n : Int) < 1
  · go_enter Tryd.func84, Tryd.ntmps84
    go_wp2
    go_ret
    refine ⟨?_, rfl⟩
    rw [HD.out false]
    · rfl
    rw [HV.out]
    constructor
    · intro h; cases h
    · intro h; omega
  by_cases h2 : (60 : Int) < (n : Int)
  · go_enter Tryd.func84, Tryd.ntmps84
    go_wp2
    go_ret
    refine ⟨?_, rfl⟩
    rw [HD.out false]
    · rfl
    rw [HV.out]
    constructor
    · intro h; cases h
    · intro h; omega
  go_enter Tryd.func84, Tryd.ntmps84
  go_wp2
  go_loop [3, 16] (fun v3 v16 => ∃ (k : Nat) (m : Int), k ≤ n ∧ v16 = .int .i64 (k : Int) ∧ v3 = .int .i64 m ∧ 0 ≤ m ∧ m ≤ 1099511627777 ∧ Hid ((k = 0 → m = 0) ∧ (0 < k → m = l.getD (k - 1) 0 + 1)) ∧ Hid (∀ j, j < k → (0 ≤ l.getD j 0 ∧ l.getD j 0 ≤ 1099511627776) ∧ (0 < j → l.getD (j - 1) 0 < l.getD j 0))) (fun _ i => n - (intOf i).toNat)
  case atStart => exact ⟨0, 0, by omega, rfl, rfl, by omega, by omega, ⟨fun _ => rfl, fun h => by omega⟩, fun j hj => by omega⟩
  case round =>
    obtain ⟨k, m, hk, rfl, rfl, hm0, hm1, HM, HJ⟩ := hrel
    by_cases hlt : k < n
    · have q2 : (k : Int) < (n : Int) := by omega
      obtain ⟨g, off, rfl, _, e1⟩ := HL.out k hlt
      generalize hx : l.getD k 0 = x at *
      have HXX : Hid (l.getD k 0 = x) := hx
      clear hx
      have HM2 : Hid (m ≤ x ↔ (0 ≤ x ∧ (0 < k → l.getD (k - 1) 0 < x))) := by
        obtain ⟨m1, m2⟩ := HM.out
        unfold Hid
        by_cases hk0 : k = 0
        · rw [m1 hk0]
          constructor
          · intro h; exact ⟨h, fun h => by omega⟩
          · intro h; exact h.1
        · have := m2 (by omega)
          constructor
          · intro h; exact ⟨by omega, fun _ => by omega⟩
          · intro h; have := h.2 (by omega); omega
      by_cases c1 : x < m
      · go_wp2
        go_ret
        refine ⟨?_, rfl⟩
        rw [HD.out false]
        · rfl
        rw [HV.out]
        constructor
        · intro h; cases h
        · intro h; have := h.2.2 k hlt; rw [HXX.out] at this; have := HM2.out.2 ⟨this.1.1, this.2⟩; omega
      by_cases c2 : 1099511627776 < x
      · go_wp2
        go_ret
        refine ⟨?_, rfl⟩
        rw [HD.out false]
        · rfl
        rw [HV.out]
        constructor
        · intro h; cases h
        · intro h; have := h.2.2 k hlt; rw [HXX.out] at this; omega
      go_wp2
      go_round
      case rel =>
        refine ⟨k + 1, x + 1, by omega, by go_num, by go_num, by omega, by omega, ⟨fun h => by omega, fun _ => by rw [Nat.add_sub_cancel, HXX.out]⟩, fun j hj => ?_⟩
        by_cases e : j = k
        · subst e
          rw [HXX.out]
          have := HM2.out.1 (by omega)
          exact ⟨⟨this.1, by omega⟩, this.2⟩
        · exact HJ.out j (by omega)
      case measure => simp [intOf]; omega
    · have hkk : k = n := by omega
      subst hkk
      go_wp2
      go_ret
      refine ⟨?_, rfl⟩
      rw [HD.out true]
      · rfl
      rw [HV.out]
      exact ⟨fun _ => ⟨by omega, by omega, HJ.out⟩, fun _ => rfl⟩

set_option maxHeartbeats 1000000 in
theorem specValuesOk (l : List Int) (v : Value) (w : World) (B : Nat) (hv : NumsV w B v l) (hn : l.length ≤ 1048576) : Calls Tryd.prog 80 #[v] w fun e w' => e = .returned (.bool (decide (VOk l))) ∧ w = w' := by
  obtain ⟨A, cap, rfl, _, _, hl⟩ := hv
  have HL : Hid (∀ j, j < l.length → ∃ g off, A = some ⟨g, off, none⟩ ∧ g < B ∧ _) := hl
  have HD : Hid (∀ b, (b = true ↔ VOk l) → decide (VOk l) = b) := by
    intro b hb
    cases b
    · exact decide_eq_false fun h => by simp [h] at hb
    · exact decide_eq_true (hb.1 rfl)
  have HV : Hid (VOk l ↔ 1 ≤ l.length ∧ l.length ≤ 60 ∧ ∀ j, j < l.length → -1099511627776 ≤ l.getD j 0 ∧ l.getD j 0 ≤ 1099511627776) := Iff.rfl
  have q0 : (l.length : Int) ≤ 1048576 := by omega
  clear hl hn
  generalize hN : l.length = n at *
  clear hN
  by_cases h1 : (n : Int) < 1 ∨ (60 : Int) < (n : Int)
  · have c := fun wx => in_no (n : Int) 1 60 wx h1
    have H1 : Hid ((n : Int) < 1 ∨ (60 : Int) < (n : Int)) := h1
    clear h1
    go_enter Tryd.func80, Tryd.ntmps80
    go_wp2_with (go_at_call 59; refine (c _).mono ?_; rintro e w' ⟨rfl, rfl⟩)
    go_ret
    refine ⟨?_, rfl⟩
    rw [HD.out false]
    · rfl
    rw [HV.out]
    constructor
    · intro h; cases h
    · intro h; have := H1.out; omega
  have c := fun wx => in_yes (n : Int) 1 60 wx (by omega) (by omega)
  have q1 : (n : Int) ≤ 60 := by omega
  have q11 : (1 : Int) ≤ (n : Int) := by omega
  clear h1
  go_enter Tryd.func80, Tryd.ntmps80
  go_wp2_with (go_at_call 59; refine (c _).mono ?_; rintro e w' ⟨rfl, rfl⟩)
  go_loop [3] (fun v3 => ∃ k : Nat, k ≤ n ∧ v3 = .int .i64 (k : Int) ∧ Hid (∀ j, j < k → -1099511627776 ≤ l.getD j 0 ∧ l.getD j 0 ≤ 1099511627776)) (fun i => n - (intOf i).toNat)
  case atStart => exact ⟨0, by omega, rfl, fun j hj => by omega⟩
  case round =>
    obtain ⟨k, hk, rfl, HJ⟩ := hrel
    by_cases hlt : k < n
    · have q2 : (k : Int) < (n : Int) := by omega
      obtain ⟨g, off, rfl, _, e1⟩ := HL.out k hlt
      generalize hx : l.getD k 0 = x at *
      have HXX : Hid (l.getD k 0 = x) := hx
      clear hx
      by_cases c1 : x < -1099511627776 ∨ 1099511627776 < x
      · have c2 := fun wx => in_no x (-1099511627776) 1099511627776 wx c1
        have H1 : Hid (x < -1099511627776 ∨ 1099511627776 < x) := c1
        clear c1
        go_wp2_with (go_at_call 59; refine (c2 _).mono ?_; rintro e w' ⟨rfl, rfl⟩)
        go_ret
        refine ⟨?_, rfl⟩
        rw [HD.out false]
        · rfl
        rw [HV.out]
        constructor
        · intro h; cases h
        · intro h; have := h.2.2 k hlt; rw [HXX.out] at this; have := H1.out; omega
      have c2 := fun wx => in_yes x (-1099511627776) 1099511627776 wx (by omega) (by omega)
      have H1 : Hid (¬ (x < -1099511627776 ∨ 1099511627776 < x)) := c1
      clear c1
      go_wp2_with (go_at_call 59; refine (c2 _).mono ?_; rintro e w' ⟨rfl, rfl⟩)
      go_round
      case rel =>
        refine ⟨k + 1, by omega, by go_num, fun j hj => ?_⟩
        by_cases e : j = k
        · subst e; rw [HXX.out]; have := H1.out; omega
        · exact HJ.out j (by omega)
      case measure => simp [intOf]; omega
    · have hkk : k = n := by omega
      subst hkk
      go_wp2
      go_ret
      refine ⟨?_, rfl⟩
      rw [HD.out true]
      · rfl
      rw [HV.out]
      exact ⟨fun _ => ⟨by omega, by omega, HJ.out⟩, fun _ => rfl⟩
end Go.Proofs.YthgiekeiljflaaaDoor
