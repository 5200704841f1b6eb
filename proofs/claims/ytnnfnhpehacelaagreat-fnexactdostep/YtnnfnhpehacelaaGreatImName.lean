/-
  The contract of impl.isName.
-/
import Derived.Test.YtnnfnhpehacelaaGreatRows
import Derived.Test.YtnnfnhpehacelaaGreatDkName
namespace Go.Proofs.YtnnfnhpehacelaaGreat
open Go.ChangeShapes Go.WideShapes Go.ChangeAt Go.RowKit Go.PlainAid
set_option linter.unusedVariables false

set_option maxHeartbeats 1000000 in
theorem isNameV (s : ByteArray) (w : World) (hs : s.size ≤ 9223372036854775807) :
    Calls Tryz.prog 89 #[.string s] w fun e w' => e = .returned (.bool (nameOk s)) ∧ w = w' := by
  have hbt := get_bn s
  by_cases h0 : s.size = 0
  · obtain rfl : s = ⟨#[]⟩ := by
      apply ByteArray.ext
      exact Array.eq_empty_of_size_eq_zero h0
    clear hbt h0 hs
    go_enter Tryz.func89, Tryz.ntmps89
    go_wp2_with fail
    go_ret
    exact ⟨rfl, rfl⟩
  · have t1 : s.toList.isEmpty = false := by
      rw [Lib.toList_data]
      rcases e : s.data.toList with _ | ⟨x, l⟩
      · exact absurd (by rw [Lib.size_eq, e]; rfl) h0
      · rfl
    have t2 : ¬ s.toList = [] := fun h => by rw [h] at t1; cases t1
    by_cases h : 12 < s.size
    · have HY : Hid (nameOk s = false) := name_out s (.inr h)
      have z : (12 : Int) < (s.size : Int) := by omega
      have hz : decide ((12 : Int) < (s.size : Int)) = true := decide_eq_true z
      have q1 : (s.size : Int) ≤ 9223372036854775807 := by omega
      clear h hbt h0 hs
      go_enter Tryz.func89, Tryz.ntmps89
      go_wp2_with fail
      go_ret
      exact ⟨by rw [HY.out]; rfl, rfl⟩
    · have hz : decide ((12 : Int) < (s.size : Int)) = false := decide_eq_false (by omega)
      have q1 : (s.size : Int) ≤ 12 := by omega
      have HS1 : Hid (1 ≤ s.size) := by unfold Hid; omega
      have HS2 : Hid (s.size ≤ 12) := by unfold Hid; omega
      clear h hs h0
      go_enter Tryz.func89, Tryz.ntmps89
      go_wp2_with fail
      go_loop [14] (fun v3 => ∃ k : Nat, k ≤ s.size ∧ v3 = .int .i64 (k : Int) ∧ ∀ j, j < k → nameB (bn s j) = true) (fun i => s.size - (intOf i).toNat)
      case atStart => exact ⟨0, by omega, rfl, fun j hj => by omega⟩
      case round =>
        obtain ⟨k, hk, rfl, hno⟩ := hrel
        have HN : Hid (∀ j, j < k → nameB (bn s j) = true) := hno
        clear hno t1 t2 hz
        by_cases hlt : k < s.size
        · have q4 : (k : Int) < (s.size : Int) := by omega
          have hb := bn_lt s k
          have hbk := hbt k hlt
          clear hbt
          by_cases hok : nameB (bn s k) = true
          · have HE : Hid (∀ j, j < k + 1 → nameB (bn s j) = true) := less_succ HN.out hok
            generalize bn s k = b at *
            have hc : (97 ≤ b ∧ b ≤ 122) ∨ (48 ≤ b ∧ b ≤ 57) ∨ b = 46 := by
              unfold nameB at hok
              simp at hok
              omega
            clear hok
            rcases hc with hc | hc | hc
            · have z1 : decide ((b : Int) < 97) = false := decide_eq_false (by omega)
              have z2 : decide ((122 : Int) < (b : Int)) = false := decide_eq_false (by omega)
              clear hc
              go_wp2_with fail
              go_round
              case rel => exact ⟨k + 1, by omega, by go_num, HE.out⟩
              case measure => simp [intOf]; omega
            · have z1 : decide ((b : Int) < 97) = true := decide_eq_true (by omega)
              have z3 : decide ((b : Int) < 48) = false := decide_eq_false (by omega)
              have z4 : decide ((57 : Int) < (b : Int)) = false := decide_eq_false (by omega)
              clear hc
              go_wp2_with fail
              go_round
              case rel => exact ⟨k + 1, by omega, by go_num, HE.out⟩
              case measure => simp [intOf]; omega
            · subst hc
              go_wp2_with fail
              go_round
              case rel => exact ⟨k + 1, by omega, by go_num, HE.out⟩
              case measure => simp [intOf]; omega
          · have hok2 : nameB (bn s k) = false := by simpa using hok
            have HY : Hid (nameOk s = false) := name_no s k hlt hok2
            generalize bn s k = b at *
            have hc : 122 < b ∨ (b < 97 ∧ 57 < b) ∨ (b < 48 ∧ b ≠ 46) := by
              unfold nameB at hok2
              simp at hok2
              omega
            clear hok hok2
            rcases hc with hc | hc | hc
            · have z1 : decide ((b : Int) < 97) = false := decide_eq_false (by omega)
              have z2 : decide ((122 : Int) < (b : Int)) = true := decide_eq_true (by omega)
              have z3 : decide ((b : Int) < 48) = false := decide_eq_false (by omega)
              have z4 : decide ((57 : Int) < (b : Int)) = true := decide_eq_true (by omega)
              have z5 : ((b : Int) == 46) = false := by simp only [beq_eq_false_iff_ne, ne_eq]; omega
              have z6 : ((b : Int) != 46) = true := by simp only [bne_iff_ne, ne_eq]; omega
              clear hc
              go_wp2_with fail
              go_ret
              exact ⟨by rw [HY.out]; rfl, rfl⟩
            · have z1 : decide ((b : Int) < 97) = true := decide_eq_true (by omega)
              have z3 : decide ((b : Int) < 48) = false := decide_eq_false (by omega)
              have z4 : decide ((57 : Int) < (b : Int)) = true := decide_eq_true (by omega)
              have z5 : ((b : Int) == 46) = false := by simp only [beq_eq_false_iff_ne, ne_eq]; omega
              have z6 : ((b : Int) != 46) = true := by simp only [bne_iff_ne, ne_eq]; omega
              clear hc
              go_wp2_with fail
              go_ret
              exact ⟨by rw [HY.out]; rfl, rfl⟩
            · have z1 : decide ((b : Int) < 97) = true := decide_eq_true (by omega)
              have z3 : decide ((b : Int) < 48) = true := decide_eq_true (by omega)
              have z5 : ((b : Int) == 46) = false := by simp only [beq_eq_false_iff_ne, ne_eq]; omega
              have z6 : ((b : Int) != 46) = true := by simp only [bne_iff_ne, ne_eq]; omega
              clear hc
              go_wp2_with fail
              go_ret
              exact ⟨by rw [HY.out]; rfl, rfl⟩
        · obtain rfl : k = s.size := by omega
          have HY : Hid (nameOk s = true) := name_yes s HS1.out HS2.out HN.out
          go_wp2_with fail
          go_ret
          exact ⟨by rw [HY.out]; rfl, rfl⟩
end Go.Proofs.YtnnfnhpehacelaaGreat
