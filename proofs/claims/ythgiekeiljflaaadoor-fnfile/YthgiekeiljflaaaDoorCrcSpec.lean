/-
  The contract of spec.Crc: what it returns, at every text.
-/
import Derived.Test.YthgiekeiljflaaaDoorRows
import Derived.Test.YthgiekeiljflaaaDoorAid
import Derived.Test.YthgiekeiljflaaaDoorCrcAid
import Derived.WalkKit
import Derived.ProofKit
import Derived.OpenShut
import Derived.Below
import Derived.WalkLawsBesides
import Derived.Outline
namespace Go.Proofs.YthgiekeiljflaaaDoor
open Go.ChangeShapes Go.WideShapes Go.ChangeAt Go.RowKit Go.PlainAid
set_option linter.unusedVariables false

theorem wrap64_nat (y : Nat) (h : y < 4294967296) : wrap64 (y : Int) = (y : Int) := by
  unfold wrap64
  omega

theorem half_facts (y : Nat) (h : y < 4294967296) : (y : Int).tmod 2 = ((y % 2 : Nat) : Int) ∧ (y : Int).tdiv 2 = ((y / 2 : Nat) : Int) ∧ (y : Int) % 2 = ((y % 2 : Nat) : Int) ∧ (y : Int) / 2 = ((y / 2 : Nat) : Int) ∧
    wrap64 ((y / 2 : Nat) : Int) = ((y / 2 : Nat) : Int) ∧ bits .xor .i64 ((y / 2 : Nat) : Int) 2197175160 = ((y / 2 ^^^ 2197175160 : Nat) : Int) :=
  ⟨(Int.ofNat_tmod y 2).symm, (Int.ofNat_tdiv y 2).symm, by omega, by omega, wrap64_nat _ (by omega), xor_i64 (y / 2) 2197175160 (by omega) (by omega)⟩

set_option maxHeartbeats 400000 in
theorem spec_crc (s : ByteArray) (w : World) (hs : s.size ≤ 9223372036854775807) :
    Calls Tryd.prog 40 #[.string s] w fun e w' => e = .returned (.int .i64 ((crc s : Nat) : Int)) ∧ w = w' := by
  have hbt := get_bn s
  go_enter Tryd.func40, Tryd.ntmps40
  go_wp2
  go_loop [3, 4] (fun v3 v4 => ∃ k : Nat, k ≤ s.size ∧ v4 = .int .i64 k ∧ v3 = .int .i64 ((crcC s k : Nat) : Int)) (fun _ i => s.size - (intOf i).toNat)
  case atStart => exact ⟨0, by omega, rfl, rfl⟩
  case round =>
    obtain ⟨k, hk, rfl, rfl⟩ := hrel
    have hl : Hid (crcC s k < 4294967296) := crcC_lt s k
    by_cases hlt : k < s.size
    · have q1 : (k : Int) < (s.size : Int) := by omega
      have r2 := bn_lt s k
      have e1 := xor_i64 (crcC s k) (bn s k) hl.out (by omega)
      have eC : Hid (crcC s (k + 1) = halfs 8 (crcC s k ^^^ bn s k)) := crcC_succ s k
      have l1 : Hid (crcC s k ^^^ bn s k < 4294967296) := xor_lt32 _ _ hl.out (by omega)
      generalize crcC s k ^^^ bn s k = x at *
      go_wp2
      go_loop [3, 5] (fun v3 v5 => ∃ j : Nat, j ≤ 8 ∧ v5 = .int .i64 j ∧ v3 = .int .i64 ((halfs j x : Nat) : Int)) (fun _ i => 8 - (intOf i).toNat)
      case atStart => exact ⟨0, by omega, rfl, rfl⟩
      case round =>
        obtain ⟨j, hj, rfl, rfl⟩ := hrel
        by_cases hlt : j < 8
        · have q2 : (j : Int) < 8 := by omega
          have l2 := halfs_lt j x l1.out
          have eJ : Hid (halfs (j + 1) x = half (halfs j x)) := halfs_succ j x
          generalize halfs j x = y at *
          have e4 := half_facts y l2
          obtain ⟨e2, e3, e5, e6, e7, e8⟩ := e4
          have L2 : Hid (y < 4294967296) := l2
          clear l2
          by_cases ho : y % 2 = 1
          · have o1 : ((y % 2 : Nat) : Int) = 1 := by rw [ho]; rfl
            have eH : Hid (half y = y / 2 ^^^ 2197175160) := by unfold Hid half; rw [if_pos ho]
            clear ho
            generalize y / 2 ^^^ 2197175160 = z at *
            generalize y / 2 = y2 at *
            generalize y % 2 = m at *
            go_wp2_with fail
            clear e2 e3 e5 e6 e7 e8 o1
            go_round
            case rel => exact ⟨j + 1, by omega, by go_num, by rw [eJ.out, eH.out]⟩
            case measure => simp [intOf]; omega
          · have o2 : ¬ ((y % 2 : Nat) : Int) = 1 := fun h => ho (by exact_mod_cast h)
            have o1 : decide (((y % 2 : Nat) : Int) = 1) = false := decide_eq_false o2
            have eH : Hid (half y = y / 2) := by unfold Hid half; rw [if_neg ho]
            have E7 : Hid (wrap64 ((y / 2 : Nat) : Int) = ((y / 2 : Nat) : Int)) := e7
            clear e8 ho
            generalize y / 2 = y2 at *
            generalize y % 2 = m at *
            go_wp2_with fail
            clear e2 e3 e5 e6 e7 o1 o2
            go_round
            case rel => exact ⟨j + 1, by omega, by go_num, by rw [eJ.out, eH.out, E7.out]⟩
            case measure => simp [intOf]; omega
        · have hjj : j = 8 := by omega
          subst hjj
          go_wp2
          go_round
          case rel => exact ⟨k + 1, by omega, by go_num, by rw [eC.out]⟩
          case measure => simp [intOf]; omega
    · have hkk : k = s.size := by omega
      subst hkk
      have e2 : (4294967295 : Int) - (crcC s s.size : Int) = ((crc s : Nat) : Int) := by have := hl.out; unfold crc; omega
      have e4 : wrap64 (4294967295 - (crcC s s.size : Int)) = ((crc s : Nat) : Int) := by
        have : crc s ≤ 4294967295 := by unfold crc; omega
        rw [e2]
        unfold wrap64
        omega
      go_wp2
      go_ret
      exact ⟨rfl, rfl⟩

end Go.Proofs.YthgiekeiljflaaaDoor
