/-
  Contracts of spec.ReadFixed and impl.ReadFixed: what each returns, at every text and width (no condition but that the numbers are ints).
-/
import Derived.Test.YtaplbjobhlbcoaiRows
import Derived.Test.YtaplbjobhlbcoaiAid
import Derived.WalkKit
import Derived.ProofKit
import Derived.OpenShut
import Derived.Below
import Derived.Handy
import Derived.WalkLawsBesides
import Derived.Outline
import Derived.Deep.OwnRows
namespace Go.Proofs.Ytaplbjobhlbcoai
open Go.ChangeShapes Go.WideShapes Go.ChangeAt Go.RowKit Go.PlainAid
set_option linter.unusedVariables false



set_option maxHeartbeats 400000 in
theorem spec_readFixed (s : ByteArray) (k0 : Nat) (w : World) (hs : s.size ≤ maxLen) (h2 : 1 ≤ k0) (h3 : k0 ≤ 7) (h4 : k0 ≤ s.size) :
    Calls Try.prog 8 #[.string s, .int .i64 (k0 : Int)] w fun e w' => e = .returned (.tuple #[.int .i64 (rdv s k0), .bool true]) ∧ w' = w := by
  unfold maxLen at hs
  have q1 : (1 : Int) ≤ (k0 : Int) := by omega
  have q2 : (k0 : Int) ≤ 7 := by omega
  have hbt := get_bn s
  go_enter Try.func8, Try.ntmps8
  go_wp2
  go_loop [6, 7] (fun v6 v7 => ∃ k : Nat, k ≤ k0 ∧ v7 = .int .i64 k ∧ v6 = .int .i64 (rdv s k)) (fun _ i => k0 - (intOf i).toNat)
  case atStart => exact ⟨0, by omega, rfl, rfl⟩
  case round =>
    obtain ⟨k, hk, rfl, rfl⟩ := hrel
    by_cases hlt : k < k0
    · have r1 := rdv_le s k (by omega)
      have r2 := bn_lt s k
      go_wp2
      go_round
      case rel => exact ⟨k + 1, by omega, by go_num, by rw [rdv]; go_num⟩
      case measure => simp [intOf]; omega
    · have hkk : k = k0 := by omega
      subst hkk
      go_wp2
      go_ret2
      exact ⟨rfl, rfl⟩

set_option maxHeartbeats 400000 in
theorem impl_readFixed (s : ByteArray) (k0 : Nat) (w : World) (hs : s.size ≤ maxLen) (h2 : 1 ≤ k0) (h3 : k0 ≤ 7) (h4 : k0 ≤ s.size) :
    Calls Try.prog 9 #[.string s, .int .i64 (k0 : Int)] w fun e w' => e = .returned (.tuple #[.int .i64 (rdv s k0), .bool true]) ∧ w' = w := by
  unfold maxLen at hs
  have q1 : (1 : Int) ≤ (k0 : Int) := by omega
  have q2 : (k0 : Int) ≤ 7 := by omega
  have hbt := get_bn s
  go_enter Try.func9, Try.ntmps9
  go_wp2
  go_loop [6, 21] (fun v6 v7 => ∃ k : Nat, k ≤ k0 ∧ v7 = .int .i64 k ∧ v6 = .int .i64 (rdv s k)) (fun _ i => k0 - (intOf i).toNat)
  case atStart => exact ⟨0, by omega, rfl, rfl⟩
  case round =>
    obtain ⟨k, hk, rfl, rfl⟩ := hrel
    by_cases hlt : k < k0
    · have r1 := rdv_le s k (by omega)
      have r2 := bn_lt s k
      have r3 := shl8_or s k (by omega)
      go_wp2
      go_round
      case rel => exact ⟨k + 1, by omega, by go_num, by go_num⟩
      case measure => simp [intOf]; omega
    · have hkk : k = k0 := by omega
      subst hkk
      go_wp2
      go_ret2
      exact ⟨rfl, rfl⟩

set_option maxHeartbeats 400000 in
theorem spec_readFixed_no (s : ByteArray) (wd : Int) (w : World) (hs : s.size ≤ maxLen) (h : wd < 1 ∨ 7 < wd ∨ (s.size : Int) < wd) :
    Calls Try.prog 8 #[.string s, .int .i64 wd] w fun e w' => e = .returned (.tuple #[.int .i64 0, .bool false]) ∧ w' = w := by
  unfold maxLen at hs
  by_cases a1 : wd < 1
  · go_enter Try.func8, Try.ntmps8
    go_wp2
    go_ret2
    exact ⟨rfl, rfl⟩
  · by_cases a2 : 7 < wd
    · go_enter Try.func8, Try.ntmps8
      go_wp2
      go_ret2
      exact ⟨rfl, rfl⟩
    · have a3 : (s.size : Int) < wd := by omega
      clear h
      go_enter Try.func8, Try.ntmps8
      go_wp2
      go_ret2
      exact ⟨rfl, rfl⟩

set_option maxHeartbeats 400000 in
theorem impl_readFixed_no (s : ByteArray) (wd : Int) (w : World) (hs : s.size ≤ maxLen) (h : wd < 1 ∨ 7 < wd ∨ (s.size : Int) < wd) :
    Calls Try.prog 9 #[.string s, .int .i64 wd] w fun e w' => e = .returned (.tuple #[.int .i64 0, .bool false]) ∧ w' = w := by
  unfold maxLen at hs
  by_cases a1 : wd < 1
  · go_enter Try.func9, Try.ntmps9
    go_wp2
    go_ret2
    exact ⟨rfl, rfl⟩
  · by_cases a2 : 7 < wd
    · go_enter Try.func9, Try.ntmps9
      go_wp2
      go_ret2
      exact ⟨rfl, rfl⟩
    · have a3 : (s.size : Int) < wd := by omega
      clear h
      go_enter Try.func9, Try.ntmps9
      go_wp2
      go_ret2
      exact ⟨rfl, rfl⟩

set_option maxHeartbeats 400000 in
theorem law_fnExactReadFixed (s : ByteArray) (wd : Int) (w : World) (hs : s.size ≤ maxLen) (b3 : -9223372036854775808 ≤ wd) (b4 : wd ≤ 9223372036854775807) :
    Calls Try.prog 3 #[.string s, .int .i64 wd] w fun e w' => e = .returned (.bool true) ∧ Below w.heap.size w w' := by
  have hs' := hs
  unfold maxLen at hs'
  by_cases hl : (1048576 : Int) < (s.size : Int)
  · go_enter Try.func3, Try.ntmps3
    go_wp2
    go_ret
    exact ⟨rfl, Below.refl _ _⟩
  · by_cases h : wd < 1 ∨ 7 < wd ∨ (s.size : Int) < wd
    · go_enter Try.func3, Try.ntmps3
      go_wp2_with fail
      refine (spec_readFixed_no s wd _ hs h).mono ?_
      rintro e w1 ⟨rfl, rfl⟩
      go_wp2_with fail
      refine (impl_readFixed_no s wd _ hs h).mono ?_
      rintro e w2 ⟨rfl, rfl⟩
      go_wp2_with fail
      go_ret
      exact ⟨rfl, Below.refl _ _⟩
    · obtain ⟨K, rfl⟩ := Int.eq_ofNat_of_zero_le (show 0 ≤ wd by omega)
      clear b3
      go_enter Try.func3, Try.ntmps3
      go_wp2_with fail
      refine (spec_readFixed s K _ hs (by omega) (by omega) (by omega)).mono ?_
      rintro e w1 ⟨rfl, rfl⟩
      go_wp2_with fail
      refine (impl_readFixed s K _ hs (by omega) (by omega) (by omega)).mono ?_
      rintro e w2 ⟨rfl, rfl⟩
      go_wp2_with fail
      go_ret
      exact ⟨rfl, Below.refl _ _⟩
end Go.Proofs.Ytaplbjobhlbcoai
