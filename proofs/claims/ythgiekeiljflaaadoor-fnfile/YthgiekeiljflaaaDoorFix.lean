/-
  Contracts of spec.Fixed, impl.Fixed, spec.ReadFixed and impl.ReadFixed: what each returns, at every number, text and width (no condition but that the numbers are ints).
-/
import Derived.Test.YthgiekeiljflaaaDoorRows
import Derived.Test.YthgiekeiljflaaaDoorAid
import Derived.WalkKit
import Derived.ProofKit
import Derived.OpenShut
import Derived.Below
import Derived.Handy
import Derived.WalkLawsBesides
import Derived.Outline
import Derived.Deep.OwnRows
namespace Go.Proofs.YthgiekeiljflaaaDoor
open Go.ChangeShapes Go.WideShapes Go.ChangeAt Go.RowKit Go.PlainAid
set_option linter.unusedVariables false

theorem Tryd.info5 : (Tryd.prog.info? 5).map (fun i => (i.zero, i.size, i.bytes)) = some (some (.int .u8 0), 1, 1) := by kernel_rfl

/-- What Fixed answers. -/
def fixed (n wd : Nat) : ByteArray := if n / 256 ^ wd = 0 then txt (low n wd) else txt []

set_option maxHeartbeats 400000 in
theorem spec_fixed (n k0 : Nat) (w : World) (h1 : (n : Int) ≤ 9223372036854775807) (h2 : 1 ≤ k0) (h3 : k0 ≤ 7) :
    Calls Tryd.prog 39 #[.int .i64 (n : Int), .int .i64 (k0 : Int)] w fun e w' => e = .returned (.string (fixed n k0)) ∧ Below w.heap.size w w' := by
  have q1 : (1 : Int) ≤ (k0 : Int) := by omega
  have q2 : (k0 : Int) ≤ 7 := by omega
  go_enter Tryd.func39, Tryd.ntmps39
  go_wp2
  go_loopw [0, 5, 6] (fun v0 v5 v6 wr => ∃ k m : Nat, k ≤ k0 ∧ v6 = .int .i64 k ∧ v0 = .int .i64 m ∧ (m : Int) ≤ 9223372036854775807 ∧ m = n / 256 ^ k ∧ v5 = .string (txt (low n k)) ∧ Below w.heap.size w wr) (fun _ _ i _ => k0 - (intOf i).toNat)
  case atStart => exact ⟨0, n, by omega, rfl, rfl, h1, by simp, rfl, Below.refl _ _⟩
  case round =>
    obtain ⟨k, m, hk, rfl, rfl, hm, hmk, rfl, hb⟩ := hrel
    have HM : Hid (m = n / 256 ^ k) := hmk
    clear hmk
    by_cases hlt : k < k0
    · have e1 : ((m : Int) % 256) = ((m % 256 : Nat) : Int) := by omega
      have hc : ∀ wx : World, (convert 22 9 (.slice (some ⟨wx.heap.size, 0, none⟩) 1 1)).run Tryd.prog (wx.alloc (.cells #[.int .u8 ((m : Int) % 256)] 5)) = .ok (.string (txt [byt m])) (wx.alloc (.cells #[.int .u8 ((m : Int) % 256)] 5)) := by
        intro wx; rw [e1]; exact run_one_byte wx 22 9 5 Tryd.underlying22 Tryd.underlying5 Tryd.underlying9 m 1
      clear e1
      have hz1 : (txt [byt m]).size = 1 := rfl
      have hz2 : (txt (low n k)).size = k := by rw [txt_size, low_length]
      have hsum : (txt [byt m]).size + (txt (low n k)).size ≤ 9223372036854775807 := by omega
      clear hz1 hz2
      have hd := div_step n k
      have HD : Hid (n / 256 ^ (k + 1) = n / 256 ^ k / 256) := hd
      clear hd
      go_wp2
      go_roundw
      case rel => exact ⟨k + 1, m / 256, by omega, by go_num, by go_num, by omega, by rw [HD.out, HM.out], by rw [txt_cat, HM.out]; rfl, hb.alloc (by have := hb.size; omega) _⟩
      case measure => simp [intOf]; omega
    · have hkk : k = k0 := by omega
      by_cases hp : (0 : Int) < (m : Int)
      · go_wp2
        go_ret
        exact ⟨by rw [fixed, if_neg (by rw [← hkk, ← HM.out]; omega)]; rfl, hb⟩
      · go_wp2
        go_ret
        exact ⟨by rw [fixed, if_pos (by rw [← hkk, ← HM.out]; omega)]; rfl, hb⟩

set_option maxHeartbeats 400000 in
theorem spec_fixed_no (n wd : Int) (w : World) (h : wd < 1 ∨ 7 < wd ∨ n < 0) :
    Calls Tryd.prog 39 #[.int .i64 n, .int .i64 wd] w fun e w' => e = .returned (.string (txt [])) ∧ Below w.heap.size w w' := by
  by_cases a1 : wd < 1
  · go_enter Tryd.func39, Tryd.ntmps39
    go_wp2
    go_ret
    exact ⟨rfl, Below.refl _ _⟩
  · by_cases a2 : 7 < wd
    · go_enter Tryd.func39, Tryd.ntmps39
      go_wp2
      go_ret
      exact ⟨rfl, Below.refl _ _⟩
    · have a3 : n < 0 := by omega
      clear h
      go_enter Tryd.func39, Tryd.ntmps39
      go_wp2
      go_ret
      exact ⟨rfl, Below.refl _ _⟩

set_option maxHeartbeats 400000 in
theorem impl_fixed_no (n wd : Int) (w : World) (h : wd < 1 ∨ 7 < wd ∨ n < 0) :
    Calls Tryd.prog 27 #[.int .i64 n, .int .i64 wd] w fun e w' => e = .returned (.string (txt [])) ∧ Below w.heap.size w w' := by
  by_cases a1 : wd < 1
  · go_enter Tryd.func27, Tryd.ntmps27
    go_wp2
    go_ret
    exact ⟨rfl, Below.refl _ _⟩
  · by_cases a2 : 7 < wd
    · go_enter Tryd.func27, Tryd.ntmps27
      go_wp2
      go_ret
      exact ⟨rfl, Below.refl _ _⟩
    · have a3 : n < 0 := by omega
      clear h
      go_enter Tryd.func27, Tryd.ntmps27
      go_wp2
      go_ret
      exact ⟨rfl, Below.refl _ _⟩

set_option maxHeartbeats 400000 in
theorem impl_fixed (n k0 : Nat) (w : World) (h1 : (n : Int) ≤ 9223372036854775807) (h2 : 1 ≤ k0) (h3 : k0 ≤ 7) :
    Calls Tryd.prog 27 #[.int .i64 (n : Int), .int .i64 (k0 : Int)] w fun e w' => e = .returned (.string (fixed n k0)) ∧ Below w.heap.size w w' := by
  have q1 : (1 : Int) ≤ (k0 : Int) := by omega
  have q2 : (k0 : Int) ≤ 7 := by omega
  have q3 : (0 : Int) ≤ (n : Int) := by omega
  have hs := shr8 n k0
  by_cases hz : n / 256 ^ k0 = 0
  · have hs0 : ((n : Int) / 2 ^ (8 * k0) != 0) = false := by rw [hs, hz]; rfl
    clear hs
    have HZ : Hid (n / 256 ^ k0 = 0) := hz
    clear hz
    have hmk := fun wx => run_make_row' (P := Tryd.prog) 22 5 (.int .u8 0) 1 Tryd.underlying22 Tryd.info5 rfl .i64 .i64 k0 (by omega) (by omega) wx
    go_enter Tryd.func27, Tryd.ntmps27
    go_wp2
    go_loopw [27] (fun v27 wr => ∃ k : Nat, k ≤ k0 ∧ v27 = .int .i64 k ∧ wr = w.alloc (.cells (fixRow n k0 k) 5)) (fun i _ => k0 - (intOf i).toNat)
    case atStart => exact ⟨0, by omega, rfl, by rw [fixRow_zero n k0]⟩
    case round =>
      obtain ⟨k, hk, rfl, rfl⟩ := hrel
      by_cases hlt : k < k0
      · have hat := fixRow_at n k0 k hlt
        go_wp2
        go_roundw
        case rel => exact ⟨k + 1, by omega, by go_num, by rw [shr8_byte, fixRow_set n k0 k hlt]⟩
        case measure => simp [intOf]; omega
      · have hkk : k = k0 := by omega
        subst hkk
        rw [fixRow_full]
        have hcv := run_row (P := Tryd.prog) w 22 9 5 Tryd.underlying22 Tryd.underlying5 Tryd.underlying9 (low n k) k
        rw [low_length] at hcv
        go_wp2
        go_ret
        exact ⟨by rw [fixed, if_pos HZ.out]; rfl, (Below.refl _ _).alloc (Nat.le_refl _) _⟩
  · have hs0 : ((n : Int) / 2 ^ (8 * k0) != 0) = true := by rw [hs]; simp only [bne_iff_ne, ne_eq]; omega
    clear hs
    have HZ : Hid (¬ n / 256 ^ k0 = 0) := hz
    clear hz
    go_enter Tryd.func27, Tryd.ntmps27
    go_wp2
    go_ret
    exact ⟨by rw [fixed, if_neg HZ.out]; rfl, Below.refl _ _⟩

set_option maxHeartbeats 400000 in
theorem impl_readFixed (s : ByteArray) (k0 : Nat) (w : World) (hs : s.size ≤ maxLen) (h2 : 1 ≤ k0) (h3 : k0 ≤ 7) (h4 : k0 ≤ s.size) :
    Calls Tryd.prog 54 #[.string s, .int .i64 (k0 : Int)] w fun e w' => e = .returned (.tuple #[.int .i64 (rdv s k0), .bool true]) ∧ w = w' := by
  unfold maxLen at hs
  have q1 : (1 : Int) ≤ (k0 : Int) := by omega
  have q2 : (k0 : Int) ≤ 7 := by omega
  have hbt := get_bn s
  go_enter Tryd.func54, Tryd.ntmps54
  go_wp2
  go_loop [6, 21] (fun v6 v7 => ∃ k : Nat, k ≤ k0 ∧ v7 = .int .i64 k ∧ v6 = .int .i64 (rdv s k)) (fun _ i => k0 - (intOf i).toNat)
  case atStart => exact ⟨0, by omega, rfl, rfl⟩
  case round =>
    obtain ⟨k, hk, rfl, rfl⟩ := hrel
    by_cases hlt : k < k0
    · have r1 := rdv_le s k (by omega)
      have r2 := bn_lt s k
      have r3 := shl8_or s k (by omega)
      go_wp2
      go_round
      case rel => exact ⟨k + 1, by omega, by go_num, by go_num⟩
      case measure => simp [intOf]; omega
    · have hkk : k = k0 := by omega
      subst hkk
      go_wp2
      go_ret2
      exact ⟨rfl, rfl⟩

set_option maxHeartbeats 400000 in
theorem impl_readFixed_no (s : ByteArray) (wd : Int) (w : World) (hs : s.size ≤ maxLen) (h : wd < 1 ∨ 7 < wd ∨ (s.size : Int) < wd) :
    Calls Tryd.prog 54 #[.string s, .int .i64 wd] w fun e w' => e = .returned (.tuple #[.int .i64 0, .bool false]) ∧ w = w' := by
  unfold maxLen at hs
  by_cases a1 : wd < 1
  · go_enter Tryd.func54, Tryd.ntmps54
    go_wp2
    go_ret2
    exact ⟨rfl, rfl⟩
  · by_cases a2 : 7 < wd
    · go_enter Tryd.func54, Tryd.ntmps54
      go_wp2
      go_ret2
      exact ⟨rfl, rfl⟩
    · have a3 : (s.size : Int) < wd := by omega
      clear h
      go_enter Tryd.func54, Tryd.ntmps54
      go_wp2
      go_ret2
      exact ⟨rfl, rfl⟩

end Go.Proofs.YthgiekeiljflaaaDoor
