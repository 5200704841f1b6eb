/-
  Contracts of chapter 1: impl.Fixed, impl.ReadFixed, spec.Var, impl.Var.
-/
import Derived.Test.YtajodeahigmcoaaRows
import Derived.Test.YtajodeahigmcoaaAid
import Derived.WalkKit
import Derived.ProofKit
import Derived.OpenShut
import Derived.Below
import Derived.Handy
import Derived.WalkLawsBesides
import Derived.WalkSpells
import Derived.WalkMore
import Derived.Outline
import Derived.Deep.OwnRows
import Derived.Deep.RegionHeld3
import Derived.Deep.RegionLaw
import Derived.Deep.DrawnRows
import Derived.WalkSmall
namespace Go.Proofs.Ytajodeahigmcoaa
open Go.ChangeShapes Go.WideShapes Go.ChangeAt Go.RowKit Go.PlainAid
set_option linter.unusedVariables false

theorem Try.info5 : (Try.prog.info? 5).map (fun i => (i.zero, i.size, i.bytes)) = some (some (.int .u8 0), 1, 1) := by kernel_rfl

/-- What Fixed answers. -/
def fixed (n wd : Nat) : ByteArray := if n / 256 ^ wd = 0 then txt (low n wd) else txt []

set_option maxHeartbeats 400000 in
theorem impl_fixed (n k0 : Nat) (w : World) (h1 : (n : Int) ≤ 9223372036854775807) (h2 : 1 ≤ k0) (h3 : k0 ≤ 7) :
    Calls Try.prog 49 #[.int .i64 (n : Int), .int .i64 (k0 : Int)] w fun e w' => e = .returned (.string (fixed n k0)) ∧ Below w.heap.size w w' := by
  have q1 : (1 : Int) ≤ (k0 : Int) := by omega
  have q2 : (k0 : Int) ≤ 7 := by omega
  have q3 : (0 : Int) ≤ (n : Int) := by omega
  have hs := shr8 n k0
  by_cases hz : n / 256 ^ k0 = 0
  · have hs0 : ((n : Int) / 2 ^ (8 * k0) != 0) = false := by rw [hs, hz]; rfl
    clear hs
    have HZ : Hid (n / 256 ^ k0 = 0) := hz
    clear hz
    have hmk := fun wx => run_make_row' (P := Try.prog) 22 5 (.int .u8 0) 1 Try.underlying22 Try.info5 rfl .i64 .i64 k0 (by omega) (by omega) wx
    go_enter Try.func49, Try.ntmps49
    go_wp2
    go_loopw [27] (fun v27 wr => ∃ k : Nat, k ≤ k0 ∧ v27 = .int .i64 k ∧ wr = w.alloc (.cells (fixRow n k0 k) 5)) (fun i _ => k0 - (intOf i).toNat)
    case atStart => exact ⟨0, by omega, rfl, by rw [fixRow_zero n k0]⟩
    case round =>
      obtain ⟨k, hk, rfl, rfl⟩ := hrel
      by_cases hlt : k < k0
      · have hat := fixRow_at n k0 k hlt
        go_wp2
        go_roundw
        case rel => exact ⟨k + 1, by omega, by go_num, by rw [shr8_byte, fixRow_set n k0 k hlt]⟩
        case measure => simp [intOf]; omega
      · have hkk : k = k0 := by omega
        subst hkk
        rw [fixRow_full]
        have hcv := run_row (P := Try.prog) w 22 9 5 Try.underlying22 Try.underlying5 Try.underlying9 (low n k) k
        rw [low_length] at hcv
        go_wp2
        go_ret
        exact ⟨by rw [fixed, if_pos HZ.out]; rfl, (Below.refl _ _).alloc (Nat.le_refl _) _⟩
  · have hs0 : ((n : Int) / 2 ^ (8 * k0) != 0) = true := by rw [hs]; simp only [bne_iff_ne, ne_eq]; omega
    clear hs
    have HZ : Hid (¬ n / 256 ^ k0 = 0) := hz
    clear hz
    go_enter Try.func49, Try.ntmps49
    go_wp2
    go_ret
    exact ⟨by rw [fixed, if_neg HZ.out]; rfl, Below.refl _ _⟩

set_option maxHeartbeats 400000 in
theorem impl_readFixed (s : ByteArray) (k0 : Nat) (w : World) (hs : s.size ≤ maxLen) (h2 : 1 ≤ k0) (h3 : k0 ≤ 7) (h4 : k0 ≤ s.size) :
    Calls Try.prog 75 #[.string s, .int .i64 (k0 : Int)] w fun e w' => e = .returned (.tuple #[.int .i64 (rdv s k0), .bool true]) ∧ w' = w := by
  unfold maxLen at hs
  have q1 : (1 : Int) ≤ (k0 : Int) := by omega
  have q2 : (k0 : Int) ≤ 7 := by omega
  have hbt := get_bn s
  go_enter Try.func75, Try.ntmps75
  go_wp2
  go_loop [6, 21] (fun v6 v7 => ∃ k : Nat, k ≤ k0 ∧ v7 = .int .i64 k ∧ v6 = .int .i64 (rdv s k)) (fun _ i => k0 - (intOf i).toNat)
  case atStart => exact ⟨0, by omega, rfl, rfl⟩
  case round =>
    obtain ⟨k, hk, rfl, rfl⟩ := hrel
    by_cases hlt : k < k0
    · have r1 := rdv_le s k (by omega)
      have r2 := bn_lt s k
      have r3 := shl8_or s k (by omega)
      go_wp2
      go_round
      case rel => exact ⟨k + 1, by omega, by go_num, by go_num⟩
      case measure => simp [intOf]; omega
    · have hkk : k = k0 := by omega
      subst hkk
      go_wp2
      go_ret2
      exact ⟨rfl, rfl⟩

set_option maxHeartbeats 400000 in
theorem impl_readFixed_no (s : ByteArray) (wd : Int) (w : World) (hs : s.size ≤ maxLen) (h : wd < 1 ∨ 7 < wd ∨ (s.size : Int) < wd) :
    Calls Try.prog 75 #[.string s, .int .i64 wd] w fun e w' => e = .returned (.tuple #[.int .i64 0, .bool false]) ∧ w' = w := by
  unfold maxLen at hs
  by_cases a1 : wd < 1
  · go_enter Try.func75, Try.ntmps75
    go_wp2
    go_ret2
    exact ⟨rfl, rfl⟩
  · by_cases a2 : 7 < wd
    · go_enter Try.func75, Try.ntmps75
      go_wp2
      go_ret2
      exact ⟨rfl, rfl⟩
    · have a3 : (s.size : Int) < wd := by omega
      clear h
      go_enter Try.func75, Try.ntmps75
      go_wp2
      go_ret2
      exact ⟨rfl, rfl⟩

set_option maxHeartbeats 400000 in
theorem in_yes (x lo hi : Int) (w : World) (h1 : lo ≤ x) (h2 : x ≤ hi) :
    Calls Try.prog 52 #[.int .i64 x, .int .i64 lo, .int .i64 hi] w fun e w' => e = .returned (.bool true) ∧ w = w' := by
  go_enter Try.func52, Try.ntmps52
  go_wp2
  go_ret
  exact ⟨rfl, rfl⟩

set_option maxHeartbeats 400000 in
theorem in_no (x lo hi : Int) (w : World) (h : x < lo ∨ hi < x) :
    Calls Try.prog 52 #[.int .i64 x, .int .i64 lo, .int .i64 hi] w fun e w' => e = .returned (.bool false) ∧ w = w' := by
  by_cases h1 : x < lo
  · go_enter Try.func52, Try.ntmps52
    go_wp2
    go_ret
    exact ⟨rfl, rfl⟩
  · have h2 : hi < x := by omega
    have h3 : decide (x ≤ hi) = false := by simp; omega
    clear h
    go_enter Try.func52, Try.ntmps52
    go_wp2
    go_ret
    exact ⟨rfl, rfl⟩

set_option maxHeartbeats 400000 in
theorem spec_var (n : Nat) (w : World) (h1 : n ≤ 562949953421311) :
    Calls Try.prog 54 #[.int .i64 (n : Int)] w fun e w' => e = .returned (.string (txt (vF 6 n))) ∧ Below w.heap.size w w' := by
  have q1 : (n : Int) ≤ 562949953421311 := by omega
  go_enter Try.func54, Try.ntmps54
  go_wp2_with (go_at_call 52; refine (in_yes _ _ _ _ (by omega) (by omega)).mono ?_; rintro e w' ⟨rfl, rfl⟩)
  go_loopw [0, 3] (fun v0 v3 wr => ∃ m f : Nat, ∃ pre : List UInt8, v0 = .int .i64 m ∧ m ≤ 562949953421311 ∧ m < 128 ^ (f + 1) ∧ pre ++ vF f m = vF 6 n ∧ Buf wr w.heap.size v3 pre ∧ Below w.heap.size w wr) (fun i _ _ => (intOf i).toNat)
  case atStart => exact ⟨n, 6, [], rfl, h1, by omega, rfl, Buf.made w w.heap.size 0 #[] (Nat.le_refl _) (by simp [maxLen]) rfl, (Below.refl _ _).alloc (Nat.le_refl _) _⟩
  case round =>
    obtain ⟨m, f, pre, rfl, hm1, hm2, hpre, hbuf, hb⟩ := hrel
    have HP : Hid (pre ++ vF f m = vF 6 n) := hpre
    clear hpre
    have HM : Hid (m < 128 ^ (f + 1)) := hm2
    clear hm2
    have hlp : pre.length ≤ 7 := by
      have := congrArg List.length HP.out
      have := vF_length 6 n
      simp at *
      omega
    have hsz := hb.size
    by_cases hlt : (128 : Int) ≤ (m : Int)
    · have hcs := one_cell (128 + (m : Int) % 128) (128 + m % 128) (by omega) (by omega)
      have HC : Hid (#[Value.int .u8 (128 + (m : Int) % 128)] = byteCells [byt (128 + m % 128)]) := hcs
      clear hcs
      go_wp2_with (at_builtin; refine wpList_append_bytes rfl (.tmp 10) (.tmp 15) 22 rfl Try.underlying22 Try.info5 w.heap.size _ pre rfl hbuf _ [byt (128 + m % 128)] HC.out 1 1 rfl rfl (by simp; omega) hsz ?_; intro v' w1 hbuf1 hb1)
      obtain ⟨g, hg1, hg2, _⟩ := vF_round f m pre HM.out (by omega)
      go_roundw
      case rel => exact ⟨m / 128, g, pre ++ [byt (128 + m % 128)], by go_num, by omega, hg1, hg2.trans HP.out, hbuf1, hb.trans hb1⟩
      case measure => simp [intOf]; omega
    · have hcs := one_cell (m : Int) m rfl (by omega)
      have HC : Hid (#[Value.int .u8 (m : Int)] = byteCells [byt m]) := hcs
      clear hcs
      go_wp2_with (at_builtin; refine wpList_append_bytes rfl (.tmp 19) (.tmp 22) 22 rfl Try.underlying22 Try.info5 w.heap.size _ pre rfl hbuf _ [byt m] HC.out 1 1 rfl rfl (by simp; omega) hsz ?_; intro v' w1 hbuf1 hb1; have hcv := hbuf1.string (P := Try.prog) 22 9 Try.underlying22 Try.underlying5 Try.underlying9)
      go_ret
      exact ⟨by rw [← HP.out, vF_small f m (by omega)]; rfl, hb.trans hb1⟩

set_option maxHeartbeats 400000 in
theorem impl_var (n : Nat) (w : World) (h1 : n ≤ 562949953421311) :
    Calls Try.prog 50 #[.int .i64 (n : Int)] w fun e w' => e = .returned (.string (txt (vF 6 n))) ∧ Below w.heap.size w w' := by
  have q1 : (n : Int) ≤ 562949953421311 := by omega
  have q0 : (0 : Int) ≤ (n : Int) := by omega
  have hmk : ∀ w : World, (Instr.makeSlice 22 (.int .i64 0) (.int .i64 7)).run Try.prog w = .ok (.slice (some ⟨w.heap.size, 0, none⟩) 0 7) (w.alloc (.cells #[.int .u8 0, .int .u8 0, .int .u8 0, .int .u8 0, .int .u8 0, .int .u8 0, .int .u8 0] 5)) := fun _ => by kernel_rfl
  go_enter Try.func50, Try.ntmps50
  go_wp2
  go_loopw [0, 3] (fun v0 v3 wr => ∃ m f : Nat, ∃ pre : List UInt8, v0 = .int .i64 m ∧ m ≤ 562949953421311 ∧ m < 128 ^ (f + 1) ∧ pre ++ vF f m = vF 6 n ∧ Buf wr w.heap.size v3 pre ∧ Below w.heap.size w wr) (fun i _ _ => (intOf i).toNat)
  case atStart => exact ⟨n, 6, [], rfl, h1, by omega, rfl, Buf.made w w.heap.size 7 _ (Nat.le_refl _) (by simp [maxLen]) rfl, (Below.refl _ _).alloc (Nat.le_refl _) _⟩
  case round =>
    obtain ⟨m, f, pre, rfl, hm1, hm2, hpre, hbuf, hb⟩ := hrel
    have HP : Hid (pre ++ vF f m = vF 6 n) := hpre
    clear hpre
    have HM : Hid (m < 128 ^ (f + 1)) := hm2
    clear hm2
    have hlp : pre.length ≤ 7 := by
      have := congrArg List.length HP.out
      have := vF_length 6 n
      simp at *
      omega
    have hsz := hb.size
    by_cases hlt : (128 : Int) ≤ (m : Int)
    · have hcs := one_cell ((m : Int) % 128 + 128) (128 + m % 128) (by omega) (by omega)
      have HC : Hid (#[Value.int .u8 ((m : Int) % 128 + 128)] = byteCells [byt (128 + m % 128)]) := hcs
      clear hcs
      go_wp2_with (at_builtin; refine wpList_append_bytes rfl (.tmp 13) (.tmp 18) 22 rfl Try.underlying22 Try.info5 w.heap.size _ pre rfl hbuf _ [byt (128 + m % 128)] HC.out 1 1 rfl rfl (by simp; omega) hsz ?_; intro v' w1 hbuf1 hb1)
      obtain ⟨g, hg1, hg2, _⟩ := vF_round f m pre HM.out (by omega)
      go_roundw
      case rel => exact ⟨m / 128, g, pre ++ [byt (128 + m % 128)], by go_num, by omega, hg1, hg2.trans HP.out, hbuf1, hb.trans hb1⟩
      case measure => simp [intOf]; omega
    · have hcs := one_cell (m : Int) m rfl (by omega)
      have HC : Hid (#[Value.int .u8 (m : Int)] = byteCells [byt m]) := hcs
      clear hcs
      go_wp2_with (at_builtin; refine wpList_append_bytes rfl (.tmp 22) (.tmp 25) 22 rfl Try.underlying22 Try.info5 w.heap.size _ pre rfl hbuf _ [byt m] HC.out 1 1 rfl rfl (by simp; omega) hsz ?_; intro v' w1 hbuf1 hb1; have hcv := hbuf1.string (P := Try.prog) 22 9 Try.underlying22 Try.underlying5 Try.underlying9)
      go_ret
      exact ⟨by rw [← HP.out, vF_small f m (by omega)]; rfl, hb.trans hb1⟩

end Go.Proofs.Ytajodeahigmcoaa
