/-
  Contracts of spec.Hex and impl.Hex: what each returns, at every text of at most 1048576 bytes.
-/
import Derived.Test.YtaplbjobhlbcoaiRows
import Derived.Test.YtaplbjobhlbcoaiAid
import Derived.Test.YtaplbjobhlbcoaiVar
import Derived.WalkKit
import Derived.ProofKit
import Derived.OpenShut
import Derived.Below
import Derived.Handy
import Derived.WalkLawsBesides
import Derived.Outline
import Derived.Deep.OwnRows
import Derived.Deep.RegionHeld3
import Derived.Deep.RegionLaw
import Derived.Deep.DrawnRows
namespace Go.Proofs.Ytaplbjobhlbcoai
open Go.ChangeShapes Go.WideShapes Go.ChangeAt Go.RowKit Go.PlainAid
set_option linter.unusedVariables false

/-- A digit of the sixteen. -/
theorem index_digit (n : Nat) (h : n < 16) (x : Int) (kd : IntKind) (hx : x = (n : Int)) (w : World) :
    (Instr.index 9 (.string ⟨#[48, 49, 50, 51, 52, 53, 54, 55, 56, 57, 97, 98, 99, 100, 101, 102]⟩) (.int kd x)).run Try.prog w = .ok (.int .u8 ((hexd n).toNat : Int)) w := by
  subst hx
  have hd := digits_at n h h
  have hq : digits[n]? = some (digits[n]'h) := getElem?_pos digits n h
  unfold digits at hd hq
  simp [Instr.index, run_underlying Try.underlying9, go_sem, hq, hd]
theorem u8_small (n : Nat) (h : n < 256) : IntKind.u8.wrap (n : Int) = (n : Int) := by rw [IntKind.wrap_u8']; omega

set_option maxHeartbeats 1000000 in
theorem impl_hex (s : ByteArray) (w : World) (hs : s.size ≤ 1048576) :
    Calls Try.prog 15 #[.string s] w fun e w' => e = .returned (.string (txt (hexs s s.size))) ∧ Below w.heap.size w w' := by
  have q1 : (s.size : Int) ≤ 1048576 := by omega
  have hbt := get_bn s
  have hmk := run_make_cap (P := Try.prog) 35 Try.underlying35 Try.info5 (2 * s.size) (2 * (s.size : Int)) (by omega) (by omega)
  go_enter Try.func15, Try.ntmps15
  go_wp2
  go_loopw [3, 11] (fun v3 v11 wr => ∃ k : Nat, k ≤ s.size ∧ v11 = .int .i64 k ∧ Buf wr w.heap.size v3 (hexs s k) ∧ Below w.heap.size w wr) (fun _ i _ => s.size - (intOf i).toNat)
  case atStart => exact ⟨0, by omega, rfl, Buf.made w w.heap.size _ _ (Nat.le_refl _) (by unfold maxLen; omega) (by simp [size_madeCells]), (Below.refl _ _).alloc (Nat.le_refl _) _⟩
  case round =>
    obtain ⟨k, hk, rfl, hbuf, hb⟩ := hrel
    by_cases hlt : k < s.size
    · have r1 := bn_lt s k
      have i1 := index_digit (bn s k / 16) (by omega) (IntKind.u8.wrap ((bn s k : Int) / 16)) .u8 (by rw [IntKind.wrap_u8']; omega)
      have i2 := index_digit (bn s k % 16) (by omega) ((bn s k : Int).tmod 16) .u8 (by rw [Int.tmod_eq_emod_of_nonneg (by omega)]; omega)
      go_wp2
      go_region_law ((refine step_append_buf (by rfl) (.tmp 14) (.tmp 25) 35 (by rfl) Try.underlying35 Try.info5 w.heap.size u3 (hexs s k) (by rfl) (by exact hbuf.alloc _) _ [hexd (bn s k / 16), hexd (bn s k % 16)] 2 2 rfl (by rfl) (by exact cells_new wr _ _ (two_cells _ _ _ _ rfl rfl)) (by rw [hexs_length]; simp; omega) (by have := hb.size; simp; omega) ?_; intro v' w1 hbuf1 hb1))
      all_goals
        have hb2 : Below w.heap.size w w1 := hb.trans (Below.trans (((Below.refl w.heap.size wr).alloc hb.size _).drew) hb1)
        clear hb1 hbuf hb
        go_wp2
        go_roundw
        case rel => exact ⟨k + 1, by omega, by go_num, hbuf1, hb2⟩
        case measure => simp [intOf]; omega
    · have hkk : k = s.size := by omega
      have hcv := hbuf.string (P := Try.prog) 35 9 Try.underlying35 Try.underlying5 Try.underlying9
      go_wp2
      go_ret
      exact ⟨by rw [hkk]; rfl, hb⟩

set_option maxHeartbeats 400000 in
theorem spec_digit (x : Int) (w : World) (h0 : 0 ≤ x) (h1 : x < 16) :
    Calls Try.prog 19 #[.int .i64 x] w fun e w' => e = .returned (.int .u8 ((hexd x.toNat).toNat : Int)) ∧ w = w' := by
  obtain ⟨n, rfl⟩ := Int.eq_ofNat_of_zero_le h0
  have i1 := index_digit n (by omega) (n : Int) .i64 rfl
  go_enter Try.func19, Try.ntmps19
  go_wp2
  go_ret
  exact ⟨rfl, rfl⟩

set_option maxHeartbeats 1000000 in
theorem spec_hex (s : ByteArray) (w : World) (hs : s.size ≤ 1048576) :
    Calls Try.prog 14 #[.string s] w fun e w' => e = .returned (.string (txt (hexs s s.size))) ∧ Below w.heap.size w w' := by
  have q1 : (s.size : Int) ≤ 1048576 := by omega
  have hbt := get_bn s
  go_enter Try.func14, Try.ntmps14
  go_wp2
  go_loopw [3, 4] (fun v3 v4 wr => ∃ k : Nat, k ≤ s.size ∧ v4 = .int .i64 k ∧ Buf wr w.heap.size v3 (hexs s k) ∧ Below w.heap.size w wr) (fun _ i _ => s.size - (intOf i).toNat)
  case atStart => exact ⟨0, by omega, rfl, Buf.made w w.heap.size 0 #[] (Nat.le_refl _) (by simp [maxLen]) rfl, (Below.refl _ _).alloc (Nat.le_refl _) _⟩
  case round =>
    obtain ⟨k, hk, rfl, hbuf, hb⟩ := hrel
    by_cases hlt : k < s.size
    · have r1 := bn_lt s k
      have f1 : IntKind.i64.wrap (bn s k : Int) = (bn s k : Int) := Lib.wrap_i64_small _ (by omega)
      have f2 : IntKind.i64.wrap ((bn s k : Int) / 16) = (bn s k : Int) / 16 := by rw [show ((bn s k : Int) / 16) = ((bn s k / 16 : Nat) : Int) by omega]; exact Lib.wrap_i64_small _ (by omega)
      have f3 : (bn s k : Int).tmod 16 = (bn s k : Int) % 16 := Int.tmod_eq_emod_of_nonneg (by omega)
      have g1 : ((bn s k : Int) / 16).toNat = bn s k / 16 := by omega
      have g2 : ((bn s k : Int) % 16).toNat = bn s k % 16 := by omega
      go_wp2
      go_region_held3 (fun _ => True) (exact True.intro) ((first | (go_at_call 19; refine (spec_digit _ _ (by omega) (by omega)).mono ?_; rintro e w' ⟨rfl, rfl⟩) | (refine step_append_buf (by rfl) (.tmp 12) (.tmp 25) 35 (by rfl) Try.underlying35 Try.info5 w.heap.size u3 (hexs s k) (by rfl) (by exact hbuf.alloc _) _ [hexd (bn s k / 16), hexd (bn s k % 16)] 2 2 rfl (by rfl) (by exact cells_new wr _ _ (two_cells _ _ _ _ rfl rfl)) (by rw [hexs_length]; simp; omega) (by have := hb.size; simp; omega) ?_; intro v' w1 hbuf1 hb1)))
      all_goals
        have hb2 : Below w.heap.size w w1 := hb.trans (Below.trans (((Below.refl w.heap.size wr).alloc hb.size _).drew) hb1)
        clear hb1 hbuf hb
        go_wp2
        go_roundw
        case rel => exact ⟨k + 1, by omega, by go_num, hbuf1, hb2⟩
        case measure => simp [intOf]; omega
    · have hkk : k = s.size := by omega
      have hcv := hbuf.string (P := Try.prog) 35 9 Try.underlying35 Try.underlying5 Try.underlying9
      go_wp2
      go_ret
      exact ⟨by rw [hkk]; rfl, hb⟩

set_option maxHeartbeats 400000 in
theorem law_fnExactHex (s : ByteArray) (w : World) (hs : s.size ≤ maxLen) :
    Calls Try.prog 6 #[.string s] w fun e w' => e = .returned (.bool true) ∧ Below w.heap.size w w' := by
  unfold maxLen at hs
  by_cases hl : (1048576 : Int) < (s.size : Int)
  · go_enter Try.func6, Try.ntmps6
    go_wp2
    go_ret
    exact ⟨rfl, Below.refl _ _⟩
  · go_enter Try.func6, Try.ntmps6
    go_wp2_with fail
    refine (spec_hex s _ (by omega)).mono ?_
    rintro e w1 ⟨rfl, hb1⟩
    go_wp2_with fail
    refine (impl_hex s _ (by omega)).mono ?_
    rintro e w2 ⟨rfl, hb2⟩
    go_wp2_with fail
    go_ret
    exact ⟨rfl, hb1.trans (hb2.mono hb1.size)⟩
end Go.Proofs.Ytaplbjobhlbcoai
