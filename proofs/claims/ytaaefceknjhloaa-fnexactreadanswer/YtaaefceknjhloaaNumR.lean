/-
  Contracts of chapter 1: spec.ReadVar and impl.ReadVar.
-/
import Derived.Test.YtaaefceknjhloaaRows
import Derived.Test.YtaaefceknjhloaaAid
import Derived.Test.YtaaefceknjhloaaNumV
import Derived.WalkKit
import Derived.ProofKit
import Derived.OpenShut
import Derived.Below
import Derived.Handy
import Derived.WalkLawsBesides
import Derived.WalkSpells
import Derived.WalkMore
import Derived.Outline
import Derived.Deep.OwnRows
import Derived.Deep.RegionHeld3
import Derived.Deep.RegionLaw
import Derived.Deep.DrawnRows
import Derived.WalkSmall
namespace Go.Proofs.Ytaaefceknjhloaa
open Go.ChangeShapes Go.WideShapes Go.ChangeAt Go.RowKit Go.PlainAid
set_option linter.unusedVariables false

/-- What both answer. -/
def ReadV (s : ByteArray) (e : Ending) : Prop :=
  (∃ k : Nat, FindV s k ∧ e = .returned (.tuple #[.int .i64 (vvS s 0 k : Int), .int .i64 (k : Int)])) ∨ ((∀ k, ¬ FindV s k) ∧ e = .returned (.tuple #[.int .i64 0, .int .i64 0]))

theorem vvS_or (s : ByteArray) (k : Nat) (h : k < 7) : bits .or .i64 (vvS s 0 k : Int) (wrap64 ((bn s k : Int) % 128 * 2 ^ (7 * k))) = (vvS s 0 (k + 1) : Int) := by
  have h1 := vvS_lt s k 0
  have h2 := vvS_le s (k + 1) (by omega) 0
  have e := vvS_snoc s k 0
  rw [Nat.zero_add] at e
  have e2 : (128 : Nat) ^ k = 2 ^ (7 * k) := by rw [Nat.pow_mul]
  have c : (bn s k : Int) % 128 * 2 ^ (7 * k) = ((bn s k % 128 * 2 ^ (7 * k) : Nat) : Int) := by norm_cast
  rw [e2] at e h1
  rw [c, IntWalk.wrap64_in _ ⟨by omega, by omega⟩]
  have j := or_join (7 * k) (bn s k % 128 * 2 ^ (7 * k)) (vvS s 0 k) (Nat.mul_mod_left _ _) h1 (by omega)
  have comm : bits .or .i64 (vvS s 0 k : Int) ((bn s k % 128 * 2 ^ (7 * k) : Nat) : Int) = bits .or .i64 ((bn s k % 128 * 2 ^ (7 * k) : Nat) : Int) (vvS s 0 k : Int) := by
    show IntKind.i64.wrap ((BitVec.ofInt 64 _ ||| BitVec.ofInt 64 _).toNat : Int) = IntKind.i64.wrap ((BitVec.ofInt 64 _ ||| BitVec.ofInt 64 _).toNat : Int)
    rw [BitVec.or_comm]
  rw [comm, j, e, Nat.add_comm]

theorem find_stop (s : ByteArray) (k : Nat) (hk : k < 7) (hs : k < s.size) (hj : ∀ j, j < k → 128 ≤ bn s j) (hc : bn s k < 128) (hz : k = 0 ∨ bn s k ≠ 0) : FindV s (k + 1) :=
  ⟨by omega, by omega, by omega, (canonS_char s k 0).2 ⟨by intro j h; rw [Nat.zero_add]; exact hj j h, by rw [Nat.zero_add]; exact hc, by rw [Nat.zero_add]; exact hz⟩⟩

theorem find_zero (s : ByteArray) (k : Nat) (hj : ∀ j, j < k → 128 ≤ bn s j) (hc : bn s k = 0) (hk : 0 < k) : ∀ m, ¬ FindV s m := by
  rintro m ⟨h1, h2, h3, h4⟩
  obtain ⟨d, rfl⟩ : ∃ d, m = d + 1 := ⟨m - 1, by omega⟩
  obtain ⟨c1, c2, c3⟩ := (canonS_char s d 0).1 h4
  rw [Nat.zero_add] at c2 c3
  rcases Nat.lt_trichotomy d k with h | h | h
  · have := hj d h; omega
  · subst h; omega
  · have := c1 k h; rw [Nat.zero_add] at this; omega

theorem find_end (s : ByteArray) (L : Nat) (hj : ∀ j, j < L → 128 ≤ bn s j) (hL : 7 ≤ L ∨ s.size ≤ L) : ∀ m, ¬ FindV s m := by
  rintro m ⟨h1, h2, h3, h4⟩
  obtain ⟨d, rfl⟩ : ∃ d, m = d + 1 := ⟨m - 1, by omega⟩
  obtain ⟨c1, c2, c3⟩ := (canonS_char s d 0).1 h4
  rw [Nat.zero_add] at c2
  have := hj d (by omega)
  omega

theorem ret_ints {a b c d : Int} (h : a = b) (h' : c = d) : Ending.returned (.tuple #[.int .i64 a, .int .i64 c]) = .returned (.tuple #[.int .i64 b, .int .i64 d]) := by rw [h, h']

set_option maxHeartbeats 1000000 in
theorem impl_readVar_long (s : ByteArray) (w : World) (hs : s.size ≤ 1048576) (h7 : (7 : Int) < (s.size : Int)) :
    Calls Try.prog 27 #[.string s] w fun e w' => ReadV s e ∧ w = w' := by
  have q1 : (s.size : Int) ≤ 1048576 := by omega
  have hbt := get_bn s
  go_enter Try.func27, Try.ntmps27
  go_wp2
  go_loop [4, 10] (fun v4 v10 => ∃ k : Nat, k ≤ 7 ∧ v10 = .int .i64 k ∧ v4 = .int .i64 (vvS s 0 k) ∧ Hid (∀ j, j < k → 128 ≤ bn s j)) (fun _ i => 7 - (intOf i).toNat)
  case atStart => exact ⟨0, by omega, rfl, rfl, fun j hj => absurd hj (by omega)⟩
  case round =>
    obtain ⟨k, hk, rfl, rfl, HJ⟩ := hrel
    by_cases hlt : k < 7
    · have r1 := bn_lt s k
      have HO : Hid (bits .or .i64 (vvS s 0 k : Int) (wrap64 ((bn s k : Int) % 128 * 2 ^ (7 * k))) = (vvS s 0 (k + 1) : Int)) := vvS_or s k (by omega)
      by_cases hc : (128 : Int) ≤ (bn s k : Int)
      · go_wp2
        go_round
        case rel =>
          refine ⟨k + 1, by omega, by go_num, by rw [HO.out], ?_⟩
          intro j hj
          by_cases e : j = k
          · subst e; omega
          · exact HJ.out j (by omega)
        case measure => simp [intOf]; omega
      · by_cases hz : bn s k = 0
        · by_cases hk0 : k = 0
          · have HF : Hid (FindV s (k + 1)) := find_stop s k (by omega) (by omega) HJ.out (by omega) (.inl hk0)
            have z1 : ((bn s k : Int) == 0) = true := by simp; omega
            have z2 : (k : Int) ≤ 0 := by omega
            clear hk0 hz
            go_wp2
            go_ret2
            exact ⟨.inl ⟨k + 1, HF.out, ret_ints HO.out (by omega)⟩, rfl⟩
          · have HF : Hid (∀ m, ¬ FindV s m) := find_zero s k HJ.out hz (by omega)
            have z1 : ((bn s k : Int) == 0) = true := by simp; omega
            have z2 : (0 : Int) < (k : Int) := by omega
            clear hz
            go_wp2
            go_ret2
            exact ⟨.inr ⟨HF.out, rfl⟩, rfl⟩
        · have HF : Hid (FindV s (k + 1)) := find_stop s k (by omega) (by omega) HJ.out (by omega) (.inr hz)
          have z1 : ((bn s k : Int) == 0) = false := by simp; omega
          go_wp2
          go_ret2
          exact ⟨.inl ⟨k + 1, HF.out, ret_ints HO.out (by omega)⟩, rfl⟩
    · have HF : Hid (∀ m, ¬ FindV s m) := find_end s k HJ.out (by omega)
      go_wp2
      go_ret2
      exact ⟨.inr ⟨HF.out, rfl⟩, rfl⟩

set_option maxHeartbeats 1000000 in
theorem impl_readVar_short (s : ByteArray) (w : World) (hs : s.size ≤ 1048576) (h7 : (s.size : Int) ≤ 7) :
    Calls Try.prog 27 #[.string s] w fun e w' => ReadV s e ∧ w = w' := by
  have q1 : (s.size : Int) ≤ 1048576 := by omega
  have hbt := get_bn s
  go_enter Try.func27, Try.ntmps27
  go_wp2
  go_loop [4, 10] (fun v4 v10 => ∃ k : Nat, k ≤ s.size ∧ v10 = .int .i64 k ∧ v4 = .int .i64 (vvS s 0 k) ∧ Hid (∀ j, j < k → 128 ≤ bn s j)) (fun _ i => s.size - (intOf i).toNat)
  case atStart => exact ⟨0, by omega, rfl, rfl, fun j hj => absurd hj (by omega)⟩
  case round =>
    obtain ⟨k, hk, rfl, rfl, HJ⟩ := hrel
    by_cases hlt : k < s.size
    · have r1 := bn_lt s k
      have HO : Hid (bits .or .i64 (vvS s 0 k : Int) (wrap64 ((bn s k : Int) % 128 * 2 ^ (7 * k))) = (vvS s 0 (k + 1) : Int)) := vvS_or s k (by omega)
      by_cases hc : (128 : Int) ≤ (bn s k : Int)
      · go_wp2
        go_round
        case rel =>
          refine ⟨k + 1, by omega, by go_num, by rw [HO.out], ?_⟩
          intro j hj
          by_cases e : j = k
          · subst e; omega
          · exact HJ.out j (by omega)
        case measure => simp [intOf]; omega
      · by_cases hz : bn s k = 0
        · by_cases hk0 : k = 0
          · have HF : Hid (FindV s (k + 1)) := find_stop s k (by omega) (by omega) HJ.out (by omega) (.inl hk0)
            have z1 : ((bn s k : Int) == 0) = true := by simp; omega
            have z2 : (k : Int) ≤ 0 := by omega
            clear hk0 hz
            go_wp2
            go_ret2
            exact ⟨.inl ⟨k + 1, HF.out, ret_ints HO.out (by omega)⟩, rfl⟩
          · have HF : Hid (∀ m, ¬ FindV s m) := find_zero s k HJ.out hz (by omega)
            have z1 : ((bn s k : Int) == 0) = true := by simp; omega
            have z2 : (0 : Int) < (k : Int) := by omega
            clear hz
            go_wp2
            go_ret2
            exact ⟨.inr ⟨HF.out, rfl⟩, rfl⟩
        · have HF : Hid (FindV s (k + 1)) := find_stop s k (by omega) (by omega) HJ.out (by omega) (.inr hz)
          have z1 : ((bn s k : Int) == 0) = false := by simp; omega
          go_wp2
          go_ret2
          exact ⟨.inl ⟨k + 1, HF.out, ret_ints HO.out (by omega)⟩, rfl⟩
    · have HF : Hid (∀ m, ¬ FindV s m) := find_end s k HJ.out (by omega)
      go_wp2
      go_ret2
      exact ⟨.inr ⟨HF.out, rfl⟩, rfl⟩

theorem impl_readVar (s : ByteArray) (w : World) (hs : s.size ≤ 1048576) :
    Calls Try.prog 27 #[.string s] w fun e w' => ReadV s e ∧ w = w' := by
  by_cases h : (7 : Int) < (s.size : Int)
  · exact impl_readVar_long s w hs h
  · exact impl_readVar_short s w hs (by omega)

theorem txt_list (l : List UInt8) : (txt l).toList = l := by rw [Lib.toList_data]; simp [txt]

theorem var_eq (s : ByteArray) (k : Nat) (h1 : 1 ≤ k) (h7 : k ≤ 7) (hk : k ≤ s.size) : ((txt (vF 6 (vvS s 0 k))).toList == (s.extract 0 k).toList) = true ↔ canonS s 0 k := by
  obtain ⟨d, rfl⟩ : ∃ d, k = d + 1 := ⟨k - 1, by omega⟩
  rw [sg_extract s (d + 1) hk, txt_list, txt_list, ← canonS_iff s d 0 6 (by omega)]
  simp

set_option maxHeartbeats 1000000 in
theorem spec_readVar (s : ByteArray) (w : World) (hs : s.size ≤ 1048576) :
    Calls Try.prog 21 #[.string s] w fun e w' => ReadV s e ∧ Below w.heap.size w w' := by
  have q1 : (s.size : Int) ≤ 1048576 := by omega
  have hbt := get_bn s
  go_enter Try.func21, Try.ntmps21
  go_wp2
  go_loopw [4] (fun v4 wr => ∃ k : Nat, 1 ≤ k ∧ k ≤ 8 ∧ v4 = .int .i64 k ∧ Hid (∀ j, j < k → ¬ FindV s j) ∧ Below w.heap.size w wr) (fun i _ => 8 - (intOf i).toNat)
  case atStart => exact ⟨1, by omega, by omega, rfl, (by intro j hj h; have := h.1; omega), Below.refl _ _⟩
  case round =>
    obtain ⟨k, hk1, hk, rfl, HJ, hb⟩ := hrel
    by_cases hlt : k ≤ 7
    · by_cases hle : k ≤ s.size
      · have c1 : (k : Int) ≤ 7 := by omega
        have c2 : (k : Int) ≤ (s.size : Int) := by omega
        have hkv := vvS_le s k hlt 0
        go_wp2
        go_loop [5, 6] (fun v5 v6 => ∃ j : Nat, j ≤ k ∧ v6 = .int .i64 ((j : Int) - 1) ∧ v5 = .int .i64 (vvS s j (k - j))) (fun _ i => (intOf i + 1).toNat)
        case atStart => exact ⟨k, by omega, rfl, by rw [Nat.sub_self]; rfl⟩
        case round =>
          obtain ⟨j, hj, rfl, rfl⟩ := hrel
          by_cases hj0 : 0 < j
          · have r1 := bn_lt s (j - 1)
            have r2 := vvS_le s (k - j) (by omega) j
            have hs0 : vvS s (j - 1) (k - (j - 1)) = bn s (j - 1) % 128 + 128 * vvS s j (k - j) := by
              have e1 : k - (j - 1) = (k - j) + 1 := by omega
              have e2 : j - 1 + 1 = j := by omega
              rw [e1, vvS, e2]
            have HS : Hid (vvS s (j - 1) (k - (j - 1)) = bn s (j - 1) % 128 + 128 * vvS s j (k - j)) := hs0
            clear hs0
            have e3 : ((j : Int) - 1).toNat = j - 1 := by omega
            go_wp2
            go_round
            case rel => exact ⟨j - 1, by omega, by go_num, by rw [HS.out]; go_num⟩
            case measure => simp [intOf]; omega
          · have hj00 : j = 0 := by omega
            subst hj00
            rw [Nat.sub_zero]
            by_cases hcan : canonS s 0 k
            · have hq := (var_eq s k hk1 hlt hle).2 hcan
              have HF : Hid (FindV s k) := ⟨hk1, hlt, hle, hcan⟩
              clear hcan
              go_wp2
              go_region_held3 (fun _ => True) (exact True.intro) ((go_at_call 13; refine (spec_var _ _ (by omega)).mono ?_; rintro e w1 ⟨rfl, hbv⟩))
              all_goals
                go_wp2
                go_ret2
                exact ⟨.inl ⟨k, HF.out, rfl⟩, hb.drew.trans (hbv.mono (by have := hb.size; exact this))⟩
            · have hq : ((txt (vF 6 (vvS s 0 k))).toList == (s.extract 0 k).toList) = false := by
                have := mt (var_eq s k hk1 hlt hle).1 hcan
                simpa using this
              have HF : Hid (¬ FindV s k) := fun h => hcan h.2.2.2
              clear hcan
              go_wp2
              go_region_held3 (fun _ => True) (exact True.intro) ((go_at_call 13; refine (spec_var _ _ (by omega)).mono ?_; rintro e w1 ⟨rfl, hbv⟩))
              all_goals
                go_wp2
                go_roundw
                case rel =>
                  refine ⟨k + 1, by omega, by omega, by go_num, ?_, hb.drew.trans (hbv.mono (by have := hb.size; exact this))⟩
                  intro j hj
                  by_cases e : j = k
                  · subst e; exact HF.out
                  · exact HJ.out j (by omega)
                case measure => simp [intOf]; omega
      · have c1 : (k : Int) ≤ 7 := by omega
        have c2 : decide ((k : Int) ≤ (s.size : Int)) = false := by simp; omega
        have HF : Hid (∀ m, ¬ FindV s m) := by
          intro m hm
          by_cases e : m < k
          · exact HJ.out m e hm
          · have := hm.2.2.1; omega
        go_wp2
        go_ret2
        exact ⟨.inr ⟨HF.out, rfl⟩, hb⟩
    · have c1 : (7 : Int) < (k : Int) := by omega
      have HF : Hid (∀ m, ¬ FindV s m) := by
        intro m hm
        by_cases e : m < k
        · exact HJ.out m e hm
        · have := hm.2.1; omega
      go_wp2
      go_ret2
      exact ⟨.inr ⟨HF.out, rfl⟩, hb⟩

end Go.Proofs.Ytaaefceknjhloaa
