/- Num2 ReadImpl ReadTold ReadSpec ReadSpecY -/
import Derived.Test.YtdimaoloapbeoaaGreatDoorQv11
import Derived.Test.YtdimaoloapbeoaaGreatDoorRows
import Derived.Test.YtdimaoloapbeoaaGreatDoorQv0
import Derived.WalkKit
import Derived.ProofKit
import Derived.OpenShut
import Derived.Below
import Derived.Handy
import Derived.WalkLawsBesides
import Derived.WalkSpells
import Derived.WalkMore
import Derived.Outline
import Derived.Deep.OwnRows
import Derived.Deep.RegionHeld3
import Derived.Deep.RegionLaw
import Derived.Deep.DrawnRows
import Derived.WalkSmall
import Derived.Test.YtdimaoloapbeoaaGreatDoorQv10
import Derived.LoopN
import Derived.Test.YtdimaoloapbeoaaGreatDoorQv13
namespace Go.Proofs.YtdimaoloapbeoaaGreatDoor
open Go.ChangeShapes Go.WideShapes Go.ChangeAt Go.RowKit Go.PlainAid
set_option linter.unusedVariables false
def ReadV (s : ByteArray) (e : Ending) : Prop :=
 (∃ k : Nat, FindV s k ∧ e = .returned (.tuple #[.int .i64 (vvS s 0 k : Int), .int .i64 (k : Int)])) ∨ ((∀ k, ¬ FindV s k) ∧ e = .returned (.tuple #[.int .i64 0, .int .i64 0]))
theorem vvS_or (s : ByteArray) (k : Nat) (h : k < 7) : bits .or .i64 (vvS s 0 k : Int) (wrap64 ((bn s k : Int) % 128 * 2 ^ (7 * k))) = (vvS s 0 (k + 1) : Int) := by
 have h1 := vvS_lt s k 0
 have h2 := vvS_le s (k + 1) (by omega) 0
 have e := vvS_snoc s k 0
 rw [Nat.zero_add] at e
 have e2 : (128 : Nat) ^ k = 2 ^ (7 * k) := by rw [Nat.pow_mul]
 have c : (bn s k : Int) % 128 * 2 ^ (7 * k) = ((bn s k % 128 * 2 ^ (7 * k) : Nat) : Int) := by norm_cast
 rw [e2] at e h1
 rw [c, IntWalk.wrap64_in _ ⟨by omega, by omega⟩]
 have j := or_join (7 * k) (bn s k % 128 * 2 ^ (7 * k)) (vvS s 0 k) (Nat.mul_mod_left _ _) h1 (by omega)
 have comm : bits .or .i64 (vvS s 0 k : Int) ((bn s k % 128 * 2 ^ (7 * k) : Nat) : Int) = bits .or .i64 ((bn s k % 128 * 2 ^ (7 * k) : Nat) : Int) (vvS s 0 k : Int) := by
  show IntKind.i64.wrap ((BitVec.ofInt 64 _ ||| BitVec.ofInt 64 _).toNat : Int) = IntKind.i64.wrap ((BitVec.ofInt 64 _ ||| BitVec.ofInt 64 _).toNat : Int)
  rw [BitVec.or_comm]
 rw [comm, j, e, Nat.add_comm]
theorem find_stop (s : ByteArray) (k : Nat) (hk : k < 7) (hs : k < s.size) (hj : ∀ j, j < k → 128 ≤ bn s j) (hc : bn s k < 128) (hz : k = 0 ∨ bn s k ≠ 0) : FindV s (k + 1) :=
 ⟨by omega, by omega, by omega, (canonS_char s k 0).2 ⟨by intro j h; rw [Nat.zero_add]; exact hj j h, by rw [Nat.zero_add]; exact hc, by rw [Nat.zero_add]; exact hz⟩⟩
theorem find_zero (s : ByteArray) (k : Nat) (hj : ∀ j, j < k → 128 ≤ bn s j) (hc : bn s k = 0) (hk : 0 < k) : ∀ m, ¬ FindV s m := by
 rintro m ⟨h1, h2, h3, h4⟩
 obtain ⟨d, rfl⟩ : ∃ d, m = d + 1 := ⟨m - 1, by omega⟩
 obtain ⟨c1, c2, c3⟩ := (canonS_char s d 0).1 h4
 rw [Nat.zero_add] at c2 c3
 rcases Nat.lt_trichotomy d k with h | h | h
 ·have := hj d h; omega
 ·subst h; omega
 ·have := c1 k h; rw [Nat.zero_add] at this; omega
theorem find_end (s : ByteArray) (L : Nat) (hj : ∀ j, j < L → 128 ≤ bn s j) (hL : 7 ≤ L ∨ s.size ≤ L) : ∀ m, ¬ FindV s m := by
 rintro m ⟨h1, h2, h3, h4⟩
 obtain ⟨d, rfl⟩ : ∃ d, m = d + 1 := ⟨m - 1, by omega⟩
 obtain ⟨c1, c2, c3⟩ := (canonS_char s d 0).1 h4
 rw [Nat.zero_add] at c2
 have := hj d (by omega)
 omega
theorem ret_ints {a b c d : Int} (h : a = b) (h' : c = d) : Ending.returned (.tuple #[.int .i64 a, .int .i64 c]) = .returned (.tuple #[.int .i64 b, .int .i64 d]) := by rw [h, h']
set_option maxHeartbeats 1000000 in
theorem impl_readVar_long (s : ByteArray) (w : World) (hs : s.size ≤ 1048576) (h7 : (7 : Int) < (s.size : Int)) :
  Calls Tryz.prog 98 #[.string s] w fun e w' => ReadV s e ∧ w = w' := by
 have q1 : (s.size : Int) ≤ 1048576 := by omega
 have hbt := get_bn s
 go_enter Tryz.func98, Tryz.ntmps98
 go_wp2
 go_loop [4, 10] (fun v4 v10 => ∃ k : Nat, k ≤ 7 ∧ v10 = .int .i64 k ∧ v4 = .int .i64 (vvS s 0 k) ∧ Hid (∀ j, j < k → 128 ≤ bn s j)) (fun _ i => 7 - (intOf i).toNat)
 case atStart => exact ⟨0, by omega, rfl, rfl, fun j hj => absurd hj (by omega)⟩
 case round =>
  obtain ⟨k, hk, rfl, rfl, HJ⟩ := hrel
  by_cases hlt : k < 7
  ·have r1 := bn_lt s k
   have HO : Hid (bits .or .i64 (vvS s 0 k : Int) (wrap64 ((bn s k : Int) % 128 * 2 ^ (7 * k))) = (vvS s 0 (k + 1) : Int)) := vvS_or s k (by omega)
   by_cases hc : (128 : Int) ≤ (bn s k : Int)
   ·go_wp2
    go_round
    case rel =>
     refine ⟨k + 1, by omega, by go_num, by rw [HO.out], ?_⟩
     intro j hj
     by_cases e : j = k
     ·subst e; omega
     ·exact HJ.out j (by omega)
    case measure => simp [intOf]; omega
   ·by_cases hz : bn s k = 0
    ·by_cases hk0 : k = 0
     ·have HF : Hid (FindV s (k + 1)) := find_stop s k (by omega) (by omega) HJ.out (by omega) (.inl hk0)
      have z1 : ((bn s k : Int) == 0) = true := by simp; omega
      have z2 : (k : Int) ≤ 0 := by omega
      clear hk0 hz
      go_wp2
      go_ret2
      exact ⟨.inl ⟨k + 1, HF.out, ret_ints HO.out (by omega)⟩, rfl⟩
     ·have HF : Hid (∀ m, ¬ FindV s m) := find_zero s k HJ.out hz (by omega)
      have z1 : ((bn s k : Int) == 0) = true := by simp; omega
      have z2 : (0 : Int) < (k : Int) := by omega
      clear hz
      go_wp2
      go_ret2
      exact ⟨.inr ⟨HF.out, rfl⟩, rfl⟩
    ·have HF : Hid (FindV s (k + 1)) := find_stop s k (by omega) (by omega) HJ.out (by omega) (.inr hz)
     have z1 : ((bn s k : Int) == 0) = false := by simp; omega
     go_wp2
     go_ret2
     exact ⟨.inl ⟨k + 1, HF.out, ret_ints HO.out (by omega)⟩, rfl⟩
  ·have HF : Hid (∀ m, ¬ FindV s m) := find_end s k HJ.out (by omega)
   go_wp2
   go_ret2
   exact ⟨.inr ⟨HF.out, rfl⟩, rfl⟩
set_option maxHeartbeats 1000000 in
theorem impl_readVar_short (s : ByteArray) (w : World) (hs : s.size ≤ 1048576) (h7 : (s.size : Int) ≤ 7) :
  Calls Tryz.prog 98 #[.string s] w fun e w' => ReadV s e ∧ w = w' := by
 have q1 : (s.size : Int) ≤ 1048576 := by omega
 have hbt := get_bn s
 go_enter Tryz.func98, Tryz.ntmps98
 go_wp2
 go_loop [4, 10] (fun v4 v10 => ∃ k : Nat, k ≤ s.size ∧ v10 = .int .i64 k ∧ v4 = .int .i64 (vvS s 0 k) ∧ Hid (∀ j, j < k → 128 ≤ bn s j)) (fun _ i => s.size - (intOf i).toNat)
 case atStart => exact ⟨0, by omega, rfl, rfl, fun j hj => absurd hj (by omega)⟩
 case round =>
  obtain ⟨k, hk, rfl, rfl, HJ⟩ := hrel
  by_cases hlt : k < s.size
  ·have r1 := bn_lt s k
   have HO : Hid (bits .or .i64 (vvS s 0 k : Int) (wrap64 ((bn s k : Int) % 128 * 2 ^ (7 * k))) = (vvS s 0 (k + 1) : Int)) := vvS_or s k (by omega)
   by_cases hc : (128 : Int) ≤ (bn s k : Int)
   ·go_wp2
    go_round
    case rel =>
     refine ⟨k + 1, by omega, by go_num, by rw [HO.out], ?_⟩
     intro j hj
     by_cases e : j = k
     ·subst e; omega
     ·exact HJ.out j (by omega)
    case measure => simp [intOf]; omega
   ·by_cases hz : bn s k = 0
    ·by_cases hk0 : k = 0
     ·have HF : Hid (FindV s (k + 1)) := find_stop s k (by omega) (by omega) HJ.out (by omega) (.inl hk0)
      have z1 : ((bn s k : Int) == 0) = true := by simp; omega
      have z2 : (k : Int) ≤ 0 := by omega
      clear hk0 hz
      go_wp2
      go_ret2
      exact ⟨.inl ⟨k + 1, HF.out, ret_ints HO.out (by omega)⟩, rfl⟩
     ·have HF : Hid (∀ m, ¬ FindV s m) := find_zero s k HJ.out hz (by omega)
      have z1 : ((bn s k : Int) == 0) = true := by simp; omega
      have z2 : (0 : Int) < (k : Int) := by omega
      clear hz
      go_wp2
      go_ret2
      exact ⟨.inr ⟨HF.out, rfl⟩, rfl⟩
    ·have HF : Hid (FindV s (k + 1)) := find_stop s k (by omega) (by omega) HJ.out (by omega) (.inr hz)
     have z1 : ((bn s k : Int) == 0) = false := by simp; omega
     go_wp2
     go_ret2
     exact ⟨.inl ⟨k + 1, HF.out, ret_ints HO.out (by omega)⟩, rfl⟩
  ·have HF : Hid (∀ m, ¬ FindV s m) := find_end s k HJ.out (by omega)
   go_wp2
   go_ret2
   exact ⟨.inr ⟨HF.out, rfl⟩, rfl⟩
theorem impl_readVar (s : ByteArray) (w : World) (hs : s.size ≤ 1048576) :
  Calls Tryz.prog 98 #[.string s] w fun e w' => ReadV s e ∧ w = w' := by
 by_cases h : (7 : Int) < (s.size : Int)
 ·exact impl_readVar_long s w hs h
 ·exact impl_readVar_short s w hs (by omega)
theorem txt_list (l : List UInt8) : (txt l).toList = l := by rw [Lib.toList_data]; simp [txt]
theorem var_eq (s : ByteArray) (k : Nat) (h1 : 1 ≤ k) (h7 : k ≤ 7) (hk : k ≤ s.size) : ((txt (vF 6 (vvS s 0 k))).toList == (s.extract 0 k).toList) = true ↔ canonS s 0 k := by
 obtain ⟨d, rfl⟩ : ∃ d, k = d + 1 := ⟨k - 1, by omega⟩
 rw [sg_extract s (d + 1) hk, txt_list, txt_list, ← canonS_iff s d 0 6 (by omega)]
 simp
set_option maxHeartbeats 1000000 in
theorem spec_readVar (s : ByteArray) (w : World) (hs : s.size ≤ 1048576) :
  Calls Tryz.prog 81 #[.string s] w fun e w' => ReadV s e ∧ Below w.heap.size w w' := by
 have q1 : (s.size : Int) ≤ 1048576 := by omega
 have hbt := get_bn s
 go_enter Tryz.func81, Tryz.ntmps81
 go_wp2
 go_loopw [4] (fun v4 wr => ∃ k : Nat, 1 ≤ k ∧ k ≤ 8 ∧ v4 = .int .i64 k ∧ Hid (∀ j, j < k → ¬ FindV s j) ∧ Below w.heap.size w wr) (fun i _ => 8 - (intOf i).toNat)
 case atStart => exact ⟨1, by omega, by omega, rfl, (by intro j hj h; have := h.1; omega), Below.refl _ _⟩
 case round =>
  obtain ⟨k, hk1, hk, rfl, HJ, hb⟩ := hrel
  by_cases hlt : k ≤ 7
  ·by_cases hle : k ≤ s.size
   ·have c1 : (k : Int) ≤ 7 := by omega
    have c2 : (k : Int) ≤ (s.size : Int) := by omega
    have hkv := vvS_le s k hlt 0
    go_wp2
    go_loop [5, 6] (fun v5 v6 => ∃ j : Nat, j ≤ k ∧ v6 = .int .i64 ((j : Int) - 1) ∧ v5 = .int .i64 (vvS s j (k - j))) (fun _ i => (intOf i + 1).toNat)
    case atStart => exact ⟨k, by omega, rfl, by rw [Nat.sub_self]; rfl⟩
    case round =>
     obtain ⟨j, hj, rfl, rfl⟩ := hrel
     by_cases hj0 : 0 < j
     ·have r1 := bn_lt s (j - 1)
      have r2 := vvS_le s (k - j) (by omega) j
      have hs0 : vvS s (j - 1) (k - (j - 1)) = bn s (j - 1) % 128 + 128 * vvS s j (k - j) := by
       have e1 : k - (j - 1) = (k - j) + 1 := by omega
       have e2 : j - 1 + 1 = j := by omega
       rw [e1, vvS, e2]
      have HS : Hid (vvS s (j - 1) (k - (j - 1)) = bn s (j - 1) % 128 + 128 * vvS s j (k - j)) := hs0
      clear hs0
      have e3 : ((j : Int) - 1).toNat = j - 1 := by omega
      go_wp2
      go_round
      case rel => exact ⟨j - 1, by omega, by go_num, by rw [HS.out]; go_num⟩
      case measure => simp [intOf]; omega
     ·have hj00 : j = 0 := by omega
      subst hj00
      rw [Nat.sub_zero]
      by_cases hcan : canonS s 0 k
      ·have hq := (var_eq s k hk1 hlt hle).2 hcan
       have HF : Hid (FindV s k) := ⟨hk1, hlt, hle, hcan⟩
       clear hcan
       go_wp2
       go_region_held3 (fun _ => True) (exact True.intro) ((go_at_call 108; refine (spec_var _ _ (by omega)).mono ?_; rintro e w1 ⟨rfl, hbv⟩))
       all_goals
        go_wp2
        go_ret2
        exact ⟨.inl ⟨k, HF.out, rfl⟩, hb.drew.trans (hbv.mono (by have := hb.size; exact this))⟩
      ·have hq : ((txt (vF 6 (vvS s 0 k))).toList == (s.extract 0 k).toList) = false := by
        have := mt (var_eq s k hk1 hlt hle).1 hcan
        simpa using this
       have HF : Hid (¬ FindV s k) := fun h => hcan h.2.2.2
       clear hcan
       go_wp2
       go_region_held3 (fun _ => True) (exact True.intro) ((go_at_call 108; refine (spec_var _ _ (by omega)).mono ?_; rintro e w1 ⟨rfl, hbv⟩))
       all_goals
        go_wp2
        go_roundw
        case rel =>
         refine ⟨k + 1, by omega, by omega, by go_num, ?_, hb.drew.trans (hbv.mono (by have := hb.size; exact this))⟩
         intro j hj
         by_cases e : j = k
         ·subst e; exact HF.out
         ·exact HJ.out j (by omega)
        case measure => simp [intOf]; omega
   ·have c1 : (k : Int) ≤ 7 := by omega
    have c2 : decide ((k : Int) ≤ (s.size : Int)) = false := by simp; omega
    have HF : Hid (∀ m, ¬ FindV s m) := by
     intro m hm
     by_cases e : m < k
     ·exact HJ.out m e hm
     ·have := hm.2.2.1; omega
    go_wp2
    go_ret2
    exact ⟨.inr ⟨HF.out, rfl⟩, hb⟩
  ·have c1 : (7 : Int) < (k : Int) := by omega
   have HF : Hid (∀ m, ¬ FindV s m) := by
    intro m hm
    by_cases e : m < k
    ·exact HJ.out m e hm
    ·have := hm.2.1; omega
   go_wp2
   go_ret2
   exact ⟨.inr ⟨HF.out, rfl⟩, hb⟩
end Go.Proofs.YtdimaoloapbeoaaGreatDoor
namespace Go.Proofs.YtdimaoloapbeoaaGreatDoor
open Go.ChangeShapes Go.WideShapes Go.ChangeAt Go.RowKit Go.PlainAid
set_option linter.unusedVariables false
theorem irv_yes (s : ByteArray) (k : Nat) (hs : s.size ≤ 1048576) (h : FindV s k) (w : World) : Calls Tryz.prog 98 #[.string s] w fun e w' => e = .returned (.tuple #[.int .i64 (vvS s 0 k : Int), .int .i64 (k : Int)]) ∧ w = w' := by
 refine (impl_readVar s w hs).mono ?_
 rintro e w' ⟨⟨k', hk', rfl⟩ | ⟨hn, rfl⟩, rfl⟩
 ·obtain rfl := FindV.one h hk'
  exact ⟨rfl, rfl⟩
 ·exact absurd h (hn k)
theorem irv_no (s : ByteArray) (hs : s.size ≤ 1048576) (h : ∀ k, ¬ FindV s k) (w : World) : Calls Tryz.prog 98 #[.string s] w fun e w' => e = .returned (.tuple #[.int .i64 0, .int .i64 0]) ∧ w = w' := by
 refine (impl_readVar s w hs).mono ?_
 rintro e w' ⟨⟨k', hk', rfl⟩ | ⟨hn, rfl⟩, rfl⟩
 ·exact absurd hk' (h k')
 ·exact ⟨rfl, rfl⟩
theorem rdv_one (s : ByteArray) : rdv s 1 = bn s 0 := by simp [rdv]
structure Parts (s s1 s2 s3 s4 : ByteArray) (k1 k2 k3 : Nat) : Prop where
 h0 : 1 ≤ s.size
 e1 : s1 = s.extract 1 s.size
 f1 : FindV s1 k1
 e2 : s2 = s1.extract k1 s1.size
 f2 : FindV s2 k2
 e3 : s3 = s2.extract k2 s2.size
 f3 : FindV s3 k3
 e4 : s4 = s3.extract k3 s3.size
def partsR (s s1 s2 s3 s4 : ByteArray) (k1 k2 k3 : Nat) : Rcd := ⟨bn s 0, vvS s1 0 k1, vvS s2 0 k2, (vvS s3 0 k3 : Int) - 1, s4⟩
def NoParts (s : ByteArray) : Prop := s.size = 0 ∨ (1 ≤ s.size ∧ ((∀ k, ¬ FindV (s.extract 1 s.size) k) ∨ ∃ s1 k1, s1 = s.extract 1 s.size ∧ FindV s1 k1 ∧ ((∀ k, ¬ FindV (s1.extract k1 s1.size) k) ∨ ∃ s2 k2, s2 = s1.extract k1 s1.size ∧ FindV s2 k2 ∧ ∀ k, ¬ FindV (s2.extract k2 s2.size) k)))
theorem parts_or (s : ByteArray) : NoParts s ∨ ∃ s1 s2 s3 s4 k1 k2 k3, Parts s s1 s2 s3 s4 k1 k2 k3 := by
 by_cases h0 : s.size = 0
 ·exact .inl (.inl h0)
 by_cases h1 : ∃ k, FindV (s.extract 1 s.size) k
 rotate_left
 ·exact .inl (.inr ⟨by omega, .inl fun k h => h1 ⟨k, h⟩⟩)
 obtain ⟨k1, h1⟩ := h1
 by_cases h2 : ∃ k, FindV ((s.extract 1 s.size).extract k1 (s.extract 1 s.size).size) k
 rotate_left
 ·exact .inl (.inr ⟨by omega, .inr ⟨_, k1, rfl, h1, .inl fun k h => h2 ⟨k, h⟩⟩⟩)
 obtain ⟨k2, h2⟩ := h2
 by_cases h3 : ∃ k, FindV (((s.extract 1 s.size).extract k1 (s.extract 1 s.size).size).extract k2 ((s.extract 1 s.size).extract k1 (s.extract 1 s.size).size).size) k
 rotate_left
 ·exact .inl (.inr ⟨by omega, .inr ⟨_, k1, rfl, h1, .inr ⟨_, k2, rfl, h2, fun k h => h3 ⟨k, h⟩⟩⟩⟩)
 obtain ⟨k3, h3⟩ := h3
 exact .inr ⟨_, _, _, _, k1, k2, k3, by omega, rfl, h1, rfl, h2, rfl, h3, rfl⟩
theorem ext_size (s : ByteArray) (k : Nat) : (s.extract k s.size).size = s.size - k := by simp
set_option maxHeartbeats 1000000 in
theorem readRecord_yes (s s1 s2 s3 s4 : ByteArray) (k1 k2 k3 : Nat) (w : World) (hs : s.size ≤ 1048576) (h : Parts s s1 s2 s3 s4 k1 k2 k3) :
  Calls Tryz.prog 67 #[.string s] w fun e w' => e = .returned (recV (partsR s s1 s2 s3 s4 k1 k2 k3)) ∧ Below w.heap.size w w' := by
 obtain ⟨h0, e1, f1, e2, f2, e3, f3, e4⟩ := h
 have z1 : s1.size = s.size - 1 := by rw [e1, ext_size]
 have z2 : s2.size = s1.size - k1 := by rw [e2, ext_size]
 have z3 : s3.size = s2.size - k2 := by rw [e3, ext_size]
 have z4 : s4.size = s3.size - k3 := by rw [e4, ext_size]
 have c0 := fun wx => impl_readFixed s 1 wx (by unfold maxLen; omega) (by omega) (by omega) h0
 rw [rdv_one] at c0
 have c1 := irv_yes s1 k1 (by omega) f1
 have c2 := irv_yes s2 k2 (by omega) f2
 have c3 := irv_yes s3 k3 (by omega) f3
 have u1 := f1.2.2.1
 have u2 := f2.2.2.1
 have u3 := f3.2.2.1
 have p1 : (0 : Int) < (k1 : Int) := by have := f1.1; omega
 have p2 : (0 : Int) < (k2 : Int) := by have := f2.1; omega
 have p3 : (0 : Int) < (k3 : Int) := by have := f3.1; omega
 have n1 : ((k1 : Int) == 0) = false := by simp; omega
 have n2 : ((k2 : Int) == 0) = false := by simp; omega
 have n3 : ((k3 : Int) == 0) = false := by simp; omega
 have i0 : (1 : Int) ≤ (s.size : Int) := by omega
 have i1 : (k1 : Int) ≤ (s1.size : Int) := by omega
 have i2 : (k2 : Int) ≤ (s2.size : Int) := by omega
 have i3 : (k3 : Int) ≤ (s3.size : Int) := by omega
 have v3 := vvS_le s3 k3 (by have := f3.2.1; omega) 0
 have HR : Hid (partsR s s1 s2 s3 s4 k1 k2 k3 = ⟨bn s 0, vvS s1 0 k1, vvS s2 0 k2, (vvS s3 0 k3 : Int) - 1, s4⟩) := rfl
 have c4 := fun wx => recordOfV ⟨bn s 0, vvS s1 0 k1, vvS s2 0 k2, (vvS s3 0 k3 : Int) - 1, s4⟩ wx (by simp only; unfold maxLen; omega)
 unfold vRcd at c4
 simp only at c4
 generalize vvS s1 0 k1 = a1 at *
 generalize vvS s2 0 k2 = a2 at *
 generalize vvS s3 0 k3 = a3 at *
 have hw : IntKind.i64.wrap ((a3 : Int) - 1) = (a3 : Int) - 1 := by rw [IntKind.wrap_i64]; omega
 have E1 : Hid (s1 = s.extract 1 s.size) := e1
 have E2 : Hid (s2 = s1.extract k1 s1.size) := e2
 have E3 : Hid (s3 = s2.extract k2 s2.size) := e3
 have E4 : Hid (s4 = s3.extract k3 s3.size) := e4
 clear f1 f2 f3 e1 e2 e3 e4 z1 z2 z3 z4
 go_enter Tryz.func67, Tryz.ntmps67
 go_wp2_with fail
 refine (c0 _).mono ?_
 rintro e w0 ⟨rfl, h0w⟩
 obtain rfl : w0 = w := by first | exact h0w | exact h0w.symm
 go_wp2_with fail
 refine wp_loop_rounds 4 ?_
 rw [rounds_succ]
 go_wp2_with fail
 rw [← E1.out]
 refine (c1 _).mono ?_
 rintro e w' ⟨rfl, rfl⟩
 go_wp2_with fail
 rw [rounds_succ]
 go_wp2_with fail
 rw [← E2.out]
 refine (c2 _).mono ?_
 rintro e w' ⟨rfl, rfl⟩
 go_wp2_with fail
 rw [rounds_succ]
 go_wp2_with fail
 rw [← E3.out]
 refine (c3 _).mono ?_
 rintro e w' ⟨rfl, rfl⟩
 go_wp2_with fail
 rw [rounds_succ]
 go_wp2_with fail
 rw [← E4.out]
 have hb0 : Below w0.heap.size w0 (w0.alloc (.cells #[.int .i64 (a1 : Int), .int .i64 (a2 : Int), .int .i64 (a3 : Int)] 162)) := (Below.refl _ _).alloc (Nat.le_refl _) _
 refine (c4 _).mono ?_
 rintro e w5 ⟨rfl, hb5⟩
 have B5 : Hid (Below w0.heap.size w0 w5) := hb0.trans (hb5.mono hb0.size)
 clear hb0 hb5 c4
 generalize hrv : recV ⟨(bn s 0 : Int), (a1 : Int), (a2 : Int), (a3 : Int) - 1, s4⟩ = rv at *
 go_wp2_with fail
 go_ret
 exact ⟨by rw [HR.out, hrv]; rfl, B5.out⟩
theorem readRecord_no0 (s : ByteArray) (w : World) (h : s.size = 0) : Calls Tryz.prog 67 #[.string s] w fun e w' => e = .returned .nilIface ∧ Below w.heap.size w w' := by
 have c0 := fun wx => impl_readFixed_no s 1 wx (by unfold maxLen; omega) (by omega)
 clear h
 go_enter Tryz.func67, Tryz.ntmps67
 go_wp2_with fail
 refine (c0 _).mono ?_
 rintro e w0 ⟨rfl, rfl⟩
 go_wp2_with fail
 go_ret
 exact ⟨rfl, Below.refl _ _⟩
set_option maxHeartbeats 1000000 in
theorem readRecord_no1 (s : ByteArray) (w : World) (hs : s.size ≤ 1048576) (h0 : 1 ≤ s.size) (hn : ∀ k, ¬ FindV (s.extract 1 s.size) k) : Calls Tryz.prog 67 #[.string s] w fun e w' => e = .returned .nilIface ∧ Below w.heap.size w w' := by
 obtain ⟨s1, e1⟩ : ∃ y, y = s.extract 1 s.size := ⟨_, rfl⟩
 rw [← e1] at hn
 have c0 := fun wx => impl_readFixed s 1 wx (by unfold maxLen; omega) (by omega) (by omega) h0
 have z1 : s1.size = s.size - 1 := by rw [e1, ext_size]
 have c1 := irv_no s1 (by omega) hn
 have i0 : (1 : Int) ≤ (s.size : Int) := by omega
 have E1 : Hid (s1 = s.extract 1 s.size) := e1
 clear hn e1 z1 
 go_enter Tryz.func67, Tryz.ntmps67
 go_wp2_with fail
 refine (c0 _).mono ?_
 rintro e w0 ⟨rfl, rfl⟩
 go_wp2_with fail
 refine wp_loop_rounds 4 ?_
 rw [rounds_succ]
 go_wp2_with fail
 rw [← E1.out]
 refine (c1 _).mono ?_
 rintro e w' ⟨rfl, rfl⟩
 go_wp2_with fail
 go_ret
 exact ⟨rfl, (Below.refl _ _).alloc (Nat.le_refl _) _⟩
set_option maxHeartbeats 1000000 in
theorem readRecord_no2 (s s1 : ByteArray) (k1 : Nat) (w : World) (hs : s.size ≤ 1048576) (h0 : 1 ≤ s.size) (e1 : s1 = s.extract 1 s.size) (f1 : FindV s1 k1) (hn : ∀ k, ¬ FindV (s1.extract k1 s1.size) k) : Calls Tryz.prog 67 #[.string s] w fun e w' => e = .returned .nilIface ∧ Below w.heap.size w w' := by
 obtain ⟨s2, e2⟩ : ∃ y, y = s1.extract k1 s1.size := ⟨_, rfl⟩
 rw [← e2] at hn
 have c0 := fun wx => impl_readFixed s 1 wx (by unfold maxLen; omega) (by omega) (by omega) h0
 have z1 : s1.size = s.size - 1 := by rw [e1, ext_size]
 have z2 : s2.size = s1.size - k1 := by rw [e2, ext_size]
 have c1 := irv_yes s1 k1 (by omega) f1
 have p1 : (0 : Int) < (k1 : Int) := by have := f1.1; omega
 have n1 : ((k1 : Int) == 0) = false := by simp; omega
 have i1 : (k1 : Int) ≤ (s1.size : Int) := by have := f1.2.2.1; omega
 have c2 := irv_no s2 (by omega) hn
 have i0 : (1 : Int) ≤ (s.size : Int) := by omega
 have E1 : Hid (s1 = s.extract 1 s.size) := e1
 have E2 : Hid (s2 = s1.extract k1 s1.size) := e2
 clear hn e1 z1 e2 z2 f1
 generalize vvS s1 0 k1 = a1 at *
 go_enter Tryz.func67, Tryz.ntmps67
 go_wp2_with fail
 refine (c0 _).mono ?_
 rintro e w0 ⟨rfl, rfl⟩
 go_wp2_with fail
 refine wp_loop_rounds 4 ?_
 rw [rounds_succ]
 go_wp2_with fail
 rw [← E1.out]
 refine (c1 _).mono ?_
 rintro e w' ⟨rfl, rfl⟩
 go_wp2_with fail
 rw [rounds_succ]
 go_wp2_with fail
 rw [← E2.out]
 refine (c2 _).mono ?_
 rintro e w' ⟨rfl, rfl⟩
 go_wp2_with fail
 go_ret
 exact ⟨rfl, (Below.refl _ _).alloc (Nat.le_refl _) _⟩
set_option maxHeartbeats 1000000 in
theorem readRecord_no3 (s s1 s2 : ByteArray) (k1 k2 : Nat) (w : World) (hs : s.size ≤ 1048576) (h0 : 1 ≤ s.size) (e1 : s1 = s.extract 1 s.size) (f1 : FindV s1 k1) (e2 : s2 = s1.extract k1 s1.size) (f2 : FindV s2 k2) (hn : ∀ k, ¬ FindV (s2.extract k2 s2.size) k) : Calls Tryz.prog 67 #[.string s] w fun e w' => e = .returned .nilIface ∧ Below w.heap.size w w' := by
 obtain ⟨s3, e3⟩ : ∃ y, y = s2.extract k2 s2.size := ⟨_, rfl⟩
 rw [← e3] at hn
 have c0 := fun wx => impl_readFixed s 1 wx (by unfold maxLen; omega) (by omega) (by omega) h0
 have z1 : s1.size = s.size - 1 := by rw [e1, ext_size]
 have z2 : s2.size = s1.size - k1 := by rw [e2, ext_size]
 have z3 : s3.size = s2.size - k2 := by rw [e3, ext_size]
 have c1 := irv_yes s1 k1 (by omega) f1
 have p1 : (0 : Int) < (k1 : Int) := by have := f1.1; omega
 have n1 : ((k1 : Int) == 0) = false := by simp; omega
 have i1 : (k1 : Int) ≤ (s1.size : Int) := by have := f1.2.2.1; omega
 have c2 := irv_yes s2 k2 (by omega) f2
 have p2 : (0 : Int) < (k2 : Int) := by have := f2.1; omega
 have n2 : ((k2 : Int) == 0) = false := by simp; omega
 have i2 : (k2 : Int) ≤ (s2.size : Int) := by have := f2.2.2.1; omega
 have c3 := irv_no s3 (by omega) hn
 have i0 : (1 : Int) ≤ (s.size : Int) := by omega
 have E1 : Hid (s1 = s.extract 1 s.size) := e1
 have E2 : Hid (s2 = s1.extract k1 s1.size) := e2
 have E3 : Hid (s3 = s2.extract k2 s2.size) := e3
 clear hn e1 z1 e2 z2 e3 z3 f1 f2
 generalize vvS s1 0 k1 = a1 at *
 generalize vvS s2 0 k2 = a2 at *
 go_enter Tryz.func67, Tryz.ntmps67
 go_wp2_with fail
 refine (c0 _).mono ?_
 rintro e w0 ⟨rfl, rfl⟩
 go_wp2_with fail
 refine wp_loop_rounds 4 ?_
 rw [rounds_succ]
 go_wp2_with fail
 rw [← E1.out]
 refine (c1 _).mono ?_
 rintro e w' ⟨rfl, rfl⟩
 go_wp2_with fail
 rw [rounds_succ]
 go_wp2_with fail
 rw [← E2.out]
 refine (c2 _).mono ?_
 rintro e w' ⟨rfl, rfl⟩
 go_wp2_with fail
 rw [rounds_succ]
 go_wp2_with fail
 rw [← E3.out]
 refine (c3 _).mono ?_
 rintro e w' ⟨rfl, rfl⟩
 go_wp2_with fail
 go_ret
 exact ⟨rfl, (Below.refl _ _).alloc (Nat.le_refl _) _⟩
theorem readRecordV (s : ByteArray) (w : World) (hs : s.size ≤ 1048576) :
  (NoParts s → Calls Tryz.prog 67 #[.string s] w fun e w' => e = .returned .nilIface ∧ Below w.heap.size w w') := by
 rintro (h | ⟨h0, h | ⟨s1, k1, e1, f1, h | ⟨s2, k2, e2, f2, h⟩⟩⟩)
 ·exact readRecord_no0 s w h
 ·exact readRecord_no1 s w hs h0 h
 ·exact readRecord_no2 s s1 k1 w hs h0 e1 f1 h
 ·exact readRecord_no3 s s1 s2 k1 k2 w hs h0 e1 f1 e2 f2 h
end Go.Proofs.YtdimaoloapbeoaaGreatDoor
namespace Go.Proofs.YtdimaoloapbeoaaGreatDoor
open Go.ChangeShapes Go.WideShapes Go.ChangeAt Go.RowKit Go.PlainAid
set_option linter.unusedVariables false
theorem rest0_of (k t i v : Int) (d : ByteArray) (h : recOk ⟨k, t, i, v, d⟩ = true) : (k = 1 ∧ i = 0 ∧ d = ⟨#[]⟩) ∨ (k = 2 ∧ v = 0) ∨ (k = 3 ∧ t = 0 ∧ v = 0 ∧ d = ⟨#[]⟩) ∨ (k = 4 ∧ v = 0 ∧ d = ⟨#[]⟩) := by
 rw [recOk_iff, Bool.and_eq_true] at h
 obtain ⟨h1, h2⟩ := h
 have h1 := of_decide_eq_true h1
 unfold rest0 at h2
 rcases (show k = 1 ∨ k = 2 ∨ k = 3 ∨ k = 4 by omega) with rfl | rfl | rfl | rfl
 ·simp at h2
  exact .inl ⟨rfl, h2⟩
 ·simp at h2
  exact .inr (.inl ⟨rfl, h2⟩)
 ·simp at h2
  exact .inr (.inr (.inl ⟨rfl, h2.1.1, h2.1.2, h2.2⟩))
 ·simp at h2
  exact .inr (.inr (.inr ⟨rfl, h2⟩))
def toldO (r : Rcd) : Value := if recOk r = true then .tuple #[vRcd r, .bool true] else .tuple #[.agg #[.int .i64 0, .int .i64 0, .int .i64 0, .int .i64 0, .string ⟨#[]⟩], .bool false]
end Go.Proofs.YtdimaoloapbeoaaGreatDoor
namespace Go.Proofs.YtdimaoloapbeoaaGreatDoor
open Go.ChangeShapes Go.WideShapes Go.ChangeAt Go.RowKit Go.PlainAid
set_option linter.unusedVariables false
theorem srv_yes (s : ByteArray) (k : Nat) (hs : s.size ≤ 1048576) (h : FindV s k) (w : World) : Calls Tryz.prog 81 #[.string s] w fun e w' => e = .returned (.tuple #[.int .i64 (vvS s 0 k : Int), .int .i64 (k : Int)]) ∧ Below w.heap.size w w' := by
 refine (spec_readVar s w hs).mono ?_
 rintro e w' ⟨⟨k', hk', rfl⟩ | ⟨hn, rfl⟩, hb⟩
 ·obtain rfl := FindV.one h hk'
  exact ⟨rfl, hb⟩
 ·exact absurd h (hn k)
theorem srv_no (s : ByteArray) (hs : s.size ≤ 1048576) (h : ∀ k, ¬ FindV s k) (w : World) : Calls Tryz.prog 81 #[.string s] w fun e w' => e = .returned (.tuple #[.int .i64 0, .int .i64 0]) ∧ Below w.heap.size w w' := by
 refine (spec_readVar s w hs).mono ?_
 rintro e w' ⟨⟨k', hk', rfl⟩ | ⟨hn, rfl⟩, hb⟩
 ·exact absurd hk' (h k')
 ·exact ⟨rfl, hb⟩
theorem ext_ext (s : ByteArray) (a b : Nat) : (s.extract a s.size).extract b (s.extract a s.size).size = s.extract (a + b) s.size := by
 rw [ByteArray.extract_extract]
 congr 1
 simp
 omega
theorem ext_cat (s : ByteArray) (k : Nat) (h : k ≤ s.size) : s.extract 0 k ++ s.extract k s.size = s := by
 rw [ByteArray.extract_append_extract]
 simp [Nat.max_eq_right h]
theorem var_text (s : ByteArray) (k : Nat) (h : FindV s k) : txt (vF 6 (vvS s 0 k)) = s.extract 0 k := by
 obtain ⟨h1, h7, hk, hc⟩ := h
 have := (var_eq s k h1 h7 hk).2 hc
 rw [toList_beq] at this
 exact of_decide_eq_true this
theorem first_text (s : ByteArray) (h : 1 ≤ s.size) : txt [byt (bn s 0)] = s.extract 0 1 := by
 rw [sg_extract s 1 h]
 simp [sg]
theorem show_parts (s s1 s2 s3 s4 : ByteArray) (k1 k2 k3 : Nat) (h : Parts s s1 s2 s3 s4 k1 k2 k3) : showB (partsR s s1 s2 s3 s4 k1 k2 k3) = s := by
 unfold showB partsR
 simp only [Int.toNat_natCast, Int.sub_add_cancel]
 rw [first_text s h.h0, var_text s1 k1 h.f1, var_text s2 k2 h.f2, var_text s3 k3 h.f3]
 have h4 := ext_cat s3 k3 h.f3.2.2.1
 have h3 := ext_cat s2 k2 h.f2.2.2.1
 have h2 := ext_cat s1 k1 h.f1.2.2.1
 have h1 := ext_cat s 1 h.h0
 rw [← h.e4] at h4
 rw [← h.e3] at h3
 rw [← h.e2] at h2
 rw [← h.e1] at h1
 rw [ByteArray.append_assoc, ByteArray.append_assoc, ByteArray.append_assoc, h4, h3, h2, h1]
theorem parts_long (s s1 s2 s3 s4 : ByteArray) (k1 k2 k3 : Nat) (h : Parts s s1 s2 s3 s4 k1 k2 k3) (hl : 2000 < s.size) : recOk (partsR s s1 s2 s3 s4 k1 k2 k3) = false := by
 cases ho : recOk (partsR s s1 s2 s3 s4 k1 k2 k3)
 ·rfl
 ·have h5 := (recOk_in _ _ _ _ _ ho).2.2.2.2
  have z1 : s1.size = s.size - 1 := by rw [h.e1, ext_size]
  have z2 : s2.size = s1.size - k1 := by rw [h.e2, ext_size]
  have z3 : s3.size = s2.size - k2 := by rw [h.e3, ext_size]
  have z4 : s4.size = s3.size - k3 := by rw [h.e4, ext_size]
  have := h.f1.2.1
  have := h.f2.2.1
  have := h.f3.2.1
  omega
set_option maxHeartbeats 1000000 in
theorem specReadRec_out (s : ByteArray) (w : World) (hs : s.size ≤ 1048576) (h : s.size = 0 ∨ 2000 < s.size) : Calls Tryz.prog 52 #[.string s] w fun e w' => e = .returned (.tuple #[.agg #[.int .i64 0, .int .i64 0, .int .i64 0, .int .i64 0, .string ⟨#[]⟩], .bool false]) ∧ Below w.heap.size w w' := by
 have q1 : (s.size : Int) ≤ 1048576 := by omega
 by_cases h0 : s.size = 0
 ·obtain rfl : s = ⟨#[]⟩ := ByteArray.ext (Array.eq_empty_of_size_eq_zero h0)
  clear h h0 q1 hs
  go_enter Tryz.func52, Tryz.ntmps52
  go_wp2_with fail
  exact bodyPost_ret (v := .tuple #[.agg #[.int .i64 0, .int .i64 0, .int .i64 0, .int .i64 0, .string ⟨#[]⟩], .bool false]) (by simp [results, go_sem]) rfl ⟨rfl, (Below.refl _ _).alloc (Nat.le_refl _) _⟩
 ·have h1 : ((s.size : Int) == 0) = false := by simp only [beq_eq_false_iff_ne, ne_eq]; omega
  have h2 : (2000 : Int) < (s.size : Int) := by omega
  have hne : ¬ s = ByteArray.empty := fun e => h0 (by rw [e]; rfl)
  clear h h0
  go_enter Tryz.func52, Tryz.ntmps52
  go_wp2_with fail
  exact bodyPost_ret (v := .tuple #[.agg #[.int .i64 0, .int .i64 0, .int .i64 0, .int .i64 0, .string ⟨#[]⟩], .bool false]) (by simp [results, go_sem]) rfl ⟨rfl, (Below.refl _ _).alloc (Nat.le_refl _) _⟩
end Go.Proofs.YtdimaoloapbeoaaGreatDoor
namespace Go.Proofs.YtdimaoloapbeoaaGreatDoor
open Go.ChangeShapes Go.WideShapes Go.ChangeAt Go.RowKit Go.PlainAid
set_option linter.unusedVariables false
set_option maxHeartbeats 2000000 in
theorem specReadRec_at (s s1 s2 s3 s4 : ByteArray) (k1 k2 k3 : Nat) (w : World) (hs : s.size ≤ 2000) (h : Parts s s1 s2 s3 s4 k1 k2 k3) :
  Calls Tryz.prog 52 #[.string s] w fun e w' => e = .returned (toldO (partsR s s1 s2 s3 s4 k1 k2 k3)) ∧ Below w.heap.size w w' := by
 have hsh := show_parts s s1 s2 s3 s4 k1 k2 k3 h
 obtain ⟨h0, e1, f1, e2, f2, e3, f3, e4⟩ := h
 have hbt := get_bn s
 have hwb : wrap64 (bn s 0 : Int) = (bn s 0 : Int) := by have := bn_lt s 0; unfold wrap64; omega
 have q0 : (s.size : Int) ≤ 2000 := by omega
 have q1 : ((s.size : Int) == 0) = false := by simp only [beq_eq_false_iff_ne, ne_eq]; omega
 have i0 : (1 : Int) ≤ (s.size : Int) := by omega
 have i00 : (0 : Int) < (s.size : Int) := by omega
 have HL : Hid (s.size ≤ 2000) := hs
 have hne : ¬ s = ByteArray.empty := fun e => (by rw [e] at h0; exact absurd h0 (by decide))
 have H0 : Hid (1 ≤ s.size) := h0
 have z1 : s1.size = s.size - 1 := by rw [e1, ext_size]
 have z2 : s2.size = s1.size - k1 := by rw [e2, ext_size]
 have z3 : s3.size = s2.size - k2 := by rw [e3, ext_size]
 have z4 : s4.size = s3.size - k3 := by rw [e4, ext_size]
 obtain ⟨p1, hp1⟩ : ∃ n : Nat, n = 1 + k1 := ⟨_, rfl⟩
 obtain ⟨p2, hp2⟩ : ∃ n : Nat, n = 1 + k1 + k2 := ⟨_, rfl⟩
 obtain ⟨p3, hp3⟩ : ∃ n : Nat, n = 1 + k1 + k2 + k3 := ⟨_, rfl⟩
 have d1 := f1.2.1
 have d2 := f2.2.1
 have d3 := f3.2.1
 have d1' := f1.2.2.1
 have d2' := f2.2.2.1
 have d3' := f3.2.2.1
 have x2 : s2 = s.extract p1 s.size := by rw [e2, e1, ext_ext, hp1]
 have x3 : s3 = s.extract p2 s.size := by rw [e3, x2, ext_ext, hp2, hp1]
 have x4 : s4 = s.extract p3 s.size := by rw [e4, x3, ext_ext, hp3, hp2]
 have hw1 : IntKind.i64.wrap (1 + (k1 : Int)) = (p1 : Int) := by rw [IntKind.wrap_i64]; omega
 have hw2 : IntKind.i64.wrap ((p1 : Int) + (k2 : Int)) = (p2 : Int) := by rw [IntKind.wrap_i64]; omega
 have hw3 : IntKind.i64.wrap ((p2 : Int) + (k3 : Int)) = (p3 : Int) := by rw [IntKind.wrap_i64]; omega
 have i1 : (p1 : Int) ≤ (s.size : Int) := by omega
 have i2 : (p2 : Int) ≤ (s.size : Int) := by omega
 have i3 : (p3 : Int) ≤ (s.size : Int) := by omega
 have c1 := srv_yes s1 k1 (by omega) f1
 have c2 := srv_yes s2 k2 (by omega) f2
 have c3 := srv_yes s3 k3 (by omega) f3
 have n1 : ((k1 : Int) == 0) = false := by have := f1.1; simp; omega
 have n2 : ((k2 : Int) == 0) = false := by have := f2.1; simp; omega
 have n3 : ((k3 : Int) == 0) = false := by have := f3.1; simp; omega
 have v3 := vvS_le s3 k3 (by omega) 0
 have HR : Hid (partsR s s1 s2 s3 s4 k1 k2 k3 = ⟨bn s 0, vvS s1 0 k1, vvS s2 0 k2, (vvS s3 0 k3 : Int) - 1, s4⟩) := rfl
 have c4 := fun wx => specShowRec ⟨bn s 0, vvS s1 0 k1, vvS s2 0 k2, (vvS s3 0 k3 : Int) - 1, s4⟩ wx (by simp only; omega)
 rw [HR.out] at hsh
 have HTO : Hid (toldO (partsR s s1 s2 s3 s4 k1 k2 k3) = toldO ⟨bn s 0, vvS s1 0 k1, vvS s2 0 k2, (vvS s3 0 k3 : Int) - 1, s4⟩) := rfl
 have E1 : Hid (s1 = s.extract 1 s.size) := e1
 have E2 : Hid (s2 = s.extract p1 s.size) := x2
 have E3 : Hid (s3 = s.extract p2 s.size) := x3
 have E4 : Hid (s4 = s.extract p3 s.size) := x4
 generalize vvS s1 0 k1 = a1 at *
 generalize vvS s2 0 k2 = a2 at *
 generalize vvS s3 0 k3 = a3 at *
 have hw : IntKind.i64.wrap ((a3 : Int) - 1) = (a3 : Int) - 1 := by rw [IntKind.wrap_i64]; omega
 unfold vRcd at c4
 simp only at c4
 have HTV : Hid (toldO ⟨bn s 0, a1, a2, (a3 : Int) - 1, s4⟩ = if recOk ⟨bn s 0, a1, a2, (a3 : Int) - 1, s4⟩ = true then .tuple #[.agg #[.int .i64 (bn s 0 : Int), .int .i64 (a1 : Int), .int .i64 (a2 : Int), .int .i64 ((a3 : Int) - 1), .string s4], .bool true] else .tuple #[.agg #[.int .i64 0, .int .i64 0, .int .i64 0, .int .i64 0, .string ⟨#[]⟩], .bool false]) := rfl
 have HS : Hid (showR ⟨bn s 0, a1, a2, (a3 : Int) - 1, s4⟩ = if recOk ⟨bn s 0, a1, a2, (a3 : Int) - 1, s4⟩ = true then s else ⟨#[]⟩) := by unfold Hid showR; rw [hsh]
 have HSZ : Hid (1 ≤ s.size) := h0
 clear f1 f2 f3 e1 e2 e3 e4 z1 z2 z3 z4 x2 x3 x4 hp1 hp2 hp3 d1 d2 d3 d1' d2' d3' hsh hs h0
 generalize recOk ⟨bn s 0, a1, a2, (a3 : Int) - 1, s4⟩ = ok at *
 generalize hsr : showR ⟨bn s 0, a1, a2, (a3 : Int) - 1, s4⟩ = sr at *
 go_enter Tryz.func52, Tryz.ntmps52
 go_wp2_with fail
 have hb0 : Below w.heap.size w ((w.alloc (.cells #[.int .i64 0, .int .i64 0, .int .i64 0, .int .i64 0, .string ⟨#[]⟩] 102)).alloc (.cells #[.int .i64 (bn s 0 : Int), .int .i64 0, .int .i64 0, .int .i64 0, .string ⟨#[]⟩] 102)) := ((Below.refl _ w).alloc (Nat.le_refl _) _).alloc (by simp) _
 have k0 := (Blk.new w #[.int .i64 0, .int .i64 0, .int .i64 0, .int .i64 0, .string ⟨#[]⟩] 102).alloc (.cells #[.int .i64 (bn s 0 : Int), .int .i64 0, .int .i64 0, .int .i64 0, .string ⟨#[]⟩] 102)
 have l0 := Blk.new (w.alloc (.cells #[.int .i64 0, .int .i64 0, .int .i64 0, .int .i64 0, .string ⟨#[]⟩] 102)) #[.int .i64 (bn s 0 : Int), .int .i64 0, .int .i64 0, .int .i64 0, .string ⟨#[]⟩] 102
 simp only [World.size_alloc] at l0
 generalize (w.alloc (.cells #[.int .i64 0, .int .i64 0, .int .i64 0, .int .i64 0, .string ⟨#[]⟩] 102)).alloc (.cells #[.int .i64 (bn s 0 : Int), .int .i64 0, .int .i64 0, .int .i64 0, .string ⟨#[]⟩] 102) = w0 at *
 have B0 : Hid (Below w.heap.size w w0) := hb0
 have K0 : Hid (Blk w0 w.heap.size #[.int .i64 0, .int .i64 0, .int .i64 0, .int .i64 0, .string ⟨#[]⟩] 102) := k0
 have L0 : Hid (Blk w0 (w.heap.size + 1) #[.int .i64 (bn s 0 : Int), .int .i64 0, .int .i64 0, .int .i64 0, .string ⟨#[]⟩] 102) := l0
 clear hb0 k0 l0
 rw [← E1.out]
 refine (c1 _).mono ?_
 rintro e w1 ⟨rfl, hb1⟩
 have B1 : Hid (Below w.heap.size w w1) := B0.out.trans (hb1.mono B0.out.size)
 have K1 : Hid (Blk w1 w.heap.size #[.int .i64 0, .int .i64 0, .int .i64 0, .int .i64 0, .string ⟨#[]⟩] 102) := K0.out.on hb1 K0.out.lt
 have L1 : Hid (Blk w1 (w.heap.size + 1) #[.int .i64 (bn s 0 : Int), .int .i64 0, .int .i64 0, .int .i64 0, .string ⟨#[]⟩] 102) := L0.out.on hb1 L0.out.lt
 clear hb1 B0 K0 L0
 go_wp2_with fail
 rw [← E2.out]
 refine (c2 _).mono ?_
 rintro e w2 ⟨rfl, hb2⟩
 have B2 : Hid (Below w.heap.size w w2) := B1.out.trans (hb2.mono B1.out.size)
 have K2 : Hid (Blk w2 w.heap.size #[.int .i64 0, .int .i64 0, .int .i64 0, .int .i64 0, .string ⟨#[]⟩] 102) := K1.out.on hb2 K1.out.lt
 have L2 : Hid (Blk w2 (w.heap.size + 1) #[.int .i64 (bn s 0 : Int), .int .i64 0, .int .i64 0, .int .i64 0, .string ⟨#[]⟩] 102) := L1.out.on hb2 L1.out.lt
 clear hb2 B1 K1 L1
 go_wp2_with fail
 rw [← E3.out]
 refine (c3 _).mono ?_
 rintro e w3 ⟨rfl, hb3⟩
 have B3 : Hid (Below w.heap.size w w3) := B2.out.trans (hb3.mono B2.out.size)
 have K3 : Hid (Blk w3 w.heap.size #[.int .i64 0, .int .i64 0, .int .i64 0, .int .i64 0, .string ⟨#[]⟩] 102) := K2.out.on hb3 K2.out.lt
 have L3 : Hid (Blk w3 (w.heap.size + 1) #[.int .i64 (bn s 0 : Int), .int .i64 0, .int .i64 0, .int .i64 0, .string ⟨#[]⟩] 102) := L2.out.on hb3 L2.out.lt
 clear hb3 B2 K2 L2
 have e0 := L3.out.cell 0 (.int .i64 (bn s 0 : Int)) rfl
 have f0 := L3.out.free 0
 have e1 := L3.out.cell 1 (.int .i64 0) rfl
 have f1 := L3.out.free 1
 have e2 := L3.out.cell 2 (.int .i64 0) rfl
 have f2 := L3.out.free 2
 have e3 := L3.out.cell 3 (.int .i64 0) rfl
 have f3 := L3.out.free 3
 have e4 := L3.out.cell 4 (.string ⟨#[]⟩) rfl
 have f4 := L3.out.free 4
 have r0 := K3.out.cell 0 (.int .i64 0) rfl
 have g0 := K3.out.free 0
 have r1 := K3.out.cell 1 (.int .i64 0) rfl
 have g1 := K3.out.free 1
 have r2 := K3.out.cell 2 (.int .i64 0) rfl
 have g2 := K3.out.free 2
 have r3 := K3.out.cell 3 (.int .i64 0) rfl
 have g3 := K3.out.free 3
 have r4 := K3.out.cell 4 (.string ⟨#[]⟩) rfl
 have g4 := K3.out.free 4
 go_wp2_with fail
 rw [← E4.out]
 have k4 := (((K3.out.other (show w.heap.size ≠ w.heap.size + 1 by omega) 1 (.int .i64 (a1 : Int))).other (show w.heap.size ≠ w.heap.size + 1 by omega) 2 (.int .i64 (a2 : Int))).other (show w.heap.size ≠ w.heap.size + 1 by omega) 3 (.int .i64 ((a3 : Int) - 1))).other (show w.heap.size ≠ w.heap.size + 1 by omega) 4 (.string s4)
 have l4 := (((L3.out.set 1 (.int .i64 (a1 : Int))).set 2 (.int .i64 (a2 : Int))).set 3 (.int .i64 ((a3 : Int) - 1))).set 4 (.string s4)
 have b4 := (((B3.out.setCell (show w.heap.size ≤ w.heap.size + 1 by omega) (.int .i64 (a1 : Int)) (p := ⟨_, 1, none⟩)).setCell (show w.heap.size ≤ w.heap.size + 1 by omega) (.int .i64 (a2 : Int)) (p := ⟨_, 2, none⟩)).setCell (show w.heap.size ≤ w.heap.size + 1 by omega) (.int .i64 ((a3 : Int) - 1)) (p := ⟨_, 3, none⟩)).setCell (show w.heap.size ≤ w.heap.size + 1 by omega) (.string s4) (p := ⟨_, 4, none⟩)
 clear e0 e1 e2 e3 e4 f0 f1 f2 f3 f4 r0 r1 r2 r3 r4 g0 g1 g2 g3 g4 K3 L3 B3
 generalize (((w3.setCell ⟨w.heap.size + 1, 1, none⟩ (.int .i64 (a1 : Int))).setCell ⟨w.heap.size + 1, 2, none⟩ (.int .i64 (a2 : Int))).setCell ⟨w.heap.size + 1, 3, none⟩ (.int .i64 ((a3 : Int) - 1))).setCell ⟨w.heap.size + 1, 4, none⟩ (.string s4) = w4 at *
 have L4 : Hid (Blk w4 (w.heap.size + 1) #[.int .i64 (bn s 0 : Int), .int .i64 (a1 : Int), .int .i64 (a2 : Int), .int .i64 ((a3 : Int) - 1), .string s4] 102) := l4
 have K4 : Hid (Blk w4 w.heap.size #[.int .i64 0, .int .i64 0, .int .i64 0, .int .i64 0, .string ⟨#[]⟩] 102) := k4
 have B4 : Hid (Below w.heap.size w w4) := b4
 clear l4 k4 b4
 refine (c4 _).mono ?_
 rintro e w5 ⟨rfl, hb5⟩
 have B5 : Hid (Below w.heap.size w w5) := B4.out.trans (hb5.mono B4.out.size)
 have K5 : Hid (Blk w5 w.heap.size #[.int .i64 0, .int .i64 0, .int .i64 0, .int .i64 0, .string ⟨#[]⟩] 102) := K4.out.on hb5 K4.out.lt
 have L5 : Hid (Blk w5 (w.heap.size + 1) #[.int .i64 (bn s 0 : Int), .int .i64 (a1 : Int), .int .i64 (a2 : Int), .int .i64 ((a3 : Int) - 1), .string s4] 102) := L4.out.on hb5 L4.out.lt
 clear hb5 B4 K4 L4
 have e0 := L5.out.cell 0 (.int .i64 (bn s 0 : Int)) rfl
 have f0 := L5.out.free 0
 have e1 := L5.out.cell 1 (.int .i64 (a1 : Int)) rfl
 have f1 := L5.out.free 1
 have e2 := L5.out.cell 2 (.int .i64 (a2 : Int)) rfl
 have f2 := L5.out.free 2
 have e3 := L5.out.cell 3 (.int .i64 ((a3 : Int) - 1)) rfl
 have f3 := L5.out.free 3
 have e4 := L5.out.cell 4 (.string s4) rfl
 have f4 := L5.out.free 4
 have r0 := K5.out.cell 0 (.int .i64 0) rfl
 have g0 := K5.out.free 0
 have r1 := K5.out.cell 1 (.int .i64 0) rfl
 have g1 := K5.out.free 1
 have r2 := K5.out.cell 2 (.int .i64 0) rfl
 have g2 := K5.out.free 2
 have r3 := K5.out.cell 3 (.int .i64 0) rfl
 have g3 := K5.out.free 3
 have r4 := K5.out.cell 4 (.string ⟨#[]⟩) rfl
 have g4 := K5.out.free 4
 have hee := empty_eqs s
 rw [decide_eq_false hne] at hee
 cases ok
 ·obtain rfl : sr = ⟨#[]⟩ := HS.out
  have HV : Hid (toldO (partsR s s1 s2 s3 s4 k1 k2 k3) = .tuple #[.agg #[.int .i64 0, .int .i64 0, .int .i64 0, .int .i64 0, .string ⟨#[]⟩], .bool false]) := by unfold Hid; rw [HTO.out, HTV.out]; rfl
  go_wp2_with fail
  have hF := (((((K5.out.set 0 (.int .i64 0)).set 1 (.int .i64 0)).set 2 (.int .i64 0)).set 3 (.int .i64 0)).set 4 (.string ⟨#[]⟩))
  have FB := (((((B5.out.setCell (Nat.le_refl _) (.int .i64 0) (p := ⟨_, 0, none⟩)).setCell (Nat.le_refl _) (.int .i64 0) (p := ⟨_, 1, none⟩)).setCell (Nat.le_refl _) (.int .i64 0) (p := ⟨_, 2, none⟩)).setCell (Nat.le_refl _) (.int .i64 0) (p := ⟨_, 3, none⟩)).setCell (Nat.le_refl _) (.string ⟨#[]⟩) (p := ⟨_, 4, none⟩))
  clear e0 e1 e2 e3 e4 f0 f1 f2 f3 f4 r0 r1 r2 r3 r4 g0 g1 g2 g3 g4
  generalize (((((w5.setCell ⟨w.heap.size, 0, none⟩ (.int .i64 0)).setCell ⟨w.heap.size, 1, none⟩ (.int .i64 0)).setCell ⟨w.heap.size, 2, none⟩ (.int .i64 0)).setCell ⟨w.heap.size, 3, none⟩ (.int .i64 0)).setCell ⟨w.heap.size, 4, none⟩ (.string ⟨#[]⟩)) = WF at *
  have hG : Blk WF w.heap.size #[.int .i64 0, .int .i64 0, .int .i64 0, .int .i64 0, .string ⟨#[]⟩] 102 := hF
  have m0 := hG.cell 0 (.int .i64 0) rfl
  have m1 := hG.cell 1 (.int .i64 0) rfl
  have m2 := hG.cell 2 (.int .i64 0) rfl
  have m3 := hG.cell 3 (.int .i64 0) rfl
  have m4 := hG.cell 4 (.string ⟨#[]⟩) rfl
  rw [HV.out]
  exact bodyPost_ret (v := .tuple #[.agg #[.int .i64 0, .int .i64 0, .int .i64 0, .int .i64 0, .string ⟨#[]⟩], .bool false]) (by simp [results, go_sem, m0, m1, m2, m3, m4]) rfl ⟨rfl, FB⟩
 ·obtain rfl : sr = s := HS.out
  have HV : Hid (toldO (partsR sr s1 s2 s3 s4 k1 k2 k3) = .tuple #[.agg #[.int .i64 (bn sr 0 : Int), .int .i64 (a1 : Int), .int .i64 (a2 : Int), .int .i64 ((a3 : Int) - 1), .string s4], .bool true]) := by unfold Hid; rw [HTO.out, HTV.out]; rfl
  go_wp2_with fail
  have hF := (((((K5.out.set 0 (.int .i64 (bn sr 0 : Int))).set 1 (.int .i64 (a1 : Int))).set 2 (.int .i64 (a2 : Int))).set 3 (.int .i64 ((a3 : Int) - 1))).set 4 (.string s4))
  have FB := (((((B5.out.setCell (Nat.le_refl _) (.int .i64 (bn sr 0 : Int)) (p := ⟨_, 0, none⟩)).setCell (Nat.le_refl _) (.int .i64 (a1 : Int)) (p := ⟨_, 1, none⟩)).setCell (Nat.le_refl _) (.int .i64 (a2 : Int)) (p := ⟨_, 2, none⟩)).setCell (Nat.le_refl _) (.int .i64 ((a3 : Int) - 1)) (p := ⟨_, 3, none⟩)).setCell (Nat.le_refl _) (.string s4) (p := ⟨_, 4, none⟩))
  clear e0 e1 e2 e3 e4 f0 f1 f2 f3 f4 r0 r1 r2 r3 r4 g0 g1 g2 g3 g4
  generalize (((((w5.setCell ⟨w.heap.size, 0, none⟩ (.int .i64 (bn sr 0 : Int))).setCell ⟨w.heap.size, 1, none⟩ (.int .i64 (a1 : Int))).setCell ⟨w.heap.size, 2, none⟩ (.int .i64 (a2 : Int))).setCell ⟨w.heap.size, 3, none⟩ (.int .i64 ((a3 : Int) - 1))).setCell ⟨w.heap.size, 4, none⟩ (.string s4)) = WF at *
  have hG : Blk WF w.heap.size #[.int .i64 (bn sr 0 : Int), .int .i64 (a1 : Int), .int .i64 (a2 : Int), .int .i64 ((a3 : Int) - 1), .string s4] 102 := hF
  have m0 := hG.cell 0 (.int .i64 (bn sr 0 : Int)) rfl
  have m1 := hG.cell 1 (.int .i64 (a1 : Int)) rfl
  have m2 := hG.cell 2 (.int .i64 (a2 : Int)) rfl
  have m3 := hG.cell 3 (.int .i64 ((a3 : Int) - 1)) rfl
  have m4 := hG.cell 4 (.string s4) rfl
  rw [HV.out]
  exact bodyPost_ret (v := .tuple #[.agg #[.int .i64 (bn sr 0 : Int), .int .i64 (a1 : Int), .int .i64 (a2 : Int), .int .i64 ((a3 : Int) - 1), .string s4], .bool true]) (by simp [results, go_sem, m0, m1, m2, m3, m4]) rfl ⟨rfl, FB⟩
end Go.Proofs.YtdimaoloapbeoaaGreatDoor
