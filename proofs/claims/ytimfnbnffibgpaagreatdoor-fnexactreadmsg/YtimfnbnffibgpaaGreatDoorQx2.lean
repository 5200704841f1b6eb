/- NumV NumR NmAid LikeAid NmLaw BtZig BtAid BtRd -/
import Derived.Test.YtimfnbnffibgpaaGreatDoorRows
import Derived.Test.YtimfnbnffibgpaaGreatDoorQx0
import Derived.Test.YtimfnbnffibgpaaGreatDoorQx1
import Derived.WalkKit
import Derived.ProofKit
import Derived.OpenShut
import Derived.Below
import Derived.Handy
import Derived.WalkLawsBesides
import Derived.WalkSpells
import Derived.WalkMore
import Derived.Outline
import Derived.Deep.OwnRows
import Derived.Deep.RegionHeld3
import Derived.Deep.RegionLaw
import Derived.Deep.DrawnRows
import Derived.WalkSmall
import Derived.Laws.OwnMore
import Derived.OwnWalk
import Derived.Lib.OwnKind
import Derived.Shelf.Strings.BuilderK
import Derived.BigQuiet
import Derived.Deep.QuietTactic
import Derived.Deep.RegionWith
namespace Go.Proofs.YtimfnbnffibgpaaGreatDoor
open Go.ChangeShapes Go.WideShapes Go.ChangeAt Go.RowKit Go.PlainAid
set_option linter.unusedVariables false
set_option maxHeartbeats 400000 in
theorem spec_var (n : Nat) (w : World) (h1 : n ≤ 562949953421311) :
  Calls Tryz.prog 32 #[.int .i64 (n : Int)] w fun e w' => e = .returned (.string (txt (vF 6 n))) ∧ Below w.heap.size w w' := by
 have q1 : (n : Int) ≤ 562949953421311 := by omega
 go_enter Tryz.func32, Tryz.ntmps32
 go_wp2_with (go_at_call 20; refine (in_yes _ _ _ _ (by omega) (by omega)).mono ?_; rintro e w' ⟨rfl, rfl⟩)
 go_loopw [0, 3] (fun v0 v3 wr => ∃ m f : Nat, ∃ pre : List UInt8, v0 = .int .i64 m ∧ m ≤ 562949953421311 ∧ m < 128 ^ (f + 1) ∧ pre ++ vF f m = vF 6 n ∧ Buf wr w.heap.size v3 pre ∧ Below w.heap.size w wr) (fun i _ _ => (intOf i).toNat)
 case atStart => exact ⟨n, 6, [], rfl, h1, by omega, rfl, Buf.made w w.heap.size 0 #[] (Nat.le_refl _) (by simp [maxLen]) rfl, (Below.refl _ _).alloc (Nat.le_refl _) _⟩
 case round =>
  obtain ⟨m, f, pre, rfl, hm1, hm2, hpre, hbuf, hb⟩ := hrel
  have HP : Hid (pre ++ vF f m = vF 6 n) := hpre
  clear hpre
  have HM : Hid (m < 128 ^ (f + 1)) := hm2
  clear hm2
  have hlp : pre.length ≤ 7 := by
   have := congrArg List.length HP.out
   have := vF_length 6 n
   simp at *
   omega
  have hsz := hb.size
  by_cases hlt : (128 : Int) ≤ (m : Int)
  ·have hcs := one_cell (128 + (m : Int) % 128) (128 + m % 128) (by omega) (by omega)
   have HC : Hid (#[Value.int .u8 (128 + (m : Int) % 128)] = byteCells [byt (128 + m % 128)]) := hcs
   clear hcs
   go_wp2_with (at_builtin; refine wpList_append_bytes rfl (.tmp 10) (.tmp 15) 61 rfl Tryz.underlying61 Tryz.info5 w.heap.size _ pre rfl hbuf _ [byt (128 + m % 128)] HC.out 1 1 rfl rfl (by simp; omega) hsz ?_; intro v' w1 hbuf1 hb1)
   obtain ⟨g, hg1, hg2, _⟩ := vF_round f m pre HM.out (by omega)
   go_roundw
   case rel => exact ⟨m / 128, g, pre ++ [byt (128 + m % 128)], by go_num, by omega, hg1, hg2.trans HP.out, hbuf1, hb.trans hb1⟩
   case measure => simp [intOf]; omega
  ·have hcs := one_cell (m : Int) m rfl (by omega)
   have HC : Hid (#[Value.int .u8 (m : Int)] = byteCells [byt m]) := hcs
   clear hcs
   go_wp2_with (at_builtin; refine wpList_append_bytes rfl (.tmp 19) (.tmp 22) 61 rfl Tryz.underlying61 Tryz.info5 w.heap.size _ pre rfl hbuf _ [byt m] HC.out 1 1 rfl rfl (by simp; omega) hsz ?_; intro v' w1 hbuf1 hb1; have hcv := hbuf1.string (P := Tryz.prog) 61 9 Tryz.underlying61 Tryz.underlying5 Tryz.underlying9)
   go_ret
   exact ⟨by rw [← HP.out, vF_small f m (by omega)]; rfl, hb.trans hb1⟩
set_option maxHeartbeats 400000 in
theorem impl_var (n : Nat) (w : World) (h1 : n ≤ 562949953421311) :
  Calls Tryz.prog 60 #[.int .i64 (n : Int)] w fun e w' => e = .returned (.string (txt (vF 6 n))) ∧ Below w.heap.size w w' := by
 have q1 : (n : Int) ≤ 562949953421311 := by omega
 have q0 : (0 : Int) ≤ (n : Int) := by omega
 have hmk : ∀ w : World, (Instr.makeSlice 61 (.int .i64 0) (.int .i64 7)).run Tryz.prog w = .ok (.slice (some ⟨w.heap.size, 0, none⟩) 0 7) (w.alloc (.cells #[.int .u8 0, .int .u8 0, .int .u8 0, .int .u8 0, .int .u8 0, .int .u8 0, .int .u8 0] 5)) := fun _ => by kernel_rfl
 go_enter Tryz.func60, Tryz.ntmps60
 go_wp2
 go_loopw [0, 3] (fun v0 v3 wr => ∃ m f : Nat, ∃ pre : List UInt8, v0 = .int .i64 m ∧ m ≤ 562949953421311 ∧ m < 128 ^ (f + 1) ∧ pre ++ vF f m = vF 6 n ∧ Buf wr w.heap.size v3 pre ∧ Below w.heap.size w wr) (fun i _ _ => (intOf i).toNat)
 case atStart => exact ⟨n, 6, [], rfl, h1, by omega, rfl, Buf.made w w.heap.size 7 _ (Nat.le_refl _) (by simp [maxLen]) rfl, (Below.refl _ _).alloc (Nat.le_refl _) _⟩
 case round =>
  obtain ⟨m, f, pre, rfl, hm1, hm2, hpre, hbuf, hb⟩ := hrel
  have HP : Hid (pre ++ vF f m = vF 6 n) := hpre
  clear hpre
  have HM : Hid (m < 128 ^ (f + 1)) := hm2
  clear hm2
  have hlp : pre.length ≤ 7 := by
   have := congrArg List.length HP.out
   have := vF_length 6 n
   simp at *
   omega
  have hsz := hb.size
  by_cases hlt : (128 : Int) ≤ (m : Int)
  ·have hcs := one_cell ((m : Int) % 128 + 128) (128 + m % 128) (by omega) (by omega)
   have HC : Hid (#[Value.int .u8 ((m : Int) % 128 + 128)] = byteCells [byt (128 + m % 128)]) := hcs
   clear hcs
   go_wp2_with (at_builtin; refine wpList_append_bytes rfl (.tmp 13) (.tmp 18) 61 rfl Tryz.underlying61 Tryz.info5 w.heap.size _ pre rfl hbuf _ [byt (128 + m % 128)] HC.out 1 1 rfl rfl (by simp; omega) hsz ?_; intro v' w1 hbuf1 hb1)
   obtain ⟨g, hg1, hg2, _⟩ := vF_round f m pre HM.out (by omega)
   go_roundw
   case rel => exact ⟨m / 128, g, pre ++ [byt (128 + m % 128)], by go_num, by omega, hg1, hg2.trans HP.out, hbuf1, hb.trans hb1⟩
   case measure => simp [intOf]; omega
  ·have hcs := one_cell (m : Int) m rfl (by omega)
   have HC : Hid (#[Value.int .u8 (m : Int)] = byteCells [byt m]) := hcs
   clear hcs
   go_wp2_with (at_builtin; refine wpList_append_bytes rfl (.tmp 22) (.tmp 25) 61 rfl Tryz.underlying61 Tryz.info5 w.heap.size _ pre rfl hbuf _ [byt m] HC.out 1 1 rfl rfl (by simp; omega) hsz ?_; intro v' w1 hbuf1 hb1; have hcv := hbuf1.string (P := Tryz.prog) 61 9 Tryz.underlying61 Tryz.underlying5 Tryz.underlying9)
   go_ret
   exact ⟨by rw [← HP.out, vF_small f m (by omega)]; rfl, hb.trans hb1⟩
end Go.Proofs.YtimfnbnffibgpaaGreatDoor
namespace Go.Proofs.YtimfnbnffibgpaaGreatDoor
open Go.ChangeShapes Go.WideShapes Go.ChangeAt Go.RowKit Go.PlainAid
set_option linter.unusedVariables false
def ReadV (s : ByteArray) (e : Ending) : Prop :=
 (∃ k : Nat, FindV s k ∧ e = .returned (.tuple #[.int .i64 (vvS s 0 k : Int), .int .i64 (k : Int)])) ∨ ((∀ k, ¬ FindV s k) ∧ e = .returned (.tuple #[.int .i64 0, .int .i64 0]))
theorem vvS_or (s : ByteArray) (k : Nat) (h : k < 7) : bits .or .i64 (vvS s 0 k : Int) (wrap64 ((bn s k : Int) % 128 * 2 ^ (7 * k))) = (vvS s 0 (k + 1) : Int) := by
 have h1 := vvS_lt s k 0
 have h2 := vvS_le s (k + 1) (by omega) 0
 have e := vvS_snoc s k 0
 rw [Nat.zero_add] at e
 have e2 : (128 : Nat) ^ k = 2 ^ (7 * k) := by rw [Nat.pow_mul]
 have c : (bn s k : Int) % 128 * 2 ^ (7 * k) = ((bn s k % 128 * 2 ^ (7 * k) : Nat) : Int) := by norm_cast
 rw [e2] at e h1
 rw [c, IntWalk.wrap64_in _ ⟨by omega, by omega⟩]
 have j := or_join (7 * k) (bn s k % 128 * 2 ^ (7 * k)) (vvS s 0 k) (Nat.mul_mod_left _ _) h1 (by omega)
 have comm : bits .or .i64 (vvS s 0 k : Int) ((bn s k % 128 * 2 ^ (7 * k) : Nat) : Int) = bits .or .i64 ((bn s k % 128 * 2 ^ (7 * k) : Nat) : Int) (vvS s 0 k : Int) := by
  show IntKind.i64.wrap ((BitVec.ofInt 64 _ ||| BitVec.ofInt 64 _).toNat : Int) = IntKind.i64.wrap ((BitVec.ofInt 64 _ ||| BitVec.ofInt 64 _).toNat : Int)
  rw [BitVec.or_comm]
 rw [comm, j, e, Nat.add_comm]
theorem find_stop (s : ByteArray) (k : Nat) (hk : k < 7) (hs : k < s.size) (hj : ∀ j, j < k → 128 ≤ bn s j) (hc : bn s k < 128) (hz : k = 0 ∨ bn s k ≠ 0) : FindV s (k + 1) :=
 ⟨by omega, by omega, by omega, (canonS_char s k 0).2 ⟨by intro j h; rw [Nat.zero_add]; exact hj j h, by rw [Nat.zero_add]; exact hc, by rw [Nat.zero_add]; exact hz⟩⟩
theorem find_zero (s : ByteArray) (k : Nat) (hj : ∀ j, j < k → 128 ≤ bn s j) (hc : bn s k = 0) (hk : 0 < k) : ∀ m, ¬ FindV s m := by
 rintro m ⟨h1, h2, h3, h4⟩
 obtain ⟨d, rfl⟩ : ∃ d, m = d + 1 := ⟨m - 1, by omega⟩
 obtain ⟨c1, c2, c3⟩ := (canonS_char s d 0).1 h4
 rw [Nat.zero_add] at c2 c3
 rcases Nat.lt_trichotomy d k with h | h | h
 ·have := hj d h; omega
 ·subst h; omega
 ·have := c1 k h; rw [Nat.zero_add] at this; omega
theorem find_end (s : ByteArray) (L : Nat) (hj : ∀ j, j < L → 128 ≤ bn s j) (hL : 7 ≤ L ∨ s.size ≤ L) : ∀ m, ¬ FindV s m := by
 rintro m ⟨h1, h2, h3, h4⟩
 obtain ⟨d, rfl⟩ : ∃ d, m = d + 1 := ⟨m - 1, by omega⟩
 obtain ⟨c1, c2, c3⟩ := (canonS_char s d 0).1 h4
 rw [Nat.zero_add] at c2
 have := hj d (by omega)
 omega
theorem ret_ints {a b c d : Int} (h : a = b) (h' : c = d) : Ending.returned (.tuple #[.int .i64 a, .int .i64 c]) = .returned (.tuple #[.int .i64 b, .int .i64 d]) := by rw [h, h']
set_option maxHeartbeats 1000000 in
theorem impl_readVar_long (s : ByteArray) (w : World) (hs : s.size ≤ 1048576) (h7 : (7 : Int) < (s.size : Int)) :
  Calls Tryz.prog 84 #[.string s] w fun e w' => ReadV s e ∧ w = w' := by
 have q1 : (s.size : Int) ≤ 1048576 := by omega
 have hbt := get_bn s
 go_enter Tryz.func84, Tryz.ntmps84
 go_wp2
 go_loop [4, 10] (fun v4 v10 => ∃ k : Nat, k ≤ 7 ∧ v10 = .int .i64 k ∧ v4 = .int .i64 (vvS s 0 k) ∧ Hid (∀ j, j < k → 128 ≤ bn s j)) (fun _ i => 7 - (intOf i).toNat)
 case atStart => exact ⟨0, by omega, rfl, rfl, fun j hj => absurd hj (by omega)⟩
 case round =>
  obtain ⟨k, hk, rfl, rfl, HJ⟩ := hrel
  by_cases hlt : k < 7
  ·have r1 := bn_lt s k
   have HO : Hid (bits .or .i64 (vvS s 0 k : Int) (wrap64 ((bn s k : Int) % 128 * 2 ^ (7 * k))) = (vvS s 0 (k + 1) : Int)) := vvS_or s k (by omega)
   by_cases hc : (128 : Int) ≤ (bn s k : Int)
   ·go_wp2
    go_round
    case rel =>
     refine ⟨k + 1, by omega, by go_num, by rw [HO.out], ?_⟩
     intro j hj
     by_cases e : j = k
     ·subst e; omega
     ·exact HJ.out j (by omega)
    case measure => simp [intOf]; omega
   ·by_cases hz : bn s k = 0
    ·by_cases hk0 : k = 0
     ·have HF : Hid (FindV s (k + 1)) := find_stop s k (by omega) (by omega) HJ.out (by omega) (.inl hk0)
      have z1 : ((bn s k : Int) == 0) = true := by simp; omega
      have z2 : (k : Int) ≤ 0 := by omega
      clear hk0 hz
      go_wp2
      go_ret2
      exact ⟨.inl ⟨k + 1, HF.out, ret_ints HO.out (by omega)⟩, rfl⟩
     ·have HF : Hid (∀ m, ¬ FindV s m) := find_zero s k HJ.out hz (by omega)
      have z1 : ((bn s k : Int) == 0) = true := by simp; omega
      have z2 : (0 : Int) < (k : Int) := by omega
      clear hz
      go_wp2
      go_ret2
      exact ⟨.inr ⟨HF.out, rfl⟩, rfl⟩
    ·have HF : Hid (FindV s (k + 1)) := find_stop s k (by omega) (by omega) HJ.out (by omega) (.inr hz)
     have z1 : ((bn s k : Int) == 0) = false := by simp; omega
     go_wp2
     go_ret2
     exact ⟨.inl ⟨k + 1, HF.out, ret_ints HO.out (by omega)⟩, rfl⟩
  ·have HF : Hid (∀ m, ¬ FindV s m) := find_end s k HJ.out (by omega)
   go_wp2
   go_ret2
   exact ⟨.inr ⟨HF.out, rfl⟩, rfl⟩
set_option maxHeartbeats 1000000 in
theorem impl_readVar_short (s : ByteArray) (w : World) (hs : s.size ≤ 1048576) (h7 : (s.size : Int) ≤ 7) :
  Calls Tryz.prog 84 #[.string s] w fun e w' => ReadV s e ∧ w = w' := by
 have q1 : (s.size : Int) ≤ 1048576 := by omega
 have hbt := get_bn s
 go_enter Tryz.func84, Tryz.ntmps84
 go_wp2
 go_loop [4, 10] (fun v4 v10 => ∃ k : Nat, k ≤ s.size ∧ v10 = .int .i64 k ∧ v4 = .int .i64 (vvS s 0 k) ∧ Hid (∀ j, j < k → 128 ≤ bn s j)) (fun _ i => s.size - (intOf i).toNat)
 case atStart => exact ⟨0, by omega, rfl, rfl, fun j hj => absurd hj (by omega)⟩
 case round =>
  obtain ⟨k, hk, rfl, rfl, HJ⟩ := hrel
  by_cases hlt : k < s.size
  ·have r1 := bn_lt s k
   have HO : Hid (bits .or .i64 (vvS s 0 k : Int) (wrap64 ((bn s k : Int) % 128 * 2 ^ (7 * k))) = (vvS s 0 (k + 1) : Int)) := vvS_or s k (by omega)
   by_cases hc : (128 : Int) ≤ (bn s k : Int)
   ·go_wp2
    go_round
    case rel =>
     refine ⟨k + 1, by omega, by go_num, by rw [HO.out], ?_⟩
     intro j hj
     by_cases e : j = k
     ·subst e; omega
     ·exact HJ.out j (by omega)
    case measure => simp [intOf]; omega
   ·by_cases hz : bn s k = 0
    ·by_cases hk0 : k = 0
     ·have HF : Hid (FindV s (k + 1)) := find_stop s k (by omega) (by omega) HJ.out (by omega) (.inl hk0)
      have z1 : ((bn s k : Int) == 0) = true := by simp; omega
      have z2 : (k : Int) ≤ 0 := by omega
      clear hk0 hz
      go_wp2
      go_ret2
      exact ⟨.inl ⟨k + 1, HF.out, ret_ints HO.out (by omega)⟩, rfl⟩
     ·have HF : Hid (∀ m, ¬ FindV s m) := find_zero s k HJ.out hz (by omega)
      have z1 : ((bn s k : Int) == 0) = true := by simp; omega
      have z2 : (0 : Int) < (k : Int) := by omega
      clear hz
      go_wp2
      go_ret2
      exact ⟨.inr ⟨HF.out, rfl⟩, rfl⟩
    ·have HF : Hid (FindV s (k + 1)) := find_stop s k (by omega) (by omega) HJ.out (by omega) (.inr hz)
     have z1 : ((bn s k : Int) == 0) = false := by simp; omega
     go_wp2
     go_ret2
     exact ⟨.inl ⟨k + 1, HF.out, ret_ints HO.out (by omega)⟩, rfl⟩
  ·have HF : Hid (∀ m, ¬ FindV s m) := find_end s k HJ.out (by omega)
   go_wp2
   go_ret2
   exact ⟨.inr ⟨HF.out, rfl⟩, rfl⟩
theorem impl_readVar (s : ByteArray) (w : World) (hs : s.size ≤ 1048576) :
  Calls Tryz.prog 84 #[.string s] w fun e w' => ReadV s e ∧ w = w' := by
 by_cases h : (7 : Int) < (s.size : Int)
 ·exact impl_readVar_long s w hs h
 ·exact impl_readVar_short s w hs (by omega)
theorem txt_list (l : List UInt8) : (txt l).toList = l := by rw [Lib.toList_data]; simp [txt]
theorem var_eq (s : ByteArray) (k : Nat) (h1 : 1 ≤ k) (h7 : k ≤ 7) (hk : k ≤ s.size) : ((txt (vF 6 (vvS s 0 k))).toList == (s.extract 0 k).toList) = true ↔ canonS s 0 k := by
 obtain ⟨d, rfl⟩ : ∃ d, k = d + 1 := ⟨k - 1, by omega⟩
 rw [sg_extract s (d + 1) hk, txt_list, txt_list, ← canonS_iff s d 0 6 (by omega)]
 simp
set_option maxHeartbeats 1000000 in
theorem spec_readVar (s : ByteArray) (w : World) (hs : s.size ≤ 1048576) :
  Calls Tryz.prog 63 #[.string s] w fun e w' => ReadV s e ∧ Below w.heap.size w w' := by
 have q1 : (s.size : Int) ≤ 1048576 := by omega
 have hbt := get_bn s
 go_enter Tryz.func63, Tryz.ntmps63
 go_wp2
 go_loopw [4] (fun v4 wr => ∃ k : Nat, 1 ≤ k ∧ k ≤ 8 ∧ v4 = .int .i64 k ∧ Hid (∀ j, j < k → ¬ FindV s j) ∧ Below w.heap.size w wr) (fun i _ => 8 - (intOf i).toNat)
 case atStart => exact ⟨1, by omega, by omega, rfl, (by intro j hj h; have := h.1; omega), Below.refl _ _⟩
 case round =>
  obtain ⟨k, hk1, hk, rfl, HJ, hb⟩ := hrel
  by_cases hlt : k ≤ 7
  ·by_cases hle : k ≤ s.size
   ·have c1 : (k : Int) ≤ 7 := by omega
    have c2 : (k : Int) ≤ (s.size : Int) := by omega
    have hkv := vvS_le s k hlt 0
    go_wp2
    go_loop [5, 6] (fun v5 v6 => ∃ j : Nat, j ≤ k ∧ v6 = .int .i64 ((j : Int) - 1) ∧ v5 = .int .i64 (vvS s j (k - j))) (fun _ i => (intOf i + 1).toNat)
    case atStart => exact ⟨k, by omega, rfl, by rw [Nat.sub_self]; rfl⟩
    case round =>
     obtain ⟨j, hj, rfl, rfl⟩ := hrel
     by_cases hj0 : 0 < j
     ·have r1 := bn_lt s (j - 1)
      have r2 := vvS_le s (k - j) (by omega) j
      have hs0 : vvS s (j - 1) (k - (j - 1)) = bn s (j - 1) % 128 + 128 * vvS s j (k - j) := by
       have e1 : k - (j - 1) = (k - j) + 1 := by omega
       have e2 : j - 1 + 1 = j := by omega
       rw [e1, vvS, e2]
      have HS : Hid (vvS s (j - 1) (k - (j - 1)) = bn s (j - 1) % 128 + 128 * vvS s j (k - j)) := hs0
      clear hs0
      have e3 : ((j : Int) - 1).toNat = j - 1 := by omega
      go_wp2
      go_round
      case rel => exact ⟨j - 1, by omega, by go_num, by rw [HS.out]; go_num⟩
      case measure => simp [intOf]; omega
     ·have hj00 : j = 0 := by omega
      subst hj00
      rw [Nat.sub_zero]
      by_cases hcan : canonS s 0 k
      ·have hq := (var_eq s k hk1 hlt hle).2 hcan
       have HF : Hid (FindV s k) := ⟨hk1, hlt, hle, hcan⟩
       clear hcan
       go_wp2
       go_region_held3 (fun _ => True) (exact True.intro) ((go_at_call 32; refine (spec_var _ _ (by omega)).mono ?_; rintro e w1 ⟨rfl, hbv⟩))
       all_goals
        go_wp2
        go_ret2
        exact ⟨.inl ⟨k, HF.out, rfl⟩, hb.drew.trans (hbv.mono (by have := hb.size; exact this))⟩
      ·have hq : ((txt (vF 6 (vvS s 0 k))).toList == (s.extract 0 k).toList) = false := by
        have := mt (var_eq s k hk1 hlt hle).1 hcan
        simpa using this
       have HF : Hid (¬ FindV s k) := fun h => hcan h.2.2.2
       clear hcan
       go_wp2
       go_region_held3 (fun _ => True) (exact True.intro) ((go_at_call 32; refine (spec_var _ _ (by omega)).mono ?_; rintro e w1 ⟨rfl, hbv⟩))
       all_goals
        go_wp2
        go_roundw
        case rel =>
         refine ⟨k + 1, by omega, by omega, by go_num, ?_, hb.drew.trans (hbv.mono (by have := hb.size; exact this))⟩
         intro j hj
         by_cases e : j = k
         ·subst e; exact HF.out
         ·exact HJ.out j (by omega)
        case measure => simp [intOf]; omega
   ·have c1 : (k : Int) ≤ 7 := by omega
    have c2 : decide ((k : Int) ≤ (s.size : Int)) = false := by simp; omega
    have HF : Hid (∀ m, ¬ FindV s m) := by
     intro m hm
     by_cases e : m < k
     ·exact HJ.out m e hm
     ·have := hm.2.2.1; omega
    go_wp2
    go_ret2
    exact ⟨.inr ⟨HF.out, rfl⟩, hb⟩
  ·have c1 : (7 : Int) < (k : Int) := by omega
   have HF : Hid (∀ m, ¬ FindV s m) := by
    intro m hm
    by_cases e : m < k
    ·exact HJ.out m e hm
    ·have := hm.2.1; omega
   go_wp2
   go_ret2
   exact ⟨.inr ⟨HF.out, rfl⟩, hb⟩
end Go.Proofs.YtimfnbnffibgpaaGreatDoor
namespace Go.Proofs.YtimfnbnffibgpaaGreatDoor
open Go.RowKit Go.PlainAid
def numCells (l : List Int) : List Value := l.map fun z => Value.int .i64 z
def Nums (w : World) (base : Nat) (v : Value) (l : List Int) : Prop := w.ownsRow base 3 1 v l.length (numCells l)
def NumsV (w : World) (B : Nat) (v : Value) (l : List Int) : Prop :=
 ∃ A cap, v = .slice A l.length cap ∧ l.length ≤ cap ∧ cap ≤ maxLen ∧ ∀ j, j < l.length → ∃ g off, A = some ⟨g, off, none⟩ ∧ g < B ∧ w.cell? ⟨g, off + j, none⟩ = some (.int .i64 (l.getD j 0))
theorem Nums.nil (w : World) (base : Nat) : Nums w base (.slice none 0 0) [] := World.ownsRow_nil w base 3 1
theorem Nums.empty (w : World) (base : Nat) (hb : base ≤ w.heap.size) : Nums (w.alloc (.cells #[] 3)) base (.slice (some ⟨w.heap.size, 0, none⟩) 0 0) [] :=
 World.ownsRow_lit w #[] 0 hb (by unfold maxLen; omega) rfl
theorem Nums.one (w : World) (base : Nat) (z : Int) (hb : base ≤ w.heap.size) : Nums (w.alloc (.cells #[.int .i64 z] 3)) base (.slice (some ⟨w.heap.size, 0, none⟩) 1 1) [z] :=
 World.ownsRow_lit w #[.int .i64 z] 1 hb (by unfold maxLen; omega) rfl
theorem Nums.mono {w : World} {base base' : Nat} {v : Value} {l : List Int} (h : Nums w base v l) (hb : base' ≤ base) : Nums w base' v l :=
 ⟨h.1, h.2.imp id fun ⟨g, cap, cur, e, hg, r⟩ => ⟨g, cap, cur, e, Nat.le_trans hb hg, r⟩⟩
theorem Nums.lt {w : World} {base : Nat} {v : Value} {l : List Int} (h : Nums w base v l) : ∀ k, v.ownBlock = some k → base ≤ k ∧ k < w.heap.size := World.ownsRow.lt h
theorem Nums.kept {w w' : World} {base : Nat} {v : Value} {l : List Int} (h : Nums w base v l) (hk : ∀ g, g < w.heap.size → v.ownBlock = some g → w'.heap[g]? = w.heap[g]?) : Nums w' base v l := by
 have hl := World.ownsRow.lt h
 refine ⟨h.1, h.2.imp id ?_⟩
 rintro ⟨g, cap, cur, rfl, hg, hh, r⟩
 refine ⟨g, cap, cur, rfl, hg, ?_, r⟩
 rw [hk g (hl g rfl).2 rfl]
 exact hh
theorem Nums.on {w w' : World} {base : Nat} {v : Value} {l : List Int} (h : Nums w base v l) (hb : Below w.heap.size w w') : Nums w' base v l := h.kept fun g hg _ => hb.block g hg
theorem Nums.under {w w' : World} {base B : Nat} {v : Value} {l : List Int} (h : Nums w base v l) (hB : w.heap.size ≤ B) (hb : Below B w w') : Nums w' base v l := h.kept fun g hg _ => hb.block g (Nat.lt_of_lt_of_le hg hB)
theorem Nums.heap {w w' : World} {base : Nat} {v : Value} {l : List Int} (h : Nums w base v l) (hh : w'.heap = w.heap) : Nums w' base v l := h.kept fun g _ _ => by rw [hh]
theorem Nums.alloc {w : World} {base : Nat} {v : Value} {l : List Int} (h : Nums w base v l) (o : Obj) : Nums (w.alloc o) base v l := World.ownsRow.alloc h o
theorem Nums.other {w : World} {base : Nat} {v : Value} {l : List Int} (h : Nums w base v l) {g : Nat} (hne : v.ownBlock ≠ some g) (i : Nat) (x : Value) : Nums (w.setCell ⟨g, i, none⟩ x) base v l :=
 h.kept fun k _ hk => Below.heap_setCell _ _ _ _ (fun e => hne (by rw [hk]; exact congrArg some e))
theorem Nums.others {w w' : World} {base b : Nat} {v : Value} {l : List Int} (h : Nums w base v l) (hk : Lib.OthersKept 5 (some b) w w') (hb : v.ownBlock ≠ some b) : Nums w' base v l :=
 h.kept fun g hg ho => by
  obtain ⟨c, fz, e1⟩ := Lib.ownsRow_kind h g ho
  rw [hk g _ e1 (fun e => hb (by rw [ho]; exact e)) (fun c fz e => by cases e), e1]
theorem Nums.form {w : World} {base : Nat} {v : Value} {l : List Int} (h : Nums w base v l) : (v = .slice none 0 0 ∧ l = []) ∨ ∃ g cap, v = .slice (some ⟨g, 0, none⟩) l.length cap ∧ l.length ≤ cap ∧ cap ≤ maxLen ∧ base ≤ g ∧ g < w.heap.size := by
 have hl := World.ownsRow.lt h
 rcases h.2 with ⟨rfl, h0⟩ | ⟨g, cap, cur, rfl, hg, _, hc, hm, _⟩
 ·exact .inl ⟨rfl, List.eq_nil_of_length_eq_zero h0⟩
 ·exact .inr ⟨g, cap, rfl, hc, hm, hg, (hl g rfl).2⟩
theorem Nums.shape {w : World} {base : Nat} {v : Value} {l : List Int} (h : Nums w base v l) : ∃ A c, v = .slice A l.length c ∧ l.length ≤ c ∧ c ≤ maxLen := by
 rcases h.form with ⟨rfl, rfl⟩ | ⟨g, c, rfl, h1, h2, _⟩
 ·exact ⟨_, _, rfl, by simp, by unfold maxLen; omega⟩
 ·exact ⟨_, _, rfl, h1, h2⟩
theorem Nums.len {w : World} {base n cap : Nat} {A : Option Addr} {l : List Int} (h : Nums w base (.slice A n cap) l) : n = l.length := by
 rcases h.form with ⟨e, e2⟩ | ⟨g', c', e, _⟩
 ·injection e with _ e1; rw [e1, e2]; rfl
 ·injection e
theorem Nums.cell {w : World} {base g cap n : Nat} {l : List Int} (h : Nums w base (.slice (some ⟨g, 0, none⟩) n cap) l) (j : Nat) (hj : j < l.length) : w.cell? ⟨g, j, none⟩ = some (.int .i64 (l.getD j 0)) := by
 have hn := h.len
 subst hn
 rw [World.ownsRow.cellAt h j (by omega)]
 simp [numCells, hj]
theorem Nums.frozen {w : World} {base g cap n : Nat} {l : List Int} (h : Nums w base (.slice (some ⟨g, 0, none⟩) n cap) l) (j : Nat) : w.frozen? ⟨g, j, none⟩ = false := by
 have hn := h.len
 subst hn
 exact World.ownsRow.frozenAt h j
theorem Nums.stored {w : World} {base g cap n : Nat} {l : List Int} (h : Nums w base (.slice (some ⟨g, 0, none⟩) n cap) l) (j : Nat) (x : Int) :
  Nums (w.setCell ⟨g, j, none⟩ (.int .i64 x)) base (.slice (some ⟨g, 0, none⟩) n cap) (l.set j x) := by
 have hn := h.len
 subst hn
 have hs := (World.ownsRow.stored h j (.int .i64 x)).1
 unfold Nums
 rw [List.length_set, numCells, List.map_set]
 exact hs
theorem Nums.block {w : World} {base n cap : Nat} {A : Option Addr} {l : List Int} (h : Nums w base (.slice A n cap) l) (hn : 0 < l.length) : ∃ g, A = some ⟨g, 0, none⟩ ∧ base ≤ g ∧ g < w.heap.size := by
 rcases h.form with ⟨e, e2⟩ | ⟨g', c', e, _, _, h3, h4⟩
 ·rw [e2] at hn; simp at hn
 ·injection e with e1; exact ⟨g', e1, h3, h4⟩
theorem Nums.lies {w : World} {base : Nat} {v : Value} {l : List Int} (h : Nums w base v l) : NumsV w w.heap.size v l := by
 rcases h.form with ⟨rfl, rfl⟩ | ⟨g, c, rfl, h1, h2, h3, h4⟩
 ·exact ⟨none, 0, rfl, Nat.zero_le _, by unfold maxLen; omega, fun j hj => by simp at hj⟩
 ·exact ⟨_, c, rfl, h1, h2, fun j hj => ⟨g, 0, rfl, h4, by rw [Nat.zero_add]; exact h.cell j hj⟩⟩
theorem NumsV.on {w w' : World} {B : Nat} {v : Value} {l : List Int} (h : NumsV w B v l) (hb : Below B w w') : NumsV w' B v l := by
 obtain ⟨A, cap, rfl, h1, h2, h3⟩ := h
 refine ⟨A, cap, rfl, h1, h2, fun j hj => ?_⟩
 obtain ⟨g, off, rfl, hg, hc⟩ := h3 j hj
 exact ⟨g, off, rfl, hg, by rw [hb.cell (p := ⟨_, _, none⟩) hg]; exact hc⟩
theorem NumsV.mono {w : World} {B C : Nat} {v : Value} {l : List Int} (h : NumsV w B v l) (hB : B ≤ C) : NumsV w C v l := by
 obtain ⟨A, cap, rfl, h1, h2, h3⟩ := h
 refine ⟨A, cap, rfl, h1, h2, fun j hj => ?_⟩
 obtain ⟨g, off, rfl, hg, hc⟩ := h3 j hj
 exact ⟨g, off, rfl, Nat.lt_of_lt_of_le hg hB, hc⟩
theorem NumsV.heap {w w' : World} {B : Nat} {v : Value} {l : List Int} (h : NumsV w B v l) (hh : w'.heap = w.heap) : NumsV w' B v l := by
 obtain ⟨A, cap, rfl, h1, h2, h3⟩ := h
 refine ⟨A, cap, rfl, h1, h2, fun j hj => ?_⟩
 obtain ⟨g, off, rfl, hg, hc⟩ := h3 j hj
 exact ⟨g, off, rfl, hg, by unfold World.cell? at *; rw [hh]; exact hc⟩
theorem NumsV.full {w : World} {B : Nat} {v : Value} {l : List Int} (h : NumsV w B v l) (hn : 0 < l.length) : ∃ g off cap, v = .slice (some ⟨g, off, none⟩) l.length cap ∧ l.length ≤ cap ∧ cap ≤ maxLen ∧ g < B ∧ ∀ wx, Below B w wx → ∀ j, j < l.length → wx.cell? ⟨g, off + j, none⟩ = some (.int .i64 (l.getD j 0)) := by
 obtain ⟨A, cap, rfl, h1, h2, h3⟩ := h
 obtain ⟨g, off, rfl, hg, _⟩ := h3 0 hn
 refine ⟨g, off, cap, rfl, h1, h2, hg, fun wx hx j hj => ?_⟩
 obtain ⟨g', off', e, _, hc⟩ := h3 j hj
 injection e with e
 injection e with e1 e2
 subst e1
 subst e2
 rw [hx.cell (p := ⟨_, _, none⟩) hg]
 exact hc
theorem getD_set_same (l : List Int) (j : Nat) (x : Int) (h : j < l.length) : (l.set j x).getD j 0 = x := by simp [List.getD, h]
theorem getD_set_ne (l : List Int) (j k : Nat) (x : Int) (h : j ≠ k) : (l.set j x).getD k 0 = l.getD k 0 := by simp [List.getD, List.getElem?_set_ne h]
theorem nums_ext {l m : List Int} (h : l.length = m.length) (hj : ∀ j, j < l.length → l.getD j 0 = m.getD j 0) : l = m := by
 apply List.ext_getElem h
 intro j h1 h2
 have := hj j h1
 simpa [List.getD, h1, h2] using this
theorem take_num (l : List Int) (k : Nat) (h : k < l.length) : l.take (k + 1) = l.take k ++ [l.getD k 0] := by
 rw [List.take_succ_eq_append_getElem h]
 simp [List.getD, h]
theorem wpList_append_num {P : Program} {w : World} {ops : Array Oper} {rest : List Oper} {o : Oper} {a : Act} {Q : Exit → Act → World → Prop} (hgd : o.guard = none) (s x : Operand) (t : TypeId)
  (ho : o.op = .call { callee := .builtin .append, args := #[s, x], argTypes := #[t, t] })
  (ht : P.underlying t = some (.slice 3)) (hinfo : (P.info? 3).map (fun i => (i.zero, i.size, i.bytes)) = some (some (.int .i64 0), 1, 8))
  (base : Nat) (v : Value) (l : List Int) (hs : a.eval s = v) (hown : Nums w base v l) (z : Int)
  (hx : a.eval x = .slice (some ⟨w.heap.size, 0, none⟩) 1 1) (hlen : l.length ≤ 2097152) (hbase : base ≤ w.heap.size)
  (h : ∀ v' w', Nums w' base v' (l ++ [z]) → Below base w w' → (∀ g, g < w.heap.size → v.ownBlock ≠ some g → w'.heap[g]? = w.heap[g]?) → wpList P ops Q rest (a.put o.dst v') w') : wpList P ops Q (o :: rest) a (w.alloc (.cells #[.int .i64 z] 3)) := by
 obtain ⟨i0, hi, hz0, hz1, hz2⟩ := info_parts hinfo
 refine wpList_append_own (w := w.alloc (.cells #[.int .i64 z] 3)) hgd s x t ho base 3 i0 (.int .i64 0) 1 8 ht hi hz0 hz1 hz2 rfl (by decide) v l.length (numCells l) hs (hown.alloc _) ⟨w.heap.size, 0, none⟩ 1 1 [.int .i64 z] hx rfl ?_ ?_ ?_ ?_ ?_ ?_
 ·intro j u hj
  have e : (⟨w.heap.size, 0, none⟩ : Addr).add j = ⟨w.heap.size, j, none⟩ := by cases j <;> simp [Addr.add]
  rw [e, World.cell?_alloc_mark]
  simpa using hj
 ·intro u hu
  simp at hu
  subst hu
  rfl
 ·unfold maxLen; omega
 ·omega
 ·simp; omega
 ·intro v' w' h1 h2 _
  have hb0 : ∀ k, v.ownBlock = some k → base ≤ k := fun k hk => (World.ownsRow.lt hown k hk).1
  refine h v' w' ?_ ?_ ?_
  ·unfold Nums
   rw [List.length_append, numCells, List.map_append]
   exact h1
  ·exact ((Below.refl base w).alloc hbase _).grown h2 (by simp; omega) hb0
  ·intro g hg hne
   rw [h2.block g (by simp; omega) (fun e => hne e.symm)]
   exact Below.heap_alloc w _ g hg
end Go.Proofs.YtimfnbnffibgpaaGreatDoor
namespace Go.Proofs.YtimfnbnffibgpaaGreatDoor
open Go.RowKit
theorem cell?_heap {w w' : World} (h : w'.heap = w.heap) (a : Addr) : w'.cell? a = w.cell? a := by
 unfold World.cell?
 rw [h]
theorem below_heap {w w' : World} (h1 : w'.heap = w.heap) (h2 : w'.os = w.os) (h3 : w'.tape = w.tape) (h4 : w'.output = w.output) : Below w.heap.size w w' := ⟨h2, h3, h4, by rw [h1]; exact Nat.le_refl _, fun k _ => by rw [h1]⟩
def Like (w w' : World) : Prop := w'.heap = w.heap ∧ w'.os = w.os ∧ w'.tape = w.tape ∧ w'.output = w.output
theorem Like.refl (w : World) : Like w w := ⟨rfl, rfl, rfl, rfl⟩
theorem Like.drewN {w w' : World} (h : Like w w') (n : Nat) : Like w (w'.drewN n) := h
theorem Like.below {w w' : World} (h : Like w w') : Below w.heap.size w w' := below_heap h.1 h.2.1 h.2.2.1 h.2.2.2
end Go.Proofs.YtimfnbnffibgpaaGreatDoor
namespace Go.Proofs.YtimfnbnffibgpaaGreatDoor
open Go.ChangeShapes Go.WideShapes Go.ChangeAt Go.RowKit Go.PlainAid
set_option linter.unusedVariables false
theorem Tryz.infoInt : (Tryz.prog.info? 3).map (fun i => (i.zero, i.size, i.bytes)) = some (some (.int .i64 0), 1, 8) := by kernel_rfl
end Go.Proofs.YtimfnbnffibgpaaGreatDoor
namespace Go.Proofs.YtimfnbnffibgpaaGreatDoor
open Go.ChangeShapes Go.WideShapes Go.ChangeAt Go.RowKit Go.PlainAid
set_option linter.unusedVariables false
def zig (n : Int) : Int := if n < -140737488355328 ∨ 140737488355328 < n then -1 else if n < 0 then -2 * n - 1 else 2 * n
def unz (z : Int) : Int := if z < 0 ∨ 281474976710656 < z then 0 else if z % 2 = 1 then -((z + 1) / 2) else z / 2
def zok (z : Int) : Bool := decide (0 ≤ z ∧ z ≤ 281474976710656)
theorem zig_range (n : Int) : -1 ≤ zig n ∧ zig n ≤ 281474976710656 := by unfold zig; (repeat' split) <;> omega
theorem zig_pos (n : Int) (h1 : -140737488355328 ≤ n) (h2 : n ≤ 140737488355328) : 0 ≤ zig n := by unfold zig; (repeat' split) <;> omega
theorem unz_range (z : Int) : -140737488355328 ≤ unz z ∧ unz z ≤ 140737488355328 := by unfold unz; (repeat' split) <;> omega
theorem unz_zig (n : Int) (h1 : -140737488355328 ≤ n) (h2 : n ≤ 140737488355328) : unz (zig n) = n := by
 unfold zig
 rw [if_neg (by omega)]
 by_cases h : n < 0
 ·rw [if_pos h]; unfold unz; rw [if_neg (by omega), if_pos (by omega)]; omega
 ·rw [if_neg h]; unfold unz; rw [if_neg (by omega), if_neg (by omega)]; omega
theorem zig_unz (z : Int) (h1 : 0 ≤ z) (h2 : z ≤ 281474976710656) : zig (unz z) = z := by
 unfold unz
 rw [if_neg (by omega)]
 by_cases h : z % 2 = 1
 ·rw [if_pos h]; unfold zig; rw [if_neg (by omega), if_pos (by omega)]; omega
 ·rw [if_neg h]; unfold zig; rw [if_neg (by omega), if_neg (by omega)]; omega
set_option maxHeartbeats 400000 in
theorem impl_zig (n : Int) (w : World) (hn1 : -9223372036854775808 ≤ n) (hn2 : n ≤ 9223372036854775807) : Calls Tryz.prog 140 #[.int .i64 n] w fun e w' => e = .returned (.int .i64 (zig n)) ∧ w = w' := by
 by_cases h1 : n < -140737488355328
 ·have e : zig n = -1 := by unfold zig; rw [if_pos (by omega)]
  rw [e]
  go_enter Tryz.func140, Tryz.ntmps140
  go_wp2
  go_ret
  exact ⟨rfl, rfl⟩
 by_cases h2 : 140737488355328 < n
 ·have e : zig n = -1 := by unfold zig; rw [if_pos (by omega)]
  rw [e]
  go_enter Tryz.func140, Tryz.ntmps140
  go_wp2
  go_ret
  exact ⟨rfl, rfl⟩
 by_cases h3 : n < 0
 ·have e : zig n = -2 * n - 1 := by unfold zig; rw [if_neg (by omega), if_pos h3]
  rw [e]
  go_enter Tryz.func140, Tryz.ntmps140
  go_wp2
  go_ret
  exact ⟨by go_num, rfl⟩
 ·have e : zig n = 2 * n := by unfold zig; rw [if_neg (by omega), if_neg h3]
  rw [e]
  go_enter Tryz.func140, Tryz.ntmps140
  go_wp2
  go_ret
  exact ⟨by go_num, rfl⟩
set_option maxHeartbeats 400000 in
theorem spec_zig (n : Int) (w : World) (hn1 : -9223372036854775808 ≤ n) (hn2 : n ≤ 9223372036854775807) : Calls Tryz.prog 120 #[.int .i64 n] w fun e w' => e = .returned (.int .i64 (zig n)) ∧ w = w' := by
 by_cases h1 : n < -140737488355328 ∨ 140737488355328 < n
 ·have e : zig n = -1 := by unfold zig; rw [if_pos h1]
  rw [e]
  have c := fun wx => in_no n (-140737488355328) 140737488355328 wx h1
  go_enter Tryz.func120, Tryz.ntmps120
  go_wp2_with (go_at_call 20; refine (c _).mono ?_; rintro e w' ⟨rfl, rfl⟩)
  go_ret
  exact ⟨rfl, rfl⟩
 have c := fun wx => in_yes n (-140737488355328) 140737488355328 wx (by omega) (by omega)
 by_cases h3 : n < 0
 ·have e : zig n = -2 * n - 1 := by unfold zig; rw [if_neg (by omega), if_pos h3]
  rw [e]
  have q1 : -140737488355328 ≤ n := by omega
  clear h1
  go_enter Tryz.func120, Tryz.ntmps120
  go_wp2_with (go_at_call 20; refine (c _).mono ?_; rintro e w' ⟨rfl, rfl⟩)
  go_ret
  exact ⟨by go_num, rfl⟩
 ·have e : zig n = 2 * n := by unfold zig; rw [if_neg (by omega), if_neg h3]
  rw [e]
  have q1 : n ≤ 140737488355328 := by omega
  clear h1
  go_enter Tryz.func120, Tryz.ntmps120
  go_wp2_with (go_at_call 20; refine (c _).mono ?_; rintro e w' ⟨rfl, rfl⟩)
  go_ret
  exact ⟨by go_num, rfl⟩
set_option maxHeartbeats 400000 in
theorem impl_unz (z : Int) (w : World) (hn1 : -9223372036854775808 ≤ z) (hn2 : z ≤ 9223372036854775807) : Calls Tryz.prog 135 #[.int .i64 z] w fun e w' => e = .returned (.tuple #[.int .i64 (unz z), .bool (zok z)]) ∧ w = w' := by
 by_cases h1 : z < 0
 ·have e : unz z = 0 := by unfold unz; rw [if_pos (by omega)]
  have e2 : zok z = false := by unfold zok; exact decide_eq_false (by omega)
  rw [e, e2]
  go_enter Tryz.func135, Tryz.ntmps135
  go_wp2
  go_ret2
  exact ⟨rfl, rfl⟩
 by_cases h2 : 281474976710656 < z
 ·have e : unz z = 0 := by unfold unz; rw [if_pos (by omega)]
  have e2 : zok z = false := by unfold zok; exact decide_eq_false (by omega)
  rw [e, e2]
  go_enter Tryz.func135, Tryz.ntmps135
  go_wp2
  go_ret2
  exact ⟨rfl, rfl⟩
 have e2 : zok z = true := by unfold zok; exact decide_eq_true (by omega)
 have q0 : 0 ≤ z := by omega
 by_cases h3 : z % 2 = 1
 ·have e : unz z = -((z + 1) / 2) := by unfold unz; rw [if_neg (by omega), if_pos h3]
  have d1 : Int.tdiv (-(z + 1)) 2 = -((z + 1) / 2) := by rw [Int.neg_tdiv, Int.tdiv_eq_ediv_of_nonneg (by omega)]
  rw [e, e2]
  have d2 : wrap64 (-(z + 1)) = -(z + 1) := by unfold wrap64; omega
  go_enter Tryz.func135, Tryz.ntmps135
  go_wp2
  go_ret2
  exact ⟨by go_num, rfl⟩
 ·have e : unz z = z / 2 := by unfold unz; rw [if_neg (by omega), if_neg h3]
  rw [e, e2]
  go_enter Tryz.func135, Tryz.ntmps135
  go_wp2
  go_ret2
  exact ⟨by go_num, rfl⟩
set_option maxHeartbeats 400000 in
theorem spec_unz (z : Int) (w : World) (hn1 : -9223372036854775808 ≤ z) (hn2 : z ≤ 9223372036854775807) : Calls Tryz.prog 118 #[.int .i64 z] w fun e w' => e = .returned (.tuple #[.int .i64 (unz z), .bool (zok z)]) ∧ w = w' := by
 by_cases h1 : z < 0
 ·have e : unz z = 0 := by unfold unz; rw [if_pos (by omega)]
  have e2 : zok z = false := by unfold zok; exact decide_eq_false (by omega)
  rw [e, e2]
  go_enter Tryz.func118, Tryz.ntmps118
  go_wp2
  go_ret2
  exact ⟨rfl, rfl⟩
 by_cases h2 : 281474976710656 < z
 ·have e : unz z = 0 := by unfold unz; rw [if_pos (by omega)]
  have e2 : zok z = false := by unfold zok; exact decide_eq_false (by omega)
  rw [e, e2]
  go_enter Tryz.func118, Tryz.ntmps118
  go_wp2
  go_ret2
  exact ⟨rfl, rfl⟩
 have e2 : zok z = true := by unfold zok; exact decide_eq_true (by omega)
 have q0 : 0 ≤ z := by omega
 have c := fun wx => spec_zig (unz z) wx (by have := unz_range z; omega) (by have := unz_range z; omega)
 rw [zig_unz z (by omega) (by omega)] at c
 by_cases h3 : z % 2 = 1
 ·have e : unz z = -(z / 2) - 1 := by unfold unz; rw [if_neg (by omega), if_pos h3]; omega
  rw [e] at c
  rw [e, e2]
  go_enter Tryz.func118, Tryz.ntmps118
  go_wp2_with (go_at_call 120; refine (c _).mono ?_; rintro e w' ⟨rfl, rfl⟩)
  go_ret2
  exact ⟨by go_num, rfl⟩
 ·have e : unz z = z / 2 := by unfold unz; rw [if_neg (by omega), if_neg h3]
  rw [e] at c
  rw [e, e2]
  go_enter Tryz.func118, Tryz.ntmps118
  go_wp2_with (go_at_call 120; refine (c _).mono ?_; rintro e w' ⟨rfl, rfl⟩)
  go_ret2
  exact ⟨by go_num, rfl⟩
end Go.Proofs.YtimfnbnffibgpaaGreatDoor
namespace Go.Proofs.YtimfnbnffibgpaaGreatDoor
open Go.RowKit Go.PlainAid
def prv (l : List Int) (k : Nat) : Int := if k = 0 then 0 else l.getD (k - 1) 0
def dif (l : List Int) (k : Nat) : Int := l.getD k 0 - prv l k
theorem prv_succ (l : List Int) (k : Nat) : prv l (k + 1) = l.getD k 0 := by simp [prv]
def vPiece (l : List Int) (i : Nat) : List UInt8 := vF 6 (zig (dif l i)).toNat
def turn (l : List Int) (i : Nat) : Int := if i ≤ 1 then dif l i else zig (dif l i - dif l (i - 1))
def tPiece (l : List Int) (i : Nat) : List UInt8 := vF 6 (turn l i).toNat
def cat (f : Nat → List UInt8) (k : Nat) : List UInt8 := (List.range k).flatMap f
theorem cat_zero (f : Nat → List UInt8) : cat f 0 = [] := rfl
theorem cat_succ (f : Nat → List UInt8) (k : Nat) : cat f (k + 1) = cat f k ++ f k := by simp [cat, List.range_succ, List.flatMap_append]
theorem cat_length (f : Nat → List UInt8) (hf : ∀ i, (f i).length ≤ 7) (k : Nat) : (cat f k).length ≤ 7 * k := by
 induction k with
 | zero => simp [cat_zero]
 | succ k ih => rw [cat_succ, List.length_append]; have := hf k; omega
theorem vPiece_length (l : List Int) (i : Nat) : (vPiece l i).length ≤ 7 := by have := vF_length 6 (zig (dif l i)).toNat; unfold vPiece; omega
theorem tPiece_length (l : List Int) (i : Nat) : (tPiece l i).length ≤ 7 := by have := vF_length 6 (turn l i).toNat; unfold tPiece; omega
def VOk (l : List Int) : Prop := 1 ≤ l.length ∧ l.length ≤ 60 ∧ ∀ j, j < l.length → -1099511627776 ≤ l.getD j 0 ∧ l.getD j 0 ≤ 1099511627776
instance (l : List Int) : Decidable (VOk l) := by unfold VOk; infer_instance
def TOk (l : List Int) : Prop := 1 ≤ l.length ∧ l.length ≤ 60 ∧ ∀ j, j < l.length → (0 ≤ l.getD j 0 ∧ l.getD j 0 ≤ 1099511627776) ∧ (0 < j → l.getD (j - 1) 0 < l.getD j 0)
instance (l : List Int) : Decidable (TOk l) := by unfold TOk; infer_instance
def showV (l : List Int) : ByteArray := if VOk l then txt (cat (vPiece l) l.length) else txt []
def showT (l : List Int) : ByteArray := if TOk l then txt (cat (tPiece l) l.length) else txt []
theorem VOk.prv {l : List Int} (h : VOk l) (j : Nat) (hj : j ≤ l.length) : -1099511627776 ≤ prv l j ∧ prv l j ≤ 1099511627776 := by
 unfold Go.Proofs.YtimfnbnffibgpaaGreatDoor.prv
 split
 ·omega
 ·exact h.2.2 (j - 1) (by omega)
theorem VOk.dif {l : List Int} (h : VOk l) (j : Nat) (hj : j < l.length) : -2199023255552 ≤ dif l j ∧ dif l j ≤ 2199023255552 := by
 have h1 := h.prv j (by omega)
 have h2 := h.2.2 j hj
 unfold Go.Proofs.YtimfnbnffibgpaaGreatDoor.dif
 omega
theorem TOk.prv {l : List Int} (h : TOk l) (j : Nat) (hj : j ≤ l.length) : 0 ≤ prv l j ∧ prv l j ≤ 1099511627776 := by
 unfold Go.Proofs.YtimfnbnffibgpaaGreatDoor.prv
 split
 ·omega
 ·exact (h.2.2 (j - 1) (by omega)).1
theorem TOk.dif {l : List Int} (h : TOk l) (j : Nat) (hj : j < l.length) : 0 ≤ dif l j ∧ dif l j ≤ 1099511627776 := by
 have h1 := h.prv j (by omega)
 have h2 := h.2.2 j hj
 unfold Go.Proofs.YtimfnbnffibgpaaGreatDoor.dif
 refine ⟨?_, by omega⟩
 unfold Go.Proofs.YtimfnbnffibgpaaGreatDoor.prv
 split
 ·omega
 ·have := h2.2 (by omega)
  omega
theorem TOk.turn {l : List Int} (h : TOk l) (j : Nat) (hj : j < l.length) : 0 ≤ turn l j ∧ turn l j ≤ 281474976710656 := by
 unfold Go.Proofs.YtimfnbnffibgpaaGreatDoor.turn
 have h1 := h.dif j hj
 split
 ·omega
 ·have h2 := h.dif (j - 1) (by omega)
  exact ⟨zig_pos _ (by omega) (by omega), (zig_range _).2⟩
end Go.Proofs.YtimfnbnffibgpaaGreatDoor
namespace Go.Proofs.YtimfnbnffibgpaaGreatDoor
open Go.ChangeShapes Go.WideShapes Go.ChangeAt Go.RowKit Go.PlainAid
set_option linter.unusedVariables false
def Rd (s : ByteArray) : Nat → List Int → Nat → Prop
 | 0, l, n => l = [] ∧ n = 0
 | k + 1, l, n => ∃ l' n' m, Rd s k l' n' ∧ FindV (s.extract n' s.size) m ∧ l = l' ++ [(vvS (s.extract n' s.size) 0 m : Int)] ∧ n = n' + m
def RdNo (s : ByteArray) (k : Nat) : Prop := ∃ j l n, j < k ∧ Rd s j l n ∧ ∀ m, ¬ FindV (s.extract n s.size) m
theorem Rd.one {s : ByteArray} : ∀ {k : Nat} {l l' : List Int} {n n' : Nat}, Rd s k l n → Rd s k l' n' → l = l' ∧ n = n'
 | 0, _, _, _, _, h, h' => ⟨h.1.trans h'.1.symm, h.2.trans h'.2.symm⟩
 | k + 1, _, _, _, _, ⟨a, b, m, h1, h2, h3, h4⟩, ⟨a', b', m', h1', h2', h3', h4'⟩ => by
  obtain ⟨rfl, rfl⟩ := Rd.one h1 h1'
  have := h2.one h2'
  subst this
  exact ⟨h3.trans h3'.symm, h4.trans h4'.symm⟩
theorem Rd.before {s : ByteArray} : ∀ {k : Nat} {l : List Int} {n : Nat}, Rd s k l n → ∀ j, j < k → ∃ l' n' m, Rd s j l' n' ∧ FindV (s.extract n' s.size) m
 | 0, _, _, _, j, hj => by omega
 | k + 1, _, _, ⟨a, b, m, h1, h2, h3, h4⟩, j, hj => by
  by_cases e : j = k
  ·subst e; exact ⟨a, b, m, h1, h2⟩
  ·exact Rd.before h1 j (by omega)
theorem Rd.no {s : ByteArray} {k : Nat} {l : List Int} {n : Nat} (h : Rd s k l n) : ¬ RdNo s k := by
 rintro ⟨j, l', n', hj, h1, h2⟩
 obtain ⟨l2, n2, m, h3, h4⟩ := h.before j hj
 obtain ⟨rfl, rfl⟩ := h1.one h3
 exact h2 m h4
theorem Rd.length {s : ByteArray} : ∀ {k : Nat} {l : List Int} {n : Nat}, Rd s k l n → l.length = k
 | 0, _, _, h => by rw [h.1]; rfl
 | k + 1, _, _, ⟨a, b, m, h1, h2, h3, h4⟩ => by rw [h3, List.length_append, Rd.length h1]; rfl
theorem Rd.le {s : ByteArray} : ∀ {k : Nat} {l : List Int} {n : Nat}, Rd s k l n → k ≤ n ∧ n ≤ s.size
 | 0, _, _, h => by rw [h.2]; omega
 | k + 1, _, _, ⟨a, b, m, h1, h2, h3, h4⟩ => by
  have h5 := Rd.le h1
  obtain ⟨h6, h7, h8, _⟩ := h2
  rw [ByteArray.size_extract] at h8
  omega
theorem Rd.bound {s : ByteArray} : ∀ {k : Nat} {l : List Int} {n : Nat}, Rd s k l n → ∀ z ∈ l, 0 ≤ z ∧ z ≤ 562949953421311
 | 0, _, _, h, z, hz => by rw [h.1] at hz; cases hz
 | k + 1, _, _, ⟨a, b, m, h1, h2, h3, h4⟩, z, hz => by
  rw [h3] at hz
  rcases List.mem_append.1 hz with hz | hz
  ·exact Rd.bound h1 z hz
  ·simp at hz
   have := vvS_le (s.extract b s.size) m h2.2.1 0
   omega
theorem Rd.boundD {s : ByteArray} {k : Nat} {l : List Int} {n : Nat} (h : Rd s k l n) (j : Nat) : 0 ≤ l.getD j 0 ∧ l.getD j 0 ≤ 562949953421311 := by
 by_cases hj : j < l.length
 ·refine h.bound _ ?_
  simp [List.getD, hj]
 ·simp [List.getD, hj]
set_option maxHeartbeats 1000000 in
theorem implReadVars (s : ByteArray) (k0 : Nat) (w : World) (hs : s.size ≤ 1048576) (h1 : 1 ≤ k0) (h2 : k0 ≤ 60) :
  Calls Tryz.prog 124 #[.string s, .int .i64 (k0 : Int)] w fun e w' => ((∃ l n u, Rd s k0 l n ∧ e = .returned (.tuple #[u, .int .i64 (n : Int)]) ∧ Nums w' w.heap.size u l) ∨ (RdNo s k0 ∧ e = .returned (.tuple #[.slice none 0 0, .int .i64 0]))) ∧ Below w.heap.size w w' := by
 have q1 : (1 : Int) ≤ (k0 : Int) := by omega
 have q2 : (k0 : Int) ≤ 60 := by omega
 have HS : Hid (s.size ≤ 1048576) := hs
 have q3 : (s.size : Int) ≤ 1048576 := by omega
 clear hs
 go_enter Tryz.func124, Tryz.ntmps124
 go_wp2_with fail
 go_loopw [6, 7, 17] (fun v6 v7 v17 wr => ∃ (k n : Nat) (l : List Int), k ≤ k0 ∧ n ≤ s.size ∧ v17 = .int .i64 (k : Int) ∧ v7 = .int .i64 (n : Int) ∧ Hid (Rd s k l n) ∧ Nums wr w.heap.size v6 l ∧ Below w.heap.size w wr) (fun _ _ i _ => k0 - (intOf i).toNat)
 case atStart => exact ⟨0, 0, [], by omega, by omega, rfl, rfl, ⟨rfl, rfl⟩, Nums.nil _ _, Below.refl _ _⟩
 case round =>
  obtain ⟨k, n, l, hk, hns, rfl, rfl, HR, hN, hb⟩ := hrel
  have HN : Hid (Nums wr w.heap.size _ l) := hN
  obtain ⟨A, c, rfl, _, _⟩ := hN.shape
  have HB : Hid (Below w.heap.size w wr) := hb
  have hln := HR.out.length
  have HLN : Hid (l.length ≤ 2097152) := by unfold Hid; omega
  clear hN hb
  by_cases hlt : k < k0
  ·have q4 : (k : Int) < (k0 : Int) := by omega
   have q5 : (n : Int) ≤ (s.size : Int) := by omega
   have hsx : (s.extract n s.size).size ≤ 1048576 := by rw [ByteArray.size_extract]; have := HS.out; omega
   have c := fun wx => impl_readVar (s.extract n s.size) wx hsx
   have HX : Hid (∀ m, FindV (s.extract n s.size) m → m ≤ s.size - n) := fun m hm => by have := hm.2.2.1; rw [ByteArray.size_extract] at this; omega
   clear hsx hln
   go_wp2_with fail
   refine (c _).mono ?_
   generalize hsx' : s.extract n s.size = sx at *
   have HSX : Hid (s.extract n s.size = sx) := hsx'
   clear hsx'
   rintro e w1 ⟨hR, rfl⟩
   rcases hR with ⟨m, hm, rfl⟩ | ⟨hno, rfl⟩
   ·have hmx := HX.out m hm
    have hm1 := hm.1
    have hm7 := hm.2.1
    have q6 : (m : Int) ≤ 7 := by omega
    have q7 : (1 : Int) ≤ (m : Int) := by omega
    have q8 : ¬ (m : Int) = 0 := by omega
    have q9 : ¬ m = 0 := by omega
    have HM : Hid (FindV sx m) := hm
    have HZ : Hid (w.heap.size ≤ wr.heap.size) := HB.out.size
    generalize hz : (vvS sx 0 m : Int) = z at *
    have HR2 : Hid (Rd s (k + 1) (l ++ [z]) (n + m)) := by
     refine ⟨l, n, m, HR.out, ?_, ?_, rfl⟩
     ·rw [HSX.out]; exact HM.out
     ·rw [HSX.out, hz]
    clear hz hm
    go_wp2_with (at_builtin; refine wpList_append_num rfl (.tmp 28) (.tmp 30) 71 rfl Tryz.underlying71 Tryz.infoInt w.heap.size _ l rfl HN.out z rfl HLN.out HZ.out ?_; intro v' w1 hN1 hb1 hk1)
    go_roundw
    case rel => exact ⟨k + 1, n + m, l ++ [z], by omega, by omega, by go_num, by go_num, HR2, hN1, HB.out.trans hb1⟩
    case measure => simp [intOf]; omega
   ·have HNO : Hid (RdNo s k0) := ⟨k, l, n, hlt, HR.out, by rw [HSX.out]; exact hno⟩
    clear hno
    go_wp2_with fail
    go_ret2
    exact ⟨.inr ⟨HNO.out, rfl⟩, HB.out⟩
  ·obtain rfl : k = k0 := by omega
   go_wp2_with fail
   go_ret2
   exact ⟨.inl ⟨l, n, _, HR.out, rfl, HN.out⟩, HB.out⟩
set_option maxHeartbeats 1000000 in
theorem implReadVars_no (s : ByteArray) (n : Int) (w : World) (h : n < 1 ∨ 60 < n) : Calls Tryz.prog 124 #[.string s, .int .i64 n] w fun e w' => e = .returned (.tuple #[.slice none 0 0, .int .i64 0]) ∧ w = w' := by
 by_cases h1 : n < 1
 ·go_enter Tryz.func124, Tryz.ntmps124
  go_wp2_with fail
  go_ret2
  exact ⟨rfl, rfl⟩
 ·have h2 : 60 < n := by omega
  clear h
  go_enter Tryz.func124, Tryz.ntmps124
  go_wp2_with fail
  go_ret2
  exact ⟨rfl, rfl⟩
set_option maxHeartbeats 1000000 in
theorem specReadVars (s : ByteArray) (k0 : Nat) (w : World) (hs : s.size ≤ 1048576) (h1 : 1 ≤ k0) (h2 : k0 ≤ 60) :
  Calls Tryz.prog 107 #[.string s, .int .i64 (k0 : Int)] w fun e w' => ((∃ l n u, Rd s k0 l n ∧ e = .returned (.tuple #[u, .int .i64 (n : Int)]) ∧ Nums w' w.heap.size u l) ∨ (RdNo s k0 ∧ ∃ u, e = .returned (.tuple #[u, .int .i64 (-1)]))) ∧ Below w.heap.size w w' := by
 have q1 : (1 : Int) ≤ (k0 : Int) := by omega
 have q2 : (k0 : Int) ≤ 60 := by omega
 have HS : Hid (s.size ≤ 1048576) := hs
 have q3 : (s.size : Int) ≤ 1048576 := by omega
 clear hs
 go_enter Tryz.func107, Tryz.ntmps107
 go_wp2_with fail
 go_loopw [6, 7, 8] (fun v6 v7 v8 wr => ∃ (k n : Nat) (l : List Int), k ≤ k0 ∧ n ≤ s.size ∧ v8 = .int .i64 (k : Int) ∧ v7 = .int .i64 (n : Int) ∧ Hid (Rd s k l n) ∧ Nums wr w.heap.size v6 l ∧ Below w.heap.size w wr) (fun _ _ i _ => k0 - (intOf i).toNat)
 case atStart => exact ⟨0, 0, [], by omega, by omega, rfl, rfl, ⟨rfl, rfl⟩, Nums.empty _ _ (Nat.le_refl _), (Below.refl _ _).alloc (Nat.le_refl _) _⟩
 case round =>
  obtain ⟨k, n, l, hk, hns, rfl, rfl, HR, hN, hb⟩ := hrel
  have HN : Hid (Nums wr w.heap.size _ l) := hN
  obtain ⟨A, c, rfl, _, _⟩ := hN.shape
  have HB : Hid (Below w.heap.size w wr) := hb
  have hln := HR.out.length
  have HLN : Hid (l.length ≤ 2097152) := by unfold Hid; omega
  clear hN hb
  by_cases hlt : k < k0
  ·have q4 : (k : Int) < (k0 : Int) := by omega
   have q5 : (n : Int) ≤ (s.size : Int) := by omega
   have hsx : (s.extract n s.size).size ≤ 1048576 := by rw [ByteArray.size_extract]; have := HS.out; omega
   have c := fun wx => spec_readVar (s.extract n s.size) wx hsx
   have HX : Hid (∀ m, FindV (s.extract n s.size) m → m ≤ s.size - n) := fun m hm => by have := hm.2.2.1; rw [ByteArray.size_extract] at this; omega
   clear hsx hln
   go_wp2_with fail
   refine (c _).mono ?_
   generalize hsx' : s.extract n s.size = sx at *
   have HSX : Hid (s.extract n s.size = sx) := hsx'
   clear hsx'
   rintro e w1 ⟨hR, hb1⟩
   have HB1 : Hid (Below w.heap.size w w1) := HB.out.trans (hb1.mono HB.out.size)
   have HN1 : Hid (Nums w1 w.heap.size (.slice A l.length _) l) := HN.out.on hb1
   clear hb1
   rcases hR with ⟨m, hm, rfl⟩ | ⟨hno, rfl⟩
   ·have hmx := HX.out m hm
    have hm1 := hm.1
    have hm7 := hm.2.1
    have q6 : (m : Int) ≤ 7 := by omega
    have q7 : (1 : Int) ≤ (m : Int) := by omega
    have q8 : ¬ (m : Int) = 0 := by omega
    have q9 : ¬ m = 0 := by omega
    have HM : Hid (FindV sx m) := hm
    have HZ : Hid (w.heap.size ≤ w1.heap.size) := HB1.out.size
    generalize hz : (vvS sx 0 m : Int) = z at *
    have HR2 : Hid (Rd s (k + 1) (l ++ [z]) (n + m)) := by
     refine ⟨l, n, m, HR.out, ?_, ?_, rfl⟩
     ·rw [HSX.out]; exact HM.out
     ·rw [HSX.out, hz]
    clear hz hm
    go_wp2_with (at_builtin; refine wpList_append_num rfl (.tmp 27) (.tmp 29) 71 rfl Tryz.underlying71 Tryz.infoInt w.heap.size _ l rfl HN1.out z rfl HLN.out HZ.out ?_; intro v' w2 hN2 hb2 hk2)
    go_roundw
    case rel => exact ⟨k + 1, n + m, l ++ [z], by omega, by omega, by go_num, by go_num, HR2, hN2, HB1.out.trans hb2⟩
    case measure => simp [intOf]; omega
   ·have HNO : Hid (RdNo s k0) := ⟨k, l, n, hlt, HR.out, by rw [HSX.out]; exact hno⟩
    clear hno
    go_wp2_with fail
    go_ret2
    exact ⟨.inr ⟨HNO.out, _, rfl⟩, HB1.out⟩
  ·obtain rfl : k = k0 := by omega
   go_wp2_with fail
   go_ret2
   exact ⟨.inl ⟨l, n, _, HR.out, rfl, HN.out⟩, HB.out⟩
end Go.Proofs.YtimfnbnffibgpaaGreatDoor
