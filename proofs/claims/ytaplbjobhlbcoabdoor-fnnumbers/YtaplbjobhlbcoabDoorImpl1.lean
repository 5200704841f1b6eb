/-
  Contracts of the program's functions of chapter 1, and of spec.Var and spec.l1In, over this seat's translation: what each returns; no condition but those each names.
-/
import Derived.Test.YtaplbjobhlbcoabDoorRows
import Derived.Test.YtaplbjobhlbcoabDoorAid
import Derived.Test.YtaplbjobhlbcoabDoorDecAid
import Derived.Test.YtaplbjobhlbcoabDoorReadDecAid
import Derived.Test.YtaplbjobhlbcoabDoorShelf
import Derived.WalkKit
import Derived.ProofKit
import Derived.OpenShut
import Derived.Below
import Derived.Handy
import Derived.WalkLawsBesides
import Derived.WalkSpells
import Derived.WalkMore
import Derived.Outline
import Derived.Deep.OwnRows
import Derived.Deep.RegionHeld3
import Derived.Deep.RegionLaw
import Derived.Deep.DrawnRows
import Derived.Lib.ItoaNum
import Derived.Lib.LaidTab
import Derived.WalkSmall
namespace Go.Proofs.YtaplbjobhlbcoabDoor
open Go.ChangeShapes Go.WideShapes Go.ChangeAt Go.RowKit Go.PlainAid
set_option linter.unusedVariables false

theorem Tryd.info5 : (Tryd.prog.info? 5).map (fun i => (i.zero, i.size, i.bytes)) = some (some (.int .u8 0), 1, 1) := by kernel_rfl

/-- What Fixed answers. -/
def fixed (n wd : Nat) : ByteArray := if n / 256 ^ wd = 0 then txt (low n wd) else txt []

set_option maxHeartbeats 400000 in
theorem impl_fixed_no (n wd : Int) (w : World) (h : wd < 1 ∨ 7 < wd ∨ n < 0) :
    Calls Tryd.prog 9 #[.int .i64 n, .int .i64 wd] w fun e w' => e = .returned (.string (txt [])) ∧ Below w.heap.size w w' := by
  by_cases a1 : wd < 1
  · go_enter Tryd.func9, Tryd.ntmps9
    go_wp2
    go_ret
    exact ⟨rfl, Below.refl _ _⟩
  · by_cases a2 : 7 < wd
    · go_enter Tryd.func9, Tryd.ntmps9
      go_wp2
      go_ret
      exact ⟨rfl, Below.refl _ _⟩
    · have a3 : n < 0 := by omega
      clear h
      go_enter Tryd.func9, Tryd.ntmps9
      go_wp2
      go_ret
      exact ⟨rfl, Below.refl _ _⟩

set_option maxHeartbeats 400000 in
theorem impl_fixed (n k0 : Nat) (w : World) (h1 : (n : Int) ≤ 9223372036854775807) (h2 : 1 ≤ k0) (h3 : k0 ≤ 7) :
    Calls Tryd.prog 9 #[.int .i64 (n : Int), .int .i64 (k0 : Int)] w fun e w' => e = .returned (.string (fixed n k0)) ∧ Below w.heap.size w w' := by
  have q1 : (1 : Int) ≤ (k0 : Int) := by omega
  have q2 : (k0 : Int) ≤ 7 := by omega
  have q3 : (0 : Int) ≤ (n : Int) := by omega
  have hs := shr8 n k0
  by_cases hz : n / 256 ^ k0 = 0
  · have hs0 : ((n : Int) / 2 ^ (8 * k0) != 0) = false := by rw [hs, hz]; rfl
    clear hs
    have HZ : Hid (n / 256 ^ k0 = 0) := hz
    clear hz
    have hmk := fun wx => run_make_row' (P := Tryd.prog) 22 5 (.int .u8 0) 1 Tryd.underlying22 Tryd.info5 rfl .i64 .i64 k0 (by omega) (by omega) wx
    go_enter Tryd.func9, Tryd.ntmps9
    go_wp2
    go_loopw [27] (fun v27 wr => ∃ k : Nat, k ≤ k0 ∧ v27 = .int .i64 k ∧ wr = w.alloc (.cells (fixRow n k0 k) 5)) (fun i _ => k0 - (intOf i).toNat)
    case atStart => exact ⟨0, by omega, rfl, by rw [fixRow_zero n k0]⟩
    case round =>
      obtain ⟨k, hk, rfl, rfl⟩ := hrel
      by_cases hlt : k < k0
      · have hat := fixRow_at n k0 k hlt
        go_wp2
        go_roundw
        case rel => exact ⟨k + 1, by omega, by go_num, by rw [shr8_byte, fixRow_set n k0 k hlt]⟩
        case measure => simp [intOf]; omega
      · have hkk : k = k0 := by omega
        subst hkk
        rw [fixRow_full]
        have hcv := run_row (P := Tryd.prog) w 22 9 5 Tryd.underlying22 Tryd.underlying5 Tryd.underlying9 (low n k) k
        rw [low_length] at hcv
        go_wp2
        go_ret
        exact ⟨by rw [fixed, if_pos HZ.out]; rfl, (Below.refl _ _).alloc (Nat.le_refl _) _⟩
  · have hs0 : ((n : Int) / 2 ^ (8 * k0) != 0) = true := by rw [hs]; simp only [bne_iff_ne, ne_eq]; omega
    clear hs
    have HZ : Hid (¬ n / 256 ^ k0 = 0) := hz
    clear hz
    go_enter Tryd.func9, Tryd.ntmps9
    go_wp2
    go_ret
    exact ⟨by rw [fixed, if_neg HZ.out]; rfl, Below.refl _ _⟩

set_option maxHeartbeats 400000 in
theorem impl_readFixed (s : ByteArray) (k0 : Nat) (w : World) (hs : s.size ≤ maxLen) (h2 : 1 ≤ k0) (h3 : k0 ≤ 7) (h4 : k0 ≤ s.size) :
    Calls Tryd.prog 10 #[.string s, .int .i64 (k0 : Int)] w fun e w' => e = .returned (.tuple #[.int .i64 (rdv s k0), .bool true]) ∧ w' = w := by
  unfold maxLen at hs
  have q1 : (1 : Int) ≤ (k0 : Int) := by omega
  have q2 : (k0 : Int) ≤ 7 := by omega
  have hbt := get_bn s
  go_enter Tryd.func10, Tryd.ntmps10
  go_wp2
  go_loop [6, 21] (fun v6 v7 => ∃ k : Nat, k ≤ k0 ∧ v7 = .int .i64 k ∧ v6 = .int .i64 (rdv s k)) (fun _ i => k0 - (intOf i).toNat)
  case atStart => exact ⟨0, by omega, rfl, rfl⟩
  case round =>
    obtain ⟨k, hk, rfl, rfl⟩ := hrel
    by_cases hlt : k < k0
    · have r1 := rdv_le s k (by omega)
      have r2 := bn_lt s k
      have r3 := shl8_or s k (by omega)
      go_wp2
      go_round
      case rel => exact ⟨k + 1, by omega, by go_num, by go_num⟩
      case measure => simp [intOf]; omega
    · have hkk : k = k0 := by omega
      subst hkk
      go_wp2
      go_ret2
      exact ⟨rfl, rfl⟩

set_option maxHeartbeats 400000 in
theorem impl_readFixed_no (s : ByteArray) (wd : Int) (w : World) (hs : s.size ≤ maxLen) (h : wd < 1 ∨ 7 < wd ∨ (s.size : Int) < wd) :
    Calls Tryd.prog 10 #[.string s, .int .i64 wd] w fun e w' => e = .returned (.tuple #[.int .i64 0, .bool false]) ∧ w' = w := by
  unfold maxLen at hs
  by_cases a1 : wd < 1
  · go_enter Tryd.func10, Tryd.ntmps10
    go_wp2
    go_ret2
    exact ⟨rfl, rfl⟩
  · by_cases a2 : 7 < wd
    · go_enter Tryd.func10, Tryd.ntmps10
      go_wp2
      go_ret2
      exact ⟨rfl, rfl⟩
    · have a3 : (s.size : Int) < wd := by omega
      clear h
      go_enter Tryd.func10, Tryd.ntmps10
      go_wp2
      go_ret2
      exact ⟨rfl, rfl⟩

set_option maxHeartbeats 400000 in
theorem in_yes (x lo hi : Int) (w : World) (h1 : lo ≤ x) (h2 : x ≤ hi) :
    Calls Tryd.prog 32 #[.int .i64 x, .int .i64 lo, .int .i64 hi] w fun e w' => e = .returned (.bool true) ∧ w = w' := by
  go_enter Tryd.func32, Tryd.ntmps32
  go_wp2
  go_ret
  exact ⟨rfl, rfl⟩

set_option maxHeartbeats 400000 in
theorem in_no (x lo hi : Int) (w : World) (h : x < lo ∨ hi < x) :
    Calls Tryd.prog 32 #[.int .i64 x, .int .i64 lo, .int .i64 hi] w fun e w' => e = .returned (.bool false) ∧ w = w' := by
  by_cases h1 : x < lo
  · go_enter Tryd.func32, Tryd.ntmps32
    go_wp2
    go_ret
    exact ⟨rfl, rfl⟩
  · have h2 : hi < x := by omega
    have h3 : decide (x ≤ hi) = false := by simp; omega
    clear h
    go_enter Tryd.func32, Tryd.ntmps32
    go_wp2
    go_ret
    exact ⟨rfl, rfl⟩

set_option maxHeartbeats 400000 in
theorem spec_var (n : Nat) (w : World) (h1 : n ≤ 562949953421311) :
    Calls Tryd.prog 23 #[.int .i64 (n : Int)] w fun e w' => e = .returned (.string (txt (vF 6 n))) ∧ Below w.heap.size w w' := by
  have q1 : (n : Int) ≤ 562949953421311 := by omega
  go_enter Tryd.func23, Tryd.ntmps23
  go_wp2_with (go_at_call 32; refine (in_yes _ _ _ _ (by omega) (by omega)).mono ?_; rintro e w' ⟨rfl, rfl⟩)
  go_loopw [0, 3] (fun v0 v3 wr => ∃ m f : Nat, ∃ pre : List UInt8, v0 = .int .i64 m ∧ m ≤ 562949953421311 ∧ m < 128 ^ (f + 1) ∧ pre ++ vF f m = vF 6 n ∧ Buf wr w.heap.size v3 pre ∧ Below w.heap.size w wr) (fun i _ _ => (intOf i).toNat)
  case atStart => exact ⟨n, 6, [], rfl, h1, by omega, rfl, Buf.made w w.heap.size 0 #[] (Nat.le_refl _) (by simp [maxLen]) rfl, (Below.refl _ _).alloc (Nat.le_refl _) _⟩
  case round =>
    obtain ⟨m, f, pre, rfl, hm1, hm2, hpre, hbuf, hb⟩ := hrel
    have HP : Hid (pre ++ vF f m = vF 6 n) := hpre
    clear hpre
    have HM : Hid (m < 128 ^ (f + 1)) := hm2
    clear hm2
    have hlp : pre.length ≤ 7 := by
      have := congrArg List.length HP.out
      have := vF_length 6 n
      simp at *
      omega
    have hsz := hb.size
    by_cases hlt : (128 : Int) ≤ (m : Int)
    · have hcs := one_cell (128 + (m : Int) % 128) (128 + m % 128) (by omega) (by omega)
      have HC : Hid (#[Value.int .u8 (128 + (m : Int) % 128)] = byteCells [byt (128 + m % 128)]) := hcs
      clear hcs
      go_wp2_with (at_builtin; refine wpList_append_bytes rfl (.tmp 10) (.tmp 15) 22 rfl Tryd.underlying22 Tryd.info5 w.heap.size _ pre rfl hbuf _ [byt (128 + m % 128)] HC.out 1 1 rfl rfl (by simp; omega) hsz ?_; intro v' w1 hbuf1 hb1)
      obtain ⟨g, hg1, hg2, _⟩ := vF_round f m pre HM.out (by omega)
      go_roundw
      case rel => exact ⟨m / 128, g, pre ++ [byt (128 + m % 128)], by go_num, by omega, hg1, hg2.trans HP.out, hbuf1, hb.trans hb1⟩
      case measure => simp [intOf]; omega
    · have hcs := one_cell (m : Int) m rfl (by omega)
      have HC : Hid (#[Value.int .u8 (m : Int)] = byteCells [byt m]) := hcs
      clear hcs
      go_wp2_with (at_builtin; refine wpList_append_bytes rfl (.tmp 19) (.tmp 22) 22 rfl Tryd.underlying22 Tryd.info5 w.heap.size _ pre rfl hbuf _ [byt m] HC.out 1 1 rfl rfl (by simp; omega) hsz ?_; intro v' w1 hbuf1 hb1; have hcv := hbuf1.string (P := Tryd.prog) 22 9 Tryd.underlying22 Tryd.underlying5 Tryd.underlying9)
      go_ret
      exact ⟨by rw [← HP.out, vF_small f m (by omega)]; rfl, hb.trans hb1⟩

set_option maxHeartbeats 400000 in
theorem spec_var_no (n : Int) (w : World) (h : n < 0 ∨ 562949953421311 < n) :
    Calls Tryd.prog 23 #[.int .i64 n] w fun e w' => e = .returned (.string (txt [])) ∧ Below w.heap.size w w' := by
  go_enter Tryd.func23, Tryd.ntmps23
  go_wp2_with (go_at_call 32; refine (in_no _ _ _ _ (by omega)).mono ?_; rintro e w' ⟨rfl, rfl⟩)
  go_ret
  exact ⟨rfl, Below.refl _ _⟩

set_option maxHeartbeats 400000 in
theorem impl_var (n : Nat) (w : World) (h1 : n ≤ 562949953421311) :
    Calls Tryd.prog 7 #[.int .i64 (n : Int)] w fun e w' => e = .returned (.string (txt (vF 6 n))) ∧ Below w.heap.size w w' := by
  have q1 : (n : Int) ≤ 562949953421311 := by omega
  have q0 : (0 : Int) ≤ (n : Int) := by omega
  have hmk : ∀ w : World, (Instr.makeSlice 22 (.int .i64 0) (.int .i64 7)).run Tryd.prog w = .ok (.slice (some ⟨w.heap.size, 0, none⟩) 0 7) (w.alloc (.cells #[.int .u8 0, .int .u8 0, .int .u8 0, .int .u8 0, .int .u8 0, .int .u8 0, .int .u8 0] 5)) := fun _ => by kernel_rfl
  go_enter Tryd.func7, Tryd.ntmps7
  go_wp2
  go_loopw [0, 3] (fun v0 v3 wr => ∃ m f : Nat, ∃ pre : List UInt8, v0 = .int .i64 m ∧ m ≤ 562949953421311 ∧ m < 128 ^ (f + 1) ∧ pre ++ vF f m = vF 6 n ∧ Buf wr w.heap.size v3 pre ∧ Below w.heap.size w wr) (fun i _ _ => (intOf i).toNat)
  case atStart => exact ⟨n, 6, [], rfl, h1, by omega, rfl, Buf.made w w.heap.size 7 _ (Nat.le_refl _) (by simp [maxLen]) rfl, (Below.refl _ _).alloc (Nat.le_refl _) _⟩
  case round =>
    obtain ⟨m, f, pre, rfl, hm1, hm2, hpre, hbuf, hb⟩ := hrel
    have HP : Hid (pre ++ vF f m = vF 6 n) := hpre
    clear hpre
    have HM : Hid (m < 128 ^ (f + 1)) := hm2
    clear hm2
    have hlp : pre.length ≤ 7 := by
      have := congrArg List.length HP.out
      have := vF_length 6 n
      simp at *
      omega
    have hsz := hb.size
    by_cases hlt : (128 : Int) ≤ (m : Int)
    · have hcs := one_cell ((m : Int) % 128 + 128) (128 + m % 128) (by omega) (by omega)
      have HC : Hid (#[Value.int .u8 ((m : Int) % 128 + 128)] = byteCells [byt (128 + m % 128)]) := hcs
      clear hcs
      go_wp2_with (at_builtin; refine wpList_append_bytes rfl (.tmp 13) (.tmp 18) 22 rfl Tryd.underlying22 Tryd.info5 w.heap.size _ pre rfl hbuf _ [byt (128 + m % 128)] HC.out 1 1 rfl rfl (by simp; omega) hsz ?_; intro v' w1 hbuf1 hb1)
      obtain ⟨g, hg1, hg2, _⟩ := vF_round f m pre HM.out (by omega)
      go_roundw
      case rel => exact ⟨m / 128, g, pre ++ [byt (128 + m % 128)], by go_num, by omega, hg1, hg2.trans HP.out, hbuf1, hb.trans hb1⟩
      case measure => simp [intOf]; omega
    · have hcs := one_cell (m : Int) m rfl (by omega)
      have HC : Hid (#[Value.int .u8 (m : Int)] = byteCells [byt m]) := hcs
      clear hcs
      go_wp2_with (at_builtin; refine wpList_append_bytes rfl (.tmp 22) (.tmp 25) 22 rfl Tryd.underlying22 Tryd.info5 w.heap.size _ pre rfl hbuf _ [byt m] HC.out 1 1 rfl rfl (by simp; omega) hsz ?_; intro v' w1 hbuf1 hb1; have hcv := hbuf1.string (P := Tryd.prog) 22 9 Tryd.underlying22 Tryd.underlying5 Tryd.underlying9)
      go_ret
      exact ⟨by rw [← HP.out, vF_small f m (by omega)]; rfl, hb.trans hb1⟩

set_option maxHeartbeats 400000 in
theorem impl_var_no (n : Int) (w : World) (h : n < 0 ∨ 562949953421311 < n) :
    Calls Tryd.prog 7 #[.int .i64 n] w fun e w' => e = .returned (.string (txt [])) ∧ Below w.heap.size w w' := by
  by_cases a1 : n < 0
  · go_enter Tryd.func7, Tryd.ntmps7
    go_wp2
    go_ret
    exact ⟨rfl, Below.refl _ _⟩
  · have a2 : 562949953421311 < n := by omega
    clear h
    go_enter Tryd.func7, Tryd.ntmps7
    go_wp2
    go_ret
    exact ⟨rfl, Below.refl _ _⟩

/-- What both answer. -/
def ReadV (s : ByteArray) (e : Ending) : Prop :=
  (∃ k : Nat, FindV s k ∧ e = .returned (.tuple #[.int .i64 (vvS s 0 k : Int), .int .i64 (k : Int)])) ∨ ((∀ k, ¬ FindV s k) ∧ e = .returned (.tuple #[.int .i64 0, .int .i64 0]))

theorem vvS_or (s : ByteArray) (k : Nat) (h : k < 7) : bits .or .i64 (vvS s 0 k : Int) (wrap64 ((bn s k : Int) % 128 * 2 ^ (7 * k))) = (vvS s 0 (k + 1) : Int) := by
  have h1 := vvS_lt s k 0
  have h2 := vvS_le s (k + 1) (by omega) 0
  have e := vvS_snoc s k 0
  rw [Nat.zero_add] at e
  have e2 : (128 : Nat) ^ k = 2 ^ (7 * k) := by rw [Nat.pow_mul]
  have c : (bn s k : Int) % 128 * 2 ^ (7 * k) = ((bn s k % 128 * 2 ^ (7 * k) : Nat) : Int) := by norm_cast
  rw [e2] at e h1
  rw [c, IntWalk.wrap64_in _ ⟨by omega, by omega⟩]
  have j := or_join (7 * k) (bn s k % 128 * 2 ^ (7 * k)) (vvS s 0 k) (Nat.mul_mod_left _ _) h1 (by omega)
  have comm : bits .or .i64 (vvS s 0 k : Int) ((bn s k % 128 * 2 ^ (7 * k) : Nat) : Int) = bits .or .i64 ((bn s k % 128 * 2 ^ (7 * k) : Nat) : Int) (vvS s 0 k : Int) := by
    show IntKind.i64.wrap ((BitVec.ofInt 64 _ ||| BitVec.ofInt 64 _).toNat : Int) = IntKind.i64.wrap ((BitVec.ofInt 64 _ ||| BitVec.ofInt 64 _).toNat : Int)
    rw [BitVec.or_comm]
  rw [comm, j, e, Nat.add_comm]

theorem find_stop (s : ByteArray) (k : Nat) (hk : k < 7) (hs : k < s.size) (hj : ∀ j, j < k → 128 ≤ bn s j) (hc : bn s k < 128) (hz : k = 0 ∨ bn s k ≠ 0) : FindV s (k + 1) :=
  ⟨by omega, by omega, by omega, (canonS_char s k 0).2 ⟨by intro j h; rw [Nat.zero_add]; exact hj j h, by rw [Nat.zero_add]; exact hc, by rw [Nat.zero_add]; exact hz⟩⟩

theorem find_zero (s : ByteArray) (k : Nat) (hj : ∀ j, j < k → 128 ≤ bn s j) (hc : bn s k = 0) (hk : 0 < k) : ∀ m, ¬ FindV s m := by
  rintro m ⟨h1, h2, h3, h4⟩
  obtain ⟨d, rfl⟩ : ∃ d, m = d + 1 := ⟨m - 1, by omega⟩
  obtain ⟨c1, c2, c3⟩ := (canonS_char s d 0).1 h4
  rw [Nat.zero_add] at c2 c3
  rcases Nat.lt_trichotomy d k with h | h | h
  · have := hj d h; omega
  · subst h; omega
  · have := c1 k h; rw [Nat.zero_add] at this; omega

theorem find_end (s : ByteArray) (L : Nat) (hj : ∀ j, j < L → 128 ≤ bn s j) (hL : 7 ≤ L ∨ s.size ≤ L) : ∀ m, ¬ FindV s m := by
  rintro m ⟨h1, h2, h3, h4⟩
  obtain ⟨d, rfl⟩ : ∃ d, m = d + 1 := ⟨m - 1, by omega⟩
  obtain ⟨c1, c2, c3⟩ := (canonS_char s d 0).1 h4
  rw [Nat.zero_add] at c2
  have := hj d (by omega)
  omega

theorem ret_ints {a b c d : Int} (h : a = b) (h' : c = d) : Ending.returned (.tuple #[.int .i64 a, .int .i64 c]) = .returned (.tuple #[.int .i64 b, .int .i64 d]) := by rw [h, h']

set_option maxHeartbeats 1000000 in
theorem impl_readVar_long (s : ByteArray) (w : World) (hs : s.size ≤ 1048576) (h7 : (7 : Int) < (s.size : Int)) :
    Calls Tryd.prog 8 #[.string s] w fun e w' => ReadV s e ∧ w = w' := by
  have q1 : (s.size : Int) ≤ 1048576 := by omega
  have hbt := get_bn s
  go_enter Tryd.func8, Tryd.ntmps8
  go_wp2
  go_loop [4, 10] (fun v4 v10 => ∃ k : Nat, k ≤ 7 ∧ v10 = .int .i64 k ∧ v4 = .int .i64 (vvS s 0 k) ∧ Hid (∀ j, j < k → 128 ≤ bn s j)) (fun _ i => 7 - (intOf i).toNat)
  case atStart => exact ⟨0, by omega, rfl, rfl, fun j hj => absurd hj (by omega)⟩
  case round =>
    obtain ⟨k, hk, rfl, rfl, HJ⟩ := hrel
    by_cases hlt : k < 7
    · have r1 := bn_lt s k
      have HO : Hid (bits .or .i64 (vvS s 0 k : Int) (wrap64 ((bn s k : Int) % 128 * 2 ^ (7 * k))) = (vvS s 0 (k + 1) : Int)) := vvS_or s k (by omega)
      by_cases hc : (128 : Int) ≤ (bn s k : Int)
      · go_wp2
        go_round
        case rel =>
          refine ⟨k + 1, by omega, by go_num, by rw [HO.out], ?_⟩
          intro j hj
          by_cases e : j = k
          · subst e; omega
          · exact HJ.out j (by omega)
        case measure => simp [intOf]; omega
      · by_cases hz : bn s k = 0
        · by_cases hk0 : k = 0
          · have HF : Hid (FindV s (k + 1)) := find_stop s k (by omega) (by omega) HJ.out (by omega) (.inl hk0)
            have z1 : ((bn s k : Int) == 0) = true := by simp; omega
            have z2 : (k : Int) ≤ 0 := by omega
            clear hk0 hz
            go_wp2
            go_ret2
            exact ⟨.inl ⟨k + 1, HF.out, ret_ints HO.out (by omega)⟩, rfl⟩
          · have HF : Hid (∀ m, ¬ FindV s m) := find_zero s k HJ.out hz (by omega)
            have z1 : ((bn s k : Int) == 0) = true := by simp; omega
            have z2 : (0 : Int) < (k : Int) := by omega
            clear hz
            go_wp2
            go_ret2
            exact ⟨.inr ⟨HF.out, rfl⟩, rfl⟩
        · have HF : Hid (FindV s (k + 1)) := find_stop s k (by omega) (by omega) HJ.out (by omega) (.inr hz)
          have z1 : ((bn s k : Int) == 0) = false := by simp; omega
          go_wp2
          go_ret2
          exact ⟨.inl ⟨k + 1, HF.out, ret_ints HO.out (by omega)⟩, rfl⟩
    · have HF : Hid (∀ m, ¬ FindV s m) := find_end s k HJ.out (by omega)
      go_wp2
      go_ret2
      exact ⟨.inr ⟨HF.out, rfl⟩, rfl⟩

set_option maxHeartbeats 1000000 in
theorem impl_readVar_short (s : ByteArray) (w : World) (hs : s.size ≤ 1048576) (h7 : (s.size : Int) ≤ 7) :
    Calls Tryd.prog 8 #[.string s] w fun e w' => ReadV s e ∧ w = w' := by
  have q1 : (s.size : Int) ≤ 1048576 := by omega
  have hbt := get_bn s
  go_enter Tryd.func8, Tryd.ntmps8
  go_wp2
  go_loop [4, 10] (fun v4 v10 => ∃ k : Nat, k ≤ s.size ∧ v10 = .int .i64 k ∧ v4 = .int .i64 (vvS s 0 k) ∧ Hid (∀ j, j < k → 128 ≤ bn s j)) (fun _ i => s.size - (intOf i).toNat)
  case atStart => exact ⟨0, by omega, rfl, rfl, fun j hj => absurd hj (by omega)⟩
  case round =>
    obtain ⟨k, hk, rfl, rfl, HJ⟩ := hrel
    by_cases hlt : k < s.size
    · have r1 := bn_lt s k
      have HO : Hid (bits .or .i64 (vvS s 0 k : Int) (wrap64 ((bn s k : Int) % 128 * 2 ^ (7 * k))) = (vvS s 0 (k + 1) : Int)) := vvS_or s k (by omega)
      by_cases hc : (128 : Int) ≤ (bn s k : Int)
      · go_wp2
        go_round
        case rel =>
          refine ⟨k + 1, by omega, by go_num, by rw [HO.out], ?_⟩
          intro j hj
          by_cases e : j = k
          · subst e; omega
          · exact HJ.out j (by omega)
        case measure => simp [intOf]; omega
      · by_cases hz : bn s k = 0
        · by_cases hk0 : k = 0
          · have HF : Hid (FindV s (k + 1)) := find_stop s k (by omega) (by omega) HJ.out (by omega) (.inl hk0)
            have z1 : ((bn s k : Int) == 0) = true := by simp; omega
            have z2 : (k : Int) ≤ 0 := by omega
            clear hk0 hz
            go_wp2
            go_ret2
            exact ⟨.inl ⟨k + 1, HF.out, ret_ints HO.out (by omega)⟩, rfl⟩
          · have HF : Hid (∀ m, ¬ FindV s m) := find_zero s k HJ.out hz (by omega)
            have z1 : ((bn s k : Int) == 0) = true := by simp; omega
            have z2 : (0 : Int) < (k : Int) := by omega
            clear hz
            go_wp2
            go_ret2
            exact ⟨.inr ⟨HF.out, rfl⟩, rfl⟩
        · have HF : Hid (FindV s (k + 1)) := find_stop s k (by omega) (by omega) HJ.out (by omega) (.inr hz)
          have z1 : ((bn s k : Int) == 0) = false := by simp; omega
          go_wp2
          go_ret2
          exact ⟨.inl ⟨k + 1, HF.out, ret_ints HO.out (by omega)⟩, rfl⟩
    · have HF : Hid (∀ m, ¬ FindV s m) := find_end s k HJ.out (by omega)
      go_wp2
      go_ret2
      exact ⟨.inr ⟨HF.out, rfl⟩, rfl⟩

theorem impl_readVar (s : ByteArray) (w : World) (hs : s.size ≤ 1048576) :
    Calls Tryd.prog 8 #[.string s] w fun e w' => ReadV s e ∧ w = w' := by
  by_cases h : (7 : Int) < (s.size : Int)
  · exact impl_readVar_long s w hs h
  · exact impl_readVar_short s w hs (by omega)

theorem txt_list (l : List UInt8) : (txt l).toList = l := by rw [Lib.toList_data]; simp [txt]

theorem var_eq (s : ByteArray) (k : Nat) (h1 : 1 ≤ k) (h7 : k ≤ 7) (hk : k ≤ s.size) : ((txt (vF 6 (vvS s 0 k))).toList == (s.extract 0 k).toList) = true ↔ canonS s 0 k := by
  obtain ⟨d, rfl⟩ : ∃ d, k = d + 1 := ⟨k - 1, by omega⟩
  rw [sg_extract s (d + 1) hk, txt_list, txt_list, ← canonS_iff s d 0 6 (by omega)]
  simp

/-- A digit of the sixteen. -/
theorem index_digit (n : Nat) (h : n < 16) (x : Int) (kd : IntKind) (hx : x = (n : Int)) (w : World) :
    (Instr.index 9 (.string ⟨#[48, 49, 50, 51, 52, 53, 54, 55, 56, 57, 97, 98, 99, 100, 101, 102]⟩) (.int kd x)).run Tryd.prog w = .ok (.int .u8 ((hexd n).toNat : Int)) w := by
  subst hx
  have hd := digits_at n h h
  have hq : digits[n]? = some (digits[n]'h) := getElem?_pos digits n h
  unfold digits at hd hq
  simp [Instr.index, run_underlying Tryd.underlying9, go_sem, hq, hd]

theorem u8_small (n : Nat) (h : n < 256) : IntKind.u8.wrap (n : Int) = (n : Int) := by rw [IntKind.wrap_u8']; omega

set_option maxHeartbeats 1000000 in
theorem impl_hex (s : ByteArray) (w : World) (hs : s.size ≤ 1048576) :
    Calls Tryd.prog 14 #[.string s] w fun e w' => e = .returned (.string (txt (hexs s s.size))) ∧ Below w.heap.size w w' := by
  have q1 : (s.size : Int) ≤ 1048576 := by omega
  have hbt := get_bn s
  have hmk := run_make_cap (P := Tryd.prog) 22 Tryd.underlying22 Tryd.info5 (2 * s.size) (2 * (s.size : Int)) (by omega) (by omega)
  go_enter Tryd.func14, Tryd.ntmps14
  go_wp2
  go_loopw [3, 11] (fun v3 v11 wr => ∃ k : Nat, k ≤ s.size ∧ v11 = .int .i64 k ∧ Buf wr w.heap.size v3 (hexs s k) ∧ Below w.heap.size w wr) (fun _ i _ => s.size - (intOf i).toNat)
  case atStart => exact ⟨0, by omega, rfl, Buf.made w w.heap.size _ _ (Nat.le_refl _) (by unfold maxLen; omega) (by simp [size_madeCells]), (Below.refl _ _).alloc (Nat.le_refl _) _⟩
  case round =>
    obtain ⟨k, hk, rfl, hbuf, hb⟩ := hrel
    by_cases hlt : k < s.size
    · have r1 := bn_lt s k
      have i1 := index_digit (bn s k / 16) (by omega) (IntKind.u8.wrap ((bn s k : Int) / 16)) .u8 (by rw [IntKind.wrap_u8']; omega)
      have i2 := index_digit (bn s k % 16) (by omega) ((bn s k : Int).tmod 16) .u8 (by rw [Int.tmod_eq_emod_of_nonneg (by omega)]; omega)
      go_wp2
      go_region_law ((refine step_append_buf (by rfl) (.tmp 14) (.tmp 25) 22 (by rfl) Tryd.underlying22 Tryd.info5 w.heap.size u3 (hexs s k) (by rfl) (by exact hbuf.alloc _) _ [hexd (bn s k / 16), hexd (bn s k % 16)] 2 2 rfl (by rfl) (by exact cells_new wr _ _ (two_cells _ _ _ _ rfl rfl)) (by rw [hexs_length]; simp; omega) (by have := hb.size; simp; omega) ?_; intro v' w1 hbuf1 hb1))
      all_goals
        have hb2 : Below w.heap.size w w1 := hb.trans (Below.trans (((Below.refl w.heap.size wr).alloc hb.size _).drew) hb1)
        clear hb1 hbuf hb
        go_wp2
        go_roundw
        case rel => exact ⟨k + 1, by omega, by go_num, hbuf1, hb2⟩
        case measure => simp [intOf]; omega
    · have hkk : k = s.size := by omega
      have hcv := hbuf.string (P := Tryd.prog) 22 9 Tryd.underlying22 Tryd.underlying5 Tryd.underlying9
      go_wp2
      go_ret
      exact ⟨by rw [hkk]; rfl, hb⟩

set_option maxHeartbeats 400000 in
theorem lite_indexByte (s : ByteArray) (c : Int) (w : World) :
    Calls Tryd.prog 31 #[.string s, .int .u8 c] w fun e w' => e = .returned (.int .i64 (Lib.indexByte s.data.toList c.toNat.toUInt8)) ∧ w = w' := by
  go_enter Tryd.func31, Tryd.ntmps31
  go_wp2
  rw [run_callFunc_extern Tryd.func35 (by kernel_rfl) (by kernel_rfl) (by kernel_rfl) (e := Extern.BytealgIndexByte.indexByte) (by kernel_rfl), Lib.run_indexByteString]
  simp only [Result.andThen]
  rw [Oper.upon_value]
  go_wp2
  go_ret
  exact ⟨rfl, rfl⟩

set_option maxHeartbeats 400000 in
theorem index_hex (c : Nat) (w : World) (hc : c < 256) :
    Calls Tryd.prog 22 #[.string ⟨#[48, 49, 50, 51, 52, 53, 54, 55, 56, 57, 97, 98, 99, 100, 101, 102]⟩, .int .u8 (c : Int)] w fun e w' => e = .returned (.int .i64 (fromHex c)) ∧ w = w' := by
  have hd := digits_index c hc
  have HD : Hid (Lib.indexByte [48, 49, 50, 51, 52, 53, 54, 55, 56, 57, 97, 98, 99, 100, 101, 102] (Int.toNat (c : Int)).toUInt8 = fromHex c) := hd
  clear hd
  go_enter Tryd.func22, Tryd.ntmps22
  go_wp2_with fail
  refine (lite_indexByte _ _ _).mono ?_
  rintro e w' ⟨rfl, rfl⟩
  rw [HD.out]
  go_wp2_with fail
  go_ret
  exact ⟨rfl, rfl⟩

/-- How an answer of Unhex is handed back. -/
def unhexV (o : Option (List UInt8)) : Value := .tuple #[.string (txt (o.getD [])), .bool o.isSome]

set_option maxHeartbeats 1000000 in
theorem impl_unhex_even (s : ByteArray) (m : Nat) (w : World) (hs : s.size ≤ 1048576) (hm : 2 * m = s.size) :
    Calls Tryd.prog 13 #[.string s] w fun e w' => e = .returned (unhexV (unhL s m)) ∧ Below w.heap.size w w' := by
  have q1 : (s.size : Int) ≤ 1048576 := by omega
  have q2 : ((s.size : Int) % 2 != 0) = false := by simp; omega
  have hmk := run_make_cap (P := Tryd.prog) 22 Tryd.underlying22 Tryd.info5 (s.size / 2) ((s.size : Int) / 2) (by omega) (by omega)
  have hbt := get_bn s
  go_enter Tryd.func13, Tryd.ntmps13
  go_wp2
  go_loopw [4, 19] (fun v4 v5 wr => ∃ k : Nat, ∃ l : List UInt8, 2 * k ≤ s.size ∧ v5 = .int .i64 ((k : Int)) ∧ unhL s k = some l ∧ Buf wr w.heap.size v4 l ∧ Below w.heap.size w wr) (fun _ i _ => s.size - (intOf i).toNat)
  case atStart => exact ⟨0, [], by omega, rfl, rfl, Buf.made w w.heap.size _ _ (Nat.le_refl _) (by unfold maxLen; omega) (by simp [size_madeCells]), (Below.refl _ _).alloc (Nat.le_refl _) _⟩
  case round =>
    obtain ⟨k, l, hk, rfl, hul, hbuf, hb⟩ := hrel
    have hll := unhL_length s k l hul
    have HU : Hid (unhL s k = some l) := hul
    have HL : Hid (l.length = k) := hll
    clear hul hll
    have hsz := hb.size
    by_cases hlt : 2 * k < s.size
    · have r1 := bn_lt s (2 * k)
      have r2 := bn_lt s (2 * k + 1)
      have b1 := fromHex_bd (bn s (2 * k))
      have b2 := fromHex_bd (bn s (2 * k + 1))
      obtain ⟨b11, b12⟩ := b1
      obtain ⟨b21, b22⟩ := b2
      by_cases c1 : fromHex (bn s (2 * k)) < 0
      · have HN : Hid (unhL s m = none) := by
          have := unhL_none s (k + 1) (m - (k + 1)) (unhL_no s k (.inl c1))
          rwa [show k + 1 + (m - (k + 1)) = m by omega] at this
        go_wp2_with (go_at_call 22; refine (index_hex _ _ (by omega)).mono ?_; rintro e w' ⟨rfl, rfl⟩)
        go_ret2
        exact ⟨by rw [HN.out]; rfl, hb⟩
      · by_cases c2 : fromHex (bn s (2 * k + 1)) < 0
        · have HN : Hid (unhL s m = none) := by
            have := unhL_none s (k + 1) (m - (k + 1)) (unhL_no s k (.inr c2))
            rwa [show k + 1 + (m - (k + 1)) = m by omega] at this
          go_wp2_with (go_at_call 22; refine (index_hex _ _ (by omega)).mono ?_; rintro e w' ⟨rfl, rfl⟩)
          go_ret2
          exact ⟨by rw [HN.out]; rfl, hb⟩
        · have HY : Hid (unhL s (k + 1) = some (l ++ [byt (16 * fromHex (bn s (2 * k)) + fromHex (bn s (2 * k + 1))).toNat])) := unhL_yes s k l HU.out (by omega) (by omega)
          have HC : Hid (#[Value.int .u8 (16 * fromHex (bn s (2 * k)) + fromHex (bn s (2 * k + 1)))] = byteCells [byt (16 * fromHex (bn s (2 * k)) + fromHex (bn s (2 * k + 1))).toNat]) := one_cell _ _ (by omega) (by omega)
          go_wp2_with (first | (go_at_call 22; refine (index_hex _ _ (by omega)).mono ?_; rintro e w' ⟨rfl, rfl⟩) | (at_builtin; refine wpList_append_bytes rfl (.tmp 39) (.tmp 45) 22 rfl Tryd.underlying22 Tryd.info5 w.heap.size _ l rfl hbuf _ [byt (16 * fromHex (bn s (2 * k)) + fromHex (bn s (2 * k + 1))).toNat] HC.out 1 1 rfl rfl (by rw [HL.out]; simp; omega) hsz ?_; intro v' w1 hbuf1 hb1))
          go_roundw
          case rel => exact ⟨k + 1, _, by omega, by go_num, HY.out, hbuf1, hb.trans hb1⟩
          case measure => simp [intOf]; omega
    · have hkm : k = m := by omega
      have hcv := hbuf.string (P := Tryd.prog) 22 9 Tryd.underlying22 Tryd.underlying5 Tryd.underlying9
      go_wp2
      go_ret2
      exact ⟨by rw [← hkm, HU.out]; rfl, hb⟩

set_option maxHeartbeats 400000 in
theorem impl_unhex_odd (s : ByteArray) (w : World) (hs : s.size ≤ 1048576) (hm : s.size % 2 = 1) :
    Calls Tryd.prog 13 #[.string s] w fun e w' => e = .returned (unhexV none) ∧ Below w.heap.size w w' := by
  have q1 : (s.size : Int) ≤ 1048576 := by omega
  have q2 : ((s.size : Int) % 2 != 0) = true := by simp; omega
  go_enter Tryd.func13, Tryd.ntmps13
  go_wp2
  go_ret2
  exact ⟨rfl, Below.refl _ _⟩

theorem impl_unhex (s : ByteArray) (w : World) (hs : s.size ≤ 1048576) :
    Calls Tryd.prog 13 #[.string s] w fun e w' => e = .returned (unhexV (unhex s)) ∧ Below w.heap.size w w' := by
  unfold unhex
  by_cases h : s.size % 2 = 1
  · rw [if_pos h]; exact impl_unhex_odd s w hs h
  · rw [if_neg h]; exact impl_unhex_even s _ w hs (by omega)

/-- What readDigits answers. -/
def RD (t : ByteArray) (e : Ending) : Prop :=
  (GoodO t 0 t.size ∧ e = .returned (.tuple #[.int .i64 (valO t 0 t.size : Int), .bool true])) ∨ (¬ GoodO t 0 t.size ∧ e = .returned (.tuple #[.int .i64 0, .bool false]))

theorem valO_le9 (s : ByteArray) (o k : Nat) (hk : k ≤ 9) (h : ∀ j, j < k → 48 ≤ bn s (o + j) ∧ bn s (o + j) ≤ 57) : valO s o k < 1000000000 := by
  have h1 := valO_lt s o k (fun j hj => (h j hj).2)
  have h2 : 10 ^ k ≤ 10 ^ 9 := Nat.pow_le_pow_right (by omega) hk
  omega

set_option maxHeartbeats 1000000 in
theorem impl_readDigits_in (t : ByteArray) (w : World) (h1 : 1 ≤ t.size) (h9 : t.size ≤ 9) :
    Calls Tryd.prog 20 #[.string t] w fun e w' => RD t e ∧ w = w' := by
  have q1 : (t.size : Int) ≤ 9 := by omega
  have q2 : (1 : Int) ≤ (t.size : Int) := by omega
  have hne : t.toList.isEmpty = false := by
    rw [Lib.toList_data, List.isEmpty_eq_false_iff]
    intro h
    have e := Lib.size_eq t
    rw [h, List.length_nil] at e
    omega
  have hbt := get_bn t
  go_enter Tryd.func20, Tryd.ntmps20
  go_wp2
  go_step3
  go_wp2
  go_step3
  go_wp2
  go_loop [4, 5, 17] (fun v4 v5 v17 => ∃ k : Nat, k ≤ t.size ∧ v17 = .int .i64 k ∧ v4 = .int .i64 (valO t 0 k) ∧ v5 = .bool true ∧ Hid (∀ j, j < k → 48 ≤ bn t (0 + j) ∧ bn t (0 + j) ≤ 57) ∧ Hid (k = 0 ∨ t.size = 1 ∨ bn t 0 ≠ 48)) (fun _ _ i => t.size - (intOf i).toNat)
  case atStart => exact ⟨0, by omega, rfl, rfl, rfl, fun j hj => absurd hj (by omega), .inl rfl⟩
  case round =>
    obtain ⟨k, hk, rfl, rfl, rfl, HJ, HZ⟩ := hrel
    by_cases hlt : k < t.size
    · have r1 := bn_lt t k
      have r2 := valO_le9 t 0 k (by omega) HJ.out
      by_cases c1 : (bn t k : Int) < 48
      · have HN : Hid (¬ GoodO t 0 t.size) := by intro h; have := h.2.2.1 k hlt; rw [Nat.zero_add] at this; omega
        go_wp2
        go_ret2
        exact ⟨.inr ⟨HN.out, rfl⟩, rfl⟩
      · by_cases c2 : (57 : Int) < (bn t k : Int)
        · have HN : Hid (¬ GoodO t 0 t.size) := by intro h; have := h.2.2.1 k hlt; rw [Nat.zero_add] at this; omega
          go_wp2
          go_ret2
          exact ⟨.inr ⟨HN.out, rfl⟩, rfl⟩
        · have HK : Hid (∀ j, j < k + 1 → 48 ≤ bn t (0 + j) ∧ bn t (0 + j) ≤ 57) := by
            intro j hj
            by_cases e : j = k
            · subst e; rw [Nat.zero_add]; omega
            · exact HJ.out j (by omega)
          have HV : Hid ((valO t 0 (k + 1) : Int) = 10 * (valO t 0 k : Int) + ((bn t k : Int) - 48)) := by
            show ((valO t 0 (k + 1) : Nat) : Int) = _
            rw [valO, Nat.zero_add]
            omega
          by_cases c3 : bn t k = 48
          · have z1 : ((bn t k : Int) == 48) = true := by simp; omega
            by_cases c4 : k = 0
            · have z2 : ((k : Int) == 0) = true := by simp; omega
              by_cases c5 : (1 : Int) < (t.size : Int)
              · have HN : Hid (¬ GoodO t 0 t.size) := by
                  intro h
                  rcases h.2.2.2 with h | h
                  · omega
                  · exact h (by rw [c4] at c3; exact c3)
                clear c3 c4
                go_wp2
                go_ret2
                exact ⟨.inr ⟨HN.out, rfl⟩, rfl⟩
              · have HC : Hid (k = 0) := c4
                clear c3 c4
                go_wp2
                go_round
                case rel => exact ⟨k + 1, by omega, by go_num, by rw [HV.out], rfl, HK.out, by exact .inr (.inl (by omega))⟩
                case measure => simp [intOf]; omega
            · have z2 : ((k : Int) == 0) = false := by simp; omega
              clear c3
              go_wp2
              go_round
              case rel => exact ⟨k + 1, by omega, by go_num, by rw [HV.out], rfl, HK.out, by rcases HZ.out with h | h; exact absurd h c4; exact .inr h⟩
              case measure => simp [intOf]; omega
          · have z1 : ((bn t k : Int) == 48) = false := by simp; omega
            go_wp2
            go_round
            case rel => exact ⟨k + 1, by omega, by go_num, by rw [HV.out], rfl, HK.out, by rcases HZ.out with h | h; (right; right; rw [h] at c3; exact c3); exact .inr h⟩
            case measure => simp [intOf]; omega
    · have HY : Hid (GoodO t 0 t.size) := by
        have e : k = t.size := by omega
        have hz := HZ.out
        have hj := HJ.out
        rw [e] at hz hj
        exact ⟨h1, h9, hj, by rcases hz with h | h | h; omega; exact .inl h; exact .inr h⟩
      have hkk : k = t.size := by omega
      go_wp2
      go_ret2
      exact ⟨.inl ⟨HY.out, rfl⟩, rfl⟩

set_option maxHeartbeats 1000000 in
theorem impl_readDigits_out (t : ByteArray) (w : World) (h : t.size = 0 ∨ 9 < t.size) (hs : t.size ≤ 1048576) :
    Calls Tryd.prog 20 #[.string t] w fun e w' => RD t e ∧ w = w' := by
  have HN : Hid (¬ GoodO t 0 t.size) := by intro hg; have h1 := hg.1; have h2 := hg.2.1; omega
  have q0 : (t.size : Int) ≤ 1048576 := by omega
  by_cases h0 : t.size = 0
  · have hne : t.toList.isEmpty = true := by
      rw [Lib.toList_data, List.isEmpty_iff]
      exact List.eq_nil_of_length_eq_zero (by rw [← Lib.size_eq]; exact h0)
    clear h0 h
    go_enter Tryd.func20, Tryd.ntmps20
    go_wp2
    go_step3
    go_wp2
    rw [Exit.noGoto_ret]
    go_ret2
    exact ⟨.inr ⟨HN.out, rfl⟩, rfl⟩
  · have q9 : (9 : Int) < (t.size : Int) := by omega
    have hne : t.toList.isEmpty = false := by
      rw [Lib.toList_data, List.isEmpty_eq_false_iff]
      intro hh
      have e := Lib.size_eq t
      rw [hh, List.length_nil] at e
      omega
    clear h0 h
    go_enter Tryd.func20, Tryd.ntmps20
    go_wp2
    go_step3
    go_wp2
    rw [Exit.noGoto_ret]
    go_ret2
    exact ⟨.inr ⟨HN.out, rfl⟩, rfl⟩

theorem impl_readDigits (t : ByteArray) (w : World) (hs : t.size ≤ 1048576) :
    Calls Tryd.prog 20 #[.string t] w fun e w' => RD t e ∧ w = w' := by
  by_cases h : t.size = 0 ∨ 9 < t.size
  · exact impl_readDigits_out t w h hs
  · exact impl_readDigits_in t w (by omega) (by omega)

theorem first_byte (s : ByteArray) (h : 1 ≤ s.size) : (s.extract 0 1).toList = [byt (bn s 0)] := by
  rw [sg_extract s 1 h, Lib.toList_data]
  simp [txt, sg]

set_option maxHeartbeats 400000 in
theorem cut_yes (s : ByteArray) (w : World) (hs : s.size ≤ 1048576) (h1 : 1 ≤ s.size) (h : bn s 0 = 45) :
    Calls Tryd.prog 19 #[.string s, .string ⟨#[45]⟩] w fun e w' => e = .returned (.tuple #[.string (s.extract 1 s.size), .bool true]) ∧ w = w' := by
  have q0 : (s.size : Int) ≤ 1048576 := by omega
  have q1 : (1 : Int) ≤ (s.size : Int) := by omega
  have hq : ((s.extract 0 1).toList == [45]) = true := by rw [first_byte s h1, h]; rfl
  clear h
  go_enter Tryd.func19, Tryd.ntmps19
  go_wp2
  go_ret2
  exact ⟨rfl, rfl⟩

set_option maxHeartbeats 400000 in
theorem cut_no (s : ByteArray) (w : World) (hs : s.size ≤ 1048576) (h : s.size = 0 ∨ bn s 0 ≠ 45) :
    Calls Tryd.prog 19 #[.string s, .string ⟨#[45]⟩] w fun e w' => e = .returned (.tuple #[.string s, .bool false]) ∧ w = w' := by
  have q0 : (s.size : Int) ≤ 1048576 := by omega
  by_cases h0 : s.size = 0
  · have q1 : (s.size : Int) < 1 := by omega
    have q2 : decide ((1 : Int) ≤ (s.size : Int)) = false := by simp; omega
    clear h
    have HH : Hid (s.size = 0) := h0
    clear h0
    go_enter Tryd.func19, Tryd.ntmps19
    go_wp2
    go_ret2
    exact ⟨rfl, rfl⟩
  · have q1 : (1 : Int) ≤ (s.size : Int) := by omega
    have hq : ((s.extract 0 1).toList == [45]) = false := by
      rw [first_byte s (by omega)]
      have hb := bn_lt s 0
      have hne : byt (bn s 0) ≠ 45 := by
        intro e
        have := congrArg UInt8.toNat e
        rw [byt_toNat] at this
        have e45 : (45 : UInt8).toNat = 45 := rfl
        omega
      simp [hne]
    clear h
    go_enter Tryd.func19, Tryd.ntmps19
    go_wp2
    go_ret2
    exact ⟨rfl, rfl⟩

/-- What ReadDec answers. -/
def ReadD (s : ByteArray) (e : Ending) : Prop :=
  (∃ v : Int, AccI s v ∧ e = .returned (.tuple #[.int .i64 v, .bool true])) ∨ ((∀ v, ¬ AccI s v) ∧ e = .returned (.tuple #[.int .i64 0, .bool false]))

theorem bn_tail (s : ByteArray) (h : 1 ≤ s.size) : (s.extract 1 s.size).size = s.size - 1 ∧ ∀ j, bn (s.extract 1 s.size) j = bn s (1 + j) := by
  have e : s.extract 1 s.size = txt (s.data.toList.drop 1) := by
    apply ByteArray.ext
    apply Array.toList_inj.1
    rw [Lib.extract_data]
    simp only [txt]
    rw [List.take_of_length_le (by rw [List.length_drop, ← Lib.size_eq]; exact Nat.le_refl _)]
  have hl : (s.data.toList.drop 1).length = s.size - 1 := by rw [List.length_drop, ← Lib.size_eq]
  refine ⟨by rw [e, txt_size, hl], ?_⟩
  intro j
  by_cases hj : j < s.size - 1
  · rw [e, bn_txt _ _ (by omega)]
    have hg := get_bn s (1 + j) (by omega)
    have : (s.data.toList.drop 1)[j]'(by omega) = s[1 + j]'(by omega) := by
      rw [List.getElem_drop, Array.getElem_toList]
      rfl
    rw [this]
    omega
  · have a1 : bn (s.extract 1 s.size) j = 0 := by
      unfold bn
      rw [bt_end _ (by rw [e, txt_size, hl]; omega)]
      rfl
    have a2 : bn s (1 + j) = 0 := by
      unfold bn
      rw [bt_end _ (by omega)]
      rfl
    rw [a1, a2]

theorem good_tail (s : ByteArray) (h : 1 ≤ s.size) : (GoodO (s.extract 1 s.size) 0 (s.extract 1 s.size).size ↔ GoodO s 1 (s.size - 1)) ∧ valO (s.extract 1 s.size) 0 (s.extract 1 s.size).size = valO s 1 (s.size - 1) := by
  obtain ⟨h1, h2⟩ := bn_tail s h
  rw [h1]
  refine ⟨?_, valO_congr _ _ 0 1 _ (by intro j _; rw [Nat.zero_add]; exact h2 j)⟩
  unfold GoodO
  have h0 : bn (s.extract 1 s.size) 0 = bn s 1 := h2 0
  rw [h0]
  simp only [Nat.zero_add, h2]

theorem acc_plain (s : ByteArray) (h : s.size = 0 ∨ bn s 0 ≠ 45) (v : Int) : AccI s v ↔ GoodO s 0 s.size ∧ v = (valO s 0 s.size : Int) := by
  unfold AccI
  constructor
  · rintro (h1 | ⟨h1, h2, _⟩)
    · exact h1
    · rcases h with h | h
      · omega
      · exact absurd h2 h
  · exact .inl

theorem acc_minus (s : ByteArray) (h1 : 1 ≤ s.size) (h : bn s 0 = 45) (v : Int) : AccI s v ↔ GoodO s 1 (s.size - 1) ∧ valO s 1 (s.size - 1) ≠ 0 ∧ v = -(valO s 1 (s.size - 1) : Int) := by
  unfold AccI
  constructor
  · rintro (⟨g, _⟩ | ⟨_, _, h3, h4, h5⟩)
    · have := g.2.2.1 0 (by omega)
      simp at this
      omega
    · exact ⟨h3, h4, h5⟩
  · rintro ⟨h3, h4, h5⟩
    exact .inr ⟨h1, h, h3, h4, h5⟩

set_option maxHeartbeats 400000 in
theorem impl_readDec (s : ByteArray) (w : World) (hs : s.size ≤ 1048576) :
    Calls Tryd.prog 11 #[.string s] w fun e w' => ReadD s e ∧ w = w' := by
  by_cases h : s.size = 0 ∨ bn s 0 ≠ 45
  · have HA : Hid (∀ v, AccI s v ↔ GoodO s 0 s.size ∧ v = (valO s 0 s.size : Int)) := acc_plain s h
    go_enter Tryd.func11, Tryd.ntmps11
    go_wp2_with fail
    refine (cut_no s _ hs h).mono ?_
    rintro e w1 ⟨rfl, rfl⟩
    clear h
    go_wp2_with fail
    refine (impl_readDigits s _ hs).mono ?_
    rintro e w2 ⟨⟨hg, rfl⟩ | ⟨hg, rfl⟩, rfl⟩
    · have HG : Hid (GoodO s 0 s.size) := hg
      clear hg
      go_wp2_with fail
      go_ret2
      exact ⟨.inl ⟨_, (HA.out _).2 ⟨HG.out, rfl⟩, rfl⟩, rfl⟩
    · have HG : Hid (¬ GoodO s 0 s.size) := hg
      clear hg
      go_wp2_with fail
      go_ret2
      exact ⟨.inr ⟨fun v hv => HG.out ((HA.out v).1 hv).1, rfl⟩, rfl⟩
  · have h1 : 1 ≤ s.size := by omega
    have h2 : bn s 0 = 45 := by omega
    clear h
    have HA : Hid (∀ v, AccI s v ↔ GoodO s 1 (s.size - 1) ∧ valO s 1 (s.size - 1) ≠ 0 ∧ v = -(valO s 1 (s.size - 1) : Int)) := acc_minus s h1 h2
    have HT : Hid ((GoodO (s.extract 1 s.size) 0 (s.extract 1 s.size).size ↔ GoodO s 1 (s.size - 1)) ∧ valO (s.extract 1 s.size) 0 (s.extract 1 s.size).size = valO s 1 (s.size - 1)) := good_tail s h1
    have HZ : Hid ((s.extract 1 s.size).size = s.size - 1) := (bn_tail s h1).1
    go_enter Tryd.func11, Tryd.ntmps11
    go_wp2_with fail
    refine (cut_yes s _ hs h1 h2).mono ?_
    rintro e w1 ⟨rfl, rfl⟩
    clear h2
    go_wp2_with fail
    refine (impl_readDigits (s.extract 1 s.size) _ (by rw [HZ.out]; omega)).mono ?_
    rintro e w2 ⟨⟨hg, rfl⟩ | ⟨hg, rfl⟩, rfl⟩
    · have HG : Hid (GoodO s 1 (s.size - 1)) := HT.out.1.1 hg
      clear hg
      rw [HT.out.2]
      have hb := valO_le9 s 1 (s.size - 1) HG.out.2.1 HG.out.2.2.1
      generalize hV : valO s 1 (s.size - 1) = V at *
      have HV : Hid (valO s 1 (s.size - 1) = V) := hV
      clear hV
      by_cases hz : V = 0
      · have z1 : ((V : Int) == 0) = true := by simp; omega
        have HQ : Hid (V = 0) := hz
        clear hz
        go_wp2_with fail
        go_ret2
        exact ⟨.inr ⟨fun v hv => ((HA.out v).1 hv).2.1 HQ.out, rfl⟩, rfl⟩
      · have z1 : ((V : Int) == 0) = false := by simp; omega
        go_wp2_with fail
        go_ret2
        exact ⟨.inl ⟨-(V : Int), (HA.out _).2 ⟨HG.out, hz, rfl⟩, rfl⟩, rfl⟩
    · have HG : Hid (¬ GoodO s 1 (s.size - 1)) := fun h => hg (HT.out.1.2 h)
      clear hg
      go_wp2_with fail
      go_ret2
      exact ⟨.inr ⟨fun v hv => HG.out ((HA.out v).1 hv).1, rfl⟩, rfl⟩

theorem dF_lib (f u : Nat) (h0 : 0 < u) (h : u < 10 ^ f) : dF f u = Lib.decDigits u := by
  induction f generalizing u with
  | zero => simp at h; omega
  | succ f ih =>
    have hd : u / 10 < 10 ^ f := by
      rw [Nat.pow_succ] at h
      exact Nat.div_lt_of_lt_mul (by rw [Nat.mul_comm]; exact h)
    rw [dF, if_neg (by omega)]
    by_cases h10 : u < 10
    · rw [Lib.decDigits_one h10, show u / 10 = 0 by omega, dF_zero, Nat.mod_eq_of_lt h10]
      rfl
    · rw [Lib.decDigits, dif_neg h10, ih (u / 10) (by omega) hd]
      rfl

theorem decI_lib (v : Int) (h1 : -9223372036854775808 ≤ v) (h2 : v ≤ 9223372036854775807) : Lib.itoa v = decI v := by
  unfold Lib.itoa decI
  by_cases h : v < 0
  · rw [if_pos h, if_pos h, dF_lib 20 v.natAbs (by omega) (by omega)]
  · rw [if_neg h, if_neg h]
    unfold decN
    by_cases h0 : v.toNat = 0
    · rw [if_pos h0, h0, Lib.decDigits_one (by omega)]
      rfl
    · rw [if_neg h0, dF_lib 20 v.toNat (by omega) (by omega)]

theorem below_grow (w : World) (k : Nat) (os : Array Obj) : Below w.heap.size w (Go.Sort.grow (w.drewN k) os) := by
  have hb : Below w.heap.size w (w.drewN k) := below_drewN (Below.refl _ _) k
  refine hb.trans ⟨rfl, rfl, rfl, by simp [Go.Sort.grow], fun i hi => ?_⟩
  simp only [Go.Sort.grow]
  rw [Array.getElem?_append_left (Nat.lt_of_lt_of_le hi hb.size)]

/-- The table of powers of ten lies in w as the text lays it. -/
def PowTab (w : World) : Prop := Lib.TabIs Tryd.prog w "internal/strconv.uint64pow10" .u64 Lib.pow10Tab

theorem gPow : Tryd.prog.globalNamed "internal/strconv.uint64pow10" = some 1 := by kernel_rfl

theorem PowTab.below {B : Nat} {w w' : World} (h : PowTab w) (hb : Below B w w') (hB : 1 < B) : PowTab w' := var?_below hb gPow hB h

set_option maxHeartbeats 400000 in
theorem impl_dec (v : Int) (w : World) (h1 : -9223372036854775808 ≤ v) (h2 : v ≤ 9223372036854775807) (ht : PowTab w) :
    Calls Tryd.prog 12 #[.int .i64 v] w fun e w' => e = .returned (.string (txt (decI v))) ∧ Below w.heap.size w w' := by
  have HD : Hid (Lib.itoa v = decI v) := decI_lib v h1 h2
  have HT : Hid (PowTab w) := ht
  clear ht
  go_enter Tryd.func12, Tryd.ntmps12
  go_wp2_with fail
  refine (Tryd.strconv_Itoa v h1 h2 _ HT.out).mono ?_
  rintro e w1 ⟨rfl, k, os, rfl⟩
  rw [HD.out]
  go_wp2_with fail
  go_ret
  exact ⟨rfl, below_grow w k os⟩

end Go.Proofs.YtaplbjobhlbcoabDoor
