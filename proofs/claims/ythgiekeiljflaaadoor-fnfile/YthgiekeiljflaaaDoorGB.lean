/-
  Plain lemmas on what is read back of what was written: Var, Fixed, Dec, Hex (no program in sight).
-/
import Derived.Test.YthgiekeiljflaaaDoorAid
import Derived.Test.YthgiekeiljflaaaDoorFrAid
import Derived.Test.YthgiekeiljflaaaDoorRows
import Derived.WalkKit
import Derived.ProofKit
import Derived.OpenShut
import Derived.WalkLawsBesides
import Derived.WalkMore
import Derived.Outline
import Derived.WalkSmall
import Derived.Test.YthgiekeiljflaaaDoorFix
import Derived.Below
import Derived.Handy
import Derived.WalkSpells
import Derived.Deep.OwnRows
import Derived.Deep.RegionHeld3
import Derived.Deep.RegionLaw
import Derived.Deep.DrawnRows
import Derived.Laws.OwnMore
import Derived.OwnWalk
import Derived.Lib.OwnKind
import Derived.Shelf.Strings.BuilderK
import Derived.BigQuiet
import Derived.Deep.QuietTactic
import Derived.Deep.RegionWith
import Derived.Test.YthgiekeiljflaaaDoorUntil
import Derived.Test.YthgiekeiljflaaaDoorGA
namespace Go.Proofs.YthgiekeiljflaaaDoor
open Go.RowKit Go.PlainAid

theorem bn_txt_append (l m : List UInt8) (j : Nat) (h : j < l.length) : bn (txt (l ++ m)) j = bn (txt l) j := by
  rw [bn_txt _ _ (by simp; omega), bn_txt _ _ h, List.getElem_append_left h]
theorem bn_cat (l m : List UInt8) (j : Nat) (h : j < l.length) : bn (txt (l ++ m)) j = (l[j]).toNat := by rw [bn_txt_append _ _ _ h, bn_txt _ _ h]
/-- Var's bytes are read as the number, wherever they stand. -/
theorem vvS_var (f n : Nat) (pre tl : List UInt8) (hn : n < 128 ^ (f + 1)) : vvS (txt (pre ++ vF f n ++ tl)) pre.length (vF f n).length = n := by
  induction f generalizing n pre with
  | zero =>
    simp at hn
    have e : (vF 0 n).length = 1 := rfl
    rw [e]
    have hb : bn (txt (pre ++ vF 0 n ++ tl)) pre.length = n := by
      rw [bn_txt _ _ (by simp [vF])]
      simp [vF, byt_toNat]
      omega
    simp only [vvS, hb]
    omega
  | succ f ih =>
    by_cases h : n < 128
    · rw [vF_small _ n h]
      have hb : bn (txt (pre ++ [byt n] ++ tl)) pre.length = n := by
        rw [bn_txt _ _ (by simp)]
        simp [byt_toNat]
        omega
      simp only [List.length_cons, List.length_nil, vvS, hb]
      omega
    · have e : vF (f + 1) n = byt (128 + n % 128) :: vF f (n / 128) := by rw [vF, if_neg h]
      have hd : n / 128 < 128 ^ (f + 1) := by
        rw [Nat.pow_succ] at hn
        exact Nat.div_lt_of_lt_mul (by rw [Nat.mul_comm]; exact hn)
      rw [e]
      have hb : bn (txt (pre ++ (byt (128 + n % 128) :: vF f (n / 128)) ++ tl)) pre.length = 128 + n % 128 := by
        rw [bn_txt _ _ (by simp)]
        simp [byt_toNat]
        omega
      have hi := ih (n / 128) (pre ++ [byt (128 + n % 128)]) hd
      have e2 : pre ++ [byt (128 + n % 128)] ++ vF f (n / 128) ++ tl = pre ++ (byt (128 + n % 128) :: vF f (n / 128)) ++ tl := by simp
      rw [e2] at hi
      simp only [List.length_cons, vvS, hb]
      simp only [List.length_append, List.length_cons, List.length_nil] at hi
      rw [Nat.zero_add] at hi
      rw [hi]
      omega
theorem sg_txt (l tl : List UInt8) : sg (txt (l ++ tl)) 0 l.length = l := by
  have h := sg_extract (txt (l ++ tl)) l.length (by rw [txt_size]; simp)
  have e : (txt (l ++ tl)).extract 0 l.length = txt l := by
    apply ByteArray.ext
    apply Array.toList_inj.1
    rw [Lib.extract_data]
    simp [txt]
  rw [e] at h
  exact (txt_inj _ _ h).symm
theorem vF_pos (f n : Nat) : 1 ≤ (vF f n).length := by
  cases f with
  | zero => simp [vF]
  | succ f => rw [vF]; split <;> simp
/-- ReadVar finds what Var wrote, whatever stands behind. -/
theorem find_var (n : Nat) (tl : List UInt8) (hn : n ≤ 562949953421311) : FindV (txt (vF 6 n ++ tl)) (vF 6 n).length ∧ vvS (txt (vF 6 n ++ tl)) 0 (vF 6 n).length = n := by
  have hp := vF_pos 6 n
  have hl := vF_length 6 n
  have hv := vvS_var 6 n [] tl (by omega)
  simp only [List.nil_append, List.length_nil] at hv
  refine ⟨⟨hp, hl, by rw [txt_size]; simp, ?_⟩, hv⟩
  obtain ⟨d, hd⟩ : ∃ d, (vF 6 n).length = d + 1 := ⟨(vF 6 n).length - 1, by omega⟩
  have hs := sg_txt (vF 6 n) tl
  rw [hd] at hs hv ⊢
  rw [← canonS_iff _ d 0 6 (by omega), hv, hs]

end Go.Proofs.YthgiekeiljflaaaDoor

/-
  Contract of spec.l1In.
-/
namespace Go.Proofs.YthgiekeiljflaaaDoor
open Go.ChangeShapes Go.WideShapes Go.ChangeAt Go.RowKit Go.PlainAid
set_option linter.unusedVariables false

set_option maxHeartbeats 400000 in
theorem in_yes (x lo hi : Int) (w : World) (h1 : lo ≤ x) (h2 : x ≤ hi) :
    Calls Tryd.prog 59 #[.int .i64 x, .int .i64 lo, .int .i64 hi] w fun e w' => e = .returned (.bool true) ∧ w = w' := by
  go_enter Tryd.func59, Tryd.ntmps59
  go_wp2
  go_ret
  exact ⟨rfl, rfl⟩

set_option maxHeartbeats 400000 in
theorem in_no (x lo hi : Int) (w : World) (h : x < lo ∨ hi < x) :
    Calls Tryd.prog 59 #[.int .i64 x, .int .i64 lo, .int .i64 hi] w fun e w' => e = .returned (.bool false) ∧ w = w' := by
  by_cases h1 : x < lo
  · go_enter Tryd.func59, Tryd.ntmps59
    go_wp2
    go_ret
    exact ⟨rfl, rfl⟩
  · have h2 : hi < x := by omega
    have h3 : decide (x ≤ hi) = false := by simp; omega
    clear h
    go_enter Tryd.func59, Tryd.ntmps59
    go_wp2
    go_ret
    exact ⟨rfl, rfl⟩
end Go.Proofs.YthgiekeiljflaaaDoor

/-
  Contracts of chapter 1: spec.l1In, spec.Var, impl.Var.
-/
namespace Go.Proofs.YthgiekeiljflaaaDoor
open Go.ChangeShapes Go.WideShapes Go.ChangeAt Go.RowKit Go.PlainAid
set_option linter.unusedVariables false

set_option maxHeartbeats 400000 in
theorem spec_var (n : Nat) (w : World) (h1 : n ≤ 562949953421311) :
    Calls Tryd.prog 38 #[.int .i64 (n : Int)] w fun e w' => e = .returned (.string (txt (vF 6 n))) ∧ Below w.heap.size w w' := by
  have q1 : (n : Int) ≤ 562949953421311 := by omega
  go_enter Tryd.func38, Tryd.ntmps38
  go_wp2_with (go_at_call 59; refine (in_yes _ _ _ _ (by omega) (by omega)).mono ?_; rintro e w' ⟨rfl, rfl⟩)
  go_loopw [0, 3] (fun v0 v3 wr => ∃ m f : Nat, ∃ pre : List UInt8, v0 = .int .i64 m ∧ m ≤ 562949953421311 ∧ m < 128 ^ (f + 1) ∧ pre ++ vF f m = vF 6 n ∧ Buf wr w.heap.size v3 pre ∧ Below w.heap.size w wr) (fun i _ _ => (intOf i).toNat)
  case atStart => exact ⟨n, 6, [], rfl, h1, by omega, rfl, Buf.made w w.heap.size 0 #[] (Nat.le_refl _) (by simp [maxLen]) rfl, (Below.refl _ _).alloc (Nat.le_refl _) _⟩
  case round =>
    obtain ⟨m, f, pre, rfl, hm1, hm2, hpre, hbuf, hb⟩ := hrel
    have HP : Hid (pre ++ vF f m = vF 6 n) := hpre
    clear hpre
    have HM : Hid (m < 128 ^ (f + 1)) := hm2
    clear hm2
    have hlp : pre.length ≤ 7 := by
      have := congrArg List.length HP.out
      have := vF_length 6 n
      simp at *
      omega
    have hsz := hb.size
    by_cases hlt : (128 : Int) ≤ (m : Int)
    · have hcs := one_cell (128 + (m : Int) % 128) (128 + m % 128) (by omega) (by omega)
      have HC : Hid (#[Value.int .u8 (128 + (m : Int) % 128)] = byteCells [byt (128 + m % 128)]) := hcs
      clear hcs
      go_wp2_with (at_builtin; refine wpList_append_bytes rfl (.tmp 10) (.tmp 15) 22 rfl Tryd.underlying22 Tryd.info5 w.heap.size _ pre rfl hbuf _ [byt (128 + m % 128)] HC.out 1 1 rfl rfl (by simp; omega) hsz ?_; intro v' w1 hbuf1 hb1)
      obtain ⟨g, hg1, hg2, _⟩ := vF_round f m pre HM.out (by omega)
      go_roundw
      case rel => exact ⟨m / 128, g, pre ++ [byt (128 + m % 128)], by go_num, by omega, hg1, hg2.trans HP.out, hbuf1, hb.trans hb1⟩
      case measure => simp [intOf]; omega
    · have hcs := one_cell (m : Int) m rfl (by omega)
      have HC : Hid (#[Value.int .u8 (m : Int)] = byteCells [byt m]) := hcs
      clear hcs
      go_wp2_with (at_builtin; refine wpList_append_bytes rfl (.tmp 19) (.tmp 22) 22 rfl Tryd.underlying22 Tryd.info5 w.heap.size _ pre rfl hbuf _ [byt m] HC.out 1 1 rfl rfl (by simp; omega) hsz ?_; intro v' w1 hbuf1 hb1; have hcv := hbuf1.string (P := Tryd.prog) 22 9 Tryd.underlying22 Tryd.underlying5 Tryd.underlying9)
      go_ret
      exact ⟨by rw [← HP.out, vF_small f m (by omega)]; rfl, hb.trans hb1⟩

set_option maxHeartbeats 400000 in
theorem impl_var (n : Nat) (w : World) (h1 : n ≤ 562949953421311) :
    Calls Tryd.prog 51 #[.int .i64 (n : Int)] w fun e w' => e = .returned (.string (txt (vF 6 n))) ∧ Below w.heap.size w w' := by
  have q1 : (n : Int) ≤ 562949953421311 := by omega
  have q0 : (0 : Int) ≤ (n : Int) := by omega
  have hmk : ∀ w : World, (Instr.makeSlice 22 (.int .i64 0) (.int .i64 7)).run Tryd.prog w = .ok (.slice (some ⟨w.heap.size, 0, none⟩) 0 7) (w.alloc (.cells #[.int .u8 0, .int .u8 0, .int .u8 0, .int .u8 0, .int .u8 0, .int .u8 0, .int .u8 0] 5)) := fun _ => by kernel_rfl
  go_enter Tryd.func51, Tryd.ntmps51
  go_wp2
  go_loopw [0, 3] (fun v0 v3 wr => ∃ m f : Nat, ∃ pre : List UInt8, v0 = .int .i64 m ∧ m ≤ 562949953421311 ∧ m < 128 ^ (f + 1) ∧ pre ++ vF f m = vF 6 n ∧ Buf wr w.heap.size v3 pre ∧ Below w.heap.size w wr) (fun i _ _ => (intOf i).toNat)
  case atStart => exact ⟨n, 6, [], rfl, h1, by omega, rfl, Buf.made w w.heap.size 7 _ (Nat.le_refl _) (by simp [maxLen]) rfl, (Below.refl _ _).alloc (Nat.le_refl _) _⟩
  case round =>
    obtain ⟨m, f, pre, rfl, hm1, hm2, hpre, hbuf, hb⟩ := hrel
    have HP : Hid (pre ++ vF f m = vF 6 n) := hpre
    clear hpre
    have HM : Hid (m < 128 ^ (f + 1)) := hm2
    clear hm2
    have hlp : pre.length ≤ 7 := by
      have := congrArg List.length HP.out
      have := vF_length 6 n
      simp at *
      omega
    have hsz := hb.size
    by_cases hlt : (128 : Int) ≤ (m : Int)
    · have hcs := one_cell ((m : Int) % 128 + 128) (128 + m % 128) (by omega) (by omega)
      have HC : Hid (#[Value.int .u8 ((m : Int) % 128 + 128)] = byteCells [byt (128 + m % 128)]) := hcs
      clear hcs
      go_wp2_with (at_builtin; refine wpList_append_bytes rfl (.tmp 13) (.tmp 18) 22 rfl Tryd.underlying22 Tryd.info5 w.heap.size _ pre rfl hbuf _ [byt (128 + m % 128)] HC.out 1 1 rfl rfl (by simp; omega) hsz ?_; intro v' w1 hbuf1 hb1)
      obtain ⟨g, hg1, hg2, _⟩ := vF_round f m pre HM.out (by omega)
      go_roundw
      case rel => exact ⟨m / 128, g, pre ++ [byt (128 + m % 128)], by go_num, by omega, hg1, hg2.trans HP.out, hbuf1, hb.trans hb1⟩
      case measure => simp [intOf]; omega
    · have hcs := one_cell (m : Int) m rfl (by omega)
      have HC : Hid (#[Value.int .u8 (m : Int)] = byteCells [byt m]) := hcs
      clear hcs
      go_wp2_with (at_builtin; refine wpList_append_bytes rfl (.tmp 22) (.tmp 25) 22 rfl Tryd.underlying22 Tryd.info5 w.heap.size _ pre rfl hbuf _ [byt m] HC.out 1 1 rfl rfl (by simp; omega) hsz ?_; intro v' w1 hbuf1 hb1; have hcv := hbuf1.string (P := Tryd.prog) 22 9 Tryd.underlying22 Tryd.underlying5 Tryd.underlying9)
      go_ret
      exact ⟨by rw [← HP.out, vF_small f m (by omega)]; rfl, hb.trans hb1⟩

end Go.Proofs.YthgiekeiljflaaaDoor

/-
  Contracts of chapter 1: spec.ReadVar and impl.ReadVar.
-/
namespace Go.Proofs.YthgiekeiljflaaaDoor
open Go.ChangeShapes Go.WideShapes Go.ChangeAt Go.RowKit Go.PlainAid
set_option linter.unusedVariables false

/-- What both answer. -/
def ReadV (s : ByteArray) (e : Ending) : Prop :=
  (∃ k : Nat, FindV s k ∧ e = .returned (.tuple #[.int .i64 (vvS s 0 k : Int), .int .i64 (k : Int)])) ∨ ((∀ k, ¬ FindV s k) ∧ e = .returned (.tuple #[.int .i64 0, .int .i64 0]))

theorem vvS_or (s : ByteArray) (k : Nat) (h : k < 7) : bits .or .i64 (vvS s 0 k : Int) (wrap64 ((bn s k : Int) % 128 * 2 ^ (7 * k))) = (vvS s 0 (k + 1) : Int) := by
  have h1 := vvS_lt s k 0
  have h2 := vvS_le s (k + 1) (by omega) 0
  have e := vvS_snoc s k 0
  rw [Nat.zero_add] at e
  have e2 : (128 : Nat) ^ k = 2 ^ (7 * k) := by rw [Nat.pow_mul]
  have c : (bn s k : Int) % 128 * 2 ^ (7 * k) = ((bn s k % 128 * 2 ^ (7 * k) : Nat) : Int) := by norm_cast
  rw [e2] at e h1
  rw [c, IntWalk.wrap64_in _ ⟨by omega, by omega⟩]
  have j := or_join (7 * k) (bn s k % 128 * 2 ^ (7 * k)) (vvS s 0 k) (Nat.mul_mod_left _ _) h1 (by omega)
  have comm : bits .or .i64 (vvS s 0 k : Int) ((bn s k % 128 * 2 ^ (7 * k) : Nat) : Int) = bits .or .i64 ((bn s k % 128 * 2 ^ (7 * k) : Nat) : Int) (vvS s 0 k : Int) := by
    show IntKind.i64.wrap ((BitVec.ofInt 64 _ ||| BitVec.ofInt 64 _).toNat : Int) = IntKind.i64.wrap ((BitVec.ofInt 64 _ ||| BitVec.ofInt 64 _).toNat : Int)
    rw [BitVec.or_comm]
  rw [comm, j, e, Nat.add_comm]

theorem find_stop (s : ByteArray) (k : Nat) (hk : k < 7) (hs : k < s.size) (hj : ∀ j, j < k → 128 ≤ bn s j) (hc : bn s k < 128) (hz : k = 0 ∨ bn s k ≠ 0) : FindV s (k + 1) :=
  ⟨by omega, by omega, by omega, (canonS_char s k 0).2 ⟨by intro j h; rw [Nat.zero_add]; exact hj j h, by rw [Nat.zero_add]; exact hc, by rw [Nat.zero_add]; exact hz⟩⟩

theorem find_zero (s : ByteArray) (k : Nat) (hj : ∀ j, j < k → 128 ≤ bn s j) (hc : bn s k = 0) (hk : 0 < k) : ∀ m, ¬ FindV s m := by
  rintro m ⟨h1, h2, h3, h4⟩
  obtain ⟨d, rfl⟩ : ∃ d, m = d + 1 := ⟨m - 1, by omega⟩
  obtain ⟨c1, c2, c3⟩ := (canonS_char s d 0).1 h4
  rw [Nat.zero_add] at c2 c3
  rcases Nat.lt_trichotomy d k with h | h | h
  · have := hj d h; omega
  · subst h; omega
  · have := c1 k h; rw [Nat.zero_add] at this; omega

theorem find_end (s : ByteArray) (L : Nat) (hj : ∀ j, j < L → 128 ≤ bn s j) (hL : 7 ≤ L ∨ s.size ≤ L) : ∀ m, ¬ FindV s m := by
  rintro m ⟨h1, h2, h3, h4⟩
  obtain ⟨d, rfl⟩ : ∃ d, m = d + 1 := ⟨m - 1, by omega⟩
  obtain ⟨c1, c2, c3⟩ := (canonS_char s d 0).1 h4
  rw [Nat.zero_add] at c2
  have := hj d (by omega)
  omega

theorem ret_ints {a b c d : Int} (h : a = b) (h' : c = d) : Ending.returned (.tuple #[.int .i64 a, .int .i64 c]) = .returned (.tuple #[.int .i64 b, .int .i64 d]) := by rw [h, h']

set_option maxHeartbeats 1000000 in
theorem impl_readVar_long (s : ByteArray) (w : World) (hs : s.size ≤ 1048576) (h7 : (7 : Int) < (s.size : Int)) :
    Calls Tryd.prog 74 #[.string s] w fun e w' => ReadV s e ∧ w = w' := by
  have q1 : (s.size : Int) ≤ 1048576 := by omega
  have hbt := get_bn s
  go_enter Tryd.func74, Tryd.ntmps74
  go_wp2
  go_loop [4, 10] (fun v4 v10 => ∃ k : Nat, k ≤ 7 ∧ v10 = .int .i64 k ∧ v4 = .int .i64 (vvS s 0 k) ∧ Hid (∀ j, j < k → 128 ≤ bn s j)) (fun _ i => 7 - (intOf i).toNat)
  case atStart => exact ⟨0, by omega, rfl, rfl, fun j hj => absurd hj (by omega)⟩
  case round =>
    obtain ⟨k, hk, rfl, rfl, HJ⟩ := hrel
    by_cases hlt : k < 7
    · have r1 := bn_lt s k
      have HO : Hid (bits .or .i64 (vvS s 0 k : Int) (wrap64 ((bn s k : Int) % 128 * 2 ^ (7 * k))) = (vvS s 0 (k + 1) : Int)) := vvS_or s k (by omega)
      by_cases hc : (128 : Int) ≤ (bn s k : Int)
      · go_wp2
        go_round
        case rel =>
          refine ⟨k + 1, by omega, by go_num, by rw [HO.out], ?_⟩
          intro j hj
          by_cases e : j = k
          · subst e; omega
          · exact HJ.out j (by omega)
        case measure => simp [intOf]; omega
      · by_cases hz : bn s k = 0
        · by_cases hk0 : k = 0
          · have HF : Hid (FindV s (k + 1)) := find_stop s k (by omega) (by omega) HJ.out (by omega) (.inl hk0)
            have z1 : ((bn s k : Int) == 0) = true := by simp; omega
            have z2 : (k : Int) ≤ 0 := by omega
            clear hk0 hz
            go_wp2
            go_ret2
            exact ⟨.inl ⟨k + 1, HF.out, ret_ints HO.out (by omega)⟩, rfl⟩
          · have HF : Hid (∀ m, ¬ FindV s m) := find_zero s k HJ.out hz (by omega)
            have z1 : ((bn s k : Int) == 0) = true := by simp; omega
            have z2 : (0 : Int) < (k : Int) := by omega
            clear hz
            go_wp2
            go_ret2
            exact ⟨.inr ⟨HF.out, rfl⟩, rfl⟩
        · have HF : Hid (FindV s (k + 1)) := find_stop s k (by omega) (by omega) HJ.out (by omega) (.inr hz)
          have z1 : ((bn s k : Int) == 0) = false := by simp; omega
          go_wp2
          go_ret2
          exact ⟨.inl ⟨k + 1, HF.out, ret_ints HO.out (by omega)⟩, rfl⟩
    · have HF : Hid (∀ m, ¬ FindV s m) := find_end s k HJ.out (by omega)
      go_wp2
      go_ret2
      exact ⟨.inr ⟨HF.out, rfl⟩, rfl⟩

set_option maxHeartbeats 1000000 in
theorem impl_readVar_short (s : ByteArray) (w : World) (hs : s.size ≤ 1048576) (h7 : (s.size : Int) ≤ 7) :
    Calls Tryd.prog 74 #[.string s] w fun e w' => ReadV s e ∧ w = w' := by
  have q1 : (s.size : Int) ≤ 1048576 := by omega
  have hbt := get_bn s
  go_enter Tryd.func74, Tryd.ntmps74
  go_wp2
  go_loop [4, 10] (fun v4 v10 => ∃ k : Nat, k ≤ s.size ∧ v10 = .int .i64 k ∧ v4 = .int .i64 (vvS s 0 k) ∧ Hid (∀ j, j < k → 128 ≤ bn s j)) (fun _ i => s.size - (intOf i).toNat)
  case atStart => exact ⟨0, by omega, rfl, rfl, fun j hj => absurd hj (by omega)⟩
  case round =>
    obtain ⟨k, hk, rfl, rfl, HJ⟩ := hrel
    by_cases hlt : k < s.size
    · have r1 := bn_lt s k
      have HO : Hid (bits .or .i64 (vvS s 0 k : Int) (wrap64 ((bn s k : Int) % 128 * 2 ^ (7 * k))) = (vvS s 0 (k + 1) : Int)) := vvS_or s k (by omega)
      by_cases hc : (128 : Int) ≤ (bn s k : Int)
      · go_wp2
        go_round
        case rel =>
          refine ⟨k + 1, by omega, by go_num, by rw [HO.out], ?_⟩
          intro j hj
          by_cases e : j = k
          · subst e; omega
          · exact HJ.out j (by omega)
        case measure => simp [intOf]; omega
      · by_cases hz : bn s k = 0
        · by_cases hk0 : k = 0
          · have HF : Hid (FindV s (k + 1)) := find_stop s k (by omega) (by omega) HJ.out (by omega) (.inl hk0)
            have z1 : ((bn s k : Int) == 0) = true := by simp; omega
            have z2 : (k : Int) ≤ 0 := by omega
            clear hk0 hz
            go_wp2
            go_ret2
            exact ⟨.inl ⟨k + 1, HF.out, ret_ints HO.out (by omega)⟩, rfl⟩
          · have HF : Hid (∀ m, ¬ FindV s m) := find_zero s k HJ.out hz (by omega)
            have z1 : ((bn s k : Int) == 0) = true := by simp; omega
            have z2 : (0 : Int) < (k : Int) := by omega
            clear hz
            go_wp2
            go_ret2
            exact ⟨.inr ⟨HF.out, rfl⟩, rfl⟩
        · have HF : Hid (FindV s (k + 1)) := find_stop s k (by omega) (by omega) HJ.out (by omega) (.inr hz)
          have z1 : ((bn s k : Int) == 0) = false := by simp; omega
          go_wp2
          go_ret2
          exact ⟨.inl ⟨k + 1, HF.out, ret_ints HO.out (by omega)⟩, rfl⟩
    · have HF : Hid (∀ m, ¬ FindV s m) := find_end s k HJ.out (by omega)
      go_wp2
      go_ret2
      exact ⟨.inr ⟨HF.out, rfl⟩, rfl⟩

theorem impl_readVar (s : ByteArray) (w : World) (hs : s.size ≤ 1048576) :
    Calls Tryd.prog 74 #[.string s] w fun e w' => ReadV s e ∧ w = w' := by
  by_cases h : (7 : Int) < (s.size : Int)
  · exact impl_readVar_long s w hs h
  · exact impl_readVar_short s w hs (by omega)

theorem txt_list (l : List UInt8) : (txt l).toList = l := by rw [Lib.toList_data]; simp [txt]

theorem var_eq (s : ByteArray) (k : Nat) (h1 : 1 ≤ k) (h7 : k ≤ 7) (hk : k ≤ s.size) : ((txt (vF 6 (vvS s 0 k))).toList == (s.extract 0 k).toList) = true ↔ canonS s 0 k := by
  obtain ⟨d, rfl⟩ : ∃ d, k = d + 1 := ⟨k - 1, by omega⟩
  rw [sg_extract s (d + 1) hk, txt_list, txt_list, ← canonS_iff s d 0 6 (by omega)]
  simp

end Go.Proofs.YthgiekeiljflaaaDoor

/-
  Slices of numbers: of the call's own (Nums), or that lie somewhere (NumsV); what they hold, that they hold it on, that one is appended to or written into (no program in sight, no condition).
-/
namespace Go.Proofs.YthgiekeiljflaaaDoor
open Go.RowKit Go.PlainAid

/-- The cells of a list of numbers. -/
def numCells (l : List Int) : List Value := l.map fun z => Value.int .i64 z
/-- The slice v is the call's own (its block is base or behind it), of ints, and holds l. -/
def Nums (w : World) (base : Nat) (v : Value) (l : List Int) : Prop := w.ownsRow base 3 1 v l.length (numCells l)
/-- The slice v holds l, in blocks below B. -/
def NumsV (w : World) (B : Nat) (v : Value) (l : List Int) : Prop :=
  ∃ A cap, v = .slice A l.length cap ∧ l.length ≤ cap ∧ cap ≤ maxLen ∧ ∀ j, j < l.length → ∃ g off, A = some ⟨g, off, none⟩ ∧ g < B ∧ w.cell? ⟨g, off + j, none⟩ = some (.int .i64 (l.getD j 0))
theorem Nums.nil (w : World) (base : Nat) : Nums w base (.slice none 0 0) [] := World.ownsRow_nil w base 3 1
theorem Nums.empty (w : World) (base : Nat) (hb : base ≤ w.heap.size) : Nums (w.alloc (.cells #[] 3)) base (.slice (some ⟨w.heap.size, 0, none⟩) 0 0) [] :=
  World.ownsRow_lit w #[] 0 hb (by unfold maxLen; omega) rfl
theorem Nums.one (w : World) (base : Nat) (z : Int) (hb : base ≤ w.heap.size) : Nums (w.alloc (.cells #[.int .i64 z] 3)) base (.slice (some ⟨w.heap.size, 0, none⟩) 1 1) [z] :=
  World.ownsRow_lit w #[.int .i64 z] 1 hb (by unfold maxLen; omega) rfl
theorem Nums.mono {w : World} {base base' : Nat} {v : Value} {l : List Int} (h : Nums w base v l) (hb : base' ≤ base) : Nums w base' v l :=
  ⟨h.1, h.2.imp id fun ⟨g, cap, cur, e, hg, r⟩ => ⟨g, cap, cur, e, Nat.le_trans hb hg, r⟩⟩
theorem Nums.lt {w : World} {base : Nat} {v : Value} {l : List Int} (h : Nums w base v l) : ∀ k, v.ownBlock = some k → base ≤ k ∧ k < w.heap.size := World.ownsRow.lt h
theorem Nums.kept {w w' : World} {base : Nat} {v : Value} {l : List Int} (h : Nums w base v l) (hk : ∀ g, g < w.heap.size → v.ownBlock = some g → w'.heap[g]? = w.heap[g]?) : Nums w' base v l := by
  have hl := World.ownsRow.lt h
  refine ⟨h.1, h.2.imp id ?_⟩
  rintro ⟨g, cap, cur, rfl, hg, hh, r⟩
  refine ⟨g, cap, cur, rfl, hg, ?_, r⟩
  rw [hk g (hl g rfl).2 rfl]
  exact hh
theorem Nums.on {w w' : World} {base : Nat} {v : Value} {l : List Int} (h : Nums w base v l) (hb : Below w.heap.size w w') : Nums w' base v l := h.kept fun g hg _ => hb.block g hg
theorem Nums.under {w w' : World} {base B : Nat} {v : Value} {l : List Int} (h : Nums w base v l) (hB : w.heap.size ≤ B) (hb : Below B w w') : Nums w' base v l := h.kept fun g hg _ => hb.block g (Nat.lt_of_lt_of_le hg hB)
theorem Nums.heap {w w' : World} {base : Nat} {v : Value} {l : List Int} (h : Nums w base v l) (hh : w'.heap = w.heap) : Nums w' base v l := h.kept fun g _ _ => by rw [hh]
theorem Nums.alloc {w : World} {base : Nat} {v : Value} {l : List Int} (h : Nums w base v l) (o : Obj) : Nums (w.alloc o) base v l := World.ownsRow.alloc h o
theorem Nums.other {w : World} {base : Nat} {v : Value} {l : List Int} (h : Nums w base v l) {g : Nat} (hne : v.ownBlock ≠ some g) (i : Nat) (x : Value) : Nums (w.setCell ⟨g, i, none⟩ x) base v l :=
  h.kept fun k _ hk => Below.heap_setCell _ _ _ _ (fun e => hne (by rw [hk]; exact congrArg some e))
theorem Nums.others {w w' : World} {base b : Nat} {v : Value} {l : List Int} (h : Nums w base v l) (hk : Lib.OthersKept 5 (some b) w w') (hb : v.ownBlock ≠ some b) : Nums w' base v l :=
  h.kept fun g hg ho => by
    obtain ⟨c, fz, e1⟩ := Lib.ownsRow_kind h g ho
    rw [hk g _ e1 (fun e => hb (by rw [ho]; exact e)) (fun c fz e => by cases e), e1]
/-- What such a value is. -/
theorem Nums.form {w : World} {base : Nat} {v : Value} {l : List Int} (h : Nums w base v l) : (v = .slice none 0 0 ∧ l = []) ∨ ∃ g cap, v = .slice (some ⟨g, 0, none⟩) l.length cap ∧ l.length ≤ cap ∧ cap ≤ maxLen ∧ base ≤ g ∧ g < w.heap.size := by
  have hl := World.ownsRow.lt h
  rcases h.2 with ⟨rfl, h0⟩ | ⟨g, cap, cur, rfl, hg, _, hc, hm, _⟩
  · exact .inl ⟨rfl, List.eq_nil_of_length_eq_zero h0⟩
  · exact .inr ⟨g, cap, rfl, hc, hm, hg, (hl g rfl).2⟩
theorem Nums.shape {w : World} {base : Nat} {v : Value} {l : List Int} (h : Nums w base v l) : ∃ A c, v = .slice A l.length c ∧ l.length ≤ c ∧ c ≤ maxLen := by
  rcases h.form with ⟨rfl, rfl⟩ | ⟨g, c, rfl, h1, h2, _⟩
  · exact ⟨_, _, rfl, by simp, by unfold maxLen; omega⟩
  · exact ⟨_, _, rfl, h1, h2⟩
theorem Nums.len {w : World} {base n cap : Nat} {A : Option Addr} {l : List Int} (h : Nums w base (.slice A n cap) l) : n = l.length := by
  rcases h.form with ⟨e, e2⟩ | ⟨g', c', e, _⟩
  · injection e with _ e1; rw [e1, e2]; rfl
  · injection e
theorem Nums.cell {w : World} {base g cap n : Nat} {l : List Int} (h : Nums w base (.slice (some ⟨g, 0, none⟩) n cap) l) (j : Nat) (hj : j < l.length) : w.cell? ⟨g, j, none⟩ = some (.int .i64 (l.getD j 0)) := by
  have hn := h.len
  subst hn
  rw [World.ownsRow.cellAt h j (by omega)]
  simp [numCells, hj]
theorem Nums.frozen {w : World} {base g cap n : Nat} {l : List Int} (h : Nums w base (.slice (some ⟨g, 0, none⟩) n cap) l) (j : Nat) : w.frozen? ⟨g, j, none⟩ = false := by
  have hn := h.len
  subst hn
  exact World.ownsRow.frozenAt h j
theorem Nums.stored {w : World} {base g cap n : Nat} {l : List Int} (h : Nums w base (.slice (some ⟨g, 0, none⟩) n cap) l) (j : Nat) (x : Int) :
    Nums (w.setCell ⟨g, j, none⟩ (.int .i64 x)) base (.slice (some ⟨g, 0, none⟩) n cap) (l.set j x) := by
  have hn := h.len
  subst hn
  have hs := (World.ownsRow.stored h j (.int .i64 x)).1
  unfold Nums
  rw [List.length_set, numCells, List.map_set]
  exact hs
/-- Where it holds something, it lies in a block. -/
theorem Nums.block {w : World} {base n cap : Nat} {A : Option Addr} {l : List Int} (h : Nums w base (.slice A n cap) l) (hn : 0 < l.length) : ∃ g, A = some ⟨g, 0, none⟩ ∧ base ≤ g ∧ g < w.heap.size := by
  rcases h.form with ⟨e, e2⟩ | ⟨g', c', e, _, _, h3, h4⟩
  · rw [e2] at hn; simp at hn
  · injection e with e1; exact ⟨g', e1, h3, h4⟩
theorem Nums.lies {w : World} {base : Nat} {v : Value} {l : List Int} (h : Nums w base v l) : NumsV w w.heap.size v l := by
  rcases h.form with ⟨rfl, rfl⟩ | ⟨g, c, rfl, h1, h2, h3, h4⟩
  · exact ⟨none, 0, rfl, Nat.zero_le _, by unfold maxLen; omega, fun j hj => by simp at hj⟩
  · exact ⟨_, c, rfl, h1, h2, fun j hj => ⟨g, 0, rfl, h4, by rw [Nat.zero_add]; exact h.cell j hj⟩⟩
theorem NumsV.on {w w' : World} {B : Nat} {v : Value} {l : List Int} (h : NumsV w B v l) (hb : Below B w w') : NumsV w' B v l := by
  obtain ⟨A, cap, rfl, h1, h2, h3⟩ := h
  refine ⟨A, cap, rfl, h1, h2, fun j hj => ?_⟩
  obtain ⟨g, off, rfl, hg, hc⟩ := h3 j hj
  exact ⟨g, off, rfl, hg, by rw [hb.cell (p := ⟨_, _, none⟩) hg]; exact hc⟩
theorem NumsV.mono {w : World} {B C : Nat} {v : Value} {l : List Int} (h : NumsV w B v l) (hB : B ≤ C) : NumsV w C v l := by
  obtain ⟨A, cap, rfl, h1, h2, h3⟩ := h
  refine ⟨A, cap, rfl, h1, h2, fun j hj => ?_⟩
  obtain ⟨g, off, rfl, hg, hc⟩ := h3 j hj
  exact ⟨g, off, rfl, Nat.lt_of_lt_of_le hg hB, hc⟩
theorem NumsV.heap {w w' : World} {B : Nat} {v : Value} {l : List Int} (h : NumsV w B v l) (hh : w'.heap = w.heap) : NumsV w' B v l := by
  obtain ⟨A, cap, rfl, h1, h2, h3⟩ := h
  refine ⟨A, cap, rfl, h1, h2, fun j hj => ?_⟩
  obtain ⟨g, off, rfl, hg, hc⟩ := h3 j hj
  exact ⟨g, off, rfl, hg, by unfold World.cell? at *; rw [hh]; exact hc⟩
/-- Where it holds something, it lies in a block; and its cells stay where nothing below B is written. -/
theorem NumsV.full {w : World} {B : Nat} {v : Value} {l : List Int} (h : NumsV w B v l) (hn : 0 < l.length) : ∃ g off cap, v = .slice (some ⟨g, off, none⟩) l.length cap ∧ l.length ≤ cap ∧ cap ≤ maxLen ∧ g < B ∧ ∀ wx, Below B w wx → ∀ j, j < l.length → wx.cell? ⟨g, off + j, none⟩ = some (.int .i64 (l.getD j 0)) := by
  obtain ⟨A, cap, rfl, h1, h2, h3⟩ := h
  obtain ⟨g, off, rfl, hg, _⟩ := h3 0 hn
  refine ⟨g, off, cap, rfl, h1, h2, hg, fun wx hx j hj => ?_⟩
  obtain ⟨g', off', e, _, hc⟩ := h3 j hj
  injection e with e
  injection e with e1 e2
  subst e1
  subst e2
  rw [hx.cell (p := ⟨_, _, none⟩) hg]
  exact hc
theorem getD_set_same (l : List Int) (j : Nat) (x : Int) (h : j < l.length) : (l.set j x).getD j 0 = x := by simp [List.getD, h]
theorem getD_set_ne (l : List Int) (j k : Nat) (x : Int) (h : j ≠ k) : (l.set j x).getD k 0 = l.getD k 0 := by simp [List.getD, List.getElem?_set_ne h]
/-- Two lists of one length that hold the same are one. -/
theorem nums_ext {l m : List Int} (h : l.length = m.length) (hj : ∀ j, j < l.length → l.getD j 0 = m.getD j 0) : l = m := by
  apply List.ext_getElem h
  intro j h1 h2
  have := hj j h1
  simpa [List.getD, h1, h2] using this
theorem take_num (l : List Int) (k : Nat) (h : k < l.length) : l.take (k + 1) = l.take k ++ [l.getD k 0] := by
  rw [List.take_succ_eq_append_getElem h]
  simp [List.getD, h]
/-- One number more is right. -/
theorem fill_num (done : List Int) (r : Int) (n k : Nat) (hk : done.length = k) (hn : k < n) : (done ++ List.replicate (n - k) 0).set k r = (done ++ [r]) ++ List.replicate (n - (k + 1)) 0 := by
  obtain ⟨m, rfl⟩ : ∃ m, n = k + 1 + m := ⟨n - (k + 1), by omega⟩
  rw [show k + 1 + m - k = m + 1 by omega, show k + 1 + m - (k + 1) = m by omega, List.set_append_right _ _ (by omega), hk, Nat.sub_self, List.replicate_succ, List.set_cons_zero]
  simp

/-- 'append(out, x)' of a number, all else kept. -/
theorem wpList_append_num {P : Program} {w : World} {ops : Array Oper} {rest : List Oper} {o : Oper} {a : Act} {Q : Exit → Act → World → Prop} (hgd : o.guard = none) (s x : Operand) (t : TypeId)
    (ho : o.op = .call { callee := .builtin .append, args := #[s, x], argTypes := #[t, t] })
    (ht : P.underlying t = some (.slice 3)) (hinfo : (P.info? 3).map (fun i => (i.zero, i.size, i.bytes)) = some (some (.int .i64 0), 1, 8))
    (base : Nat) (v : Value) (l : List Int) (hs : a.eval s = v) (hown : Nums w base v l) (z : Int)
    (hx : a.eval x = .slice (some ⟨w.heap.size, 0, none⟩) 1 1) (hlen : l.length ≤ 2097152) (hbase : base ≤ w.heap.size)
    (h : ∀ v' w', Nums w' base v' (l ++ [z]) → Below base w w' → (∀ g, g < w.heap.size → v.ownBlock ≠ some g → w'.heap[g]? = w.heap[g]?) → wpList P ops Q rest (a.put o.dst v') w') : wpList P ops Q (o :: rest) a (w.alloc (.cells #[.int .i64 z] 3)) := by
  obtain ⟨i0, hi, hz0, hz1, hz2⟩ := info_parts hinfo
  refine wpList_append_own (w := w.alloc (.cells #[.int .i64 z] 3)) hgd s x t ho base 3 i0 (.int .i64 0) 1 8 ht hi hz0 hz1 hz2 rfl (by decide) v l.length (numCells l) hs (hown.alloc _) ⟨w.heap.size, 0, none⟩ 1 1 [.int .i64 z] hx rfl ?_ ?_ ?_ ?_ ?_ ?_
  · intro j u hj
    have e : (⟨w.heap.size, 0, none⟩ : Addr).add j = ⟨w.heap.size, j, none⟩ := by cases j <;> simp [Addr.add]
    rw [e, World.cell?_alloc_mark]
    simpa using hj
  · intro u hu
    simp at hu
    subst hu
    rfl
  · unfold maxLen; omega
  · omega
  · simp; omega
  · intro v' w' h1 h2 _
    have hb0 : ∀ k, v.ownBlock = some k → base ≤ k := fun k hk => (World.ownsRow.lt hown k hk).1
    refine h v' w' ?_ ?_ ?_
    · unfold Nums
      rw [List.length_append, numCells, List.map_append]
      exact h1
    · exact ((Below.refl base w).alloc hbase _).grown h2 (by simp; omega) hb0
    · intro g hg hne
      rw [h2.block g (by simp; omega) (fun e => hne e.symm)]
      exact Below.heap_alloc w _ g hg

/-! ### Marks -/
/-- n marks from k on. -/
def nmarks (k n : Nat) : List Int := (List.range n).map fun j => ((k + j : Nat) : Int)
theorem nmarks_length (k n : Nat) : (nmarks k n).length = n := by simp [nmarks]
theorem nmarks_get (k n j : Nat) (h : j < n) : (nmarks k n).getD j 0 = ((k + j : Nat) : Int) := by simp [nmarks, List.getD, h]
/-- The list behind j of its places marked. -/
def nmarked (k : Nat) (l : List Int) (j : Nat) : List Int := nmarks k j ++ l.drop j
theorem nmarked_zero (k : Nat) (l : List Int) : nmarked k l 0 = l := by simp [nmarked, nmarks]
theorem nmarked_length (k : Nat) (l : List Int) (j : Nat) (h : j ≤ l.length) : (nmarked k l j).length = l.length := by
  simp [nmarked, nmarks_length]
  omega
theorem nmarked_set (k : Nat) (l : List Int) (j : Nat) (h : j < l.length) : (nmarked k l j).set j ((k + j : Nat) : Int) = nmarked k l (j + 1) := by
  unfold nmarked
  rw [List.set_append_right _ _ (by rw [nmarks_length]; omega), nmarks_length, Nat.sub_self, List.drop_eq_getElem_cons h, List.set_cons_zero]
  unfold nmarks
  rw [List.range_succ, List.map_append]
  simp
theorem nmarked_all (k : Nat) (l : List Int) : nmarked k l l.length = nmarks k l.length := by simp [nmarked]
end Go.Proofs.YthgiekeiljflaaaDoor

/-
  Worlds that are alike but for the count of draws (no program in sight, no condition).
-/
namespace Go.Proofs.YthgiekeiljflaaaDoor
open Go.RowKit

theorem cell?_heap {w w' : World} (h : w'.heap = w.heap) (a : Addr) : w'.cell? a = w.cell? a := by
  unfold World.cell?
  rw [h]
theorem below_heap {w w' : World} (h1 : w'.heap = w.heap) (h2 : w'.os = w.os) (h3 : w'.tape = w.tape) (h4 : w'.output = w.output) : Below w.heap.size w w' := ⟨h2, h3, h4, by rw [h1]; exact Nat.le_refl _, fun k _ => by rw [h1]⟩
/-- As w, but for the count of draws. -/
def Like (w w' : World) : Prop := w'.heap = w.heap ∧ w'.os = w.os ∧ w'.tape = w.tape ∧ w'.output = w.output
theorem Like.refl (w : World) : Like w w := ⟨rfl, rfl, rfl, rfl⟩
theorem Like.drewN {w w' : World} (h : Like w w') (n : Nat) : Like w (w'.drewN n) := h
theorem Like.below {w w' : World} (h : Like w w') : Below w.heap.size w w' := below_heap h.1 h.2.1 h.2.2.1 h.2.2.2
end Go.Proofs.YthgiekeiljflaaaDoor

/-
  Contracts of the laws' own helpers over slices of numbers: toIntS, eqIntS, markIntS, heldIntS (no condition but that the slices are short).
-/
namespace Go.Proofs.YthgiekeiljflaaaDoor
open Go.ChangeShapes Go.WideShapes Go.ChangeAt Go.RowKit Go.PlainAid
set_option linter.unusedVariables false

theorem Tryd.infoInt : (Tryd.prog.info? 3).map (fun i => (i.zero, i.size, i.bytes)) = some (some (.int .i64 0), 1, 8) := by kernel_rfl
theorem num_made (n : Nat) : madeCells #[.int .i64 0] (n * 1) = (numCells (List.replicate n 0)).toArray := by
  apply Array.ext'
  rw [List.toList_toArray]
  apply List.ext_getElem?
  intro k
  by_cases hk : k < n
  · simp [madeCells, numCells, hk, Nat.mod_one]
  · simp [madeCells, numCells, hk]
end Go.Proofs.YthgiekeiljflaaaDoor

/-
  What ZigZag and UnZig answer, and that both packages' do; the two laws.
-/
namespace Go.Proofs.YthgiekeiljflaaaDoor
open Go.ChangeShapes Go.WideShapes Go.ChangeAt Go.RowKit Go.PlainAid
set_option linter.unusedVariables false

/-- What ZigZag answers. -/
def zig (n : Int) : Int := if n < -140737488355328 ∨ 140737488355328 < n then -1 else if n < 0 then -2 * n - 1 else 2 * n
/-- The number that UnZig answers. -/
def unz (z : Int) : Int := if z < 0 ∨ 281474976710656 < z then 0 else if z % 2 = 1 then -((z + 1) / 2) else z / 2
/-- Whether there is one. -/
def zok (z : Int) : Bool := decide (0 ≤ z ∧ z ≤ 281474976710656)
theorem zig_range (n : Int) : -1 ≤ zig n ∧ zig n ≤ 281474976710656 := by unfold zig; (repeat' split) <;> omega
theorem zig_pos (n : Int) (h1 : -140737488355328 ≤ n) (h2 : n ≤ 140737488355328) : 0 ≤ zig n := by unfold zig; (repeat' split) <;> omega
theorem unz_range (z : Int) : -140737488355328 ≤ unz z ∧ unz z ≤ 140737488355328 := by unfold unz; (repeat' split) <;> omega
theorem unz_zig (n : Int) (h1 : -140737488355328 ≤ n) (h2 : n ≤ 140737488355328) : unz (zig n) = n := by
  unfold zig
  rw [if_neg (by omega)]
  by_cases h : n < 0
  · rw [if_pos h]; unfold unz; rw [if_neg (by omega), if_pos (by omega)]; omega
  · rw [if_neg h]; unfold unz; rw [if_neg (by omega), if_neg (by omega)]; omega
theorem zig_unz (z : Int) (h1 : 0 ≤ z) (h2 : z ≤ 281474976710656) : zig (unz z) = z := by
  unfold unz
  rw [if_neg (by omega)]
  by_cases h : z % 2 = 1
  · rw [if_pos h]; unfold zig; rw [if_neg (by omega), if_pos (by omega)]; omega
  · rw [if_neg h]; unfold zig; rw [if_neg (by omega), if_neg (by omega)]; omega

set_option maxHeartbeats 400000 in
theorem impl_zig (n : Int) (w : World) (hn1 : -9223372036854775808 ≤ n) (hn2 : n ≤ 9223372036854775807) : Calls Tryd.prog 89 #[.int .i64 n] w fun e w' => e = .returned (.int .i64 (zig n)) ∧ w = w' := by
  by_cases h1 : n < -140737488355328
  · have e : zig n = -1 := by unfold zig; rw [if_pos (by omega)]
    rw [e]
    go_enter Tryd.func89, Tryd.ntmps89
    go_wp2
    go_ret
    exact ⟨rfl, rfl⟩
  by_cases h2 : 140737488355328 < n
  · have e : zig n = -1 := by unfold zig; rw [if_pos (by omega)]
    rw [e]
    go_enter Tryd.func89, Tryd.ntmps89
    go_wp2
    go_ret
    exact ⟨rfl, rfl⟩
  by_cases h3 : n < 0
  · have e : zig n = -2 * n - 1 := by unfold zig; rw [if_neg (by omega), if_pos h3]
    rw [e]
    go_enter Tryd.func89, Tryd.ntmps89
    go_wp2
    go_ret
    exact ⟨by go_num, rfl⟩
  · have e : zig n = 2 * n := by unfold zig; rw [if_neg (by omega), if_neg h3]
    rw [e]
    go_enter Tryd.func89, Tryd.ntmps89
    go_wp2
    go_ret
    exact ⟨by go_num, rfl⟩

set_option maxHeartbeats 400000 in
theorem spec_zig (n : Int) (w : World) (hn1 : -9223372036854775808 ≤ n) (hn2 : n ≤ 9223372036854775807) : Calls Tryd.prog 79 #[.int .i64 n] w fun e w' => e = .returned (.int .i64 (zig n)) ∧ w = w' := by
  by_cases h1 : n < -140737488355328 ∨ 140737488355328 < n
  · have e : zig n = -1 := by unfold zig; rw [if_pos h1]
    rw [e]
    have c := fun wx => in_no n (-140737488355328) 140737488355328 wx h1
    go_enter Tryd.func79, Tryd.ntmps79
    go_wp2_with (go_at_call 59; refine (c _).mono ?_; rintro e w' ⟨rfl, rfl⟩)
    go_ret
    exact ⟨rfl, rfl⟩
  have c := fun wx => in_yes n (-140737488355328) 140737488355328 wx (by omega) (by omega)
  by_cases h3 : n < 0
  · have e : zig n = -2 * n - 1 := by unfold zig; rw [if_neg (by omega), if_pos h3]
    rw [e]
    have q1 : -140737488355328 ≤ n := by omega
    clear h1
    go_enter Tryd.func79, Tryd.ntmps79
    go_wp2_with (go_at_call 59; refine (c _).mono ?_; rintro e w' ⟨rfl, rfl⟩)
    go_ret
    exact ⟨by go_num, rfl⟩
  · have e : zig n = 2 * n := by unfold zig; rw [if_neg (by omega), if_neg h3]
    rw [e]
    have q1 : n ≤ 140737488355328 := by omega
    clear h1
    go_enter Tryd.func79, Tryd.ntmps79
    go_wp2_with (go_at_call 59; refine (c _).mono ?_; rintro e w' ⟨rfl, rfl⟩)
    go_ret
    exact ⟨by go_num, rfl⟩

set_option maxHeartbeats 400000 in
theorem impl_unz (z : Int) (w : World) (hn1 : -9223372036854775808 ≤ z) (hn2 : z ≤ 9223372036854775807) : Calls Tryd.prog 100 #[.int .i64 z] w fun e w' => e = .returned (.tuple #[.int .i64 (unz z), .bool (zok z)]) ∧ w = w' := by
  by_cases h1 : z < 0
  · have e : unz z = 0 := by unfold unz; rw [if_pos (by omega)]
    have e2 : zok z = false := by unfold zok; exact decide_eq_false (by omega)
    rw [e, e2]
    go_enter Tryd.func100, Tryd.ntmps100
    go_wp2
    go_ret2
    exact ⟨rfl, rfl⟩
  by_cases h2 : 281474976710656 < z
  · have e : unz z = 0 := by unfold unz; rw [if_pos (by omega)]
    have e2 : zok z = false := by unfold zok; exact decide_eq_false (by omega)
    rw [e, e2]
    go_enter Tryd.func100, Tryd.ntmps100
    go_wp2
    go_ret2
    exact ⟨rfl, rfl⟩
  have e2 : zok z = true := by unfold zok; exact decide_eq_true (by omega)
  have q0 : 0 ≤ z := by omega
  by_cases h3 : z % 2 = 1
  · have e : unz z = -((z + 1) / 2) := by unfold unz; rw [if_neg (by omega), if_pos h3]
    have d1 : Int.tdiv (-(z + 1)) 2 = -((z + 1) / 2) := by rw [Int.neg_tdiv, Int.tdiv_eq_ediv_of_nonneg (by omega)]
    rw [e, e2]
    have d2 : wrap64 (-(z + 1)) = -(z + 1) := by unfold wrap64; omega
    go_enter Tryd.func100, Tryd.ntmps100
    go_wp2
    go_ret2
    exact ⟨by go_num, rfl⟩
  · have e : unz z = z / 2 := by unfold unz; rw [if_neg (by omega), if_neg h3]
    rw [e, e2]
    go_enter Tryd.func100, Tryd.ntmps100
    go_wp2
    go_ret2
    exact ⟨by go_num, rfl⟩

end Go.Proofs.YthgiekeiljflaaaDoor

/-
  Rows of numbers as plain data: what is right, and what they are shown as (no program in sight, no condition).
-/
namespace Go.Proofs.YthgiekeiljflaaaDoor
open Go.RowKit Go.PlainAid

/-- The number ahead of place k; 0 ahead of the first. -/
def prv (l : List Int) (k : Nat) : Int := if k = 0 then 0 else l.getD (k - 1) 0
/-- How much the number at place k is above the one ahead of it. -/
def dif (l : List Int) (k : Nat) : Int := l.getD k 0 - prv l k
theorem prv_zero (l : List Int) : prv l 0 = 0 := rfl
theorem prv_succ (l : List Int) (k : Nat) : prv l (k + 1) = l.getD k 0 := by simp [prv]
/-- What is shown at place i of a row of values. -/
def vPiece (l : List Int) (i : Nat) : List UInt8 := vF 6 (zig (dif l i)).toNat
/-- The number that is shown at place i of a row of times. -/
def turn (l : List Int) (i : Nat) : Int := if i ≤ 1 then dif l i else zig (dif l i - dif l (i - 1))
def tPiece (l : List Int) (i : Nat) : List UInt8 := vF 6 (turn l i).toNat
/-- k pieces, one behind the other. -/
def cat (f : Nat → List UInt8) (k : Nat) : List UInt8 := (List.range k).flatMap f
theorem cat_zero (f : Nat → List UInt8) : cat f 0 = [] := rfl
theorem cat_succ (f : Nat → List UInt8) (k : Nat) : cat f (k + 1) = cat f k ++ f k := by simp [cat, List.range_succ, List.flatMap_append]
theorem cat_length (f : Nat → List UInt8) (hf : ∀ i, (f i).length ≤ 7) (k : Nat) : (cat f k).length ≤ 7 * k := by
  induction k with
  | zero => simp [cat_zero]
  | succ k ih => rw [cat_succ, List.length_append]; have := hf k; omega
theorem vPiece_length (l : List Int) (i : Nat) : (vPiece l i).length ≤ 7 := by have := vF_length 6 (zig (dif l i)).toNat; unfold vPiece; omega
theorem tPiece_length (l : List Int) (i : Nat) : (tPiece l i).length ≤ 7 := by have := vF_length 6 (turn l i).toNat; unfold tPiece; omega

/-- A right row of values. -/
def VOk (l : List Int) : Prop := 1 ≤ l.length ∧ l.length ≤ 60 ∧ ∀ j, j < l.length → -1099511627776 ≤ l.getD j 0 ∧ l.getD j 0 ≤ 1099511627776
instance (l : List Int) : Decidable (VOk l) := by unfold VOk; infer_instance
/-- A right row of times. -/
def TOk (l : List Int) : Prop := 1 ≤ l.length ∧ l.length ≤ 60 ∧ ∀ j, j < l.length → (0 ≤ l.getD j 0 ∧ l.getD j 0 ≤ 1099511627776) ∧ (0 < j → l.getD (j - 1) 0 < l.getD j 0)
instance (l : List Int) : Decidable (TOk l) := by unfold TOk; infer_instance
/-- What ShowValues answers. -/
def showV (l : List Int) : ByteArray := if VOk l then txt (cat (vPiece l) l.length) else txt []
/-- What ShowTimes answers. -/
def showT (l : List Int) : ByteArray := if TOk l then txt (cat (tPiece l) l.length) else txt []
theorem VOk.prv {l : List Int} (h : VOk l) (j : Nat) (hj : j ≤ l.length) : -1099511627776 ≤ prv l j ∧ prv l j ≤ 1099511627776 := by
  unfold Go.Proofs.YthgiekeiljflaaaDoor.prv
  split
  · omega
  · exact h.2.2 (j - 1) (by omega)
theorem VOk.dif {l : List Int} (h : VOk l) (j : Nat) (hj : j < l.length) : -2199023255552 ≤ dif l j ∧ dif l j ≤ 2199023255552 := by
  have h1 := h.prv j (by omega)
  have h2 := h.2.2 j hj
  unfold Go.Proofs.YthgiekeiljflaaaDoor.dif
  omega
theorem TOk.prv {l : List Int} (h : TOk l) (j : Nat) (hj : j ≤ l.length) : 0 ≤ prv l j ∧ prv l j ≤ 1099511627776 := by
  unfold Go.Proofs.YthgiekeiljflaaaDoor.prv
  split
  · omega
  · exact (h.2.2 (j - 1) (by omega)).1
theorem TOk.dif {l : List Int} (h : TOk l) (j : Nat) (hj : j < l.length) : 0 ≤ dif l j ∧ dif l j ≤ 1099511627776 := by
  have h1 := h.prv j (by omega)
  have h2 := h.2.2 j hj
  unfold Go.Proofs.YthgiekeiljflaaaDoor.dif
  refine ⟨?_, by omega⟩
  unfold Go.Proofs.YthgiekeiljflaaaDoor.prv
  split
  · omega
  · have := h2.2 (by omega)
    omega
theorem TOk.turn {l : List Int} (h : TOk l) (j : Nat) (hj : j < l.length) : 0 ≤ turn l j ∧ turn l j ≤ 281474976710656 := by
  unfold Go.Proofs.YthgiekeiljflaaaDoor.turn
  have h1 := h.dif j hj
  split
  · omega
  · have h2 := h.dif (j - 1) (by omega)
    exact ⟨zig_pos _ (by omega) (by omega), (zig_range _).2⟩
end Go.Proofs.YthgiekeiljflaaaDoor

/-
  The numbers with whose Vars a text begins, as plain data; contracts of impl.readVars and spec.l7Vars.
-/
namespace Go.Proofs.YthgiekeiljflaaaDoor
open Go.ChangeShapes Go.WideShapes Go.ChangeAt Go.RowKit Go.PlainAid
set_option linter.unusedVariables false

/-- The text s begins with the Vars of the k numbers l, in n bytes. -/
def Rd (s : ByteArray) : Nat → List Int → Nat → Prop
  | 0, l, n => l = [] ∧ n = 0
  | k + 1, l, n => ∃ l' n' m, Rd s k l' n' ∧ FindV (s.extract n' s.size) m ∧ l = l' ++ [(vvS (s.extract n' s.size) 0 m : Int)] ∧ n = n' + m
/-- It begins with less than k. -/
def RdNo (s : ByteArray) (k : Nat) : Prop := ∃ j l n, j < k ∧ Rd s j l n ∧ ∀ m, ¬ FindV (s.extract n s.size) m
theorem Rd.one {s : ByteArray} : ∀ {k : Nat} {l l' : List Int} {n n' : Nat}, Rd s k l n → Rd s k l' n' → l = l' ∧ n = n'
  | 0, _, _, _, _, h, h' => ⟨h.1.trans h'.1.symm, h.2.trans h'.2.symm⟩
  | k + 1, _, _, _, _, ⟨a, b, m, h1, h2, h3, h4⟩, ⟨a', b', m', h1', h2', h3', h4'⟩ => by
    obtain ⟨rfl, rfl⟩ := Rd.one h1 h1'
    have := h2.one h2'
    subst this
    exact ⟨h3.trans h3'.symm, h4.trans h4'.symm⟩
theorem Rd.before {s : ByteArray} : ∀ {k : Nat} {l : List Int} {n : Nat}, Rd s k l n → ∀ j, j < k → ∃ l' n' m, Rd s j l' n' ∧ FindV (s.extract n' s.size) m
  | 0, _, _, _, j, hj => by omega
  | k + 1, _, _, ⟨a, b, m, h1, h2, h3, h4⟩, j, hj => by
    by_cases e : j = k
    · subst e; exact ⟨a, b, m, h1, h2⟩
    · exact Rd.before h1 j (by omega)
theorem Rd.no {s : ByteArray} {k : Nat} {l : List Int} {n : Nat} (h : Rd s k l n) : ¬ RdNo s k := by
  rintro ⟨j, l', n', hj, h1, h2⟩
  obtain ⟨l2, n2, m, h3, h4⟩ := h.before j hj
  obtain ⟨rfl, rfl⟩ := h1.one h3
  exact h2 m h4
theorem Rd.length {s : ByteArray} : ∀ {k : Nat} {l : List Int} {n : Nat}, Rd s k l n → l.length = k
  | 0, _, _, h => by rw [h.1]; rfl
  | k + 1, _, _, ⟨a, b, m, h1, h2, h3, h4⟩ => by rw [h3, List.length_append, Rd.length h1]; rfl
theorem Rd.le {s : ByteArray} : ∀ {k : Nat} {l : List Int} {n : Nat}, Rd s k l n → k ≤ n ∧ n ≤ s.size
  | 0, _, _, h => by rw [h.2]; omega
  | k + 1, _, _, ⟨a, b, m, h1, h2, h3, h4⟩ => by
    have h5 := Rd.le h1
    obtain ⟨h6, h7, h8, _⟩ := h2
    rw [ByteArray.size_extract] at h8
    omega
theorem Rd.bound {s : ByteArray} : ∀ {k : Nat} {l : List Int} {n : Nat}, Rd s k l n → ∀ z ∈ l, 0 ≤ z ∧ z ≤ 562949953421311
  | 0, _, _, h, z, hz => by rw [h.1] at hz; cases hz
  | k + 1, _, _, ⟨a, b, m, h1, h2, h3, h4⟩, z, hz => by
    rw [h3] at hz
    rcases List.mem_append.1 hz with hz | hz
    · exact Rd.bound h1 z hz
    · simp at hz
      have := vvS_le (s.extract b s.size) m h2.2.1 0
      omega
theorem Rd.boundD {s : ByteArray} {k : Nat} {l : List Int} {n : Nat} (h : Rd s k l n) (j : Nat) : 0 ≤ l.getD j 0 ∧ l.getD j 0 ≤ 562949953421311 := by
  by_cases hj : j < l.length
  · refine h.bound _ ?_
    simp [List.getD, hj]
  · simp [List.getD, hj]

set_option maxHeartbeats 1000000 in
theorem implReadVars (s : ByteArray) (k0 : Nat) (w : World) (hs : s.size ≤ 1048576) (h1 : 1 ≤ k0) (h2 : k0 ≤ 60) :
    Calls Tryd.prog 95 #[.string s, .int .i64 (k0 : Int)] w fun e w' => ((∃ l n u, Rd s k0 l n ∧ e = .returned (.tuple #[u, .int .i64 (n : Int)]) ∧ Nums w' w.heap.size u l) ∨ (RdNo s k0 ∧ e = .returned (.tuple #[.slice none 0 0, .int .i64 0]))) ∧ Below w.heap.size w w' := by
  have q1 : (1 : Int) ≤ (k0 : Int) := by omega
  have q2 : (k0 : Int) ≤ 60 := by omega
  have HS : Hid (s.size ≤ 1048576) := hs
  have q3 : (s.size : Int) ≤ 1048576 := by omega
  clear hs
  go_enter Tryd.func95, Tryd.ntmps95
  go_wp2_with fail
  go_loopw [6, 7, 17] (fun v6 v7 v17 wr => ∃ (k n : Nat) (l : List Int), k ≤ k0 ∧ n ≤ s.size ∧ v17 = .int .i64 (k : Int) ∧ v7 = .int .i64 (n : Int) ∧ Hid (Rd s k l n) ∧ Nums wr w.heap.size v6 l ∧ Below w.heap.size w wr) (fun _ _ i _ => k0 - (intOf i).toNat)
  case atStart => exact ⟨0, 0, [], by omega, by omega, rfl, rfl, ⟨rfl, rfl⟩, Nums.nil _ _, Below.refl _ _⟩
  case round =>
    obtain ⟨k, n, l, hk, hns, rfl, rfl, HR, hN, hb⟩ := hrel
    have HN : Hid (Nums wr w.heap.size _ l) := hN
    obtain ⟨A, c, rfl, _, _⟩ := hN.shape
    have HB : Hid (Below w.heap.size w wr) := hb
    have hln := HR.out.length
    have HLN : Hid (l.length ≤ 2097152) := by unfold Hid; omega
    clear hN hb
    by_cases hlt : k < k0
    · have q4 : (k : Int) < (k0 : Int) := by omega
      have q5 : (n : Int) ≤ (s.size : Int) := by omega
      have hsx : (s.extract n s.size).size ≤ 1048576 := by rw [ByteArray.size_extract]; have := HS.out; omega
      have c := fun wx => impl_readVar (s.extract n s.size) wx hsx
      have HX : Hid (∀ m, FindV (s.extract n s.size) m → m ≤ s.size - n) := fun m hm => by have := hm.2.2.1; rw [ByteArray.size_extract] at this; omega
      clear hsx hln
      go_wp2_with fail
      refine (c _).mono ?_
      generalize hsx' : s.extract n s.size = sx at *
      have HSX : Hid (s.extract n s.size = sx) := hsx'
      clear hsx'
      rintro e w1 ⟨hR, rfl⟩
      rcases hR with ⟨m, hm, rfl⟩ | ⟨hno, rfl⟩
      · have hmx := HX.out m hm
        have hm1 := hm.1
        have hm7 := hm.2.1
        have q6 : (m : Int) ≤ 7 := by omega
        have q7 : (1 : Int) ≤ (m : Int) := by omega
        have q8 : ¬ (m : Int) = 0 := by omega
        have q9 : ¬ m = 0 := by omega
        have HM : Hid (FindV sx m) := hm
        have HZ : Hid (w.heap.size ≤ wr.heap.size) := HB.out.size
        generalize hz : (vvS sx 0 m : Int) = z at *
        have HR2 : Hid (Rd s (k + 1) (l ++ [z]) (n + m)) := by
          refine ⟨l, n, m, HR.out, ?_, ?_, rfl⟩
          · rw [HSX.out]; exact HM.out
          · rw [HSX.out, hz]
        clear hz hm
        go_wp2_with (at_builtin; refine wpList_append_num rfl (.tmp 28) (.tmp 30) 98 rfl Tryd.underlying98 Tryd.infoInt w.heap.size _ l rfl HN.out z rfl HLN.out HZ.out ?_; intro v' w1 hN1 hb1 hk1)
        go_roundw
        case rel => exact ⟨k + 1, n + m, l ++ [z], by omega, by omega, by go_num, by go_num, HR2, hN1, HB.out.trans hb1⟩
        case measure => simp [intOf]; omega
      · have HNO : Hid (RdNo s k0) := ⟨k, l, n, hlt, HR.out, by rw [HSX.out]; exact hno⟩
        clear hno
        go_wp2_with fail
        go_ret2
        exact ⟨.inr ⟨HNO.out, rfl⟩, HB.out⟩
    · obtain rfl : k = k0 := by omega
      go_wp2_with fail
      go_ret2
      exact ⟨.inl ⟨l, n, _, HR.out, rfl, HN.out⟩, HB.out⟩

set_option maxHeartbeats 1000000 in
theorem implReadVars_no (s : ByteArray) (n : Int) (w : World) (h : n < 1 ∨ 60 < n) : Calls Tryd.prog 95 #[.string s, .int .i64 n] w fun e w' => e = .returned (.tuple #[.slice none 0 0, .int .i64 0]) ∧ w = w' := by
  by_cases h1 : n < 1
  · go_enter Tryd.func95, Tryd.ntmps95
    go_wp2_with fail
    go_ret2
    exact ⟨rfl, rfl⟩
  · have h2 : 60 < n := by omega
    clear h
    go_enter Tryd.func95, Tryd.ntmps95
    go_wp2_with fail
    go_ret2
    exact ⟨rfl, rfl⟩

end Go.Proofs.YthgiekeiljflaaaDoor

/-
  Rows that are changed in their place: contracts of impl.unzigAll and impl.addUp.
-/
namespace Go.Proofs.YthgiekeiljflaaaDoor
open Go.ChangeShapes Go.WideShapes Go.ChangeAt Go.RowKit Go.PlainAid
set_option linter.unusedVariables false

/-- The first m numbers by f, the others as they were. -/
def mix (f : Nat → Int) (v : List Int) (m : Nat) : List Int := (List.range v.length).map fun i => if i < m then f i else v.getD i 0
theorem mix_length (f : Nat → Int) (v : List Int) (m : Nat) : (mix f v m).length = v.length := by simp [mix]
theorem mix_get (f : Nat → Int) (v : List Int) (m j : Nat) (h : j < v.length) : (mix f v m).getD j 0 = if j < m then f j else v.getD j 0 := by
  unfold mix
  rw [List.getD_eq_getElem?_getD, List.getElem?_map, List.getElem?_range h]
  rfl
theorem mix_set (f : Nat → Int) (v : List Int) (m : Nat) (h : m < v.length) : (mix f v m).set m (f m) = mix f v (m + 1) := by
  apply nums_ext
  · rw [List.length_set, mix_length, mix_length]
  · intro j hj
    rw [List.length_set, mix_length] at hj
    rw [mix_get f v (m + 1) j hj]
    by_cases e : m = j
    · subst e
      rw [getD_set_same _ _ _ (by rw [mix_length]; exact h), if_pos (by omega)]
    · rw [getD_set_ne _ _ _ _ e, mix_get f v m j hj]
      by_cases h2 : j < m
      · rw [if_pos h2, if_pos (by omega)]
      · rw [if_neg h2, if_neg (by omega)]
theorem mix_start (f : Nat → Int) (v : List Int) (m : Nat) (h : ∀ i, i < m → i < v.length → f i = v.getD i 0) : mix f v m = v := by
  apply nums_ext
  · rw [mix_length]
  · intro j hj
    rw [mix_length] at hj
    rw [mix_get f v m j hj]
    split
    · exact h j (by assumption) hj
    · rfl
/-- All n numbers by f. -/
def rowOf (f : Nat → Int) (n : Nat) : List Int := (List.range n).map f
theorem rowOf_length (f : Nat → Int) (n : Nat) : (rowOf f n).length = n := by simp [rowOf]
theorem rowOf_get (f : Nat → Int) (n j : Nat) (h : j < n) : (rowOf f n).getD j 0 = f j := by simp [rowOf, List.getD, h]
theorem rowOf_succ (f : Nat → Int) (n : Nat) : rowOf f (n + 1) = rowOf f n ++ [f n] := by simp [rowOf, List.range_succ]
theorem mix_all (f : Nat → Int) (v : List Int) (m : Nat) (h : v.length ≤ m) : mix f v m = rowOf f v.length := by
  apply nums_ext
  · rw [mix_length, rowOf_length]
  · intro j hj
    rw [mix_length] at hj
    rw [mix_get f v m j hj, rowOf_get f _ j hj, if_pos (by omega)]
/-- What unzigAll of the numbers from place off on leaves. -/
def uzF (off : Nat) (v : List Int) (i : Nat) : Int := if off ≤ i then unz (v.getD i 0) else v.getD i 0
/-- What addUp of the numbers from place off on leaves. -/
def auF (off : Nat) (v : List Int) : Nat → Int
  | 0 => v.getD 0 0
  | i + 1 => if i + 1 ≤ off then v.getD (i + 1) 0 else auF off v i + v.getD (i + 1) 0
theorem auF_le (off : Nat) (v : List Int) (i : Nat) (h : i ≤ off) : auF off v i = v.getD i 0 := by
  cases i with
  | zero => rfl
  | succ i => rw [auF, if_pos h]
theorem auF_gt (off : Nat) (v : List Int) (i : Nat) (h : off < i) : auF off v i = auF off v (i - 1) + v.getD i 0 := by
  cases i with
  | zero => omega
  | succ i => rw [auF, if_neg (by omega)]; rfl

set_option maxHeartbeats 1000000 in
theorem unzigAllV (off m : Nat) (l : List Int) (g cap base n : Nat) (A : Option Addr) (c : Nat) (w : World) (hN : Nums w base (.slice (some ⟨g, 0, none⟩) n cap) l) (hl : l.length = off + m) (hA : 0 < m → A = some ⟨g, off, none⟩) (hm : m ≤ 1000) (hg : base ≤ g)
    (hb : ∀ j, -9223372036854775808 ≤ l.getD j 0 ∧ l.getD j 0 ≤ 9223372036854775807) :
    Calls Tryd.prog 96 #[.slice A m c] w fun e w' => (∃ u, e = .returned u) ∧ Nums w' base (.slice (some ⟨g, 0, none⟩) n cap) (rowOf (uzF off l) l.length) ∧ Below base w w' := by
  have HN : Hid (Nums w base (.slice (some ⟨g, 0, none⟩) n cap) l) := hN
  have HL : Hid (l.length = off + m) := hl
  have HA : Hid (0 < m → A = some ⟨g, off, none⟩) := hA
  have HG : Hid (base ≤ g) := hg
  have HB : Hid (∀ j, -9223372036854775808 ≤ l.getD j 0 ∧ l.getD j 0 ≤ 9223372036854775807) := hb
  have q1 : (m : Int) ≤ 1000 := by omega
  clear hN hl hA hg hb
  go_enter Tryd.func96, Tryd.ntmps96
  go_wp2_with fail
  go_loopw [6] (fun v6 wr => ∃ k : Nat, k ≤ m ∧ v6 = .int .i64 (k : Int) ∧ Nums wr base (.slice (some ⟨g, 0, none⟩) n cap) (mix (uzF off l) l (off + k)) ∧ Below base w wr) (fun i _ => m - (intOf i).toNat)
  case atStart =>
    refine ⟨0, by omega, rfl, ?_, Below.refl _ _⟩
    rw [mix_start _ _ _ (fun i hi _ => by unfold uzF; rw [if_neg (by omega)])]
    exact HN.out
  case round =>
    obtain ⟨k, hk, rfl, hN1, hb1⟩ := hrel
    have HB1 : Hid (Below base w wr) := hb1
    have HN1 : Hid (Nums wr base (.slice (some ⟨g, 0, none⟩) n cap) (mix (uzF off l) l (off + k))) := hN1
    clear hb1
    by_cases hlt : k < m
    · have q2 : (k : Int) < (m : Int) := by omega
      have hA := HA.out (by omega)
      subst hA
      have hkl : off + k < l.length := by rw [HL.out]; omega
      have e1 := hN1.cell (off + k) (by rw [mix_length]; exact hkl)
      rw [mix_get _ _ _ _ hkl, if_neg (by omega)] at e1
      have e2 := hN1.frozen (off + k)
      have hbk := HB.out (off + k)
      have cu := fun wx => impl_unz (l.getD (off + k) 0) wx hbk.1 hbk.2
      have hS := hN1.stored (off + k) (unz (l.getD (off + k) 0))
      rw [show unz (l.getD (off + k) 0) = uzF off l (off + k) by unfold uzF; rw [if_pos (by omega)], mix_set _ _ _ hkl] at hS
      rw [show uzF off l (off + k) = unz (l.getD (off + k) 0) by unfold uzF; rw [if_pos (by omega)]] at hS
      have HS : Hid (Nums (wr.setCell ⟨g, off + k, none⟩ (.int .i64 (unz (l.getD (off + k) 0)))) base (.slice (some ⟨g, 0, none⟩) n cap) (mix (uzF off l) l (off + k + 1))) := hS
      clear hS hN1 hkl hbk
      generalize zok (l.getD (off + k) 0) = zk at *
      generalize unz (l.getD (off + k) 0) = y at *
      generalize l.getD (off + k) 0 = x at *
      go_wp2_with fail
      refine (cu _).mono ?_
      rintro e w1 ⟨rfl, rfl⟩
      go_wp2_with fail
      go_roundw
      case rel => exact ⟨k + 1, by omega, by go_num, HS.out, HB1.out.setCell HG.out _⟩
      case measure => simp [intOf]; omega
    · obtain rfl : k = m := by omega
      clear hN1
      go_wp2_with fail
      have h := HN1.out
      rw [mix_all _ _ _ (by rw [HL.out]; omega)] at h
      exact bodyPost_end (v := .tuple #[]) (by simp [results, go_sem]) rfl ⟨⟨_, rfl⟩, h, HB1.out⟩

set_option maxHeartbeats 1000000 in
theorem addUpV (off m : Nat) (l : List Int) (g cap base n : Nat) (A : Option Addr) (c : Nat) (w : World) (hN : Nums w base (.slice (some ⟨g, 0, none⟩) n cap) l) (hl : l.length = off + m) (hA : 0 < m → A = some ⟨g, off, none⟩) (hm : m ≤ 1000) (hg : base ≤ g)
    (hb : ∀ j, j < l.length → -4611686018427387904 ≤ auF off l j ∧ auF off l j ≤ 4611686018427387904) :
    Calls Tryd.prog 97 #[.slice A m c] w fun e w' => (∃ u, e = .returned u) ∧ Nums w' base (.slice (some ⟨g, 0, none⟩) n cap) (rowOf (auF off l) l.length) ∧ Below base w w' := by
  have HN : Hid (Nums w base (.slice (some ⟨g, 0, none⟩) n cap) l) := hN
  have HL : Hid (l.length = off + m) := hl
  have HA : Hid (0 < m → A = some ⟨g, off, none⟩) := hA
  have HG : Hid (base ≤ g) := hg
  have HB : Hid (∀ j, j < l.length → -4611686018427387904 ≤ auF off l j ∧ auF off l j ≤ 4611686018427387904) := hb
  have q1 : (m : Int) ≤ 1000 := by omega
  clear hN hl hA hg hb
  go_enter Tryd.func97, Tryd.ntmps97
  go_wp2_with fail
  go_loopw [2] (fun v2 wr => ∃ k : Nat, 1 ≤ k ∧ (k ≤ m ∨ k = 1) ∧ v2 = .int .i64 (k : Int) ∧ Nums wr base (.slice (some ⟨g, 0, none⟩) n cap) (mix (auF off l) l (off + k)) ∧ Below base w wr) (fun i _ => m - (intOf i).toNat)
  case atStart =>
    refine ⟨1, by omega, by omega, rfl, ?_, Below.refl _ _⟩
    rw [mix_start _ _ _ (fun i hi _ => auF_le off l i (by omega))]
    exact HN.out
  case round =>
    obtain ⟨k, hk1, hk, rfl, hN1, hb1⟩ := hrel
    have HB1 : Hid (Below base w wr) := hb1
    have HN1 : Hid (Nums wr base (.slice (some ⟨g, 0, none⟩) n cap) (mix (auF off l) l (off + k))) := hN1
    clear hb1
    by_cases hlt : k < m
    · have q2 : (k : Int) < (m : Int) := by omega
      have q3 : (1 : Int) ≤ (k : Int) := by omega
      have hA := HA.out (by omega)
      subst hA
      have hkl : off + k < l.length := by rw [HL.out]; omega
      have e1 := hN1.cell (off + k) (by rw [mix_length]; exact hkl)
      rw [mix_get _ _ _ _ hkl, if_neg (by omega)] at e1
      have e0 := hN1.cell (off + (k - 1)) (by rw [mix_length]; omega)
      rw [mix_get _ _ _ _ (by omega), if_pos (by omega)] at e0
      have e2 := hN1.frozen (off + k)
      have hbk := HB.out (off + k) hkl
      have hbj := HB.out (off + (k - 1)) (by omega)
      have ef := auF_gt off l (off + k) (by omega)
      rw [show off + k - 1 = off + (k - 1) by omega] at ef
      have hS := hN1.stored (off + k) (auF off l (off + k))
      rw [mix_set _ _ _ hkl] at hS
      have ef2 : auF off l (off + k) = l.getD (off + k) 0 + auF off l (off + (k - 1)) := by omega
      rw [ef2] at hS hbk
      have HS : Hid (Nums (wr.setCell ⟨g, off + k, none⟩ (.int .i64 (l.getD (off + k) 0 + auF off l (off + (k - 1))))) base (.slice (some ⟨g, 0, none⟩) n cap) (mix (auF off l) l (off + k + 1))) := hS
      clear hS hN1 hkl ef ef2
      generalize auF off l (off + (k - 1)) = y at *
      generalize l.getD (off + k) 0 = x at *
      have g1 : IntKind.i64.wrap ((k : Int) - 1) = (k : Int) - 1 := by rw [IntKind.wrap_i64]; omega
      have g3 : (0 : Int) ≤ (k : Int) - 1 := by omega
      have g4 : (k : Int) - 1 < (m : Int) := by omega
      have g5 : ((k : Int) - 1).toNat = k - 1 := by omega
      have g7 : IntKind.i64.wrap (x + y) = x + y := by rw [IntKind.wrap_i64]; omega
      have S0 : Hid (wr.cell? ⟨g, off + k, none⟩ = some (.int .i64 x) ∧ wr.cell? ⟨g, off + (k - 1), none⟩ = some (.int .i64 y)) := ⟨e1, e0⟩
      go_wp2_with fail
      refine wp_region_until (fun w' => w'.cell? ⟨g, off + k, none⟩ = some (.int .i64 x) ∧ w'.cell? ⟨g, off + (k - 1), none⟩ = some (.int .i64 y)) (fun i => i == 11) 12 (by rfl) (by kernel_rfl) ?_
      refine until_take 0 (v := ?_) (by rfl) (by kernel_rfl) (by exact fun _ _ _ h => h) (by rfl) ?_ S0.out ?_
      rotate_left
      · intro w hSw
        try dsimp only at hSw
        go_simp
        try with_reducible rfl
      try simp only [Act.put, List.setIfInBounds_toArray, List.set_cons_zero, List.set_cons_succ]
      refine until_take 1 (v := ?_) (by rfl) (by kernel_rfl) (by exact fun _ _ _ h => h) (by rfl) ?_ S0.out ?_
      rotate_left
      · intro w hSw
        try dsimp only at hSw
        go_simp
        try with_reducible rfl
      try simp only [Act.put, List.setIfInBounds_toArray, List.set_cons_zero, List.set_cons_succ]
      refine until_take 2 (v := ?_) (by rfl) (by kernel_rfl) (by exact fun _ _ _ h => h) (by rfl) ?_ S0.out ?_
      rotate_left
      · intro w hSw
        try dsimp only at hSw
        go_simp
        try with_reducible rfl
      try simp only [Act.put, List.setIfInBounds_toArray, List.set_cons_zero, List.set_cons_succ]
      refine until_take 3 (v := ?_) (by rfl) (by kernel_rfl) (by exact fun _ _ _ h => h) (by rfl) ?_ S0.out ?_
      rotate_left
      · intro w hSw
        try dsimp only at hSw
        go_simp
        try with_reducible rfl
      try simp only [Act.put, List.setIfInBounds_toArray, List.set_cons_zero, List.set_cons_succ]
      refine until_take 4 (v := ?_) (by rfl) (by kernel_rfl) (by exact fun _ _ _ h => h) (by rfl) ?_ S0.out ?_
      rotate_left
      · intro w hSw
        try dsimp only at hSw
        go_simp
        try with_reducible rfl
      try simp only [Act.put, List.setIfInBounds_toArray, List.set_cons_zero, List.set_cons_succ]
      refine until_take 5 (v := ?_) (by rfl) (by kernel_rfl) (by exact fun _ _ _ h => h) (by rfl) ?_ S0.out ?_
      rotate_left
      · intro w hSw
        try dsimp only at hSw
        go_simp
        try with_reducible rfl
      try simp only [Act.put, List.setIfInBounds_toArray, List.set_cons_zero, List.set_cons_succ]
      refine until_take 6 (v := ?_) (by rfl) (by kernel_rfl) (by exact fun _ _ _ h => h) (by rfl) ?_ S0.out ?_
      rotate_left
      · intro w hSw
        try dsimp only at hSw
        go_simp
        try with_reducible rfl
      try simp only [Act.put, List.setIfInBounds_toArray, List.set_cons_zero, List.set_cons_succ]
      refine until_take 7 (v := ?_) (by rfl) (by kernel_rfl) (by exact fun _ _ _ h => h) (by rfl) ?_ S0.out ?_
      rotate_left
      · intro w hSw
        try dsimp only at hSw
        go_simp
        try with_reducible rfl
      try simp only [Act.put, List.setIfInBounds_toArray, List.set_cons_zero, List.set_cons_succ]
      refine until_take 8 (v := ?_) (by rfl) (by kernel_rfl) (by exact fun _ _ _ h => h) (by rfl) ?_ S0.out ?_
      rotate_left
      · intro w hSw
        try dsimp only at hSw
        go_simp
        try with_reducible rfl
      try simp only [Act.put, List.setIfInBounds_toArray, List.set_cons_zero, List.set_cons_succ]
      refine until_take 9 (v := ?_) (by rfl) (by kernel_rfl) (by exact fun _ _ _ h => h) (by rfl) ?_ S0.out ?_
      rotate_left
      · intro w hSw
        try dsimp only at hSw
        go_simp
        try with_reducible rfl
      try simp only [Act.put, List.setIfInBounds_toArray, List.set_cons_zero, List.set_cons_succ]
      refine until_take 10 (v := ?_) (by rfl) (by kernel_rfl) (by exact fun _ _ _ h => h) (by rfl) ?_ S0.out ?_
      rotate_left
      · intro w hSw
        try dsimp only at hSw
        go_simp
        try with_reducible rfl
      try simp only [Act.put, List.setIfInBounds_toArray, List.set_cons_zero, List.set_cons_succ]
      refine until_one 11 (by rfl) (by kernel_rfl) (fun K hK => ?_)
      go_simp
      go_wp2_with fail
      refine hK.out _ _ (fun h => absurd h (by decide)) ?_
      clear hK K
      try simp only [Act.put, List.setIfInBounds_toArray, List.set_cons_zero, List.set_cons_succ]
      refine until_done (by kernel_rfl) ?_ _
      go_wp2_with fail
      go_roundw
      case rel => exact ⟨k + 1, by omega, by omega, by go_num, HS.out, (HB1.out.setCell (p := ⟨g, off + k, none⟩) HG.out (.int .i64 (x + y))).drew⟩
      case measure => simp [intOf]; omega
    · clear hN1
      have q2 : (m : Int) ≤ (k : Int) := by omega
      go_wp2_with fail
      have h := HN1.out
      rw [mix_all _ _ _ (by rw [HL.out]; omega)] at h
      exact bodyPost_end (v := .tuple #[]) (by simp [results, go_sem]) rfl ⟨⟨_, rfl⟩, h, HB1.out⟩
end Go.Proofs.YthgiekeiljflaaaDoor

/-
  What ReadValues and ReadTimes answer, as plain data (no program in sight, no condition).
-/
namespace Go.Proofs.YthgiekeiljflaaaDoor
open Go.RowKit Go.PlainAid

/-- The value at place i, made of the numbers that are read. -/
def rv (v : List Int) : Nat → Int
  | 0 => unz (v.getD 0 0)
  | i + 1 => rv v i + unz (v.getD (i + 1) 0)
def rowV (v : List Int) : List Int := rowOf (rv v) v.length
/-- How much the time at place i is above the one ahead of it. -/
def gp (v : List Int) : Nat → Int
  | 0 => 0
  | i + 1 => gp v i + if i = 0 then v.getD 1 0 else unz (v.getD (i + 1) 0)
/-- The time at place i. -/
def rt (v : List Int) : Nat → Int
  | 0 => v.getD 0 0
  | i + 1 => rt v i + gp v (i + 1)
def rowT (v : List Int) : List Int := rowOf (rt v) v.length
theorem rv_bound (v : List Int) (i : Nat) : -140737488355328 * ((i : Int) + 1) ≤ rv v i ∧ rv v i ≤ 140737488355328 * ((i : Int) + 1) := by
  induction i with
  | zero => have := unz_range (v.getD 0 0); unfold rv; omega
  | succ i ih => have := unz_range (v.getD (i + 1) 0); unfold rv; omega
theorem gp_bound (v : List Int) (hv : ∀ j, 0 ≤ v.getD j 0 ∧ v.getD j 0 ≤ 562949953421311) (i : Nat) : -140737488355328 * (i : Int) ≤ gp v i ∧ gp v i ≤ 562949953421311 + 140737488355328 * (i : Int) := by
  induction i with
  | zero => unfold gp; omega
  | succ i ih =>
    have h1 := hv 1
    have h2 := unz_range (v.getD (i + 1) 0)
    by_cases h0 : i = 0
    · subst h0
      rw [gp, if_pos rfl]
      have : gp v 0 = 0 := rfl
      omega
    · rw [gp, if_neg h0]
      omega
theorem rt_bound (v : List Int) (hv : ∀ j, 0 ≤ v.getD j 0 ∧ v.getD j 0 ≤ 562949953421311) (i : Nat) (hi : i ≤ 60) : -9007199254740992 * ((i : Int) + 1) ≤ rt v i ∧ rt v i ≤ 9007199254740992 * ((i : Int) + 1) := by
  induction i with
  | zero => have := hv 0; unfold rt; omega
  | succ i ih =>
    have := gp_bound v hv (i + 1)
    have := ih (by omega)
    unfold rt
    omega
/-- The row of values, as the program makes it. -/
theorem rowV_made (v : List Int) : rowOf (auF 0 (rowOf (uzF 0 v) v.length)) v.length = rowV v := by
  have key : ∀ i, i < v.length → auF 0 (rowOf (uzF 0 v) v.length) i = rv v i := by
    intro i
    induction i with
    | zero =>
      intro h
      rw [auF, rowOf_get _ _ _ h]
      rfl
    | succ i ih =>
      intro h
      rw [auF_gt _ _ _ (by omega), Nat.add_sub_cancel, ih (by omega), rowOf_get _ _ _ h]
      rfl
  apply nums_ext
  · rw [rowOf_length, rowV, rowOf_length]
  · intro j hj
    rw [rowOf_length] at hj
    rw [rowOf_get _ _ _ hj, rowV, rowOf_get _ _ _ hj, key j hj]
theorem gaps_made (v : List Int) (hv : 1 ≤ v.length) (i : Nat) (hi : i < v.length) (h1 : 1 ≤ i) : auF 1 (rowOf (uzF (min 2 v.length) v) v.length) i = gp v i := by
  induction i with
  | zero => omega
  | succ i ih =>
    by_cases h0 : i = 0
    · subst h0
      rw [auF_le _ _ _ (by omega), rowOf_get _ _ _ hi]
      unfold uzF
      rw [if_neg (by omega)]
      simp [gp]
    · rw [auF_gt _ _ _ (by omega), Nat.add_sub_cancel, ih (by omega) (by omega), rowOf_get _ _ _ hi]
      conv => rhs; unfold gp
      rw [if_neg h0]
      unfold uzF
      rw [if_pos (by omega)]
theorem gaps_zero (v : List Int) (hv : 1 ≤ v.length) : auF 1 (rowOf (uzF (min 2 v.length) v) v.length) 0 = v.getD 0 0 := by
  rw [auF, rowOf_get _ _ _ (by omega)]
  unfold uzF
  rw [if_neg (by omega)]
theorem times_made (v : List Int) (hv : 1 ≤ v.length) (i : Nat) (hi : i < v.length) : auF 0 (rowOf (auF 1 (rowOf (uzF (min 2 v.length) v) v.length)) v.length) i = rt v i := by
  induction i with
  | zero =>
    rw [auF, rowOf_get _ _ _ hi, gaps_zero v hv]
    rfl
  | succ i ih =>
    rw [auF_gt _ _ _ (by omega), Nat.add_sub_cancel, ih (by omega), rowOf_get _ _ _ hi, gaps_made v hv _ hi (by omega)]
    rfl
/-- The row of times, as the program makes it. -/
theorem rowT_made (v : List Int) (hv : 1 ≤ v.length) : rowOf (auF 0 (rowOf (auF 1 (rowOf (uzF (min 2 v.length) v) v.length)) v.length)) v.length = rowT v := by
  apply nums_ext
  · rw [rowOf_length, rowT, rowOf_length]
  · intro j hj
    rw [rowOf_length] at hj
    rw [rowOf_get _ _ _ hj, rowT, rowOf_get _ _ _ hj, times_made v hv j hj]

/-- What is answered to a text and a count. -/
def RdAns (shw : List Int → ByteArray) (row : List Int → List Int) (s : ByteArray) (n : Int) (l : List Int) (k : Nat) : Prop :=
  (∃ (m : Nat) (v : List Int), n = (m : Int) ∧ 1 ≤ m ∧ m ≤ 60 ∧ Rd s m v k ∧ shw (row v) = s.extract 0 k ∧ l = row v) ∨
  ((∀ (m : Nat) (v : List Int) (u : Nat), n = (m : Int) → 1 ≤ m → m ≤ 60 → Rd s m v u → shw (row v) ≠ s.extract 0 u) ∧ l = [] ∧ k = 0)
theorem RdAns.one {shw : List Int → ByteArray} {row : List Int → List Int} {s : ByteArray} {n : Int} {l l' : List Int} {k k' : Nat} (h : RdAns shw row s n l k) (h' : RdAns shw row s n l' k') : l = l' ∧ k = k' := by
  rcases h with ⟨m, v, h1, h2, h3, h4, h5, h6⟩ | ⟨h1, h2, h3⟩ <;> rcases h' with ⟨m', v', h1', h2', h3', h4', h5', h6'⟩ | ⟨h1', h2', h3'⟩
  · obtain rfl : m = m' := by omega
    obtain ⟨rfl, rfl⟩ := h4.one h4'
    exact ⟨h6.trans h6'.symm, rfl⟩
  · exact absurd h5 (h1' m v k h1 h2 h3 h4)
  · exact absurd h5' (h1 m' v' k' h1' h2' h3' h4')
  · exact ⟨h2.trans h2'.symm, h3.trans h3'.symm⟩
theorem extract_ne (s : ByteArray) (u : Nat) (h1 : 1 ≤ u) (h2 : u ≤ s.size) : txt [] ≠ s.extract 0 u := by
  intro h
  have := congrArg ByteArray.size h
  rw [ByteArray.size_extract, txt_size] at this
  simp at this
  omega
theorem rowV_length (v : List Int) : (rowV v).length = v.length := by rw [rowV, rowOf_length]
theorem rowT_length (v : List Int) : (rowT v).length = v.length := by rw [rowT, rowOf_length]
theorem showV_out (v : List Int) (j : Nat) (hj : j < v.length) (h : rv v j < -1099511627776 ∨ 1099511627776 < rv v j) : showV (rowV v) = txt [] := by
  unfold showV
  rw [if_neg]
  intro ho
  have := ho.2.2 j (by rw [rowV_length]; exact hj)
  rw [rowV, rowOf_get _ _ _ hj] at this
  omega
theorem showT_out (v : List Int) (j : Nat) (hj : j < v.length) (h : rt v j < 0 ∨ 1099511627776 < rt v j) : showT (rowT v) = txt [] := by
  unfold showT
  rw [if_neg]
  intro ho
  have := (ho.2.2 j (by rw [rowT_length]; exact hj)).1
  rw [rowT, rowOf_get _ _ _ hj] at this
  omega
/-- Where less numbers are read, none is answered. -/
theorem RdAns.few {shw : List Int → ByteArray} {row : List Int → List Int} {s : ByteArray} {m : Nat} (h : RdNo s m) : RdAns shw row s (m : Int) [] 0 := by
  refine .inr ⟨fun m' v u e _ _ hr => ?_, rfl, rfl⟩
  obtain rfl : m = m' := by omega
  exact absurd h hr.no
theorem RdAns.none {shw : List Int → ByteArray} {row : List Int → List Int} {s : ByteArray} {n : Int} (h : n < 1 ∨ 60 < n) : RdAns shw row s n [] 0 :=
  .inr ⟨fun m' v u e _ _ hr => by omega, rfl, rfl⟩
theorem RdAns.other {shw : List Int → ByteArray} {row : List Int → List Int} {s : ByteArray} {m : Nat} {v : List Int} {u : Nat} (hr : Rd s m v u) (h : shw (row v) ≠ s.extract 0 u) : RdAns shw row s (m : Int) [] 0 := by
  refine .inr ⟨fun m' v' u' e _ _ hr' => ?_, rfl, rfl⟩
  obtain rfl : m = m' := by omega
  obtain ⟨rfl, rfl⟩ := hr.one hr'
  exact h
theorem RdAns.yes {shw : List Int → ByteArray} {row : List Int → List Int} {s : ByteArray} {m : Nat} {v : List Int} {u : Nat} (h1 : 1 ≤ m) (h2 : m ≤ 60) (hr : Rd s m v u) (h : shw (row v) = s.extract 0 u) : RdAns shw row s (m : Int) (row v) u :=
  .inl ⟨m, v, rfl, h1, h2, hr, h, rfl⟩
theorem RdAns.short {shw : List Int → ByteArray} {row : List Int → List Int} {s : ByteArray} {n : Int} {l : List Int} {k : Nat} (hrow : ∀ v, (row v).length = v.length) (h : RdAns shw row s n l k) : l.length ≤ 60 ∧ k ≤ s.size := by
  rcases h with ⟨m, v, h1, h2, h3, h4, h5, h6⟩ | ⟨_, rfl, rfl⟩
  · rw [h6, hrow, h4.length]
    exact ⟨h3, h4.le.2⟩
  · simp
theorem bytes_ne {a b : ByteArray} (h : a ≠ b) : (a.toList == b.toList) = false := by
  rw [beq_eq_false_iff_ne]
  intro e
  apply h
  rw [Lib.toList_data, Lib.toList_data] at e
  cases a
  cases b
  simp only at e
  congr 1
  exact Array.ext' e
theorem bytes_eq {a b : ByteArray} (h : a = b) : (a.toList == b.toList) = true := by rw [h]; simp
end Go.Proofs.YthgiekeiljflaaaDoor

/-
  Rows are read from what they are shown as, whatever stands behind (no program in sight, no condition).
-/
namespace Go.Proofs.YthgiekeiljflaaaDoor
open Go.RowKit Go.PlainAid

theorem cat_split (f : Nat → List UInt8) (k n : Nat) (hk : k < n) : ∃ rest, cat f n = cat f k ++ (f k ++ rest) := by
  induction n with
  | zero => omega
  | succ n ih =>
    by_cases e : k = n
    · subst e
      exact ⟨[], by rw [cat_succ, List.append_nil]⟩
    · obtain ⟨rest, h⟩ := ih (by omega)
      exact ⟨rest ++ f n, by rw [cat_succ, h]; simp⟩
theorem extract_back (a b : List UInt8) : (txt (a ++ b)).extract a.length (txt (a ++ b)).size = txt b := by
  rw [txt_size]
  apply ByteArray.ext
  apply Array.toList_inj.1
  rw [Lib.extract_data]
  simp [txt]
theorem extract_front (a b : List UInt8) : (txt (a ++ b)).extract 0 a.length = txt a := by
  apply ByteArray.ext
  apply Array.toList_inj.1
  rw [Lib.extract_data]
  simp [txt]
theorem rd_cat (x : Nat → Nat) (n : Nat) (hx : ∀ i, i < n → x i ≤ 562949953421311) (tl : List UInt8) (k : Nat) (hk : k ≤ n) : Rd (txt (cat (fun i => vF 6 (x i)) n ++ tl)) k (rowOf (fun i => (x i : Int)) k) (cat (fun i => vF 6 (x i)) k).length := by
  induction k with
  | zero => exact ⟨rfl, rfl⟩
  | succ k ih =>
    obtain ⟨rest, h⟩ := cat_split (fun i => vF 6 (x i)) k n (by omega)
    have e : txt (cat (fun i => vF 6 (x i)) n ++ tl) = txt (cat (fun i => vF 6 (x i)) k ++ (vF 6 (x k) ++ (rest ++ tl))) := by rw [h]; simp
    have hf := find_var (x k) (rest ++ tl) (hx k (by omega))
    refine ⟨_, _, (vF 6 (x k)).length, ih (by omega), ?_, ?_, ?_⟩
    · rw [e, extract_back]
      exact hf.1
    · rw [e, extract_back, hf.2, rowOf_succ]
    · rw [cat_succ, List.length_append]
theorem rowOf_ext (f g : Nat → Int) (n : Nat) (h : ∀ i, i < n → f i = g i) : rowOf f n = rowOf g n := by
  apply nums_ext
  · rw [rowOf_length, rowOf_length]
  · intro j hj
    rw [rowOf_length] at hj
    rw [rowOf_get _ _ _ hj, rowOf_get _ _ _ hj, h j hj]
theorem gp_turn (l : List Int) (h : TOk l) (i : Nat) (h1 : 1 ≤ i) (hi : i < l.length) : gp (rowOf (turn l) l.length) i = dif l i := by
  induction i with
  | zero => omega
  | succ i ih =>
    by_cases h0 : i = 0
    · subst h0
      rw [gp, if_pos rfl, rowOf_get _ _ _ hi]
      have : gp (rowOf (turn l) l.length) 0 = 0 := rfl
      rw [this]
      unfold turn
      rw [if_pos (by omega)]
      omega
    · rw [gp, if_neg h0, ih (by omega) (by omega), rowOf_get _ _ _ hi]
      have d1 := h.dif (i + 1) hi
      have d2 := h.dif i (by omega)
      unfold turn
      rw [if_neg (by omega), Nat.add_sub_cancel, unz_zig _ (by omega) (by omega)]
      omega
theorem rt_turn (l : List Int) (h : TOk l) (i : Nat) (hi : i < l.length) : rt (rowOf (turn l) l.length) i = l.getD i 0 := by
  induction i with
  | zero =>
    rw [rt, rowOf_get _ _ _ hi]
    unfold turn dif prv
    simp
  | succ i ih =>
    rw [rt, ih (by omega), gp_turn l h (i + 1) (by omega) hi]
    unfold dif
    rw [prv_succ]
    omega
theorem rowT_turn (l : List Int) (h : TOk l) : rowT (rowOf (turn l) l.length) = l := by
  unfold rowT
  rw [rowOf_length]
  apply nums_ext
  · rw [rowOf_length]
  · intro j hj
    rw [rowOf_length] at hj
    rw [rowOf_get _ _ _ hj, rt_turn l h j hj]
theorem readT_back (l : List Int) (h : TOk l) (tl : List UInt8) : RdAns showT rowT (txt (cat (tPiece l) l.length ++ tl)) (l.length : Int) l (cat (tPiece l) l.length).length := by
  have hr := rd_cat (fun i => (turn l i).toNat) l.length (fun i hi => by have := h.turn i hi; omega) tl l.length (Nat.le_refl _)
  rw [rowOf_ext (fun i => (((turn l i).toNat : Nat) : Int)) (turn l) l.length (fun i hi => Int.toNat_of_nonneg (h.turn i hi).1)] at hr
  have hy := RdAns.yes (shw := showT) (row := rowT) h.1 h.2.1 hr (by rw [rowT_turn l h]; unfold showT; rw [if_pos h]; exact (extract_front _ _).symm)
  rw [rowT_turn l h] at hy
  exact hy
theorem rv_zig (l : List Int) (h : VOk l) (i : Nat) (hi : i < l.length) : rv (rowOf (fun i => zig (dif l i)) l.length) i = l.getD i 0 := by
  induction i with
  | zero =>
    have d := h.dif 0 hi
    rw [rv, rowOf_get _ _ _ hi, unz_zig _ (by omega) (by omega)]
    unfold dif prv
    simp
  | succ i ih =>
    have d := h.dif (i + 1) hi
    rw [rv, ih (by omega), rowOf_get _ _ _ hi, unz_zig _ (by omega) (by omega)]
    unfold dif
    rw [prv_succ]
    omega
theorem rowV_zig (l : List Int) (h : VOk l) : rowV (rowOf (fun i => zig (dif l i)) l.length) = l := by
  unfold rowV
  rw [rowOf_length]
  apply nums_ext
  · rw [rowOf_length]
  · intro j hj
    rw [rowOf_length] at hj
    rw [rowOf_get _ _ _ hj, rv_zig l h j hj]
theorem readV_back (l : List Int) (h : VOk l) (tl : List UInt8) : RdAns showV rowV (txt (cat (vPiece l) l.length ++ tl)) (l.length : Int) l (cat (vPiece l) l.length).length := by
  have hz : ∀ i, i < l.length → 0 ≤ zig (dif l i) := fun i hi => zig_pos _ (by have := h.dif i hi; omega) (by have := h.dif i hi; omega)
  have hr := rd_cat (fun i => (zig (dif l i)).toNat) l.length (fun i hi => by have := (zig_range (dif l i)).2; omega) tl l.length (Nat.le_refl _)
  rw [rowOf_ext (fun i => (((zig (dif l i)).toNat : Nat) : Int)) (fun i => zig (dif l i)) l.length (fun i hi => Int.toNat_of_nonneg (hz i hi))] at hr
  have hy := RdAns.yes (shw := showV) (row := rowV) h.1 h.2.1 hr (by rw [rowV_zig l h]; unfold showV; rw [if_pos h]; exact (extract_front _ _).symm)
  rw [rowV_zig l h] at hy
  exact hy
theorem showT_size (l : List Int) : (showT l).size ≤ 420 := by
  unfold showT
  split
  · rename_i h
    rw [txt_size]
    have := cat_length (tPiece l) (tPiece_length l) l.length
    have := h.2.1
    omega
  · rw [txt_size]; simp
theorem showV_size (l : List Int) : (showV l).size ≤ 420 := by
  unfold showV
  split
  · rename_i h
    rw [txt_size]
    have := cat_length (vPiece l) (vPiece_length l) l.length
    have := h.2.1
    omega
  · rw [txt_size]; simp
theorem cat_pos (f : Nat → List UInt8) (n : Nat) (h1 : 1 ≤ n) (h : 1 ≤ (f 0).length) : 1 ≤ (cat f n).length := by
  obtain ⟨rest, e⟩ := cat_split f 0 n (by omega)
  rw [e, cat_zero, List.nil_append, List.length_append]
  omega
end Go.Proofs.YthgiekeiljflaaaDoor

/-
  Blocks as plain data: what ShowBlock makes of points, and that it is read as them, no other (no program in sight, no condition).
-/
namespace Go.Proofs.YthgiekeiljflaaaDoor
open Go.RowKit Go.PlainAid

/-- Times and values of points. -/
def ts (l : List Pnt) : List Int := l.map fun p => p.t
def vs (l : List Pnt) : List Int := l.map fun p => p.v
theorem ts_length (l : List Pnt) : (ts l).length = l.length := by simp [ts]
theorem vs_length (l : List Pnt) : (vs l).length = l.length := by simp [vs]
theorem ts_get (l : List Pnt) (j : Nat) (h : j < l.length) : (ts l).getD j 0 = tAt l j := by
  rw [tAt, ← getD_at l j h]
  simp [ts, List.getD, h]
theorem vs_get (l : List Pnt) (j : Nat) (h : j < l.length) : (vs l).getD j 0 = vAt l j := by
  rw [vAt, ← getD_at l j h]
  simp [vs, List.getD, h]
theorem rows_of_ok {l : List Pnt} (h : POk l) (h1 : 1 ≤ l.length) : TOk (ts l) ∧ VOk (vs l) := by
  refine ⟨⟨by rw [ts_length]; exact h1, by rw [ts_length]; exact h.1, fun j hj => ?_⟩, by rw [vs_length]; exact h1, by rw [vs_length]; exact h.1, fun j hj => ?_⟩
  · rw [ts_length] at hj
    rw [ts_get l j hj]
    refine ⟨(h.2 j hj).1.1, fun h0 => ?_⟩
    rw [ts_get l (j - 1) (by omega)]
    exact (h.2 j hj).2 h0
  · rw [vs_length] at hj
    rw [vs_get l j hj]
    exact (h.2 j hj).1.2
theorem ok_of_rows {l : List Pnt} (h : TOk (ts l)) (h' : VOk (vs l)) : POk l := by
  refine ⟨by have := h.2.1; rwa [ts_length] at this, fun j hj => ?_⟩
  have h1 := h.2.2 j (by rw [ts_length]; exact hj)
  have h2 := h'.2.2 j (by rw [vs_length]; exact hj)
  rw [ts_get l j hj] at h1
  rw [vs_get l j hj] at h2
  refine ⟨⟨h1.1, h2⟩, fun h0 => ?_⟩
  have := h1.2 h0
  rwa [ts_get l (j - 1) (by omega)] at this
/-- Points of times and values. -/
def zipP (t v : List Int) : List Pnt := List.zipWith Pnt.mk t v
theorem zipP_length (t v : List Int) : (zipP t v).length = min t.length v.length := by simp [zipP]
theorem zipP_rows : ∀ l : List Pnt, zipP (ts l) (vs l) = l
  | [] => rfl
  | p :: l => by
    have := zipP_rows l
    simp only [zipP, ts, vs, List.map_cons, List.zipWith_cons_cons] at this ⊢
    rw [this]
theorem ts_zip : ∀ (t v : List Int), t.length = v.length → ts (zipP t v) = t ∧ vs (zipP t v) = v
  | [], [], _ => ⟨rfl, rfl⟩
  | [], _ :: _, h => by simp at h
  | _ :: _, [], h => by simp at h
  | x :: t, y :: v, h => by
    have ih := ts_zip t v (by simpa using h)
    simp only [zipP, ts, vs, List.zipWith_cons_cons, List.map_cons] at ih ⊢
    rw [ih.1, ih.2]
    exact ⟨rfl, rfl⟩
theorem zipP_get (t v : List Int) (k : Nat) (h1 : k < t.length) (h2 : k < v.length) : (zipP t v).take (k + 1) = (zipP t v).take k ++ [⟨t.getD k 0, v.getD k 0⟩] := by
  have hk : k < (zipP t v).length := by rw [zipP_length]; omega
  rw [List.take_succ_eq_append_getElem hk]
  congr 2
  simp [zipP, List.getD, h1, h2]
/-- What a block's body is of. -/
def bodyB (l : List Pnt) : List UInt8 := vF 6 l.length ++ (cat (tPiece (ts l)) l.length ++ cat (vPiece (vs l)) l.length)
/-- What ShowBlock answers. -/
def showB (l : List Pnt) : ByteArray := if 1 ≤ l.length ∧ POk l then frame (txt (vF 6 l.length) ++ showT (ts l) ++ showV (vs l)) else txt []
theorem body_is {l : List Pnt} (h : POk l) (h1 : 1 ≤ l.length) : txt (vF 6 l.length) ++ showT (ts l) ++ showV (vs l) = txt (bodyB l) := by
  obtain ⟨ht, hv⟩ := rows_of_ok h h1
  unfold showT showV bodyB
  rw [if_pos ht, if_pos hv, ts_length, vs_length, txt_cat, txt_cat, List.append_assoc]
theorem bodyB_size {l : List Pnt} (h : POk l) : 1 ≤ (bodyB l).length ∧ (bodyB l).length ≤ 847 := by
  have h1 := vF_pos 6 l.length
  have h2 := vF_length 6 l.length
  have h3 := cat_length (tPiece (ts l)) (tPiece_length (ts l)) l.length
  have h4 := cat_length (vPiece (vs l)) (vPiece_length (vs l)) l.length
  have := h.1
  unfold bodyB
  simp only [List.length_append]
  omega
/-- The text is what ShowBlock makes of right points, one at least. -/
def Good (s : ByteArray) (l : List Pnt) : Prop := 1 ≤ l.length ∧ POk l ∧ showB l = s
theorem Good.frame {s : ByteArray} {l : List Pnt} (h : Good s l) : s = frameOf (txt (bodyB l)) := by
  obtain ⟨h1, h2, rfl⟩ := h
  have hb := bodyB_size h2
  rw [showB, if_pos ⟨h1, h2⟩, body_is h2 h1, Go.Proofs.YthgiekeiljflaaaDoor.frame, if_neg (by rw [txt_size]; omega)]
theorem Good.read {s : ByteArray} {l : List Pnt} (h : Good s l) : code s = 0 ∧ 8 + rdv s 4 = s.size ∧ bodyOf s = txt (bodyB l) := by
  have hf := h.frame
  have hb := bodyB_size h.2.1
  have e : s = frameOf (txt (bodyB l)) ++ ByteArray.empty := by rw [ByteArray.append_empty]; exact hf
  have hz : (txt (bodyB l)).size ≤ 2000 := by rw [txt_size]; omega
  refine ⟨by rw [e]; exact code_frameOf _ _ (by rw [txt_size]; omega) hz, ?_, by rw [e]; exact bodyOf_frameOf _ _ hz⟩
  have h4 : rdv s 4 = (txt (bodyB l)).size := by rw [e]; exact rdv_frameOf _ _ hz
  rw [h4, hf, frameOf_size]
/-- What ReadVar answers. -/
def RdV (s : ByteArray) (n : Int) (k : Nat) : Prop := (FindV s k ∧ n = (vvS s 0 k : Int)) ∨ ((∀ j, ¬ FindV s j) ∧ n = 0 ∧ k = 0)
theorem ReadV.rd {s : ByteArray} {e : Ending} (h : ReadV s e) : ∃ n k, RdV s n k ∧ e = .returned (.tuple #[.int .i64 n, .int .i64 (k : Int)]) := by
  rcases h with ⟨k, h1, h2⟩ | ⟨h1, h2⟩
  · exact ⟨_, k, .inl ⟨h1, rfl⟩, h2⟩
  · exact ⟨0, 0, .inr ⟨h1, rfl, rfl⟩, h2⟩
theorem RdV.one {s : ByteArray} {n n' : Int} {k k' : Nat} (h : RdV s n k) (h' : RdV s n' k') : n = n' ∧ k = k' := by
  rcases h with ⟨h1, h2⟩ | ⟨h1, h2, h3⟩ <;> rcases h' with ⟨h1', h2'⟩ | ⟨h1', h2', h3'⟩
  · obtain rfl := h1.one h1'
    exact ⟨h2.trans h2'.symm, rfl⟩
  · exact absurd h1 (h1' k)
  · exact absurd h1' (h1 k')
  · exact ⟨h2.trans h2'.symm, h3.trans h3'.symm⟩
theorem RdV.le {s : ByteArray} {n : Int} {k : Nat} (h : RdV s n k) : k ≤ s.size ∧ k ≤ 7 ∧ 0 ≤ n := by
  rcases h with ⟨⟨_, h2, h3, _⟩, h4⟩ | ⟨_, h2, h3⟩
  · exact ⟨h3, h2, by omega⟩
  · omega
/-- The body that is read: of a right frame, or nothing. -/
def bodyR (s : ByteArray) : ByteArray := if code s = 0 then bodyOf s else ⟨#[]⟩
theorem bodyR_size (s : ByteArray) : (bodyR s).size ≤ 2000 := by
  unfold bodyR
  split
  · rename_i h
    obtain ⟨_, _, h2, h8, _⟩ := (code_zero s).1 h
    rw [bodyOf_size s h8]
    exact h2
  · exact Nat.zero_le _
/-- What is read step by step. -/
structure Steps (s : ByteArray) (n : Int) (k : Nat) (t : List Int) (a : Nat) (v : List Int) (b : Nat) : Prop where
  rn : RdV (bodyR s) n k
  rt : RdAns showT rowT ((bodyR s).extract k (bodyR s).size) n t a
  rv : RdAns showV rowV ((bodyR s).extract (k + a) (bodyR s).size) n v b
theorem Good.steps {s : ByteArray} {l : List Pnt} (h : Good s l) : Steps s (l.length : Int) (vF 6 l.length).length (ts l) (cat (tPiece (ts l)) l.length).length (vs l) (cat (vPiece (vs l)) l.length).length := by
  obtain ⟨hc, _, hb⟩ := h.read
  obtain ⟨ht, hv⟩ := rows_of_ok h.2.1 h.1
  have hB : bodyR s = txt (bodyB l) := by rw [bodyR, if_pos hc, hb]
  have hn : l.length ≤ 562949953421311 := by have := h.2.1.1; omega
  have hf := find_var l.length (cat (tPiece (ts l)) l.length ++ cat (vPiece (vs l)) l.length) hn
  refine ⟨?_, ?_, ?_⟩
  · rw [hB]
    exact .inl ⟨hf.1, by unfold bodyB; rw [hf.2]⟩
  · rw [hB, bodyB, extract_back]
    have := readT_back (ts l) ht (cat (vPiece (vs l)) l.length)
    rw [ts_length] at this
    exact this
  · rw [hB]
    have e : bodyB l = (vF 6 l.length ++ cat (tPiece (ts l)) l.length) ++ cat (vPiece (vs l)) l.length := by rw [bodyB, List.append_assoc]
    have := readV_back (vs l) hv []
    rw [vs_length, List.append_nil] at this
    rw [e, ← List.length_append, extract_back]
    exact this
theorem Steps.one {s : ByteArray} {n n' : Int} {k k' a a' b b' : Nat} {t t' v v' : List Int} (h : Steps s n k t a v b) (h' : Steps s n' k' t' a' v' b') : n = n' ∧ k = k' ∧ t = t' ∧ a = a' ∧ v = v' ∧ b = b' := by
  obtain ⟨rfl, rfl⟩ := h.rn.one h'.rn
  obtain ⟨rfl, rfl⟩ := h.rt.one h'.rt
  obtain ⟨rfl, rfl⟩ := h.rv.one h'.rv
  exact ⟨rfl, rfl, rfl, rfl, rfl, rfl⟩
/-- Where the text is of right points, they are what is read. -/
theorem Steps.good {s : ByteArray} {n : Int} {k a b : Nat} {t v : List Int} (h : Steps s n k t a v b) {l : List Pnt} (hg : Good s l) : zipP t v = l ∧ n = (l.length : Int) ∧ t = ts l ∧ v = vs l ∧ 1 ≤ k ∧ 1 ≤ a ∧ 1 ≤ b ∧ k + a + b = (bodyR s).size := by
  obtain ⟨rfl, rfl, rfl, rfl, rfl, rfl⟩ := h.one hg.steps
  obtain ⟨hc, _, hb⟩ := hg.read
  have hB : bodyR s = txt (bodyB l) := by rw [bodyR, if_pos hc, hb]
  refine ⟨zipP_rows l, rfl, rfl, rfl, vF_pos _ _, cat_pos _ _ hg.1 (vF_pos _ _), cat_pos _ _ hg.1 (vF_pos _ _), ?_⟩
  rw [hB, txt_size, bodyB]
  simp only [List.length_append]
  omega
theorem Good.one {s : ByteArray} {l m : List Pnt} (h : Good s l) (h' : Good s m) : l = m := by
  have := (h.steps.good h').1
  rw [zipP_rows] at this
  exact this
theorem RdAns.pos {shw : List Int → ByteArray} {row : List Int → List Int} {s : ByteArray} {n : Int} {l : List Int} {k : Nat} (hrow : ∀ v, (row v).length = v.length) (h : RdAns shw row s n l k) (hk : k ≠ 0) : n = (l.length : Int) ∧ 1 ≤ l.length ∧ l.length ≤ 60 ∧ shw l = s.extract 0 k ∧ k ≤ s.size := by
  rcases h with ⟨m, v, h1, h2, h3, h4, h5, h6⟩ | ⟨_, _, h0⟩
  · have hl : l.length = m := by rw [h6, hrow, h4.length]
    exact ⟨by rw [hl]; exact h1, by omega, by omega, by rw [h6]; exact h5, h4.le.2⟩
  · exact absurd h0 hk
theorem okT_of_show {l : List Int} {s : ByteArray} {k : Nat} (h : showT l = s.extract 0 k) (hk : k ≠ 0) (hs : k ≤ s.size) : TOk l := by
  by_cases ho : TOk l
  · exact ho
  · unfold showT at h
    rw [if_neg ho] at h
    exact absurd h (extract_ne s k (by omega) hs)
theorem okV_of_show {l : List Int} {s : ByteArray} {k : Nat} (h : showV l = s.extract 0 k) (hk : k ≠ 0) (hs : k ≤ s.size) : VOk l := by
  by_cases ho : VOk l
  · exact ho
  · unfold showV at h
    rw [if_neg ho] at h
    exact absurd h (extract_ne s k (by omega) hs)
/-- What is read whole is right, and is shown as this text. -/
theorem Steps.back {s : ByteArray} {n : Int} {k a b : Nat} {t v : List Int} (h : Steps s n k t a v b) (hc : code s = 0) (h8 : 8 + rdv s 4 = s.size) (hk : k ≠ 0) (ha : a ≠ 0) (hb : b ≠ 0) (hs : k + a + b = (bodyR s).size) : Good s (zipP t v) ∧ t.length = v.length ∧ n = (t.length : Int) := by
  obtain ⟨ht1, ht2, ht3, ht4, ht5⟩ := h.rt.pos rowT_length ha
  obtain ⟨hv1, hv2, hv3, hv4, hv5⟩ := h.rv.pos rowV_length hb
  have hlen : t.length = v.length := by omega
  have hT := okT_of_show ht4 ha ht5
  have hV := okV_of_show hv4 hb hv5
  obtain ⟨e1, e2⟩ := ts_zip t v hlen
  have hzl : (zipP t v).length = t.length := by rw [zipP_length]; omega
  have hP : POk (zipP t v) := ok_of_rows (by rw [e1]; exact hT) (by rw [e2]; exact hV)
  have hfv : FindV (bodyR s) k ∧ n = (vvS (bodyR s) 0 k : Int) := by
    rcases h.rn with h | ⟨_, _, h0⟩
    · exact h
    · exact absurd h0 hk
  obtain ⟨⟨c1, c2, c3, c4⟩, hn⟩ := hfv
  have hvar : txt (vF 6 (zipP t v).length) = (bodyR s).extract 0 k := by
    have hh := (var_eq (bodyR s) k c1 c2 c3).2 c4
    have hm : vvS (bodyR s) 0 k = (zipP t v).length := by omega
    rw [hm] at hh
    by_cases e : txt (vF 6 (zipP t v).length) = (bodyR s).extract 0 k
    · exact e
    · rw [bytes_ne e] at hh
      cases hh
  have hbody : txt (vF 6 (zipP t v).length) ++ showT (ts (zipP t v)) ++ showV (vs (zipP t v)) = bodyR s := by
    rw [e1, e2, hvar, ht4, hv4, ByteArray.extract_extract, ByteArray.extract_extract, Nat.add_zero, Nat.add_zero, Nat.min_eq_left (by omega), Nat.min_eq_left (by omega), ByteArray.extract_append_extract, show min 0 k = 0 by omega, show max k (k + a) = k + a by omega, ByteArray.extract_append_extract, show min 0 (k + a) = 0 by omega, show max (k + a) (k + a + b) = k + a + b by omega, hs, ByteArray.extract_zero_size]
  refine ⟨⟨by omega, hP, ?_⟩, hlen, ht1⟩
  rw [showB, if_pos ⟨by omega, hP⟩, hbody, bodyR, if_pos hc]
  obtain ⟨g4, g1, g2, g8, gs⟩ := (code_zero s).1 hc
  rw [(frame_fits s g4 g1 g2 g8).2 gs, h8, ByteArray.extract_zero_size]
/-- Of no bytes nothing is read. -/
theorem Steps.empty {n : Int} {k a b : Nat} {t v : List Int} (h : Steps (txt []) n k t a v b) : t = [] := by
  have hc : ¬ code (txt []) = 0 := fun hc => by
    obtain ⟨h4, _⟩ := (code_zero _).1 hc
    rw [txt_size] at h4
    simp at h4
  have hB : bodyR (txt []) = ⟨#[]⟩ := by rw [bodyR, if_neg hc]
  have hz : n = 0 := by
    rcases h.rn with ⟨⟨h1, _, h3, _⟩, _⟩ | ⟨_, h0, _⟩
    · rw [hB] at h3
      have : (ByteArray.mk #[]).size = 0 := rfl
      omega
    · exact h0
  rcases h.rt with ⟨m, v, h1, h2, _⟩ | ⟨_, h0, _⟩
  · omega
  · exact h0
/-- What is shown as the text and is some is right. -/
theorem Steps.shown {s : ByteArray} {n : Int} {k a b : Nat} {t v : List Int} (h : Steps s n k t a v b) (h1 : 1 ≤ (zipP t v).length) (hs : showB (zipP t v) = s) : Good s (zipP t v) := by
  by_cases hp : POk (zipP t v)
  · exact ⟨h1, hp, hs⟩
  · exfalso
    rw [showB, if_neg (fun hh => hp hh.2)] at hs
    subst hs
    rw [h.empty] at h1
    simp [zipP] at h1
/-- What both ReadBlock answer. -/
def RbAns (s : ByteArray) (l : List Pnt) (ok : Bool) : Prop := (ok = true ∧ Good s l) ∨ (ok = false ∧ l = [] ∧ ∀ m, ¬ Good s m)
theorem RbAns.one {s : ByteArray} {l m : List Pnt} {x y : Bool} (h : RbAns s l x) (h' : RbAns s m y) : l = m ∧ x = y := by
  rcases h with ⟨h1, h2⟩ | ⟨h1, h2, h3⟩ <;> rcases h' with ⟨h1', h2'⟩ | ⟨h1', h2', h3'⟩
  · exact ⟨h2.one h2', h1.trans h1'.symm⟩
  · exact absurd h2 (h3' l)
  · exact absurd h2' (h3 m)
  · exact ⟨h2.trans h2'.symm, h1.trans h1'.symm⟩
theorem RbAns.len {s : ByteArray} {l : List Pnt} {x : Bool} (h : RbAns s l x) : l.length ≤ 60 := by
  rcases h with ⟨_, h2⟩ | ⟨_, h2, _⟩
  · exact h2.2.1.1
  · rw [h2]; simp
theorem showB_size (l : List Pnt) : (showB l).size ≤ 900 := by
  unfold showB
  split
  · rename_i h
    have hb := bodyB_size h.2
    rw [body_is h.2 h.1, frame, if_neg (by rw [txt_size]; omega), frameOf_size, txt_size]
    omega
  · rw [txt_size]; simp
end Go.Proofs.YthgiekeiljflaaaDoor

/-
  Files as plain data: what FileText makes of series, and that it is read as them (no program in sight, no condition).
-/
namespace Go.Proofs.YthgiekeiljflaaaDoor
open Go.RowKit Go.PlainAid

/-- The bytes of a text. -/
def bl (s : ByteArray) : List UInt8 := s.data.toList
theorem txt_bl (s : ByteArray) : txt (bl s) = s := txt_toList s
theorem bl_length (s : ByteArray) : (bl s).length = s.size := by rw [← txt_size, txt_bl]
def magic : List UInt8 := [116, 115, 98, 49]
/-- The block of the j-th. -/
def blkB (l : List Ser) (j : Nat) : List UInt8 := bl (showB (sAt l j).pts)
def blks (l : List Ser) (k : Nat) : List UInt8 := cat (blkB l) k
/-- Where the block of the k-th begins. -/
def atB (l : List Ser) (k : Nat) : Nat := 4 + (blks l k).length
def fT (l : List Ser) (j : Nat) : Nat := (tAt (sAt l j).pts 0).toNat
def lT (l : List Ser) (j : Nat) : Nat := (tAt (sAt l j).pts ((sAt l j).pts.length - 1)).toNat
/-- What the index tells of the j-th. -/
def spB (l : List Ser) (j : Nat) : List UInt8 := vF 6 (sAt l j).key.size ++ (bl (sAt l j).key ++ (vF 6 (atB l j) ++ (vF 6 (blkB l j).length ++ (vF 6 (fT l j) ++ vF 6 (lT l j)))))
def idxB (l : List Ser) (k : Nat) : List UInt8 := cat (spB l) k
def bodyF (l : List Ser) : List UInt8 := magic ++ (blks l l.length ++ (idxB l l.length ++ low (atB l l.length) 4))
def fileB (l : List Ser) : List UInt8 := bodyF l ++ low (crc (txt (bodyF l))) 4
/-- What FileText answers. -/
def fileT (l : List Ser) : ByteArray := if 1 ≤ l.length ∧ SOk l then txt (fileB l) else txt []
/-- The text is what FileText makes of right series, one at least. -/
def GoodF (s : ByteArray) (l : List Ser) : Prop := 1 ≤ l.length ∧ SOk l ∧ fileT l = s
theorem GoodF.text {s : ByteArray} {l : List Ser} (h : GoodF s l) : s = txt (fileB l) := by
  rw [← h.2.2, fileT, if_pos ⟨h.1, h.2.1⟩]

/-! ### Sizes -/
theorem blkB_length (l : List Ser) (j : Nat) : (blkB l j).length ≤ 900 := by unfold blkB; rw [bl_length]; exact showB_size _
theorem blks_length (l : List Ser) (k : Nat) : (blks l k).length ≤ 900 * k := by
  induction k with
  | zero => simp [blks, cat_zero]
  | succ k ih => unfold blks at ih ⊢; rw [cat_succ, List.length_append]; have := blkB_length l k; omega
theorem SOk.key {l : List Ser} (h : SOk l) (j : Nat) (hj : j < l.length) : 1 ≤ (sAt l j).key.size ∧ (sAt l j).key.size ≤ 8 := ⟨(h.2 j hj).1.1.1, (h.2 j hj).1.1.2.1⟩
theorem SOk.times {l : List Ser} (h : SOk l) (j : Nat) (hj : j < l.length) : (0 ≤ tAt (sAt l j).pts 0 ∧ tAt (sAt l j).pts 0 ≤ 1099511627776) ∧ (0 ≤ tAt (sAt l j).pts ((sAt l j).pts.length - 1) ∧ tAt (sAt l j).pts ((sAt l j).pts.length - 1) ≤ 1099511627776) := by
  have h1 := (h.2 j hj).2
  exact ⟨(h1.2.2 0 (by omega)).1.1, (h1.2.2 _ (by omega)).1.1⟩
theorem spB_length {l : List Ser} (h : SOk l) (j : Nat) (hj : j < l.length) : 6 ≤ (spB l j).length ∧ (spB l j).length ≤ 43 := by
  have := h.key j hj
  unfold spB
  simp only [List.length_append, bl_length]
  have a1 := vF_pos 6 (sAt l j).key.size
  have a2 := vF_pos 6 (atB l j)
  have a3 := vF_pos 6 (blkB l j).length
  have a4 := vF_pos 6 (fT l j)
  have a5 := vF_pos 6 (lT l j)
  have b1 := vF_length 6 (sAt l j).key.size
  have b2 := vF_length 6 (atB l j)
  have b3 := vF_length 6 (blkB l j).length
  have b4 := vF_length 6 (fT l j)
  have b5 := vF_length 6 (lT l j)
  omega
theorem idxB_length {l : List Ser} (h : SOk l) (k : Nat) (hk : k ≤ l.length) : 6 * k ≤ (idxB l k).length ∧ (idxB l k).length ≤ 43 * k := by
  induction k with
  | zero => simp [idxB, cat_zero]
  | succ k ih =>
    have ih := ih (by omega)
    have := spB_length h k (by omega)
    unfold idxB at ih ⊢
    rw [cat_succ, List.length_append]
    omega
theorem atB_le {l : List Ser} (h : SOk l) (k : Nat) (hk : k ≤ l.length) : atB l k ≤ 4504 := by
  have := blks_length l k
  have := h.1
  unfold atB
  omega
theorem bodyF_length {l : List Ser} (h : SOk l) : (bodyF l).length = 8 + (blks l l.length).length + (idxB l l.length).length ∧ (bodyF l).length ≤ 5000 := by
  have h1 := blks_length l l.length
  have h2 := idxB_length h l.length (Nat.le_refl _)
  have := h.1
  unfold bodyF
  simp only [List.length_append, low_length]
  have : magic.length = 4 := rfl
  omega
theorem fileB_length (l : List Ser) : (fileB l).length = (bodyF l).length + 4 := by unfold fileB; rw [List.length_append, low_length]
theorem fileT_size (l : List Ser) : (fileT l).size ≤ 5004 := by
  unfold fileT
  split
  · rename_i h
    rw [txt_size, fileB_length]
    have := bodyF_length h.2
    omega
  · rw [txt_size]; simp

/-! ### Reading, as functions -/
theorem rdV_ex (s : ByteArray) : ∃ n k : Nat, RdV s (n : Int) k := by
  by_cases h : ∃ k, FindV s k
  · obtain ⟨k, h⟩ := h
    exact ⟨vvS s 0 k, k, .inl ⟨h, rfl⟩⟩
  · exact ⟨0, 0, .inr ⟨fun j hj => h ⟨j, hj⟩, rfl, rfl⟩⟩
noncomputable def rvN (s : ByteArray) : Nat := Classical.choose (rdV_ex s)
noncomputable def rvK (s : ByteArray) : Nat := Classical.choose (Classical.choose_spec (rdV_ex s))
theorem rv_rd (s : ByteArray) : RdV s (rvN s : Int) (rvK s) := Classical.choose_spec (Classical.choose_spec (rdV_ex s))
theorem rv_is {s : ByteArray} {n : Int} {k : Nat} (h : RdV s n k) : n = (rvN s : Int) ∧ k = rvK s := h.one (rv_rd s)
theorem rvN_le (s : ByteArray) : rvN s ≤ 562949953421311 := by
  rcases rv_rd s with ⟨⟨_, h7, _, _⟩, h⟩ | ⟨_, h, _⟩
  · have := vvS_le s (rvK s) h7 0
    omega
  · omega
theorem rvK_le (s : ByteArray) : rvK s ≤ s.size ∧ rvK s ≤ 7 := by
  have := (rv_rd s).le
  omega
/-- A Var that stands there is read. -/
theorem rv_var (n : Nat) (tl : List UInt8) (hn : n ≤ 562949953421311) : rvN (txt (vF 6 n ++ tl)) = n ∧ rvK (txt (vF 6 n ++ tl)) = (vF 6 n).length := by
  have hf := find_var n tl hn
  have := rv_is (s := txt (vF 6 n ++ tl)) (n := (n : Int)) (k := (vF 6 n).length) (.inl ⟨hf.1, by rw [hf.2]⟩)
  omega
/-- The piece of a text between two others. -/
theorem extract_mid (a b c : List UInt8) : (txt (a ++ (b ++ c))).extract a.length (a.length + b.length) = txt b := by
  have h1 := extract_back a (b ++ c)
  have h2 := extract_front b c
  rw [← h1, ByteArray.extract_extract] at h2
  rw [← h2]
  congr 1
  rw [txt_size]
  simp only [List.length_append]
  omega
theorem rest_mid (a b : List UInt8) : rest (txt (a ++ b)) a.length = txt b := extract_back a b
/-- A Var from a place on, and the place behind it. -/
noncomputable def tkN (s : ByteArray) (p : Nat) : Nat := rvN (rest s p)
noncomputable def tkP (s : ByteArray) (p : Nat) : Nat := p + rvK (rest s p)
theorem tkP_le (s : ByteArray) (p : Nat) (h : p ≤ s.size) : tkP s p ≤ s.size := by
  have := (rvK_le (rest s p)).1
  rw [rest_size] at this
  unfold tkP
  omega
theorem tk_var (a : List UInt8) (n : Nat) (tl : List UInt8) (hn : n ≤ 562949953421311) : tkN (txt (a ++ (vF 6 n ++ tl))) a.length = n ∧ tkP (txt (a ++ (vF 6 n ++ tl))) a.length = (a ++ vF 6 n).length := by
  unfold tkN tkP
  rw [rest_mid, (rv_var n tl hn).1, (rv_var n tl hn).2, List.length_append]
  exact ⟨rfl, rfl⟩
/-- What an index tells of one key. -/
structure Spot where
  key : ByteArray
  at' : Nat
  size : Nat
  first : Nat
  last : Nat
instance : Inhabited Spot := ⟨⟨⟨#[]⟩, 0, 0, 0, 0⟩⟩
/-- Where the bytes end of which 'many' are taken. -/
def tk (s : ByteArray) (p many : Nat) : Nat := min (p + many) s.size
noncomputable def spK (s : ByteArray) (p : Nat) : Nat := tk s (tkP s p) (tkN s p)
noncomputable def spotA (s : ByteArray) (p : Nat) : Spot :=
  ⟨s.extract (tkP s p) (spK s p), tkN s (spK s p), tkN s (tkP s (spK s p)), tkN s (tkP s (tkP s (spK s p))), tkN s (tkP s (tkP s (tkP s (spK s p))))⟩
noncomputable def spotP (s : ByteArray) (p : Nat) : Nat := tkP s (tkP s (tkP s (tkP s (spK s p))))
theorem tk_le (s : ByteArray) (p many : Nat) : tk s p many ≤ s.size := Nat.min_le_right _ _
theorem spotP_le (s : ByteArray) (p : Nat) : spotP s p ≤ s.size := tkP_le _ _ (tkP_le _ _ (tkP_le _ _ (tkP_le _ _ (tk_le _ _ _))))
/-- The spots from a place on. -/
noncomputable def idxA (s : ByteArray) (e : Nat) : Nat → Nat → List Spot
  | 0, _ => []
  | f + 1, p => if p < e then spotA s p :: idxA s e f (spotP s p) else []
/-- The spots of a text. -/
noncomputable def spots (s : ByteArray) : List Spot := if s.size < 8 then [] else idxA s (s.size - 8) 5 (min (rdv (rest s (s.size - 8)) 4) s.size)
theorem idxA_length (s : ByteArray) (e : Nat) : ∀ f p, (idxA s e f p).length ≤ f
  | 0, _ => by simp [idxA]
  | f + 1, p => by
    rw [idxA]
    split
    · have := idxA_length s e f (spotP s p)
      simp only [List.length_cons]
      omega
    · simp
theorem spots_length (s : ByteArray) : (spots s).length ≤ 5 := by
  unfold spots
  split
  · simp
  · exact idxA_length _ _ _ _
/-- The block that a spot leads to. -/
def blkA (s : ByteArray) (x : Spot) : ByteArray := s.extract (min x.at' s.size) (tk s (min x.at' s.size) x.size)
theorem rb_ex (s : ByteArray) : ∃ l ok, RbAns s l ok := by
  by_cases h : ∃ l, Good s l
  · obtain ⟨l, h⟩ := h
    exact ⟨l, true, .inl ⟨rfl, h⟩⟩
  · exact ⟨[], false, .inr ⟨rfl, rfl, fun m hm => h ⟨m, hm⟩⟩⟩
noncomputable def rbP (s : ByteArray) : List Pnt := Classical.choose (rb_ex s)
theorem rbP_is {s : ByteArray} {l : List Pnt} {ok : Bool} (h : RbAns s l ok) : l = rbP s := by
  obtain ⟨ok', h'⟩ := Classical.choose_spec (rb_ex s)
  exact (h.one h').1
theorem rbP_good {s : ByteArray} {l : List Pnt} (h : Good s l) : rbP s = l := (rbP_is (ok := true) (.inl ⟨rfl, h⟩)).symm
theorem rbP_length (s : ByteArray) : (rbP s).length ≤ 60 := by
  obtain ⟨ok, h⟩ := Classical.choose_spec (rb_ex s)
  exact h.len
noncomputable def serA (s : ByteArray) (x : Spot) : Ser := ⟨x.key, rbP (blkA s x)⟩
/-- The series that the spots of a text lead to. -/
noncomputable def serAll (s : ByteArray) : List Ser := (spots s).map (serA s)

/-! ### A file is read as its series -/
def spotOf (l : List Ser) (j : Nat) : Spot := ⟨(sAt l j).key, atB l j, (blkB l j).length, fT l j, lT l j⟩
/-- Where the index tells of the j-th. -/
def posF (l : List Ser) (j : Nat) : Nat := atB l l.length + (idxB l j).length
/-- A file around what its index tells of the j-th. -/
theorem file_at (l : List Ser) (j : Nat) (hj : j < l.length) : ∃ a b : List UInt8, fileB l = a ++ (spB l j ++ (b ++ (low (atB l l.length) 4 ++ low (crc (txt (bodyF l))) 4))) ∧ a.length = posF l j ∧ idxB l l.length = idxB l j ++ (spB l j ++ b) := by
  obtain ⟨b, hb⟩ := cat_split (spB l) j l.length hj
  refine ⟨magic ++ (blks l l.length ++ idxB l j), b, ?_, ?_, hb⟩
  · unfold fileB bodyF
    rw [show idxB l l.length = cat (spB l) l.length from rfl, hb]
    simp only [List.append_assoc]
    rfl
  · unfold posF atB
    simp only [List.length_append]
    have : magic.length = 4 := rfl
    omega
theorem posF_end {l : List Ser} (h : SOk l) : posF l l.length + 8 = (fileB l).length := by
  have := bodyF_length h
  rw [fileB_length, this.1]
  unfold posF atB
  omega
theorem posF_lt {l : List Ser} (h : SOk l) (j : Nat) (hj : j < l.length) : posF l j < posF l l.length := by
  obtain ⟨a, b, _, _, hb⟩ := file_at l j hj
  have := spB_length h j hj
  unfold posF
  rw [hb]
  simp only [List.length_append]
  omega
theorem posF_succ (l : List Ser) (j : Nat) : posF l (j + 1) = posF l j + (spB l j).length := by
  unfold posF idxB
  rw [cat_succ, List.length_append, Nat.add_assoc]
theorem big_enough {n : Nat} (h : n ≤ 1099511627776) : n ≤ 562949953421311 := by omega
theorem nums_le {l : List Ser} (h : SOk l) (j : Nat) (hj : j < l.length) : (sAt l j).key.size ≤ 562949953421311 ∧ atB l j ≤ 562949953421311 ∧ (blkB l j).length ≤ 562949953421311 ∧ fT l j ≤ 562949953421311 ∧ lT l j ≤ 562949953421311 := by
  have h1 := h.key j hj
  have h2 := atB_le h j (by omega)
  have h3 := blkB_length l j
  have h4 := h.times j hj
  unfold fT lT
  omega
theorem spot_read {l : List Ser} (h : SOk l) (j : Nat) (hj : j < l.length) : spotA (txt (fileB l)) (posF l j) = spotOf l j ∧ spotP (txt (fileB l)) (posF l j) = posF l (j + 1) := by
  obtain ⟨a, b, hf, ha, _⟩ := file_at l j hj
  obtain ⟨n1, n2, n3, n4, n5⟩ := nums_le h j hj
  generalize hK : (sAt l j).key = K at *
  generalize hA : atB l j = A at *
  generalize hZ : (blkB l j).length = Z at *
  generalize hF : fT l j = F at *
  generalize hE : lT l j = E at *
  generalize b ++ (low (atB l l.length) 4 ++ low (crc (txt (bodyF l))) 4) = T at hf
  have hsp : spB l j = vF 6 K.size ++ (bl K ++ (vF 6 A ++ (vF 6 Z ++ (vF 6 F ++ vF 6 E)))) := by unfold spB; rw [hK, hA, hZ, hF, hE]
  have e0 : fileB l = a ++ (vF 6 K.size ++ (bl K ++ (vF 6 A ++ (vF 6 Z ++ (vF 6 F ++ (vF 6 E ++ T)))))) := by rw [hf, hsp]; simp only [List.append_assoc]
  have e1 : fileB l = (a ++ vF 6 K.size) ++ (bl K ++ (vF 6 A ++ (vF 6 Z ++ (vF 6 F ++ (vF 6 E ++ T))))) := by rw [e0]; simp only [List.append_assoc]
  have e2 : fileB l = (a ++ vF 6 K.size ++ bl K) ++ (vF 6 A ++ (vF 6 Z ++ (vF 6 F ++ (vF 6 E ++ T)))) := by rw [e0]; simp only [List.append_assoc]
  have e3 : fileB l = (a ++ vF 6 K.size ++ bl K ++ vF 6 A) ++ (vF 6 Z ++ (vF 6 F ++ (vF 6 E ++ T))) := by rw [e0]; simp only [List.append_assoc]
  have e4 : fileB l = (a ++ vF 6 K.size ++ bl K ++ vF 6 A ++ vF 6 Z) ++ (vF 6 F ++ (vF 6 E ++ T)) := by rw [e0]; simp only [List.append_assoc]
  have e5 : fileB l = (a ++ vF 6 K.size ++ bl K ++ vF 6 A ++ vF 6 Z ++ vF 6 F) ++ (vF 6 E ++ T) := by rw [e0]; simp only [List.append_assoc]
  have t1 := tk_var a K.size (bl K ++ (vF 6 A ++ (vF 6 Z ++ (vF 6 F ++ (vF 6 E ++ T))))) n1
  rw [← e0] at t1
  have k1 : spK (txt (fileB l)) a.length = (a ++ vF 6 K.size ++ bl K).length := by
    unfold spK tk
    rw [t1.1, t1.2, txt_size, e2]
    simp only [List.length_append, bl_length]
    omega
  have x1 := extract_mid (a ++ vF 6 K.size) (bl K) (vF 6 A ++ (vF 6 Z ++ (vF 6 F ++ (vF 6 E ++ T))))
  rw [← e1, ← List.length_append] at x1
  have t2 := tk_var (a ++ vF 6 K.size ++ bl K) A (vF 6 Z ++ (vF 6 F ++ (vF 6 E ++ T))) n2
  rw [← e2] at t2
  have t3 := tk_var (a ++ vF 6 K.size ++ bl K ++ vF 6 A) Z (vF 6 F ++ (vF 6 E ++ T)) n3
  rw [← e3] at t3
  have t4 := tk_var (a ++ vF 6 K.size ++ bl K ++ vF 6 A ++ vF 6 Z) F (vF 6 E ++ T) n4
  rw [← e4] at t4
  have t5 := tk_var (a ++ vF 6 K.size ++ bl K ++ vF 6 A ++ vF 6 Z ++ vF 6 F) E T n5
  rw [← e5] at t5
  rw [posF_succ, ← ha]
  unfold spotA spotP
  rw [k1, t1.2, t2.1, t2.2, t3.1, t3.2, t4.1, t4.2, t5.1, t5.2, x1]
  refine ⟨?_, ?_⟩
  · unfold spotOf
    rw [hK, hA, hZ, hF, hE, txt_bl]
  · rw [hsp]
    simp only [List.length_append]
    omega
theorem idx_read {l : List Ser} (h : SOk l) (d : Nat) : ∀ j f, j + d = l.length → d ≤ f → idxA (txt (fileB l)) (posF l l.length) f (posF l j) = (List.range d).map fun i => spotOf l (j + i) := by
  induction d with
  | zero =>
    intro j f hj _
    obtain rfl : j = l.length := by omega
    cases f with
    | zero => rfl
    | succ f => rw [idxA, if_neg (by omega)]; rfl
  | succ d ih =>
    intro j f hj hf
    match f, hf with
    | f + 1, hf =>
      rw [idxA, if_pos (posF_lt h j (by omega)), (spot_read h j (by omega)).1, (spot_read h j (by omega)).2, ih (j + 1) f (by omega) (by omega), List.range_succ_eq_map, List.map_cons, List.map_map, Nat.add_zero]
      congr 1
      apply List.map_congr_left
      intro i _
      show spotOf l (j + 1 + i) = spotOf l (j + (i + 1))
      congr 1
      omega
theorem begin_read {l : List Ser} (h : SOk l) : rdv (rest (txt (fileB l)) ((txt (fileB l)).size - 8)) 4 = atB l l.length ∧ 12 ≤ (txt (fileB l)).size := by
  have hb := atB_le h l.length (Nat.le_refl _)
  have hl := bodyF_length h
  have e : fileB l = (magic ++ (blks l l.length ++ idxB l l.length)) ++ (low (atB l l.length) 4 ++ low (crc (txt (bodyF l))) 4) := by
    unfold fileB
    conv => lhs; arg 1; unfold bodyF
    simp only [List.append_assoc]
  have hz : (txt (fileB l)).size - 8 = (magic ++ (blks l l.length ++ idxB l l.length)).length := by
    rw [txt_size, fileB_length, hl.1]
    simp only [List.length_append]
    have : magic.length = 4 := rfl
    omega
  refine ⟨?_, by rw [txt_size, fileB_length, hl.1]; omega⟩
  rw [hz]
  conv => lhs; arg 1; rw [e]
  rw [rest_mid, ← txt_cat, rdv_append _ _ _ (by rw [txt_size, low_length]; exact Nat.le_refl _)]
  exact rdv_four_four _ (by omega)
theorem spots_read {l : List Ser} (h : SOk l) : spots (txt (fileB l)) = (List.range l.length).map (spotOf l) := by
  obtain ⟨h1, h2⟩ := begin_read h
  have hp := posF_end h
  have hb := atB_le h l.length (Nat.le_refl _)
  have h5 := h.1
  have hl := bodyF_length h
  have e0 : min (atB l l.length) (txt (fileB l)).size = posF l 0 := by
    rw [txt_size, fileB_length, hl.1]
    unfold posF idxB
    rw [cat_zero]
    unfold atB
    simp only [List.length_nil]
    omega
  have ee : (txt (fileB l)).size - 8 = posF l l.length := by rw [txt_size]; omega
  unfold spots
  rw [if_neg (by omega), h1, e0, ee, idx_read h l.length 0 5 (by omega) h5]
  simp only [Nat.zero_add]
theorem blk_read {l : List Ser} (j : Nat) (hj : j < l.length) : blkA (txt (fileB l)) (spotOf l j) = showB (sAt l j).pts := by
  obtain ⟨c, hc⟩ := cat_split (blkB l) j l.length hj
  have e : ∃ T, fileB l = (magic ++ blks l j) ++ (blkB l j ++ T) := by
    refine ⟨c ++ (idxB l l.length ++ low (atB l l.length) 4) ++ low (crc (txt (bodyF l))) 4, ?_⟩
    unfold fileB
    conv => lhs; arg 1; unfold bodyF
    rw [show blks l l.length = cat (blkB l) l.length from rfl, hc]
    simp only [List.append_assoc]
    rfl
  obtain ⟨T, e⟩ := e
  have ha : atB l j = (magic ++ blks l j).length := by
    unfold atB
    rw [List.length_append]
    rfl
  have hm := extract_mid (magic ++ blks l j) (blkB l j) T
  unfold blkA spotOf tk
  simp only
  rw [txt_size, ha, e]
  rw [show min (magic ++ blks l j).length ((magic ++ blks l j) ++ (blkB l j ++ T)).length = (magic ++ blks l j).length by simp only [List.length_append]; omega,
    show min ((magic ++ blks l j).length + (blkB l j).length) ((magic ++ blks l j) ++ (blkB l j ++ T)).length = (magic ++ blks l j).length + (blkB l j).length by simp only [List.length_append]; omega, hm]
  exact txt_bl _
theorem ser_read {l : List Ser} (h : SOk l) (j : Nat) (hj : j < l.length) : serA (txt (fileB l)) (spotOf l j) = sAt l j := by
  have hg : Good (showB (sAt l j).pts) (sAt l j).pts := ⟨(h.2 j hj).2.1, (h.2 j hj).2.2, rfl⟩
  unfold serA
  rw [blk_read j hj, rbP_good hg]
  rfl
theorem range_at (l : List Ser) : (List.range l.length).map (sAt l) = l := by
  apply List.ext_getElem (by simp)
  intro j h1 h2
  rw [List.getElem_map, List.getElem_range, sAt, ← getD_at l j h2]
/-- A file is read as its series. -/
theorem GoodF.read {s : ByteArray} {l : List Ser} (h : GoodF s l) : serAll s = l ∧ spots s = (List.range l.length).map (spotOf l) := by
  rw [h.text]
  refine ⟨?_, spots_read h.2.1⟩
  unfold serAll
  rw [spots_read h.2.1, List.map_map]
  conv => rhs; rw [← range_at l]
  apply List.map_congr_left
  intro j hj
  exact ser_read h.2.1 j (List.mem_range.1 hj)
theorem GoodF.one {s : ByteArray} {l m : List Ser} (h : GoodF s l) (h' : GoodF s m) : l = m := h.read.1.symm.trans h'.read.1
/-- What is read and is written as the text is right. -/
theorem GoodF.of {s : ByteArray} {l : List Ser} (h1 : 1 ≤ l.length) (h8 : 8 ≤ s.size) (hs : fileT l = s) : GoodF s l := by
  refine ⟨h1, ?_, hs⟩
  by_cases h : SOk l
  · exact h
  · rw [fileT, if_neg (fun hh => h hh.2)] at hs
    rw [← hs, txt_size] at h8
    simp at h8
/-- What both ReadFile answer. -/
def RfAns (s : ByteArray) (l : List Ser) (ok : Bool) : Prop := (ok = true ∧ GoodF s l) ∨ (ok = false ∧ l = [] ∧ ∀ m, ¬ GoodF s m)
theorem RfAns.one {s : ByteArray} {l m : List Ser} {x y : Bool} (h : RfAns s l x) (h' : RfAns s m y) : l = m ∧ x = y := by
  rcases h with ⟨h1, h2⟩ | ⟨h1, h2, h3⟩ <;> rcases h' with ⟨h1', h2'⟩ | ⟨h1', h2', h3'⟩
  · exact ⟨h2.one h2', h1.trans h1'.symm⟩
  · exact absurd h2 (h3' l)
  · exact absurd h2' (h3 m)
  · exact ⟨h2.trans h2'.symm, h1.trans h1'.symm⟩
theorem RfAns.len {s : ByteArray} {l : List Ser} {x : Bool} (h : RfAns s l x) : l.length ≤ 5 := by
  rcases h with ⟨_, h2⟩ | ⟨_, h2, _⟩
  · exact h2.2.1.1
  · rw [h2]; simp
theorem RfAns.short {s : ByteArray} {l : List Ser} {x : Bool} (h : RfAns s l x) : ∀ y ∈ l, y.pts.length ≤ 60 := by
  rcases h with ⟨_, h2⟩ | ⟨_, h2, _⟩
  · intro y hy
    obtain ⟨j, hj, rfl⟩ := List.getElem_of_mem hy
    have := (h2.2.1.2 j hj).2.2.1
    rwa [sAt, ← getD_at l j hj] at this
  · rw [h2]
    intro y hy
    cases hy
end Go.Proofs.YthgiekeiljflaaaDoor

/-
  A file in which one byte is another one is none (no program in sight, no condition).
-/
namespace Go.Proofs.YthgiekeiljflaaaDoor
open Go.RowKit Go.PlainAid

theorem half_zero (d : Nat) (hd : d < 4294967296) (h : half d = 0) : d = 0 := by
  unfold half at h
  split at h
  · exfalso
    have e : d / 2 = 2197175160 := by
      have := congrArg (· ^^^ 2197175160) h
      simpa [Nat.xor_assoc] using this
    omega
  · omega
theorem halfs_zero (k d : Nat) (hd : d < 4294967296) (h : halfs k d = 0) : d = 0 := by
  induction k with
  | zero => simpa [halfs] using h
  | succ k ih =>
    rw [halfs_succ] at h
    exact ih (half_zero _ (halfs_lt k d hd) h)
theorem xor_zero {a b : Nat} (h : a ^^^ b = 0) : a = b := by
  have := congrArg (· ^^^ b) h
  simpa [Nat.xor_assoc] using this
theorem halfs_inj (k a b : Nat) (ha : a < 4294967296) (hb : b < 4294967296) (h : halfs k a = halfs k b) : a = b := by
  apply xor_zero
  apply halfs_zero k _ (xor_lt32 a b ha hb)
  rw [halfs_xor, h, Nat.xor_self]
/-- Two texts that are one but at k: their sums part there, and never meet again. -/
theorem crcC_same (s t : ByteArray) (j : Nat) (h : ∀ i, i < j → bn s i = bn t i) : crcC s j = crcC t j := by
  induction j with
  | zero => rfl
  | succ j ih =>
    rw [crcC_succ, crcC_succ, ih (fun i hi => h i (by omega)), h j (by omega)]
theorem crcC_part (s t : ByteArray) (k : Nat) (hk : bn s k ≠ bn t k) (h : ∀ i, i ≠ k → bn s i = bn t i) (d : Nat) : crcC s (k + 1 + d) ≠ crcC t (k + 1 + d) := by
  induction d with
  | zero =>
    rw [Nat.add_zero, crcC_succ, crcC_succ, crcC_same s t k (fun i hi => h i (by omega))]
    intro e
    have e2 := halfs_inj 8 _ _ (xor_lt32 _ _ (crcC_lt t k) (by have := bn_lt s k; omega)) (xor_lt32 _ _ (crcC_lt t k) (by have := bn_lt t k; omega)) e
    apply hk
    have := congrArg (crcC t k ^^^ ·) e2
    simpa [← Nat.xor_assoc] using this
  | succ d ih =>
    rw [show k + 1 + (d + 1) = (k + 1 + d) + 1 by omega, crcC_succ, crcC_succ, h (k + 1 + d) (by omega)]
    intro e
    have e2 := halfs_inj 8 _ _ (xor_lt32 _ _ (crcC_lt s _) (by have := bn_lt t (k + 1 + d); omega)) (xor_lt32 _ _ (crcC_lt t _) (by have := bn_lt t (k + 1 + d); omega)) e
    apply ih
    have := congrArg (· ^^^ bn t (k + 1 + d)) e2
    simpa [Nat.xor_assoc] using this
theorem bn_front (s : ByteArray) (n i : Nat) (hi : i < n) (hn : n ≤ s.size) : bn (s.extract 0 n) i = bn s i := by
  rw [bn_get _ _ (by rw [ByteArray.size_extract]; omega), bn_get _ _ (by omega)]
  congr 1
  rw [ByteArray.getElem_extract]
  simp
theorem bn_back (s : ByteArray) (n i : Nat) (hi : n + i < s.size) : bn (s.extract n s.size) i = bn s (n + i) := by
  rw [bn_get _ _ (by rw [ByteArray.size_extract]; omega), bn_get _ _ (by omega)]
  congr 1
  rw [ByteArray.getElem_extract]
theorem bytes_ext {s t : ByteArray} (hz : s.size = t.size) (h : ∀ i, i < s.size → bn s i = bn t i) : s = t := by
  apply ByteArray.ext_getElem hz
  intro i h1 h2
  have := h i h1
  rw [bn_get s i h1, bn_get t i h2] at this
  exact UInt8.toNat_inj.1 this
/-- The last four bytes of a file are the sum of those ahead. -/
theorem GoodF.sum {s : ByteArray} {m : List Ser} (h : GoodF s m) : 4 ≤ s.size ∧ s.extract (s.size - 4) s.size = four (crc (s.extract 0 (s.size - 4))) := by
  have hs := h.text
  have hz : s.size = (bodyF m).length + 4 := by rw [hs, txt_size, fileB_length]
  have e1 : s.size - 4 = (bodyF m).length := by omega
  refine ⟨by omega, ?_⟩
  rw [e1]
  have a1 := extract_back (bodyF m) (low (crc (txt (bodyF m))) 4)
  have a2 := extract_front (bodyF m) (low (crc (txt (bodyF m))) 4)
  rw [show bodyF m ++ low (crc (txt (bodyF m))) 4 = fileB m from rfl, ← hs] at a1 a2
  rw [a1, a2]
  rfl
theorem four_inj {a b : Nat} (ha : a < 4294967296) (hb : b < 4294967296) (h : four a = four b) : a = b := by
  rw [← rdv_four_four a ha, ← rdv_four_four b hb, h]
/-- A file in which one byte is another one is none. -/
theorem GoodF.turned {s t : ByteArray} {m : List Ser} (h : GoodF s m) (hz : t.size = s.size) (k : Nat) (hk : k < s.size) (hne : bn s k ≠ bn t k) (heq : ∀ i, i ≠ k → bn s i = bn t i) : ∀ m', ¬ GoodF t m' := fun m' h' => by
  obtain ⟨h4, h1⟩ := h.sum
  obtain ⟨_, h2⟩ := h'.sum
  rw [hz] at h2
  rcases Nat.lt_or_ge k (s.size - 4) with hk4 | hk4
  · have e1 : s.extract (s.size - 4) s.size = t.extract (s.size - 4) s.size := by
      apply bytes_ext (by rw [ByteArray.size_extract, ByteArray.size_extract, hz])
      intro i hi
      rw [ByteArray.size_extract] at hi
      rw [bn_back s _ i (by omega)]
      have := bn_back t (s.size - 4) i (by omega)
      rw [hz] at this
      rw [this]
      exact heq _ (by omega)
    rw [h1, h2] at e1
    have e2 := four_inj (crc_lt _) (crc_lt _) e1
    unfold crc at e2
    have z1 : (s.extract 0 (s.size - 4)).size = s.size - 4 := by rw [ByteArray.size_extract]; omega
    have z2 : (t.extract 0 (s.size - 4)).size = s.size - 4 := by rw [ByteArray.size_extract]; omega
    rw [z1, z2] at e2
    have l1 := crcC_lt (s.extract 0 (s.size - 4)) (s.size - 4)
    have l2 := crcC_lt (t.extract 0 (s.size - 4)) (s.size - 4)
    have e3 : crcC (s.extract 0 (s.size - 4)) (s.size - 4) = crcC (t.extract 0 (s.size - 4)) (s.size - 4) := by omega
    have f1 : crcC (s.extract 0 (s.size - 4)) (s.size - 4) = crcC s (s.size - 4) := crcC_same _ _ _ fun i hi => bn_front s _ i hi (by omega)
    have f2 : crcC (t.extract 0 (s.size - 4)) (s.size - 4) = crcC t (s.size - 4) := crcC_same _ _ _ fun i hi => bn_front t _ i hi (by omega)
    rw [f1, f2] at e3
    have := crcC_part s t k hne heq (s.size - 4 - (k + 1))
    rw [show k + 1 + (s.size - 4 - (k + 1)) = s.size - 4 by omega] at this
    exact this e3
  · have e1 : s.extract 0 (s.size - 4) = t.extract 0 (s.size - 4) := by
      apply bytes_ext (by rw [ByteArray.size_extract, ByteArray.size_extract, hz])
      intro i hi
      rw [ByteArray.size_extract] at hi
      rw [bn_front s _ i (by omega) (by omega), bn_front t _ i (by omega) (by omega)]
      exact heq _ (by omega)
    rw [← e1, ← h1] at h2
    have := bn_back s (s.size - 4) (k - (s.size - 4)) (by omega)
    rw [← h2] at this
    have e2 := bn_back t (s.size - 4) (k - (s.size - 4)) (by omega)
    rw [hz] at e2
    rw [e2, show s.size - 4 + (k - (s.size - 4)) = k by omega] at this
    exact hne this.symm
/-- Keys of right series are no two alike. -/
theorem SOk.keys_lt {m : List Ser} (h : SOk m) (i : Nat) : ∀ d, i + d + 1 < m.length → ahd (sAt m i).key (sAt m (i + d + 1)).key = true
  | 0, hd => by
    have := (h.2 (i + 1) (by omega)).1.2 (by omega)
    rwa [Nat.add_sub_cancel] at this
  | d + 1, hd => by
    have ih := SOk.keys_lt h i d (by omega)
    have := (h.2 (i + (d + 1) + 1) hd).1.2 (by omega)
    rw [Nat.add_sub_cancel] at this
    exact ahd_trans ih this
theorem SOk.keys_ne {m : List Ser} (h : SOk m) (i j : Nat) (hij : i < j) (hj : j < m.length) : (sAt m i).key ≠ (sAt m j).key := fun e => by
  have := SOk.keys_lt h i (j - i - 1) (by omega)
  rw [show i + (j - i - 1) + 1 = j by omega, e, ahd_irrefl] at this
  cases this
end Go.Proofs.YthgiekeiljflaaaDoor
