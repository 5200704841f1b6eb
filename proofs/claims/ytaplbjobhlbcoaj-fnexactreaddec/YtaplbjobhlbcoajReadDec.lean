/-
  Contracts of impl.ReadDec (and what it calls) and spec.ReadDec: what each returns, at every text of at most 1048576 bytes.
-/
import Derived.Test.YtaplbjobhlbcoajRows
import Derived.Test.YtaplbjobhlbcoajReadDecAid
import Derived.Test.YtaplbjobhlbcoajSpecDec
import Derived.WalkKit
import Derived.ProofKit
import Derived.OpenShut
import Derived.Below
import Derived.Handy
import Derived.WalkLawsBesides
import Derived.WalkSpells
import Derived.Outline
import Derived.WalkMore
import Derived.Deep.OwnRows
namespace Go.Proofs.Ytaplbjobhlbcoaj
open Go.ChangeShapes Go.WideShapes Go.ChangeAt Go.RowKit Go.PlainAid
set_option linter.unusedVariables false

/-- What readDigits answers. -/
def RD (t : ByteArray) (e : Ending) : Prop :=
  (GoodO t 0 t.size ∧ e = .returned (.tuple #[.int .i64 (valO t 0 t.size : Int), .bool true])) ∨ (¬ GoodO t 0 t.size ∧ e = .returned (.tuple #[.int .i64 0, .bool false]))

theorem valO_le9 (s : ByteArray) (o k : Nat) (hk : k ≤ 9) (h : ∀ j, j < k → 48 ≤ bn s (o + j) ∧ bn s (o + j) ≤ 57) : valO s o k < 1000000000 := by
  have h1 := valO_lt s o k (fun j hj => (h j hj).2)
  have h2 : 10 ^ k ≤ 10 ^ 9 := Nat.pow_le_pow_right (by omega) hk
  omega

set_option maxHeartbeats 1000000 in
theorem impl_readDigits_in (t : ByteArray) (w : World) (h1 : 1 ≤ t.size) (h9 : t.size ≤ 9) :
    Calls Try.prog 14 #[.string t] w fun e w' => RD t e ∧ w = w' := by
  have q1 : (t.size : Int) ≤ 9 := by omega
  have q2 : (1 : Int) ≤ (t.size : Int) := by omega
  have hne : t.toList.isEmpty = false := by
    rw [Lib.toList_data, List.isEmpty_eq_false_iff]
    intro h
    have e := Lib.size_eq t
    rw [h, List.length_nil] at e
    omega
  have hbt := get_bn t
  go_enter Try.func14, Try.ntmps14
  go_wp2
  go_step3
  go_wp2
  go_step3
  go_wp2
  go_loop [4, 5, 17] (fun v4 v5 v17 => ∃ k : Nat, k ≤ t.size ∧ v17 = .int .i64 k ∧ v4 = .int .i64 (valO t 0 k) ∧ v5 = .bool true ∧ Hid (∀ j, j < k → 48 ≤ bn t (0 + j) ∧ bn t (0 + j) ≤ 57) ∧ Hid (k = 0 ∨ t.size = 1 ∨ bn t 0 ≠ 48)) (fun _ _ i => t.size - (intOf i).toNat)
  case atStart => exact ⟨0, by omega, rfl, rfl, rfl, fun j hj => absurd hj (by omega), .inl rfl⟩
  case round =>
    obtain ⟨k, hk, rfl, rfl, rfl, HJ, HZ⟩ := hrel
    by_cases hlt : k < t.size
    · have r1 := bn_lt t k
      have r2 := valO_le9 t 0 k (by omega) HJ.out
      by_cases c1 : (bn t k : Int) < 48
      · have HN : Hid (¬ GoodO t 0 t.size) := by intro h; have := h.2.2.1 k hlt; rw [Nat.zero_add] at this; omega
        go_wp2
        go_ret2
        exact ⟨.inr ⟨HN.out, rfl⟩, rfl⟩
      · by_cases c2 : (57 : Int) < (bn t k : Int)
        · have HN : Hid (¬ GoodO t 0 t.size) := by intro h; have := h.2.2.1 k hlt; rw [Nat.zero_add] at this; omega
          go_wp2
          go_ret2
          exact ⟨.inr ⟨HN.out, rfl⟩, rfl⟩
        · have HK : Hid (∀ j, j < k + 1 → 48 ≤ bn t (0 + j) ∧ bn t (0 + j) ≤ 57) := by
            intro j hj
            by_cases e : j = k
            · subst e; rw [Nat.zero_add]; omega
            · exact HJ.out j (by omega)
          have HV : Hid ((valO t 0 (k + 1) : Int) = 10 * (valO t 0 k : Int) + ((bn t k : Int) - 48)) := by
            show ((valO t 0 (k + 1) : Nat) : Int) = _
            rw [valO, Nat.zero_add]
            omega
          by_cases c3 : bn t k = 48
          · have z1 : ((bn t k : Int) == 48) = true := by simp; omega
            by_cases c4 : k = 0
            · have z2 : ((k : Int) == 0) = true := by simp; omega
              by_cases c5 : (1 : Int) < (t.size : Int)
              · have HN : Hid (¬ GoodO t 0 t.size) := by
                  intro h
                  rcases h.2.2.2 with h | h
                  · omega
                  · exact h (by rw [c4] at c3; exact c3)
                clear c3 c4
                go_wp2
                go_ret2
                exact ⟨.inr ⟨HN.out, rfl⟩, rfl⟩
              · have HC : Hid (k = 0) := c4
                clear c3 c4
                go_wp2
                go_round
                case rel => exact ⟨k + 1, by omega, by go_num, by rw [HV.out], rfl, HK.out, by exact .inr (.inl (by omega))⟩
                case measure => simp [intOf]; omega
            · have z2 : ((k : Int) == 0) = false := by simp; omega
              clear c3
              go_wp2
              go_round
              case rel => exact ⟨k + 1, by omega, by go_num, by rw [HV.out], rfl, HK.out, by rcases HZ.out with h | h; exact absurd h c4; exact .inr h⟩
              case measure => simp [intOf]; omega
          · have z1 : ((bn t k : Int) == 48) = false := by simp; omega
            go_wp2
            go_round
            case rel => exact ⟨k + 1, by omega, by go_num, by rw [HV.out], rfl, HK.out, by rcases HZ.out with h | h; (right; right; rw [h] at c3; exact c3); exact .inr h⟩
            case measure => simp [intOf]; omega
    · have HY : Hid (GoodO t 0 t.size) := by
        have e : k = t.size := by omega
        have hz := HZ.out
        have hj := HJ.out
        rw [e] at hz hj
        exact ⟨h1, h9, hj, by rcases hz with h | h | h; omega; exact .inl h; exact .inr h⟩
      have hkk : k = t.size := by omega
      go_wp2
      go_ret2
      exact ⟨.inl ⟨HY.out, rfl⟩, rfl⟩

set_option maxHeartbeats 1000000 in
theorem impl_readDigits_out (t : ByteArray) (w : World) (h : t.size = 0 ∨ 9 < t.size) (hs : t.size ≤ 1048576) :
    Calls Try.prog 14 #[.string t] w fun e w' => RD t e ∧ w = w' := by
  have HN : Hid (¬ GoodO t 0 t.size) := by intro hg; have h1 := hg.1; have h2 := hg.2.1; omega
  have q0 : (t.size : Int) ≤ 1048576 := by omega
  by_cases h0 : t.size = 0
  · have hne : t.toList.isEmpty = true := by
      rw [Lib.toList_data, List.isEmpty_iff]
      exact List.eq_nil_of_length_eq_zero (by rw [← Lib.size_eq]; exact h0)
    clear h0 h
    go_enter Try.func14, Try.ntmps14
    go_wp2
    go_step3
    go_wp2
    rw [Exit.noGoto_ret]
    go_ret2
    exact ⟨.inr ⟨HN.out, rfl⟩, rfl⟩
  · have q9 : (9 : Int) < (t.size : Int) := by omega
    have hne : t.toList.isEmpty = false := by
      rw [Lib.toList_data, List.isEmpty_eq_false_iff]
      intro hh
      have e := Lib.size_eq t
      rw [hh, List.length_nil] at e
      omega
    clear h0 h
    go_enter Try.func14, Try.ntmps14
    go_wp2
    go_step3
    go_wp2
    rw [Exit.noGoto_ret]
    go_ret2
    exact ⟨.inr ⟨HN.out, rfl⟩, rfl⟩
theorem impl_readDigits (t : ByteArray) (w : World) (hs : t.size ≤ 1048576) :
    Calls Try.prog 14 #[.string t] w fun e w' => RD t e ∧ w = w' := by
  by_cases h : t.size = 0 ∨ 9 < t.size
  · exact impl_readDigits_out t w h hs
  · exact impl_readDigits_in t w (by omega) (by omega)

theorem first_byte (s : ByteArray) (h : 1 ≤ s.size) : (s.extract 0 1).toList = [byt (bn s 0)] := by
  rw [sg_extract s 1 h, Lib.toList_data]
  simp [txt, sg]
set_option maxHeartbeats 400000 in
theorem cut_yes (s : ByteArray) (w : World) (hs : s.size ≤ 1048576) (h1 : 1 ≤ s.size) (h : bn s 0 = 45) :
    Calls Try.prog 13 #[.string s, .string ⟨#[45]⟩] w fun e w' => e = .returned (.tuple #[.string (s.extract 1 s.size), .bool true]) ∧ w = w' := by
  have q0 : (s.size : Int) ≤ 1048576 := by omega
  have q1 : (1 : Int) ≤ (s.size : Int) := by omega
  have hq : ((s.extract 0 1).toList == [45]) = true := by rw [first_byte s h1, h]; rfl
  clear h
  go_enter Try.func13, Try.ntmps13
  go_wp2
  go_ret2
  exact ⟨rfl, rfl⟩
set_option maxHeartbeats 400000 in
theorem cut_no (s : ByteArray) (w : World) (hs : s.size ≤ 1048576) (h : s.size = 0 ∨ bn s 0 ≠ 45) :
    Calls Try.prog 13 #[.string s, .string ⟨#[45]⟩] w fun e w' => e = .returned (.tuple #[.string s, .bool false]) ∧ w = w' := by
  have q0 : (s.size : Int) ≤ 1048576 := by omega
  by_cases h0 : s.size = 0
  · have q1 : (s.size : Int) < 1 := by omega
    have q2 : decide ((1 : Int) ≤ (s.size : Int)) = false := by simp; omega
    clear h
    have HH : Hid (s.size = 0) := h0
    clear h0
    go_enter Try.func13, Try.ntmps13
    go_wp2
    go_ret2
    exact ⟨rfl, rfl⟩
  · have q1 : (1 : Int) ≤ (s.size : Int) := by omega
    have hq : ((s.extract 0 1).toList == [45]) = false := by
      rw [first_byte s (by omega)]
      have hb := bn_lt s 0
      have hne : byt (bn s 0) ≠ 45 := by
        intro e
        have := congrArg UInt8.toNat e
        rw [byt_toNat] at this
        have e45 : (45 : UInt8).toNat = 45 := rfl
        omega
      simp [hne]
    clear h
    go_enter Try.func13, Try.ntmps13
    go_wp2
    go_ret2
    exact ⟨rfl, rfl⟩

/-- What ReadDec answers. -/
def ReadD (s : ByteArray) (e : Ending) : Prop :=
  (∃ v : Int, AccI s v ∧ e = .returned (.tuple #[.int .i64 v, .bool true])) ∨ ((∀ v, ¬ AccI s v) ∧ e = .returned (.tuple #[.int .i64 0, .bool false]))

theorem bn_tail (s : ByteArray) (h : 1 ≤ s.size) : (s.extract 1 s.size).size = s.size - 1 ∧ ∀ j, bn (s.extract 1 s.size) j = bn s (1 + j) := by
  have e : s.extract 1 s.size = txt (s.data.toList.drop 1) := by
    apply ByteArray.ext
    apply Array.toList_inj.1
    rw [Lib.extract_data]
    simp only [txt]
    rw [List.take_of_length_le (by rw [List.length_drop, ← Lib.size_eq]; exact Nat.le_refl _)]
  have hl : (s.data.toList.drop 1).length = s.size - 1 := by rw [List.length_drop, ← Lib.size_eq]
  refine ⟨by rw [e, txt_size, hl], ?_⟩
  intro j
  by_cases hj : j < s.size - 1
  · rw [e, bn_txt _ _ (by omega)]
    have hg := get_bn s (1 + j) (by omega)
    have : (s.data.toList.drop 1)[j]'(by omega) = s[1 + j]'(by omega) := by
      rw [List.getElem_drop, Array.getElem_toList]
      rfl
    rw [this]
    omega
  · have a1 : bn (s.extract 1 s.size) j = 0 := by
      unfold bn
      rw [bt_end _ (by rw [e, txt_size, hl]; omega)]
      rfl
    have a2 : bn s (1 + j) = 0 := by
      unfold bn
      rw [bt_end _ (by omega)]
      rfl
    rw [a1, a2]
theorem good_tail (s : ByteArray) (h : 1 ≤ s.size) : (GoodO (s.extract 1 s.size) 0 (s.extract 1 s.size).size ↔ GoodO s 1 (s.size - 1)) ∧ valO (s.extract 1 s.size) 0 (s.extract 1 s.size).size = valO s 1 (s.size - 1) := by
  obtain ⟨h1, h2⟩ := bn_tail s h
  rw [h1]
  refine ⟨?_, valO_congr _ _ 0 1 _ (by intro j _; rw [Nat.zero_add]; exact h2 j)⟩
  unfold GoodO
  have h0 : bn (s.extract 1 s.size) 0 = bn s 1 := h2 0
  rw [h0]
  simp only [Nat.zero_add, h2]

theorem acc_plain (s : ByteArray) (h : s.size = 0 ∨ bn s 0 ≠ 45) (v : Int) : AccI s v ↔ GoodO s 0 s.size ∧ v = (valO s 0 s.size : Int) := by
  unfold AccI
  constructor
  · rintro (h1 | ⟨h1, h2, _⟩)
    · exact h1
    · rcases h with h | h
      · omega
      · exact absurd h2 h
  · exact .inl
theorem acc_minus (s : ByteArray) (h1 : 1 ≤ s.size) (h : bn s 0 = 45) (v : Int) : AccI s v ↔ GoodO s 1 (s.size - 1) ∧ valO s 1 (s.size - 1) ≠ 0 ∧ v = -(valO s 1 (s.size - 1) : Int) := by
  unfold AccI
  constructor
  · rintro (⟨g, _⟩ | ⟨_, _, h3, h4, h5⟩)
    · have := g.2.2.1 0 (by omega)
      simp at this
      omega
    · exact ⟨h3, h4, h5⟩
  · rintro ⟨h3, h4, h5⟩
    exact .inr ⟨h1, h, h3, h4, h5⟩

set_option maxHeartbeats 400000 in
theorem impl_readDec (s : ByteArray) (w : World) (hs : s.size ≤ 1048576) :
    Calls Try.prog 6 #[.string s] w fun e w' => ReadD s e ∧ w = w' := by
  by_cases h : s.size = 0 ∨ bn s 0 ≠ 45
  · have HA : Hid (∀ v, AccI s v ↔ GoodO s 0 s.size ∧ v = (valO s 0 s.size : Int)) := acc_plain s h
    go_enter Try.func6, Try.ntmps6
    go_wp2_with fail
    refine (cut_no s _ hs h).mono ?_
    rintro e w1 ⟨rfl, rfl⟩
    clear h
    go_wp2_with fail
    refine (impl_readDigits s _ hs).mono ?_
    rintro e w2 ⟨⟨hg, rfl⟩ | ⟨hg, rfl⟩, rfl⟩
    · have HG : Hid (GoodO s 0 s.size) := hg
      clear hg
      go_wp2_with fail
      go_ret2
      exact ⟨.inl ⟨_, (HA.out _).2 ⟨HG.out, rfl⟩, rfl⟩, rfl⟩
    · have HG : Hid (¬ GoodO s 0 s.size) := hg
      clear hg
      go_wp2_with fail
      go_ret2
      exact ⟨.inr ⟨fun v hv => HG.out ((HA.out v).1 hv).1, rfl⟩, rfl⟩
  · have h1 : 1 ≤ s.size := by omega
    have h2 : bn s 0 = 45 := by omega
    clear h
    have HA : Hid (∀ v, AccI s v ↔ GoodO s 1 (s.size - 1) ∧ valO s 1 (s.size - 1) ≠ 0 ∧ v = -(valO s 1 (s.size - 1) : Int)) := acc_minus s h1 h2
    have HT : Hid ((GoodO (s.extract 1 s.size) 0 (s.extract 1 s.size).size ↔ GoodO s 1 (s.size - 1)) ∧ valO (s.extract 1 s.size) 0 (s.extract 1 s.size).size = valO s 1 (s.size - 1)) := good_tail s h1
    have HZ : Hid ((s.extract 1 s.size).size = s.size - 1) := (bn_tail s h1).1
    go_enter Try.func6, Try.ntmps6
    go_wp2_with fail
    refine (cut_yes s _ hs h1 h2).mono ?_
    rintro e w1 ⟨rfl, rfl⟩
    clear h2
    go_wp2_with fail
    refine (impl_readDigits (s.extract 1 s.size) _ (by rw [HZ.out]; omega)).mono ?_
    rintro e w2 ⟨⟨hg, rfl⟩ | ⟨hg, rfl⟩, rfl⟩
    · have HG : Hid (GoodO s 1 (s.size - 1)) := HT.out.1.1 hg
      clear hg
      rw [HT.out.2]
      have hb := valO_le9 s 1 (s.size - 1) HG.out.2.1 HG.out.2.2.1
      generalize hV : valO s 1 (s.size - 1) = V at *
      have HV : Hid (valO s 1 (s.size - 1) = V) := hV
      clear hV
      by_cases hz : V = 0
      · have z1 : ((V : Int) == 0) = true := by simp; omega
        have HQ : Hid (V = 0) := hz
        clear hz
        go_wp2_with fail
        go_ret2
        exact ⟨.inr ⟨fun v hv => ((HA.out v).1 hv).2.1 HQ.out, rfl⟩, rfl⟩
      · have z1 : ((V : Int) == 0) = false := by simp; omega
        go_wp2_with fail
        go_ret2
        exact ⟨.inl ⟨-(V : Int), (HA.out _).2 ⟨HG.out, hz, rfl⟩, rfl⟩, rfl⟩
    · have HG : Hid (¬ GoodO s 1 (s.size - 1)) := fun h => hg (HT.out.1.2 h)
      clear hg
      go_wp2_with fail
      go_ret2
      exact ⟨.inr ⟨fun v hv => HG.out ((HA.out v).1 hv).1, rfl⟩, rfl⟩

theorem txt_list (l : List UInt8) : (txt l).toList = l := by rw [Lib.toList_data]; simp [txt]
theorem same_text (l : List UInt8) (s : ByteArray) : ((txt l).toList == s.toList) = true ↔ txt l = s := by
  rw [txt_list, Lib.toList_data, beq_iff_eq]
  constructor
  · intro h; rw [h, txt_toList]
  · intro h; rw [← h]; simp [txt]

set_option maxHeartbeats 1000000 in
theorem spec_readDec (s : ByteArray) (w : World) (hs : s.size ≤ 1048576) :
    Calls Try.prog 5 #[.string s] w fun e w' => ReadD s e ∧ Below w.heap.size w w' := by
  have q0 : (s.size : Int) ≤ 1048576 := by omega
  have hbt := get_bn s
  go_enter Try.func5, Try.ntmps5
  go_wp2
  go_loop [4, 5, 6] (fun v4 v5 v6 => ∃ k n c : Nat, k ≤ s.size ∧ k ≤ 11 ∧ v6 = .int .i64 k ∧ v4 = .int .i64 n ∧ v5 = .int .i64 c ∧ Hid (sk s k = (n, c))) (fun _ _ i => 11 - (intOf i).toNat)
  case atStart => exact ⟨0, 0, 0, by omega, by omega, rfl, rfl, rfl, rfl⟩
  case round =>
    obtain ⟨k, n, c, hk, hk11, rfl, rfl, rfl, HS⟩ := hrel
    have hb : n < 100000000000 := by have := sk_le s k hk11; rw [HS.out] at this; exact this
    have hc : c ≤ 11 := by have := (sk_bd s k).2; rw [HS.out] at this; exact Nat.le_trans this hk11
    by_cases hlt : k < s.size
    · by_cases hl2 : (k : Int) < 11
      · have r1 := bn_lt s k
        by_cases d1 : (48 : Int) ≤ (bn s k : Int)
        · by_cases d2 : (bn s k : Int) ≤ 57
          · have HN : Hid (sk s (k + 1) = (n * 10 + (bn s k - 48), c + 1)) := by
              show sk s (k + 1) = _
              rw [sk, if_pos (by omega), HS.out]
            go_wp2
            go_round
            case rel => exact ⟨k + 1, n * 10 + (bn s k - 48), c + 1, by omega, by omega, by go_num, by go_num, by go_num, HN⟩
            case measure => simp [intOf]; omega
          · have d3 : decide ((bn s k : Int) ≤ 57) = false := by simp; omega
            have HN : Hid (sk s (k + 1) = (n, c)) := by
              show sk s (k + 1) = _
              rw [sk, if_neg (by omega), HS.out]
            go_wp2
            go_round
            case rel => exact ⟨k + 1, n, c, by omega, by omega, by go_num, rfl, rfl, HN⟩
            case measure => simp [intOf]; omega
        · have d3 : decide ((48 : Int) ≤ (bn s k : Int)) = false := by simp; omega
          have HN : Hid (sk s (k + 1) = (n, c)) := by
            show sk s (k + 1) = _
            rw [sk, if_neg (by omega), HS.out]
          go_wp2
          go_round
          case rel => exact ⟨k + 1, n, c, by omega, by omega, by go_num, rfl, rfl, HN⟩
          case measure => simp [intOf]; omega
      · have HA : Hid (∀ v, ¬ AccI s v) := by intro v hv; have := (acc_spec s v hv).1; omega
        go_wp2
        all_goals
          go_ret2
          exact ⟨.inr ⟨HA.out, rfl⟩, Below.refl _ _⟩
    · have hkk : k = s.size := by omega
      by_cases h10 : (10 : Int) < (s.size : Int)
      · have HA : Hid (∀ v, ¬ AccI s v) := by intro v hv; have := (acc_spec s v hv).1; omega
        have HK : Hid (k = s.size) := hkk
        clear hkk
        go_wp2
        all_goals
          go_ret2
          exact ⟨.inr ⟨HA.out, rfl⟩, Below.refl _ _⟩
      · by_cases h9 : (9 : Int) < (c : Int)
        · have HA : Hid (∀ v, ¬ AccI s v) := by
            intro v hv
            have := (acc_spec s v hv).2.1
            rw [← hkk, HS.out] at this
            simp only at this
            omega
          have HK : Hid (k = s.size) := hkk
          clear hkk
          go_wp2
          all_goals
            go_ret2
            exact ⟨.inr ⟨HA.out, rfl⟩, Below.refl _ _⟩
        · by_cases hs0 : (0 : Int) < (s.size : Int)
          · by_cases hm : bn s 0 = 45
            · have z1 : ((bn s 0 : Int) == 45) = true := by simp; omega
              have HV : Hid (sgn s n = -(n : Int)) := by show sgn s n = _; unfold sgn; rw [if_pos ⟨by omega, by omega⟩]
              by_cases hd : txt (decI (-(n : Int))) = s
              · have hq := (same_text (decI (-(n : Int))) s).2 hd
                have HA : Hid (AccI s (-(n : Int))) := by
                  have := spec_acc s (by rw [← hkk, HS.out]; omega) (by rw [← hkk, HS.out, HV.out]; exact hd)
                  rw [← hkk, HS.out, HV.out] at this
                  exact this
                clear hd
                have HK : Hid (k = s.size) := hkk
                clear hkk
                go_wp2_with (go_at_call 12; refine (spec_dec _ _ (by omega) (by omega)).mono ?_; rintro e w1 ⟨rfl, hb1⟩)
                go_ret2
                exact ⟨.inl ⟨_, HA.out, rfl⟩, hb1⟩
              · have hq : ((txt (decI (-(n : Int)))).toList == s.toList) = false := by
                  have := mt (same_text (decI (-(n : Int))) s).1 hd
                  simpa using this
                have HA : Hid (∀ v, ¬ AccI s v) := by
                  intro v hv
                  obtain ⟨_, _, a3, a4⟩ := acc_spec s v hv
                  rw [← hkk, HS.out, HV.out] at a3
                  rw [a3] at a4
                  exact hd a4
                clear hd
                have HK : Hid (k = s.size) := hkk
                clear hkk
                go_wp2_with (go_at_call 12; refine (spec_dec _ _ (by omega) (by omega)).mono ?_; rintro e w1 ⟨rfl, hb1⟩)
                go_ret2
                exact ⟨.inr ⟨HA.out, rfl⟩, hb1⟩
            · have z1 : ((bn s 0 : Int) == 45) = false := by simp; omega
              have HV : Hid (sgn s n = (n : Int)) := by show sgn s n = _; unfold sgn; rw [if_neg (by omega)]
              by_cases hd : txt (decI ((n : Int))) = s
              · have hq := (same_text (decI ((n : Int))) s).2 hd
                have HA : Hid (AccI s ((n : Int))) := by
                  have := spec_acc s (by rw [← hkk, HS.out]; omega) (by rw [← hkk, HS.out, HV.out]; exact hd)
                  rw [← hkk, HS.out, HV.out] at this
                  exact this
                clear hd
                have HK : Hid (k = s.size) := hkk
                clear hkk
                go_wp2_with (go_at_call 12; refine (spec_dec _ _ (by omega) (by omega)).mono ?_; rintro e w1 ⟨rfl, hb1⟩)
                go_ret2
                exact ⟨.inl ⟨_, HA.out, rfl⟩, hb1⟩
              · have hq : ((txt (decI ((n : Int)))).toList == s.toList) = false := by
                  have := mt (same_text (decI ((n : Int))) s).1 hd
                  simpa using this
                have HA : Hid (∀ v, ¬ AccI s v) := by
                  intro v hv
                  obtain ⟨_, _, a3, a4⟩ := acc_spec s v hv
                  rw [← hkk, HS.out, HV.out] at a3
                  rw [a3] at a4
                  exact hd a4
                clear hd
                have HK : Hid (k = s.size) := hkk
                clear hkk
                go_wp2_with (go_at_call 12; refine (spec_dec _ _ (by omega) (by omega)).mono ?_; rintro e w1 ⟨rfl, hb1⟩)
                go_ret2
                exact ⟨.inr ⟨HA.out, rfl⟩, hb1⟩
          · have z0 : (s.size : Int) ≤ 0 := by omega
            have HV : Hid (sgn s n = (n : Int)) := by show sgn s n = _; unfold sgn; rw [if_neg (by omega)]
            by_cases hd : txt (decI ((n : Int))) = s
            · have hq := (same_text (decI ((n : Int))) s).2 hd
              have HA : Hid (AccI s ((n : Int))) := by
                have := spec_acc s (by rw [← hkk, HS.out]; omega) (by rw [← hkk, HS.out, HV.out]; exact hd)
                rw [← hkk, HS.out, HV.out] at this
                exact this
              clear hd
              have HK : Hid (k = s.size) := hkk
              clear hkk
              go_wp2_with (go_at_call 12; refine (spec_dec _ _ (by omega) (by omega)).mono ?_; rintro e w1 ⟨rfl, hb1⟩)
              go_ret2
              exact ⟨.inl ⟨_, HA.out, rfl⟩, hb1⟩
            · have hq : ((txt (decI ((n : Int)))).toList == s.toList) = false := by
                have := mt (same_text (decI ((n : Int))) s).1 hd
                simpa using this
              have HA : Hid (∀ v, ¬ AccI s v) := by
                intro v hv
                obtain ⟨_, _, a3, a4⟩ := acc_spec s v hv
                rw [← hkk, HS.out, HV.out] at a3
                rw [a3] at a4
                exact hd a4
              clear hd
              have HK : Hid (k = s.size) := hkk
              clear hkk
              go_wp2_with (go_at_call 12; refine (spec_dec _ _ (by omega) (by omega)).mono ?_; rintro e w1 ⟨rfl, hb1⟩)
              go_ret2
              exact ⟨.inr ⟨HA.out, rfl⟩, hb1⟩

set_option maxHeartbeats 400000 in
theorem law_fnExactReadDec (s : ByteArray) (w : World) (hs : s.size ≤ maxLen) :
    Calls Try.prog 3 #[.string s] w fun e w' => e = .returned (.bool true) ∧ Below w.heap.size w w' := by
  unfold maxLen at hs
  by_cases hl : (1048576 : Int) < (s.size : Int)
  · go_enter Try.func3, Try.ntmps3
    go_wp2
    go_ret
    exact ⟨rfl, Below.refl _ _⟩
  · by_cases hf : ∃ v, AccI s v
    · obtain ⟨v, hv⟩ := hf
      have HK : Hid (AccI s v) := hv
      clear hv
      go_enter Try.func3, Try.ntmps3
      go_wp2_with fail
      refine (spec_readDec s _ (by omega)).mono ?_
      rintro e w1 ⟨⟨k1, h1, rfl⟩ | ⟨h1, _⟩, hb1⟩
      · obtain rfl := AccI.one h1 HK.out
        clear h1
        go_wp2_with fail
        refine (impl_readDec s _ (by omega)).mono ?_
        rintro e w2 ⟨⟨k2, h2, rfl⟩ | ⟨h2, _⟩, rfl⟩
        · obtain rfl := AccI.one h2 HK.out
          clear h2
          go_wp2_with fail
          go_ret
          exact ⟨rfl, hb1⟩
        · exact absurd HK.out (h2 _)
      · exact absurd HK.out (h1 _)
    · have hn : ∀ v, ¬ AccI s v := fun k h => hf ⟨k, h⟩
      clear hf
      have HN : Hid (∀ v, ¬ AccI s v) := hn
      clear hn
      go_enter Try.func3, Try.ntmps3
      go_wp2_with fail
      refine (spec_readDec s _ (by omega)).mono ?_
      rintro e w1 ⟨⟨k1, h1, _⟩ | ⟨_, rfl⟩, hb1⟩
      · exact absurd h1 (HN.out _)
      · go_wp2_with fail
        refine (impl_readDec s _ (by omega)).mono ?_
        rintro e w2 ⟨⟨k2, h2, _⟩ | ⟨_, rfl⟩, rfl⟩
        · exact absurd h2 (HN.out _)
        · go_wp2_with fail
          go_ret
          exact ⟨rfl, hb1⟩
end Go.Proofs.Ytaplbjobhlbcoaj
