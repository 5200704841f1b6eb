/-
  Contracts of spec.Unhex and impl.Unhex: what each returns, at every text of at most 1048576 bytes.
-/
import Derived.Test.YtaplbjobhlbcoaiRows
import Derived.Test.YtaplbjobhlbcoaiAid
import Derived.Test.YtaplbjobhlbcoaiVar
import Derived.Test.YtaplbjobhlbcoaiHex
import Derived.WalkKit
import Derived.ProofKit
import Derived.OpenShut
import Derived.Below
import Derived.Handy
import Derived.WalkLawsBesides
import Derived.Outline
import Derived.Deep.OwnRows
namespace Go.Proofs.Ytaplbjobhlbcoai
open Go.ChangeShapes Go.WideShapes Go.ChangeAt Go.RowKit Go.PlainAid
set_option linter.unusedVariables false

set_option maxHeartbeats 400000 in
/-- spec.l1FromHex -/
theorem spec_fromHex (c : Nat) (w : World) (hc : c < 256) :
    Calls Try.prog 20 #[.int .u8 (c : Int)] w fun e w' => e = .returned (.int .i64 (fromHex c)) ∧ w = w' := by
  go_enter Try.func20, Try.ntmps20
  go_wp2
  go_loop [3] (fun v => ∃ k : Nat, k ≤ 16 ∧ v = .int .i64 k ∧ Hid (∀ j, j < k → ((hexd j).toNat : Int) ≠ (c : Int))) (fun i => 16 - (intOf i).toNat)
  case atStart => exact ⟨0, by omega, rfl, fun j hj => absurd hj (by omega)⟩
  case round =>
    obtain ⟨k, hk, rfl, HJ⟩ := hrel
    by_cases hlt : k < 16
    · by_cases he : ((hexd k).toNat : Int) = (c : Int)
      · have HE : Hid (((hexd k).toNat : Int) = (c : Int)) := he
        have hq : (((hexd k).toNat : Int) == (c : Int)) = true := by simp; omega
        clear he
        go_wp2_with (go_at_call 19; refine (spec_digit _ _ (by omega) (by omega)).mono ?_; rintro e w' ⟨rfl, rfl⟩)
        go_ret
        exact ⟨by rw [fromHex_hit k c hlt HE.out]; rfl, rfl⟩
      · have HE : Hid (¬ ((hexd k).toNat : Int) = (c : Int)) := he
        have hq : (((hexd k).toNat : Int) == (c : Int)) = false := by simp; omega
        clear he
        go_wp2_with (go_at_call 19; refine (spec_digit _ _ (by omega) (by omega)).mono ?_; rintro e w' ⟨rfl, rfl⟩)
        go_round
        case rel =>
          refine ⟨k + 1, by omega, by go_num, ?_⟩
          intro j hj
          by_cases e : j = k
          · subst e; exact HE.out
          · exact HJ.out j (by omega)
        case measure => simp [intOf]; omega
    · have hkk : k = 16 := by omega
      have HF : Hid (fromHex c = -1) := fromHex_miss c (by intro j hj; exact HJ.out j (by omega))
      clear HJ
      go_wp2
      go_ret
      exact ⟨by rw [HF.out]; rfl, rfl⟩

set_option maxHeartbeats 400000 in
theorem lite_indexByte (s : ByteArray) (c : Int) (w : World) :
    Calls Try.prog 22 #[.string s, .int .u8 c] w fun e w' => e = .returned (.int .i64 (Lib.indexByte s.data.toList c.toNat.toUInt8)) ∧ w = w' := by
  go_enter Try.func22, Try.ntmps22
  go_wp2
  rw [run_callFunc_extern Try.func23 (by kernel_rfl) (by kernel_rfl) (by kernel_rfl) (e := Extern.BytealgIndexByte.indexByte) (by kernel_rfl), Lib.run_indexByteString]
  simp only [Result.andThen]
  rw [Oper.upon_value]
  go_wp2
  go_ret
  exact ⟨rfl, rfl⟩

set_option maxHeartbeats 400000 in
theorem index_hex (c : Nat) (w : World) (hc : c < 256) :
    Calls Try.prog 21 #[.string ⟨#[48, 49, 50, 51, 52, 53, 54, 55, 56, 57, 97, 98, 99, 100, 101, 102]⟩, .int .u8 (c : Int)] w fun e w' => e = .returned (.int .i64 (fromHex c)) ∧ w = w' := by
  have hd := digits_index c hc
  have HD : Hid (Lib.indexByte [48, 49, 50, 51, 52, 53, 54, 55, 56, 57, 97, 98, 99, 100, 101, 102] (Int.toNat (c : Int)).toUInt8 = fromHex c) := hd
  clear hd
  go_enter Try.func21, Try.ntmps21
  go_wp2_with fail
  refine (lite_indexByte _ _ _).mono ?_
  rintro e w' ⟨rfl, rfl⟩
  rw [HD.out]
  go_wp2_with fail
  go_ret
  exact ⟨rfl, rfl⟩

/-- How an answer of Unhex is handed back. -/
def unhexV (o : Option (List UInt8)) : Value := .tuple #[.string (txt (o.getD [])), .bool o.isSome]

set_option maxHeartbeats 1000000 in
theorem spec_unhex_even (s : ByteArray) (m : Nat) (w : World) (hs : s.size ≤ 1048576) (hm : 2 * m = s.size) :
    Calls Try.prog 16 #[.string s] w fun e w' => e = .returned (unhexV (unhL s m)) ∧ Below w.heap.size w w' := by
  have q1 : (s.size : Int) ≤ 1048576 := by omega
  have q2 : ((s.size : Int) % 2 == 1) = false := by simp; omega
  have hbt := get_bn s
  go_enter Try.func16, Try.ntmps16
  go_wp2
  go_loopw [4, 5] (fun v4 v5 wr => ∃ k : Nat, ∃ l : List UInt8, 2 * k ≤ s.size ∧ v5 = .int .i64 (2 * (k : Int)) ∧ unhL s k = some l ∧ Buf wr w.heap.size v4 l ∧ Below w.heap.size w wr) (fun _ i _ => s.size - (intOf i).toNat)
  case atStart => exact ⟨0, [], by omega, rfl, rfl, Buf.made w w.heap.size 0 #[] (Nat.le_refl _) (by simp [maxLen]) rfl, (Below.refl _ _).alloc (Nat.le_refl _) _⟩
  case round =>
    obtain ⟨k, l, hk, rfl, hul, hbuf, hb⟩ := hrel
    have hll := unhL_length s k l hul
    have HU : Hid (unhL s k = some l) := hul
    have HL : Hid (l.length = k) := hll
    clear hul hll
    have hsz := hb.size
    by_cases hlt : 2 * k < s.size
    · have r1 := bn_lt s (2 * k)
      have r2 := bn_lt s (2 * k + 1)
      have b1 := fromHex_bd (bn s (2 * k))
      have b2 := fromHex_bd (bn s (2 * k + 1))
      obtain ⟨b11, b12⟩ := b1
      obtain ⟨b21, b22⟩ := b2
      by_cases c1 : fromHex (bn s (2 * k)) < 0
      · have HN : Hid (unhL s m = none) := by
          have := unhL_none s (k + 1) (m - (k + 1)) (unhL_no s k (.inl c1))
          rwa [show k + 1 + (m - (k + 1)) = m by omega] at this
        go_wp2_with (go_at_call 20; refine (spec_fromHex _ _ (by omega)).mono ?_; rintro e w' ⟨rfl, rfl⟩)
        go_ret2
        exact ⟨by rw [HN.out]; rfl, hb⟩
      · by_cases c2 : fromHex (bn s (2 * k + 1)) < 0
        · have HN : Hid (unhL s m = none) := by
            have := unhL_none s (k + 1) (m - (k + 1)) (unhL_no s k (.inr c2))
            rwa [show k + 1 + (m - (k + 1)) = m by omega] at this
          go_wp2_with (go_at_call 20; refine (spec_fromHex _ _ (by omega)).mono ?_; rintro e w' ⟨rfl, rfl⟩)
          go_ret2
          exact ⟨by rw [HN.out]; rfl, hb⟩
        · have HY : Hid (unhL s (k + 1) = some (l ++ [byt (16 * fromHex (bn s (2 * k)) + fromHex (bn s (2 * k + 1))).toNat])) := unhL_yes s k l HU.out (by omega) (by omega)
          have HC : Hid (#[Value.int .u8 (16 * fromHex (bn s (2 * k)) + fromHex (bn s (2 * k + 1)))] = byteCells [byt (16 * fromHex (bn s (2 * k)) + fromHex (bn s (2 * k + 1))).toNat]) := one_cell _ _ (by omega) (by omega)
          go_wp2_with (first | (go_at_call 20; refine (spec_fromHex _ _ (by omega)).mono ?_; rintro e w' ⟨rfl, rfl⟩) | (at_builtin; refine wpList_append_bytes rfl (.tmp 34) (.tmp 40) 35 rfl Try.underlying35 Try.info5 w.heap.size _ l rfl hbuf _ [byt (16 * fromHex (bn s (2 * k)) + fromHex (bn s (2 * k + 1))).toNat] HC.out 1 1 rfl rfl (by rw [HL.out]; simp; omega) hsz ?_; intro v' w1 hbuf1 hb1))
          go_roundw
          case rel => exact ⟨k + 1, _, by omega, by go_num, HY.out, hbuf1, hb.trans hb1⟩
          case measure => simp [intOf]; omega
    · have hkm : k = m := by omega
      have hcv := hbuf.string (P := Try.prog) 35 9 Try.underlying35 Try.underlying5 Try.underlying9
      go_wp2
      go_ret2
      exact ⟨by rw [← hkm, HU.out]; rfl, hb⟩

set_option maxHeartbeats 1000000 in
theorem impl_unhex_even (s : ByteArray) (m : Nat) (w : World) (hs : s.size ≤ 1048576) (hm : 2 * m = s.size) :
    Calls Try.prog 17 #[.string s] w fun e w' => e = .returned (unhexV (unhL s m)) ∧ Below w.heap.size w w' := by
  have q1 : (s.size : Int) ≤ 1048576 := by omega
  have q2 : ((s.size : Int) % 2 != 0) = false := by simp; omega
  have hmk := run_make_cap (P := Try.prog) 35 Try.underlying35 Try.info5 (s.size / 2) ((s.size : Int) / 2) (by omega) (by omega)
  have hbt := get_bn s
  go_enter Try.func17, Try.ntmps17
  go_wp2
  go_loopw [4, 19] (fun v4 v5 wr => ∃ k : Nat, ∃ l : List UInt8, 2 * k ≤ s.size ∧ v5 = .int .i64 ((k : Int)) ∧ unhL s k = some l ∧ Buf wr w.heap.size v4 l ∧ Below w.heap.size w wr) (fun _ i _ => s.size - (intOf i).toNat)
  case atStart => exact ⟨0, [], by omega, rfl, rfl, Buf.made w w.heap.size _ _ (Nat.le_refl _) (by unfold maxLen; omega) (by simp [size_madeCells]), (Below.refl _ _).alloc (Nat.le_refl _) _⟩
  case round =>
    obtain ⟨k, l, hk, rfl, hul, hbuf, hb⟩ := hrel
    have hll := unhL_length s k l hul
    have HU : Hid (unhL s k = some l) := hul
    have HL : Hid (l.length = k) := hll
    clear hul hll
    have hsz := hb.size
    by_cases hlt : 2 * k < s.size
    · have r1 := bn_lt s (2 * k)
      have r2 := bn_lt s (2 * k + 1)
      have b1 := fromHex_bd (bn s (2 * k))
      have b2 := fromHex_bd (bn s (2 * k + 1))
      obtain ⟨b11, b12⟩ := b1
      obtain ⟨b21, b22⟩ := b2
      by_cases c1 : fromHex (bn s (2 * k)) < 0
      · have HN : Hid (unhL s m = none) := by
          have := unhL_none s (k + 1) (m - (k + 1)) (unhL_no s k (.inl c1))
          rwa [show k + 1 + (m - (k + 1)) = m by omega] at this
        go_wp2_with (go_at_call 21; refine (index_hex _ _ (by omega)).mono ?_; rintro e w' ⟨rfl, rfl⟩)
        go_ret2
        exact ⟨by rw [HN.out]; rfl, hb⟩
      · by_cases c2 : fromHex (bn s (2 * k + 1)) < 0
        · have HN : Hid (unhL s m = none) := by
            have := unhL_none s (k + 1) (m - (k + 1)) (unhL_no s k (.inr c2))
            rwa [show k + 1 + (m - (k + 1)) = m by omega] at this
          go_wp2_with (go_at_call 21; refine (index_hex _ _ (by omega)).mono ?_; rintro e w' ⟨rfl, rfl⟩)
          go_ret2
          exact ⟨by rw [HN.out]; rfl, hb⟩
        · have HY : Hid (unhL s (k + 1) = some (l ++ [byt (16 * fromHex (bn s (2 * k)) + fromHex (bn s (2 * k + 1))).toNat])) := unhL_yes s k l HU.out (by omega) (by omega)
          have HC : Hid (#[Value.int .u8 (16 * fromHex (bn s (2 * k)) + fromHex (bn s (2 * k + 1)))] = byteCells [byt (16 * fromHex (bn s (2 * k)) + fromHex (bn s (2 * k + 1))).toNat]) := one_cell _ _ (by omega) (by omega)
          go_wp2_with (first | (go_at_call 21; refine (index_hex _ _ (by omega)).mono ?_; rintro e w' ⟨rfl, rfl⟩) | (at_builtin; refine wpList_append_bytes rfl (.tmp 39) (.tmp 45) 35 rfl Try.underlying35 Try.info5 w.heap.size _ l rfl hbuf _ [byt (16 * fromHex (bn s (2 * k)) + fromHex (bn s (2 * k + 1))).toNat] HC.out 1 1 rfl rfl (by rw [HL.out]; simp; omega) hsz ?_; intro v' w1 hbuf1 hb1))
          go_roundw
          case rel => exact ⟨k + 1, _, by omega, by go_num, HY.out, hbuf1, hb.trans hb1⟩
          case measure => simp [intOf]; omega
    · have hkm : k = m := by omega
      have hcv := hbuf.string (P := Try.prog) 35 9 Try.underlying35 Try.underlying5 Try.underlying9
      go_wp2
      go_ret2
      exact ⟨by rw [← hkm, HU.out]; rfl, hb⟩

set_option maxHeartbeats 400000 in
theorem spec_unhex_odd (s : ByteArray) (w : World) (hs : s.size ≤ 1048576) (hm : s.size % 2 = 1) :
    Calls Try.prog 16 #[.string s] w fun e w' => e = .returned (unhexV none) ∧ Below w.heap.size w w' := by
  have q1 : (s.size : Int) ≤ 1048576 := by omega
  have q2 : ((s.size : Int) % 2 == 1) = true := by simp; omega
  go_enter Try.func16, Try.ntmps16
  go_wp2
  go_ret2
  exact ⟨rfl, (Below.refl _ _).alloc (Nat.le_refl _) _⟩
set_option maxHeartbeats 400000 in
theorem impl_unhex_odd (s : ByteArray) (w : World) (hs : s.size ≤ 1048576) (hm : s.size % 2 = 1) :
    Calls Try.prog 17 #[.string s] w fun e w' => e = .returned (unhexV none) ∧ Below w.heap.size w w' := by
  have q1 : (s.size : Int) ≤ 1048576 := by omega
  have q2 : ((s.size : Int) % 2 != 0) = true := by simp; omega
  go_enter Try.func17, Try.ntmps17
  go_wp2
  go_ret2
  exact ⟨rfl, Below.refl _ _⟩

set_option maxHeartbeats 400000 in
theorem spec_unhex (s : ByteArray) (w : World) (hs : s.size ≤ 1048576) :
    Calls Try.prog 16 #[.string s] w fun e w' => e = .returned (unhexV (unhex s)) ∧ Below w.heap.size w w' := by
  unfold unhex
  by_cases h : s.size % 2 = 1
  · rw [if_pos h]; exact spec_unhex_odd s w hs h
  · rw [if_neg h]; exact spec_unhex_even s _ w hs (by omega)
theorem impl_unhex (s : ByteArray) (w : World) (hs : s.size ≤ 1048576) :
    Calls Try.prog 17 #[.string s] w fun e w' => e = .returned (unhexV (unhex s)) ∧ Below w.heap.size w w' := by
  unfold unhex
  by_cases h : s.size % 2 = 1
  · rw [if_pos h]; exact impl_unhex_odd s w hs h
  · rw [if_neg h]; exact impl_unhex_even s _ w hs (by omega)

set_option maxHeartbeats 400000 in
theorem law_fnExactUnhex (s : ByteArray) (w : World) (hs : s.size ≤ maxLen) :
    Calls Try.prog 7 #[.string s] w fun e w' => e = .returned (.bool true) ∧ Below w.heap.size w w' := by
  unfold maxLen at hs
  by_cases hl : (1048576 : Int) < (s.size : Int)
  · go_enter Try.func7, Try.ntmps7
    go_wp2
    go_ret
    exact ⟨rfl, Below.refl _ _⟩
  · go_enter Try.func7, Try.ntmps7
    go_wp2_with fail
    refine (spec_unhex s _ (by omega)).mono ?_
    rintro e w1 ⟨rfl, hb1⟩
    unfold unhexV
    go_wp2_with fail
    refine (impl_unhex s _ (by omega)).mono ?_
    rintro e w2 ⟨rfl, hb2⟩
    unfold unhexV
    go_wp2_with fail
    go_ret
    exact ⟨rfl, hb1.trans (hb2.mono hb1.size)⟩
end Go.Proofs.Ytaplbjobhlbcoai
