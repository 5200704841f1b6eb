/-
  The contract of spec.Dec: what it returns, at every int (no condition).
-/
import Derived.Test.YtaplbjobhlbcoaiDoorRows
import Derived.Test.YtaplbjobhlbcoaiDoorDecAid
import Derived.WalkKit
import Derived.ProofKit
import Derived.OpenShut
import Derived.Below
import Derived.Handy
import Derived.WalkLawsBesides
import Derived.Outline
import Derived.Deep.OwnRows
namespace Go.Proofs.YtaplbjobhlbcoaiDoor
open Go.ChangeShapes Go.WideShapes Go.ChangeAt Go.RowKit Go.PlainAid
set_option linter.unusedVariables false

set_option maxHeartbeats 400000 in
theorem spec_dec_zero (w : World) :
    Calls Tryd.prog 4 #[.int .i64 0] w fun e w' => e = .returned (.string (txt (decI 0))) ∧ Below w.heap.size w w' := by
  go_enter Tryd.func4, Tryd.ntmps4
  go_wp2
  go_ret
  exact ⟨rfl, Below.refl _ _⟩

set_option maxHeartbeats 400000 in
theorem spec_dec_pos (n : Nat) (w : World) (h0 : n ≠ 0) (h1 : (n : Int) ≤ 9223372036854775807) :
    Calls Tryd.prog 4 #[.int .i64 (n : Int)] w fun e w' => e = .returned (.string (txt (decI (n : Int)))) ∧ Below w.heap.size w w' := by
  have q0 : ((n : Int) == 0) = false := by simp; omega
  have q1 : ¬ ((n : Int) < 0) := by omega
  have HF : Hid (decI (n : Int) = dF 20 n) := by unfold decI; rw [if_neg q1, Int.toNat_natCast, decN, if_neg h0]; rfl
  go_enter Tryd.func4, Tryd.ntmps4
  go_wp2
  go_loopw [0, 3] (fun v0 v3 wr => ∃ m f : Nat, ∃ out : List UInt8, v0 = .int .i64 m ∧ (m : Int) ≤ 9223372036854775807 ∧ m < 10 ^ f ∧ dF f m ++ out = dF 20 n ∧ v3 = .string (txt out) ∧ Below w.heap.size w wr) (fun i _ _ => (intOf i).toNat)
  case atStart => exact ⟨n, 20, [], rfl, h1, by omega, by simp, rfl, Below.refl _ _⟩
  case round =>
    obtain ⟨m, f, out, rfl, hm1, hm2, hout, rfl, hb⟩ := hrel
    have HP : Hid (dF f m ++ out = dF 20 n) := hout
    clear hout
    have HM : Hid (m < 10 ^ f) := hm2
    clear hm2
    have hlo : out.length ≤ 20 := by
      have := congrArg List.length HP.out
      have := dF_length 20 n
      simp at *
      omega
    by_cases hz : m = 0
    · subst hz
      have HO : Hid (out = dF 20 n) := by have := HP.out; rw [dF_zero] at this; exact this
      go_wp2
      go_ret
      exact ⟨by rw [HF.out, ← HO.out]; rfl, hb⟩
    · have z1 : ((m : Int) != 0) = true := by simp; omega
      have e1 : (48 + (m : Int) % 10) = ((48 + m % 10 : Nat) : Int) := by omega
      have hc : ∀ wx : World, (convert 24 9 (.slice (some ⟨wx.heap.size, 0, none⟩) 1 1)).run Tryd.prog (wx.alloc (.cells #[.int .u8 (48 + (m : Int) % 10)] 5)) = .ok (.string (txt [byt (48 + m % 10)])) (wx.alloc (.cells #[.int .u8 (48 + (m : Int) % 10)] 5)) := by
        intro wx
        have := run_one_byte (P := Tryd.prog) wx 24 9 5 Tryd.underlying24 Tryd.underlying5 Tryd.underlying9 (48 + m % 10) 1
        rw [Nat.mod_eq_of_lt (show 48 + m % 10 < 256 by omega)] at this
        rw [e1]
        exact this
      clear e1
      have hz1 : (txt [byt (48 + m % 10)]).size = 1 := rfl
      have hz2 : (txt out).size = out.length := txt_size out
      have hsum : (txt [byt (48 + m % 10)]).size + (txt out).size ≤ 9223372036854775807 := by omega
      clear hz1 hz2
      go_wp2
      obtain ⟨g, hg1, hg2, _⟩ := dF_round f m out HM.out hz
      go_roundw
      case rel => exact ⟨m / 10, g, byt (48 + m % 10) :: out, by go_num, by omega, hg1, hg2.trans HP.out, by rw [txt_cat]; rfl, hb.alloc (by have := hb.size; omega) _⟩
      case measure => simp [intOf]; omega

set_option maxHeartbeats 400000 in
theorem spec_dec_neg (n : Nat) (w : World) (h0 : n ≠ 0) (h1 : (n : Int) ≤ 9223372036854775808) :
    Calls Tryd.prog 4 #[.int .i64 (-(n : Int))] w fun e w' => e = .returned (.string (txt (decI (-(n : Int))))) ∧ Below w.heap.size w w' := by
  have q0 : ((-(n : Int)) == 0) = false := by simp; omega
  have q1 : -(n : Int) < 0 := by omega
  have HF : Hid (decI (-(n : Int)) = 45 :: dF 20 n) := by unfold decI; rw [if_pos q1, Int.natAbs_neg, Int.natAbs_natCast]; rfl
  go_enter Tryd.func4, Tryd.ntmps4
  go_wp2
  go_loopw [0, 3] (fun v0 v3 wr => ∃ m f : Nat, ∃ out : List UInt8, v0 = .int .i64 (-(m : Int)) ∧ (m : Int) ≤ 9223372036854775808 ∧ m < 10 ^ f ∧ dF f m ++ out = dF 20 n ∧ v3 = .string (txt out) ∧ Below w.heap.size w wr) (fun i _ _ => (-(intOf i)).toNat)
  case atStart => exact ⟨n, 20, [], rfl, h1, by omega, by simp, rfl, Below.refl _ _⟩
  case round =>
    obtain ⟨m, f, out, rfl, hm1, hm2, hout, rfl, hb⟩ := hrel
    have HP : Hid (dF f m ++ out = dF 20 n) := hout
    clear hout
    have HM : Hid (m < 10 ^ f) := hm2
    clear hm2
    have hlo : out.length ≤ 20 := by
      have := congrArg List.length HP.out
      have := dF_length 20 n
      simp at *
      omega
    have hz2 : (txt out).size = out.length := txt_size out
    by_cases hz : m = 0
    · subst hz
      have HO : Hid (out = dF 20 n) := by have := HP.out; rw [dF_zero] at this; exact this
      have hsum : ¬ (9223372036854775807 < 1 + (txt out).size) := by rw [hz2]; omega
      clear hz2
      go_wp2
      go_ret
      exact ⟨by rw [HF.out, ← HO.out]; rfl, hb⟩
    · have z1 : ((-(m : Int)) != 0) = true := by simp; omega
      have hcv : ∀ (x : Int) (wx : World), x = ((48 + m % 10 : Nat) : Int) → (convert 24 9 (.slice (some ⟨wx.heap.size, 0, none⟩) 1 1)).run Tryd.prog (wx.alloc (.cells #[.int .u8 x] 5)) = .ok (.string (txt [byt (48 + m % 10)])) (wx.alloc (.cells #[.int .u8 x] 5)) := by
        intro x wx hx
        have := run_one_byte (P := Tryd.prog) wx 24 9 5 Tryd.underlying24 Tryd.underlying5 Tryd.underlying9 (48 + m % 10) 1
        rw [Nat.mod_eq_of_lt (show 48 + m % 10 < 256 by omega)] at this
        rw [hx]
        exact this
      have hz1 : (txt [byt (48 + m % 10)]).size = 1 := rfl
      have hsum : (txt [byt (48 + m % 10)]).size + (txt out).size ≤ 9223372036854775807 := by omega
      clear hz1 hz2
      by_cases hd : 0 < (m : Int) % 10
      · have hc := fun wx => hcv (48 + (m : Int) % 10) wx (by omega)
        clear hcv
        go_wp2
        obtain ⟨g, hg1, hg2, _⟩ := dF_round f m out HM.out hz
        go_roundw
        case rel => exact ⟨m / 10, g, byt (48 + m % 10) :: out, by go_num, by omega, hg1, hg2.trans HP.out, by rw [txt_cat]; rfl, hb.alloc (by have := hb.size; omega) _⟩
        case measure => simp [intOf]; omega
      · have hc := fun wx => hcv (48 + -((m : Int) % 10)) wx (by omega)
        clear hcv
        go_wp2
        obtain ⟨g, hg1, hg2, _⟩ := dF_round f m out HM.out hz
        go_roundw
        case rel => exact ⟨m / 10, g, byt (48 + m % 10) :: out, by go_num, by omega, hg1, hg2.trans HP.out, by rw [txt_cat]; rfl, hb.alloc (by have := hb.size; omega) _⟩
        case measure => simp [intOf]; omega

theorem spec_dec (v : Int) (w : World) (h1 : -9223372036854775808 ≤ v) (h2 : v ≤ 9223372036854775807) :
    Calls Tryd.prog 4 #[.int .i64 v] w fun e w' => e = .returned (.string (txt (decI v))) ∧ Below w.heap.size w w' := by
  by_cases h0 : v = 0
  · subst h0; exact spec_dec_zero w
  · by_cases hn : v < 0
    · obtain ⟨n, rfl⟩ : ∃ n : Nat, v = -(n : Int) := ⟨v.natAbs, by omega⟩
      exact spec_dec_neg n w (by omega) (by omega)
    · obtain ⟨n, rfl⟩ := Int.eq_ofNat_of_zero_le (show 0 ≤ v by omega)
      exact spec_dec_pos n w (by omega) h2
end Go.Proofs.YtaplbjobhlbcoaiDoor
