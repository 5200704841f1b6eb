/-
  Contracts of the laws' own helpers over slices of texts: markText, eqStringS where both hold the same, markStringS, heldStringS where the marks are held (no condition but that the slices are the call's own, and short).
-/
import Derived.Test.YtjejcpieajeflaaRows
import Derived.Test.YtjejcpieajeflaaAid
import Derived.Test.YtjejcpieajeflaaStrAid
import Derived.WalkKit
import Derived.ProofKit
import Derived.OpenShut
import Derived.Below
import Derived.WalkSmall
import Derived.WalkLawsBesides
import Derived.Outline
import Derived.BigQuiet
import Derived.Deep.QuietTactic
import Derived.Deep.RegionWith
namespace Go.Proofs.Ytjejcpieajeflaa
open Go.ChangeShapes Go.WideShapes Go.ChangeAt Go.RowKit Go.PlainAid
set_option linter.unusedVariables false

set_option maxHeartbeats 400000 in
theorem markText (k : Nat) (w : World) (h1 : 1 ≤ k) (h2 : k ≤ 1000000000) :
    Calls Try.prog 68 #[.int .i64 (k : Int)] w fun e w' => e = .returned (.string (mark k)) ∧ Below w.heap.size w w' := by
  have q1 : (1 : Int) ≤ (k : Int) := by omega
  have q0 : decide ((k : Int) ≤ 0) = false := decide_eq_false (by omega)
  have q2 : ¬ (k : Int) ≤ 0 := by omega
  go_enter Try.func68, Try.ntmps68
  go_wp2
  go_loopw [0, 3] (fun v0 v3 wr => ∃ (m f : Nat) (out : List UInt8), v0 = .int .i64 m ∧ m ≤ 1000000000 ∧ m < 10 ^ f ∧ v3 = .string (txt out) ∧ dg f m ++ out = dg 20 k ∧ f + out.length ≤ 20 ∧ Below w.heap.size w wr) (fun i _ _ => (intOf i).toNat)
  case atStart => exact ⟨k, 20, [], rfl, h2, by omega, rfl, by simp, by simp, Below.refl _ _⟩
  case round =>
    obtain ⟨m, f, out, rfl, hm, hf, rfl, hd, hl, hb⟩ := hrel
    have HD : Hid (dg f m ++ out = dg 20 k) := hd
    have HF : Hid (m < 10 ^ f) := hf
    clear hd hf
    by_cases hp : (0 : Int) < (m : Int)
    · obtain ⟨f', rfl⟩ : ∃ f', f = f' + 1 := by
        cases f with
        | zero => have := HF.out; simp at this; omega
        | succ f' => exact ⟨f', rfl⟩
      have e1 : (48 + (m : Int) % 10) % 256 = (((48 + m % 10) % 256 : Nat) : Int) := by omega
      have e2 : (48 + (m : Int) % 10) = (((48 + m % 10) % 256 : Nat) : Int) := by omega
      have hc : ∀ wx : World, (convert 102 9 (.slice (some ⟨wx.heap.size, 0, none⟩) 1 1)).run Try.prog (wx.alloc (.cells #[.int .u8 (48 + (m : Int) % 10)] 5)) = .ok (.string (txt [byt (48 + m % 10)])) (wx.alloc (.cells #[.int .u8 (48 + (m : Int) % 10)] 5)) := by
        intro wx; rw [e2]; exact run_one_byte wx 102 9 5 Try.underlying102 Try.underlying5 Try.underlying9 (48 + m % 10) 1
      clear e1 e2
      have hz1 : (txt [byt (48 + m % 10)]).size = 1 := rfl
      have hz2 : (txt out).size = out.length := txt_size out
      have hsum : (txt [byt (48 + m % 10)]).size + (txt out).size ≤ 9223372036854775807 := by omega
      clear hz1 hz2
      go_wp2
      go_roundw
      case rel =>
        refine ⟨m / 10, f', [byt (48 + m % 10)] ++ out, by go_num, by omega, ?_, by rw [txt_cat], ?_, by simp; omega, hb.alloc (by have := hb.size; omega) _⟩
        · have := HF.out
          rw [Nat.pow_succ] at this
          omega
        · have := HD.out
          rw [dg, if_neg (by omega)] at this
          rw [← this]
          simp
      case measure => simp [intOf]; omega
    · have hm0 : m = 0 := by omega
      subst hm0
      have hz2 : (txt out).size = out.length := txt_size out
      have hz3 : (⟨#[109]⟩ : ByteArray).size = 1 := rfl
      have hsum : (⟨#[109]⟩ : ByteArray).size + (txt out).size ≤ 9223372036854775807 := by omega
      clear hz2 hz3
      go_wp2
      go_ret
      refine ⟨?_, hb⟩
      have := HD.out
      rw [dg_zero, List.nil_append] at this
      rw [this]
      rfl
end Go.Proofs.Ytjejcpieajeflaa
