/-
  Contracts of chapter 1: spec.l1In, spec.Var, impl.Var.
-/
import Derived.Test.YtaaefceknjhloaaRows
import Derived.Test.YtaaefceknjhloaaAid
import Derived.Test.YtaaefceknjhloaaNum1In
import Derived.WalkKit
import Derived.ProofKit
import Derived.OpenShut
import Derived.Below
import Derived.Handy
import Derived.WalkLawsBesides
import Derived.WalkSpells
import Derived.WalkMore
import Derived.Outline
import Derived.Deep.OwnRows
import Derived.Deep.RegionHeld3
import Derived.Deep.RegionLaw
import Derived.Deep.DrawnRows
import Derived.WalkSmall
namespace Go.Proofs.Ytaaefceknjhloaa
open Go.ChangeShapes Go.WideShapes Go.ChangeAt Go.RowKit Go.PlainAid
set_option linter.unusedVariables false

theorem Try.info5 : (Try.prog.info? 5).map (fun i => (i.zero, i.size, i.bytes)) = some (some (.int .u8 0), 1, 1) := by kernel_rfl

/-- What Fixed answers. -/
def fixed (n wd : Nat) : ByteArray := if n / 256 ^ wd = 0 then txt (low n wd) else txt []

set_option maxHeartbeats 400000 in
theorem spec_var (n : Nat) (w : World) (h1 : n ≤ 562949953421311) :
    Calls Try.prog 13 #[.int .i64 (n : Int)] w fun e w' => e = .returned (.string (txt (vF 6 n))) ∧ Below w.heap.size w w' := by
  have q1 : (n : Int) ≤ 562949953421311 := by omega
  go_enter Try.func13, Try.ntmps13
  go_wp2_with (go_at_call 19; refine (in_yes _ _ _ _ (by omega) (by omega)).mono ?_; rintro e w' ⟨rfl, rfl⟩)
  go_loopw [0, 3] (fun v0 v3 wr => ∃ m f : Nat, ∃ pre : List UInt8, v0 = .int .i64 m ∧ m ≤ 562949953421311 ∧ m < 128 ^ (f + 1) ∧ pre ++ vF f m = vF 6 n ∧ Buf wr w.heap.size v3 pre ∧ Below w.heap.size w wr) (fun i _ _ => (intOf i).toNat)
  case atStart => exact ⟨n, 6, [], rfl, h1, by omega, rfl, Buf.made w w.heap.size 0 #[] (Nat.le_refl _) (by simp [maxLen]) rfl, (Below.refl _ _).alloc (Nat.le_refl _) _⟩
  case round =>
    obtain ⟨m, f, pre, rfl, hm1, hm2, hpre, hbuf, hb⟩ := hrel
    have HP : Hid (pre ++ vF f m = vF 6 n) := hpre
    clear hpre
    have HM : Hid (m < 128 ^ (f + 1)) := hm2
    clear hm2
    have hlp : pre.length ≤ 7 := by
      have := congrArg List.length HP.out
      have := vF_length 6 n
      simp at *
      omega
    have hsz := hb.size
    by_cases hlt : (128 : Int) ≤ (m : Int)
    · have hcs := one_cell (128 + (m : Int) % 128) (128 + m % 128) (by omega) (by omega)
      have HC : Hid (#[Value.int .u8 (128 + (m : Int) % 128)] = byteCells [byt (128 + m % 128)]) := hcs
      clear hcs
      go_wp2_with (at_builtin; refine wpList_append_bytes rfl (.tmp 10) (.tmp 15) 43 rfl Try.underlying43 Try.info5 w.heap.size _ pre rfl hbuf _ [byt (128 + m % 128)] HC.out 1 1 rfl rfl (by simp; omega) hsz ?_; intro v' w1 hbuf1 hb1)
      obtain ⟨g, hg1, hg2, _⟩ := vF_round f m pre HM.out (by omega)
      go_roundw
      case rel => exact ⟨m / 128, g, pre ++ [byt (128 + m % 128)], by go_num, by omega, hg1, hg2.trans HP.out, hbuf1, hb.trans hb1⟩
      case measure => simp [intOf]; omega
    · have hcs := one_cell (m : Int) m rfl (by omega)
      have HC : Hid (#[Value.int .u8 (m : Int)] = byteCells [byt m]) := hcs
      clear hcs
      go_wp2_with (at_builtin; refine wpList_append_bytes rfl (.tmp 19) (.tmp 22) 43 rfl Try.underlying43 Try.info5 w.heap.size _ pre rfl hbuf _ [byt m] HC.out 1 1 rfl rfl (by simp; omega) hsz ?_; intro v' w1 hbuf1 hb1; have hcv := hbuf1.string (P := Try.prog) 43 9 Try.underlying43 Try.underlying5 Try.underlying9)
      go_ret
      exact ⟨by rw [← HP.out, vF_small f m (by omega)]; rfl, hb.trans hb1⟩

set_option maxHeartbeats 400000 in
theorem impl_var (n : Nat) (w : World) (h1 : n ≤ 562949953421311) :
    Calls Try.prog 15 #[.int .i64 (n : Int)] w fun e w' => e = .returned (.string (txt (vF 6 n))) ∧ Below w.heap.size w w' := by
  have q1 : (n : Int) ≤ 562949953421311 := by omega
  have q0 : (0 : Int) ≤ (n : Int) := by omega
  have hmk : ∀ w : World, (Instr.makeSlice 43 (.int .i64 0) (.int .i64 7)).run Try.prog w = .ok (.slice (some ⟨w.heap.size, 0, none⟩) 0 7) (w.alloc (.cells #[.int .u8 0, .int .u8 0, .int .u8 0, .int .u8 0, .int .u8 0, .int .u8 0, .int .u8 0] 5)) := fun _ => by kernel_rfl
  go_enter Try.func15, Try.ntmps15
  go_wp2
  go_loopw [0, 3] (fun v0 v3 wr => ∃ m f : Nat, ∃ pre : List UInt8, v0 = .int .i64 m ∧ m ≤ 562949953421311 ∧ m < 128 ^ (f + 1) ∧ pre ++ vF f m = vF 6 n ∧ Buf wr w.heap.size v3 pre ∧ Below w.heap.size w wr) (fun i _ _ => (intOf i).toNat)
  case atStart => exact ⟨n, 6, [], rfl, h1, by omega, rfl, Buf.made w w.heap.size 7 _ (Nat.le_refl _) (by simp [maxLen]) rfl, (Below.refl _ _).alloc (Nat.le_refl _) _⟩
  case round =>
    obtain ⟨m, f, pre, rfl, hm1, hm2, hpre, hbuf, hb⟩ := hrel
    have HP : Hid (pre ++ vF f m = vF 6 n) := hpre
    clear hpre
    have HM : Hid (m < 128 ^ (f + 1)) := hm2
    clear hm2
    have hlp : pre.length ≤ 7 := by
      have := congrArg List.length HP.out
      have := vF_length 6 n
      simp at *
      omega
    have hsz := hb.size
    by_cases hlt : (128 : Int) ≤ (m : Int)
    · have hcs := one_cell ((m : Int) % 128 + 128) (128 + m % 128) (by omega) (by omega)
      have HC : Hid (#[Value.int .u8 ((m : Int) % 128 + 128)] = byteCells [byt (128 + m % 128)]) := hcs
      clear hcs
      go_wp2_with (at_builtin; refine wpList_append_bytes rfl (.tmp 13) (.tmp 18) 43 rfl Try.underlying43 Try.info5 w.heap.size _ pre rfl hbuf _ [byt (128 + m % 128)] HC.out 1 1 rfl rfl (by simp; omega) hsz ?_; intro v' w1 hbuf1 hb1)
      obtain ⟨g, hg1, hg2, _⟩ := vF_round f m pre HM.out (by omega)
      go_roundw
      case rel => exact ⟨m / 128, g, pre ++ [byt (128 + m % 128)], by go_num, by omega, hg1, hg2.trans HP.out, hbuf1, hb.trans hb1⟩
      case measure => simp [intOf]; omega
    · have hcs := one_cell (m : Int) m rfl (by omega)
      have HC : Hid (#[Value.int .u8 (m : Int)] = byteCells [byt m]) := hcs
      clear hcs
      go_wp2_with (at_builtin; refine wpList_append_bytes rfl (.tmp 22) (.tmp 25) 43 rfl Try.underlying43 Try.info5 w.heap.size _ pre rfl hbuf _ [byt m] HC.out 1 1 rfl rfl (by simp; omega) hsz ?_; intro v' w1 hbuf1 hb1; have hcv := hbuf1.string (P := Try.prog) 43 9 Try.underlying43 Try.underlying5 Try.underlying9)
      go_ret
      exact ⟨by rw [← HP.out, vF_small f m (by omega)]; rfl, hb.trans hb1⟩

end Go.Proofs.Ytaaefceknjhloaa
