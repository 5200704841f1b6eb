/-
  Contracts of impl.Crc and of the methods of its running sum, where the table of sixteen sums holds what its text lays.
-/
import Derived.Test.YthgiekeiljflaaaDoorRows
import Derived.Test.YthgiekeiljflaaaDoorAid
import Derived.Test.YthgiekeiljflaaaDoorCrcAid
import Derived.WalkKit
import Derived.ProofKit
import Derived.OpenShut
import Derived.Below
import Derived.WalkSmall
import Derived.WalkLawsBesides
import Derived.Outline
import Derived.BigQuiet
import Derived.Deep.QuietTactic
namespace Go.Proofs.YthgiekeiljflaaaDoor
open Go.ChangeShapes Go.WideShapes Go.ChangeAt Go.RowKit Go.PlainAid
set_option linter.unusedVariables false

theorem gSum : Tryd.prog.globalNamed "loop.example/g00360/impl.halfSums" = some 0 := by kernel_rfl
/-- The variable of the sixteen sums holds them. -/
def SumTab (w : World) : Prop := Lib.TabIs Tryd.prog w "loop.example/g00360/impl.halfSums" .u32 sumTab
theorem SumTab.below {B : Nat} {w w' : World} (h : SumTab w) (hb : Below B w w') (hB : 0 < B) : SumTab w' := var?_below hb gSum hB h
theorem SumTab.drewN {w : World} (h : SumTab w) (n : Nat) : SumTab (w.drewN n) := h

set_option maxHeartbeats 400000 in
theorem impl_half4 (c : Nat) (w : World) (hc : c < 4294967296) (ht : SumTab w) :
    Calls Tryd.prog 71 #[.int .u32 (c : Int)] w fun e w' => e = .returned (.int .u32 ((halfs 4 c : Nat) : Int)) ∧ w = w' := by
  have e1 := and_u32_15 c hc
  have hcell : w.cell? ⟨0, c % 16, none⟩ = some (.int .u32 ((halfs 4 (c % 16) : Nat) : Int)) := by
    rw [ht.cell gSum _ (by rw [sumTab_length]; omega), sumTab_at _ (by omega)]
  have l1 := halfs_lt 4 (c % 16) (by omega)
  have e2 := xor_u32 (c / 16) (halfs 4 (c % 16)) (by omega) l1
  rw [step_four] at e2
  have e3 : (c : Int) / 16 = ((c / 16 : Nat) : Int) := by omega
  have b1 : ((c % 16 : Nat) : Int) < 16 := by omega
  have b2 : c % 16 < 16 := by omega
  generalize halfs 4 (c % 16) = t at *
  generalize halfs 4 c = r at *
  generalize c / 16 = d at *
  generalize c % 16 = m at *
  clear hc l1 ht
  go_enter Tryd.func71, Tryd.ntmps71
  go_wp2_with fail
  go_ret
  exact ⟨rfl, rfl⟩

set_option maxHeartbeats 400000 in
theorem impl_with (c b : Nat) (w : World) (hc : c < 4294967296) (hb : b < 256) (ht : SumTab w) :
    Calls Tryd.prog 52 #[.int .u32 (c : Int), .int .u8 (b : Int)] w fun e w' => e = .returned (.int .u32 ((halfs 8 (c ^^^ b) : Nat) : Int)) ∧ w = w' := by
  have e1 := xor_u32 c b hc (by omega)
  have l1 := xor_lt32 c b hc (by omega)
  have e2 : IntKind.u32.wrap (b : Int) = (b : Int) := by rw [IntKind.wrap_u32]; omega
  have HT : Hid (SumTab w) := ht
  have L1 : Hid (c ^^^ b < 4294967296) := l1
  rw [show (8 : Nat) = 4 + 4 from rfl, halfs_add]
  generalize c ^^^ b = x at *
  have c1 := impl_half4 x w l1 ht
  have c2 := impl_half4 (halfs 4 x) w (halfs_lt _ _ l1) ht
  clear ht l1 hc
  go_enter Tryd.func52, Tryd.ntmps52
  go_wp2_with fail
  refine c1.mono ?_
  rintro e w1 ⟨rfl, rfl⟩
  go_wp2_with fail
  refine c2.mono ?_
  rintro e w1 ⟨rfl, rfl⟩
  go_wp2_with fail
  go_ret
  exact ⟨rfl, rfl⟩

set_option maxHeartbeats 400000 in
theorem impl_told (c : Nat) (w : World) (hc : c < 4294967296) :
    Calls Tryd.prog 53 #[.int .u32 (c : Int)] w fun e w' => e = .returned (.int .i64 ((4294967295 - c : Nat) : Int)) ∧ w = w' := by
  have e1 : IntKind.i64.wrap (4294967295 - (c : Int)) = ((4294967295 - c : Nat) : Int) := by rw [IntKind.wrap_i64]; omega
  have e2 : (4294967295 : Int) - (c : Int) = ((4294967295 - c : Nat) : Int) := by omega
  have e3 : IntKind.i64.wrap (c : Int) = (c : Int) := by rw [IntKind.wrap_i64]; omega
  have e4 : wrap64 (4294967295 - (c : Int)) = ((4294967295 - c : Nat) : Int) := by unfold wrap64; omega
  generalize 4294967295 - c = r at *
  clear hc
  go_enter Tryd.func53, Tryd.ntmps53
  go_wp2_with fail
  go_ret
  exact ⟨rfl, rfl⟩

set_option maxHeartbeats 400000 in
theorem impl_crc (s : ByteArray) (w : World) (hs : s.size ≤ 9223372036854775807) (ht : SumTab w) :
    Calls Tryd.prog 28 #[.string s] w fun e w' => e = .returned (.int .i64 ((crc s : Nat) : Int)) ∧ w = w' := by
  have hbt := get_bn s
  have HT : Hid (SumTab w) := ht
  clear ht
  go_enter Tryd.func28, Tryd.ntmps28
  go_wp2
  go_loop [3, 7] (fun v3 v7 => ∃ k : Nat, k ≤ s.size ∧ v7 = .int .i64 k ∧ v3 = .int .u32 ((crcC s k : Nat) : Int)) (fun _ i => s.size - (intOf i).toNat)
  case atStart => exact ⟨0, by omega, rfl, rfl⟩
  case round =>
    obtain ⟨k, hk, rfl, rfl⟩ := hrel
    have hl : Hid (crcC s k < 4294967296) := crcC_lt s k
    by_cases hlt : k < s.size
    · have q1 : (k : Int) < (s.size : Int) := by omega
      have r2 := bn_lt s k
      have c1 := impl_with (crcC s k) (bn s k) w hl.out r2 HT.out
      rw [← crcC] at c1
      go_wp2_with fail
      refine c1.mono ?_
      rintro e w1 ⟨rfl, rfl⟩
      go_wp2
      go_round
      case rel => exact ⟨k + 1, by omega, by go_num, rfl⟩
      case measure => simp [intOf]; omega
    · have hkk : k = s.size := by omega
      subst hkk
      have c1 := impl_told (crcC s s.size) w hl.out
      go_wp2_with fail
      refine c1.mono ?_
      rintro e w1 ⟨rfl, rfl⟩
      go_wp2
      go_ret
      exact ⟨rfl, rfl⟩

end Go.Proofs.YthgiekeiljflaaaDoor
