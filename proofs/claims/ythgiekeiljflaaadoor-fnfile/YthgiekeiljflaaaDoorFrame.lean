/-
  Contracts of impl.frameSum, impl.Frame and spec.Frame: what each returns, at every text of at most a million bytes, where the table of sixteen sums holds what its text lays.
-/
import Derived.Test.YthgiekeiljflaaaDoorRows
import Derived.Test.YthgiekeiljflaaaDoorFix
import Derived.Test.YthgiekeiljflaaaDoorCrcImpl
import Derived.Test.YthgiekeiljflaaaDoorCrcSpec
import Derived.Test.YthgiekeiljflaaaDoorFrAid
import Derived.WalkKit
import Derived.ProofKit
import Derived.OpenShut
import Derived.Below
import Derived.WalkSmall
import Derived.WalkLawsBesides
import Derived.Outline
namespace Go.Proofs.YthgiekeiljflaaaDoor
open Go.ChangeShapes Go.WideShapes Go.ChangeAt Go.RowKit Go.PlainAid
set_option linter.unusedVariables false

theorem fixed_four (n : Nat) (h : n < 4294967296) : fixed n 4 = four n := by
  rw [fixed, if_pos (by omega)]
  rfl
theorem SumTab.lt {W : World} (h : SumTab W) : 0 < W.heap.size := by
  unfold SumTab Lib.TabIs World.var? at h
  simp only [gSum, Option.bind_some] at h
  by_cases hlt : 0 < W.heap.size
  · exact hlt
  · rw [Array.getElem?_eq_none (by omega)] at h
    simp at h
theorem SumTab.on {w w' : World} (h : SumTab w) (hb : Below w.heap.size w w') : SumTab w' := h.below hb h.lt

set_option maxHeartbeats 400000 in
theorem impl_frameSum (a b : ByteArray) (w : World) (hs : a.size + b.size ≤ 2097152) (ht : SumTab w) :
    Calls Tryd.prog 83 #[.string a, .string b] w fun e w' => e = .returned (.string (sumOf a b)) ∧ Below w.heap.size w w' := by
  have c1 := impl_crc (a ++ b) w (by rw [ByteArray.size_append]; omega) ht
  have hl := crc_lt (a ++ b)
  have c2 := impl_fixed (crc (a ++ b)) 4 w (by omega) (by omega) (by omega)
  rw [fixed_four _ hl] at c2
  have hsum : a.size + b.size ≤ 9223372036854775807 := by omega
  clear ht hs hl
  go_enter Tryd.func83, Tryd.ntmps83
  go_wp2_with fail
  refine c1.mono ?_
  rintro e w1 ⟨rfl, rfl⟩
  go_wp2_with fail
  refine c2.mono ?_
  rintro e w1 ⟨rfl, hb1⟩
  go_wp2_with fail
  go_ret
  exact ⟨rfl, hb1⟩

set_option maxHeartbeats 400000 in
theorem impl_frame (b : ByteArray) (w : World) (hs : b.size ≤ 1048576) (ht : SumTab w) :
    Calls Tryd.prog 68 #[.string b] w fun e w' => e = .returned (.string (frame b)) ∧ Below w.heap.size w w' := by
  by_cases h0 : b.size = 0
  · obtain rfl : b = ⟨#[]⟩ := by
      apply ByteArray.ext
      exact Array.eq_empty_of_size_eq_zero h0
    go_enter Tryd.func68, Tryd.ntmps68
    go_wp2_with fail
    go_ret
    exact ⟨by rw [frame, if_pos (.inl h0)]; rfl, Below.refl _ _⟩
  · have hbe : b.toList.isEmpty = false := by
      rw [Lib.toList_data]
      rcases h : b.data.toList with _ | ⟨x, l⟩
      · exact absurd (by rw [Lib.size_eq, h]; rfl) h0
      · rfl
    have hb2 : ¬ b.toList = [] := fun h => by rw [h] at hbe; cases hbe
    by_cases h2 : 2000 < b.size
    · have q : (2000 : Int) < (b.size : Int) := by omega
      have q2 : decide ((2000 : Int) < (b.size : Int)) = true := decide_eq_true q
      go_enter Tryd.func68, Tryd.ntmps68
      go_wp2_with fail
      go_ret
      exact ⟨by rw [frame, if_pos (.inr h2)]; rfl, Below.refl _ _⟩
    · have q : (b.size : Int) ≤ 2000 := by omega
      have q2 : decide ((2000 : Int) < (b.size : Int)) = false := decide_eq_false (by omega)
      have c1 := impl_fixed b.size 4 w (by omega) (by omega) (by omega)
      rw [fixed_four _ (by omega)] at c1
      have HT : Hid (SumTab w) := ht
      have HS : Hid ((four b.size).size + b.size ≤ 2097152) := by unfold Hid; rw [four_size]; omega
      have s1 : (four b.size).size + (sumOf (four b.size) b).size ≤ 9223372036854775807 := by rw [four_size, sumOf_size]; omega
      have s2 : (four b.size).size + (sumOf (four b.size) b).size + b.size ≤ 9223372036854775807 := by rw [four_size, sumOf_size]; omega
      have ef : Hid (frame b = four b.size ++ sumOf (four b.size) b ++ b) := by unfold Hid; rw [frame, if_neg (by omega), frameOf]
      clear ht
      go_enter Tryd.func68, Tryd.ntmps68
      go_wp2_with fail
      refine c1.mono ?_
      rintro e w1 ⟨rfl, hb1⟩
      have c2 := impl_frameSum (four b.size) b w1 HS.out (HT.out.on hb1)
      go_wp2_with fail
      refine c2.mono ?_
      rintro e w2 ⟨rfl, hb2⟩
      go_wp2_with fail
      go_ret
      exact ⟨by rw [ef.out]; rfl, hb1.trans (hb2.mono hb1.size)⟩

set_option maxHeartbeats 400000 in
theorem spec_frame (b : ByteArray) (w : World) (hs : b.size ≤ 1048576) :
    Calls Tryd.prog 61 #[.string b] w fun e w' => e = .returned (.string (frame b)) ∧ Below w.heap.size w w' := by
  by_cases h0 : b.size = 0
  · have q : (b.size : Int) = 0 := by omega
    go_enter Tryd.func61, Tryd.ntmps61
    go_wp2_with fail
    go_ret
    exact ⟨by rw [frame, if_pos (.inl h0)]; rfl, Below.refl _ _⟩
  · have q0 : ((b.size : Int) == 0) = false := by simp only [beq_eq_false_iff_ne, ne_eq]; omega
    have q1 : ¬ (b.size : Int) = 0 := by omega
    by_cases h2 : 2000 < b.size
    · have q : (2000 : Int) < (b.size : Int) := by omega
      have q2 : decide ((2000 : Int) < (b.size : Int)) = true := decide_eq_true q
      go_enter Tryd.func61, Tryd.ntmps61
      go_wp2_with fail
      go_ret
      exact ⟨by rw [frame, if_pos (.inr h2)]; rfl, Below.refl _ _⟩
    · have q : (b.size : Int) ≤ 2000 := by omega
      have q2 : decide ((2000 : Int) < (b.size : Int)) = false := decide_eq_false (by omega)
      have c1 := spec_fixed b.size 4 w (by omega) (by omega) (by omega)
      rw [fixed_four _ (by omega)] at c1
      have s0 : (four b.size).size + b.size ≤ 9223372036854775807 := by rw [four_size]; omega
      have s1 : (four b.size).size + (sumOf (four b.size) b).size ≤ 9223372036854775807 := by rw [four_size, sumOf_size]; omega
      have s2 : (four b.size).size + (sumOf (four b.size) b).size + b.size ≤ 9223372036854775807 := by rw [four_size, sumOf_size]; omega
      have ef : Hid (frame b = four b.size ++ sumOf (four b.size) b ++ b) := by unfold Hid; rw [frame, if_neg (by omega), frameOf]
      have c2 := fun wx => spec_crc (four b.size ++ b) wx (by rw [ByteArray.size_append]; exact s0)
      have c3 : ∀ wx : World, Calls Tryd.prog 39 #[.int .i64 ((crc (four b.size ++ b) : Nat) : Int), .int .i64 4] wx fun e w' => e = .returned (.string (sumOf (four b.size) b)) ∧ Below wx.heap.size wx w' := fun wx => by
        have := spec_fixed (crc (four b.size ++ b)) 4 wx (by have := crc_lt (four b.size ++ b); omega) (by omega) (by omega)
        rw [fixed_four _ (crc_lt _)] at this
        exact this
      go_enter Tryd.func61, Tryd.ntmps61
      go_wp2_with fail
      refine c1.mono ?_
      rintro e w1 ⟨rfl, hb1⟩
      go_wp2_with fail
      refine (c2 _).mono ?_
      rintro e w2 ⟨rfl, rfl⟩
      go_wp2_with fail
      refine (c3 _).mono ?_
      rintro e w2 ⟨rfl, hb2⟩
      go_wp2_with fail
      go_ret
      exact ⟨by rw [ef.out]; rfl, hb1.trans (hb2.mono hb1.size)⟩

end Go.Proofs.YthgiekeiljflaaaDoor
