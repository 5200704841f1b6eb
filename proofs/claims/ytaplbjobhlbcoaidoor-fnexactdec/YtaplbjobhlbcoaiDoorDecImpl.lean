/-
  The contract of impl.Dec: the decimal text of every int, where the library's table of powers of ten is as its text lays it.
-/
import Derived.Test.YtaplbjobhlbcoaiDoorRows
import Derived.Test.YtaplbjobhlbcoaiDoorDecAid
import Derived.Test.YtaplbjobhlbcoaiDoorSpecDec
import Derived.Test.YtaplbjobhlbcoaiDoorShelf
import Derived.Lib.ItoaNum
import Derived.Lib.LaidTab
import Derived.WalkSmall
namespace Go.Proofs.YtaplbjobhlbcoaiDoor
open Go.ChangeShapes Go.WideShapes Go.ChangeAt Go.RowKit Go.PlainAid
set_option linter.unusedVariables false

theorem dF_lib (f u : Nat) (h0 : 0 < u) (h : u < 10 ^ f) : dF f u = Lib.decDigits u := by
  induction f generalizing u with
  | zero => simp at h; omega
  | succ f ih =>
    have hd : u / 10 < 10 ^ f := by
      rw [Nat.pow_succ] at h
      exact Nat.div_lt_of_lt_mul (by rw [Nat.mul_comm]; exact h)
    rw [dF, if_neg (by omega)]
    by_cases h10 : u < 10
    · rw [Lib.decDigits_one h10, show u / 10 = 0 by omega, dF_zero, Nat.mod_eq_of_lt h10]
      rfl
    · rw [Lib.decDigits, dif_neg h10, ih (u / 10) (by omega) hd]
      rfl
theorem decI_lib (v : Int) (h1 : -9223372036854775808 ≤ v) (h2 : v ≤ 9223372036854775807) : Lib.itoa v = decI v := by
  unfold Lib.itoa decI
  by_cases h : v < 0
  · rw [if_pos h, if_pos h, dF_lib 20 v.natAbs (by omega) (by omega)]
  · rw [if_neg h, if_neg h]
    unfold decN
    by_cases h0 : v.toNat = 0
    · rw [if_pos h0, h0, Lib.decDigits_one (by omega)]
      rfl
    · rw [if_neg h0, dF_lib 20 v.toNat (by omega) (by omega)]
theorem below_grow (w : World) (k : Nat) (os : Array Obj) : Below w.heap.size w (Go.Sort.grow (w.drewN k) os) := by
  have hb : Below w.heap.size w (w.drewN k) := below_drewN (Below.refl _ _) k
  refine hb.trans ⟨rfl, rfl, rfl, by simp [Go.Sort.grow], fun i hi => ?_⟩
  simp only [Go.Sort.grow]
  rw [Array.getElem?_append_left (Nat.lt_of_lt_of_le hi hb.size)]

/-- The table of powers of ten lies in w as the text lays it. -/
def PowTab (w : World) : Prop := Lib.TabIs Tryd.prog w "internal/strconv.uint64pow10" .u64 Lib.pow10Tab
theorem gPow : Tryd.prog.globalNamed "internal/strconv.uint64pow10" = some 0 := by kernel_rfl
theorem PowTab.below {B : Nat} {w w' : World} (h : PowTab w) (hb : Below B w w') (hB : 0 < B) : PowTab w' := var?_below hb gPow hB h

set_option maxHeartbeats 400000 in
theorem impl_dec (v : Int) (w : World) (h1 : -9223372036854775808 ≤ v) (h2 : v ≤ 9223372036854775807) (ht : PowTab w) :
    Calls Tryd.prog 5 #[.int .i64 v] w fun e w' => e = .returned (.string (txt (decI v))) ∧ Below w.heap.size w w' := by
  have HD : Hid (Lib.itoa v = decI v) := decI_lib v h1 h2
  have HT : Hid (PowTab w) := ht
  clear ht
  go_enter Tryd.func5, Tryd.ntmps5
  go_wp2_with fail
  refine (Tryd.strconv_Itoa v h1 h2 _ HT.out).mono ?_
  rintro e w1 ⟨rfl, k, os, rfl⟩
  rw [HD.out]
  go_wp2_with fail
  go_ret
  exact ⟨rfl, below_grow w k os⟩
end Go.Proofs.YtaplbjobhlbcoaiDoor
