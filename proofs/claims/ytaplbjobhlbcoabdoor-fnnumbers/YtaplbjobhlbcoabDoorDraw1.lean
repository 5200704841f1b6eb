/-
  Contracts of laws.big, spec.DrawVar, spec.DrawHex and spec.DrawReadVar: what is drawn, as functions of the code's bytes.
-/
import Derived.Test.YtaplbjobhlbcoabDoorRows
import Derived.Test.YtaplbjobhlbcoabDoorCurSpoil
namespace Go.Proofs.YtaplbjobhlbcoabDoor
open Go.ChangeShapes Go.WideShapes Go.ChangeAt Go.RowKit Go.PlainAid
set_option linter.unusedVariables false

/-- What Var makes of any int. -/
def varT (n : Int) : List UInt8 := if 0 ≤ n ∧ n ≤ 562949953421311 then vF 6 n.toNat else []
theorem spec_var_any (n : Int) (w : World) : Calls Tryd.prog 23 #[.int .i64 n] w fun e w' => e = .returned (.string (txt (varT n))) ∧ Below w.heap.size w w' := by
  unfold varT
  by_cases h : 0 ≤ n ∧ n ≤ 562949953421311
  · rw [if_pos h]
    obtain ⟨k, rfl⟩ := Int.eq_ofNat_of_zero_le h.1
    exact spec_var k w (by omega)
  · rw [if_neg h]
    exact spec_var_no n w (by omega)
theorem impl_var_any (n : Int) (w : World) : Calls Tryd.prog 7 #[.int .i64 n] w fun e w' => e = .returned (.string (txt (varT n))) ∧ Below w.heap.size w w' := by
  unfold varT
  by_cases h : 0 ≤ n ∧ n ≤ 562949953421311
  · rw [if_pos h]
    obtain ⟨k, rfl⟩ := Int.eq_ofNat_of_zero_le h.1
    exact impl_var k w (by omega)
  · rw [if_neg h]
    exact impl_var_no n w (by omega)
theorem varT_length (n : Int) : (varT n).length ≤ 7 := by
  unfold varT
  split
  · exact vF_length 6 _
  · simp

set_option maxHeartbeats 400000 in
theorem drawVar (w : World) (ao : Option Addr) (len cap : Nat) (cs : Nat → Nat) (hl : len ≤ 1048576) (h : CodeIs w w.heap.size ao len cs) :
    Calls Tryd.prog 5 #[.slice ao len cap] w fun e w' => e = .returned (.int .i64 (numV len cs (newP len cs))) ∧ Below w.heap.size w w' := by
  have HC : Hid (CodeIs w w.heap.size ao len cs) := h
  clear h
  go_enter Tryd.func5, Tryd.ntmps5
  go_wp2_with fail
  refine (new_any _ ao len cap cs hl HC.out).mono ?_
  rintro e w1 ⟨rfl, hA1, hb1⟩
  go_wp2_with fail
  refine (num_any _ _ ao len cap cs _ hA1).mono ?_
  rintro e w2 ⟨rfl, hA2, hm2⟩
  go_wp2_with fail
  go_ret
  exact ⟨rfl, hb1.trans ((hm2.mono hb1.size).below (Nat.le_refl _))⟩

set_option maxHeartbeats 400000 in
theorem drawHex (w : World) (ao : Option Addr) (len cap : Nat) (cs : Nat → Nat) (hl : len ≤ 1048576) (h : CodeIs w w.heap.size ao len cs) :
    Calls Tryd.prog 6 #[.slice ao len cap] w fun e w' => e = .returned (.string (txt (textV len cs 40 (newP len cs)))) ∧ Below w.heap.size w w' := by
  have HC : Hid (CodeIs w w.heap.size ao len cs) := h
  clear h
  go_enter Tryd.func6, Tryd.ntmps6
  go_wp2_with fail
  refine (new_any _ ao len cap cs hl HC.out).mono ?_
  rintro e w1 ⟨rfl, hA1, hb1⟩
  go_wp2_with fail
  refine (text_any _ _ ao len cap cs _ 40 (by omega) (by omega) hA1).mono ?_
  rintro e w2 ⟨rfl, hA2, hm2⟩
  go_wp2_with fail
  go_ret
  exact ⟨rfl, hb1.trans ((hm2.mono hb1.size).below (Nat.le_refl _))⟩

/-- What DrawReadVar draws. -/
def drvS (len : Nat) (cs : Nat → Nat) : ByteArray := txt (varT (numV len cs (newP len cs)) ++ textV len cs 4 (numP len cs (newP len cs)))
def drvP (len : Nat) (cs : Nat → Nat) : Pos := textP len cs 4 (numP len cs (newP len cs))
def drv (len : Nat) (cs : Nat → Nat) : ByteArray := if belowV len cs 4 (drvP len cs) = 0 then spoilV len cs (drvS len cs) (belowP len 4 (drvP len cs)) else drvS len cs
theorem drvS_size (len : Nat) (cs : Nat → Nat) : (drvS len cs).size ≤ 11 := by
  unfold drvS
  rw [txt_size, List.length_append]
  have h1 := varT_length (numV len cs (newP len cs))
  have h2 := textV_length len cs 4 (numP len cs (newP len cs)) (by omega)
  omega
theorem drv_size (len : Nat) (cs : Nat → Nat) : (drv len cs).size ≤ 14 := by
  have h := drvS_size len cs
  unfold drv
  split
  · have := spoilV_size len cs (drvS len cs) (belowP len 4 (drvP len cs))
    omega
  · omega

set_option maxHeartbeats 1000000 in
theorem drawReadVar (w : World) (ao : Option Addr) (len cap : Nat) (cs : Nat → Nat) (hl : len ≤ 1048576) (h : CodeIs w w.heap.size ao len cs) :
    Calls Tryd.prog 15 #[.slice ao len cap] w fun e w' => e = .returned (.string (drv len cs)) ∧ Below w.heap.size w w' := by
  have HC : Hid (CodeIs w w.heap.size ao len cs) := h
  clear h
  have k1 := varT_length (numV len cs (newP len cs))
  have k2 := textV_length len cs 4 (numP len cs (newP len cs)) (by omega)
  have k3 : (txt (varT (numV len cs (newP len cs)))).size ≤ 7 := by rw [txt_size]; exact k1
  have k4 : (txt (textV len cs 4 (numP len cs (newP len cs)))).size ≤ 4 := by rw [txt_size]; omega
  clear k1 k2
  have HS : Hid (txt (varT (numV len cs (newP len cs))) ++ txt (textV len cs 4 (numP len cs (newP len cs))) = drvS len cs) := txt_cat _ _
  go_enter Tryd.func15, Tryd.ntmps15
  go_wp2_with fail
  refine (new_any _ ao len cap cs hl HC.out).mono ?_
  rintro e w1 ⟨rfl, hA1, hb1⟩
  go_wp2_with fail
  refine (num_any _ _ ao len cap cs _ hA1).mono ?_
  rintro e w2 ⟨rfl, hA2, hm2⟩
  have hB2 : Below w.heap.size w w2 := hb1.trans ((hm2.mono hb1.size).below (Nat.le_refl _))
  go_wp2_with fail
  refine (spec_var_any _ _).mono ?_
  rintro e w3 ⟨rfl, hb3⟩
  have hA3 := hA2.below hb3 hA2.lt
  have hB3 : Below w.heap.size w w3 := hB2.trans (hb3.mono hB2.size)
  go_wp2_with fail
  refine (text_any _ _ ao len cap cs _ 4 (by omega) (by omega) hA3).mono ?_
  rintro e w4 ⟨rfl, hA4, hm4⟩
  have hB4 : Below w.heap.size w w4 := hB3.trans ((hm4.mono hB3.size).below (Nat.le_refl _))
  clear hb1 hm2 hb3 hm4 hA1 hA2 hA3 hB2 hB3
  go_wp2_with fail
  rw [HS.out]
  refine (once_any _ _ ao len cap cs _ 4 (by omega) hA4).mono ?_
  rintro e w5 ⟨rfl, hA5, hm5⟩
  have hB5 : Below w.heap.size w w5 := hB4.trans ((hm5.mono hB4.size).below (Nat.le_refl _))
  clear hm5 hA4 hB4
  by_cases c : belowV len cs 4 (textP len cs 4 (numP len cs (newP len cs))) = 0
  · have z : (belowV len cs 4 (textP len cs 4 (numP len cs (newP len cs))) == 0) = true := beq_iff_eq.2 c
    have HD : Hid (drv len cs = spoilV len cs (drvS len cs) (belowP len 4 (drvP len cs))) := by show drv len cs = _; unfold drv; exact if_pos c
    clear c
    go_wp2_with fail
    refine (spoil_any _ _ ao len cap cs _ (drvS len cs) (by have := drvS_size len cs; omega) (Nat.le_refl _) hA5).mono ?_
    rintro e w6 ⟨rfl, hm6⟩
    go_wp2_with fail
    go_ret
    rw [HD.out]
    exact ⟨rfl, hB5.trans ((hm6.mono hB5.size).below (Nat.le_refl _))⟩
  · have z : (belowV len cs 4 (textP len cs 4 (numP len cs (newP len cs))) == 0) = false := beq_eq_false_iff_ne.2 c
    have HD : Hid (drv len cs = drvS len cs) := by show drv len cs = _; unfold drv; exact if_neg c
    clear c
    go_wp2_with fail
    go_ret
    rw [HD.out]
    exact ⟨rfl, hB5⟩
end Go.Proofs.YtaplbjobhlbcoabDoor
