/-
  Contract of impl.SnapOk.
-/
import Derived.Test.YtkajnknhggfpoaaDoorRows
import Derived.Test.YtkajnknhggfpoaaDoorSnAid
namespace Go.Proofs.YtkajnknhggfpoaaDoor
open Go.ChangeShapes Go.WideShapes Go.ChangeAt Go.RowKit Go.PlainAid
set_option linter.unusedVariables false

theorem empty_eqs (d : ByteArray) : (d.toList == []) = decide (d = ByteArray.empty) := by
  rw [← empty_beq]
  cases d.toList <;> rfl
set_option maxHeartbeats 4000000 in
theorem implSnapOk (x : Snp) (w : World) (hd : x.data.size ≤ maxLen) : Calls Tryd.prog 56 #[vSnp x] w fun e w' => e = .returned (.bool (snapOk x)) ∧ Below w.heap.size w w' := by
  obtain ⟨i, t, d⟩ := x
  unfold vSnp
  simp only at hd ⊢
  have HB : Hid (Below w.heap.size w (w.alloc (.cells #[.int .i64 i, .int .i64 t, .string d] 25))) := below_one _ _
  have HE : Hid (snapOk ⟨i, t, d⟩ = if i = 0 then decide (t = 0) && decide (d = ByteArray.empty) else inIt i 1 100000 && inIt t 1 100000 && decide (d.size ≤ 30000)) := rfl
  have hdi : (d.size : Int) ≤ 9223372036854775807 := by unfold maxLen at hd; omega
  clear hd
  by_cases h1 : i = 0
  · subst h1
    rw [if_pos rfl] at HE
    by_cases h2 : t = 0
    · subst h2
      rw [decide_eq_true rfl] at HE
      have hb := empty_beq d
      have hc := empty_eqs d
      cases h3 : decide (d = ByteArray.empty) <;> rw [h3] at hb hc HE <;> clear h3
      · go_enter Tryd.func56, Tryd.ntmps56
        go_wp2
        go_ret
        exact ⟨by rw [HE.out]; rfl, HB.out⟩
      · go_enter Tryd.func56, Tryd.ntmps56
        go_wp2
        go_ret
        exact ⟨by rw [HE.out]; rfl, HB.out⟩
    · rw [decide_eq_false h2] at HE
      have z : (t == 0) = false := by simpa using h2
      clear h2
      go_enter Tryd.func56, Tryd.ntmps56
      go_wp2
      go_ret
      exact ⟨by rw [HE.out]; rfl, HB.out⟩
  · rw [if_neg h1] at HE
    have z : (i == 0) = false := by simpa using h1
    unfold inIt at HE
    by_cases a1 : 1 ≤ i
    · by_cases a2 : i ≤ 100000
      · by_cases a3 : 1 ≤ t
        · by_cases a4 : t ≤ 100000
          · have hq : decide ((d.size : Int) ≤ 30000) = decide (d.size ≤ 30000) := by
              by_cases h : d.size ≤ 30000
              · rw [decide_eq_true h, decide_eq_true (by omega)]
              · rw [decide_eq_false h, decide_eq_false (by omega)]
            rw [decide_eq_true a1, decide_eq_true a2, decide_eq_true a3, decide_eq_true a4, ← hq] at HE
            clear hq
            by_cases a5 : (d.size : Int) ≤ 30000
            · rw [decide_eq_true a5] at HE
              go_enter Tryd.func56, Tryd.ntmps56
              go_wp2
              go_ret
              exact ⟨by rw [HE.out]; rfl, HB.out⟩
            · have b5 : decide ((d.size : Int) ≤ 30000) = false := decide_eq_false a5
              rw [b5] at HE
              go_enter Tryd.func56, Tryd.ntmps56
              go_wp2
              go_ret
              exact ⟨by rw [HE.out]; rfl, HB.out⟩
          · have b4 : decide (t ≤ 100000) = false := decide_eq_false a4
            rw [b4] at HE
            go_enter Tryd.func56, Tryd.ntmps56
            go_wp2
            go_ret
            exact ⟨by rw [HE.out]; simp, HB.out⟩
        · have b3 : decide (1 ≤ t) = false := decide_eq_false a3
          rw [b3] at HE
          go_enter Tryd.func56, Tryd.ntmps56
          go_wp2
          go_ret
          exact ⟨by rw [HE.out]; simp, HB.out⟩
      · have b2 : decide (i ≤ 100000) = false := decide_eq_false a2
        rw [b2] at HE
        go_enter Tryd.func56, Tryd.ntmps56
        go_wp2
        go_ret
        exact ⟨by rw [HE.out]; simp, HB.out⟩
    · have b1 : decide (1 ≤ i) = false := decide_eq_false a1
      rw [b1] at HE
      go_enter Tryd.func56, Tryd.ntmps56
      go_wp2
      go_ret
      exact ⟨by rw [HE.out]; simp, HB.out⟩
end Go.Proofs.YtkajnknhggfpoaaDoor
