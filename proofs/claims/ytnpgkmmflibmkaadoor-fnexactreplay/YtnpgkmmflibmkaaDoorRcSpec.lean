/-
  Contracts of spec.l1In, spec.l5Based and spec.RecOk: what each answers, at every record.
-/
import Derived.Test.YtnpgkmmflibmkaaDoorRows
import Derived.Test.YtnpgkmmflibmkaaDoorWkSz
import Derived.Handy
namespace Go.Proofs.YtnpgkmmflibmkaaDoor
open Go.ChangeShapes Go.WideShapes Go.ChangeAt Go.RowKit Go.PlainAid
set_option linter.unusedVariables false

theorem toList_beq (a b : ByteArray) : (a.toList == b.toList) = decide (a = b) := by
  rw [Lib.toList_data, Lib.toList_data]
  by_cases h : a = b
  · subst h
    simp
  · rw [decide_eq_false h, beq_eq_false_iff_ne]
    intro e
    exact h (ByteArray.ext (Array.toList_inj.1 e))
theorem empty_beq (d : ByteArray) : d.toList.isEmpty = decide (d = ByteArray.empty) := by
  have h := toList_beq d ByteArray.empty
  rw [← h]
  have : ByteArray.empty.toList = [] := by rw [Lib.toList_data]; rfl
  rw [this]
  cases d.toList <;> rfl
set_option maxHeartbeats 400000 in
theorem inB (x lo hi : Int) (w : World) : Calls Tryd.prog 40 #[.int .i64 x, .int .i64 lo, .int .i64 hi] w fun e w' => e = .returned (.bool (inIt x lo hi)) ∧ w = w' := by
  by_cases h1 : lo ≤ x
  · go_enter Tryd.func40, Tryd.ntmps40
    go_wp2
    go_ret
    exact ⟨by simp [inIt, h1], rfl⟩
  · have z : decide (lo ≤ x) = false := decide_eq_false h1
    have z2 : x < lo := by omega
    go_enter Tryd.func40, Tryd.ntmps40
    go_wp2
    go_ret
    exact ⟨by unfold inIt; rw [z]; rfl, rfl⟩

set_option maxHeartbeats 400000 in
theorem basedV (i t : Int) (w : World) : Calls Tryd.prog 41 #[.int .i64 i, .int .i64 t] w fun e w' => e = .returned (.bool (based i t)) ∧ w = w' := by
  by_cases h1 : i = 0
  · subst h1
    go_enter Tryd.func41, Tryd.ntmps41
    go_wp2
    go_ret
    exact ⟨by unfold based; rw [if_pos rfl]; exact congrArg (fun b => Ending.returned (.bool b)) (by by_cases h : t = 0 <;> simp [h]), rfl⟩
  · have z : (i == 0) = false := by simpa using h1
    have a1 := inB i 1 100000
    have a2 := inB t 1 100000
    have HE : Hid (based i t = (inIt i 1 100000 && inIt t 1 100000)) := by unfold Hid based; rw [if_neg h1]
    cases h2 : inIt i 1 100000 <;> rw [h2] at a1 HE <;> clear h1 h2
    · go_enter Tryd.func41, Tryd.ntmps41
      go_wp2_with fail
      refine (a1 _).mono ?_
      rintro e w' ⟨rfl, rfl⟩
      go_wp2_with fail
      go_ret
      exact ⟨by rw [HE.out]; rfl, rfl⟩
    · go_enter Tryd.func41, Tryd.ntmps41
      go_wp2_with fail
      refine (a1 _).mono ?_
      rintro e w' ⟨rfl, rfl⟩
      go_wp2_with fail
      refine (a2 _).mono ?_
      rintro e w' ⟨rfl, rfl⟩
      go_wp2_with fail
      go_ret
      exact ⟨by rw [HE.out]; rfl, rfl⟩

set_option maxHeartbeats 2000000 in
theorem specRecOk (r : Rcd) (w : World) (hd : r.data.size ≤ maxLen) : Calls Tryd.prog 24 #[vRcd r] w fun e w' => e = .returned (.bool (recOk r)) ∧ Below w.heap.size w w' := by
  obtain ⟨k, t, i, v, d⟩ := r
  unfold vRcd
  simp only at hd ⊢
  have HB : Hid (Below w.heap.size w (w.alloc (.cells #[.int .i64 k, .int .i64 t, .int .i64 i, .int .i64 v, .string d] 34))) := (Below.refl _ _).alloc (Nat.le_refl _) _
  have HE : Hid (recOk ⟨k, t, i, v, d⟩ = if k = 1 then inIt t 0 100000 && inIt v (-1) 4 && decide (i = 0) && decide (d = ByteArray.empty)
    else if k = 2 then inIt t 1 100000 && inIt i 1 100000 && decide (v = 0) && decide (d.size ≤ 900)
    else if k = 3 then decide (t = 0) && inIt i 1 100000 && decide (v = 0) && decide (d = ByteArray.empty)
    else if k = 4 then based i t && decide (v = 0) && decide (d = ByteArray.empty)
    else false) := rfl
  by_cases k1 : k = 1
  · subst k1
    rw [if_pos rfl] at HE
    have a4 := inB t 0 100000
    cases h4 : inIt t 0 100000 <;> rw [h4] at a4 HE
    · clear h4
      go_enter Tryd.func24, Tryd.ntmps24
      go_wp2_with fail
      refine (a4 _).mono ?_
      rintro e w' ⟨rfl, rfl⟩
      go_wp2_with fail
      go_ret
      exact ⟨by rw [HE.out]; rfl, HB.out⟩
    · clear h4
      have a3 := inB v (-1) 4
      cases h3 : inIt v (-1) 4 <;> rw [h3] at a3 HE
      · clear h3
        go_enter Tryd.func24, Tryd.ntmps24
        go_wp2_with fail
        refine (a4 _).mono ?_
        rintro e w' ⟨rfl, rfl⟩
        go_wp2_with fail
        refine (a3 _).mono ?_
        rintro e w' ⟨rfl, rfl⟩
        go_wp2_with fail
        go_ret
        exact ⟨by rw [HE.out]; rfl, HB.out⟩
      · clear h3
        by_cases h2 : i = 0
        · subst h2
          rw [decide_eq_true rfl] at HE
          have hb := empty_beq d
          cases h1 : decide (d = ByteArray.empty) <;> rw [h1] at hb HE <;> clear h1
          · go_enter Tryd.func24, Tryd.ntmps24
            go_wp2_with fail
            refine (a4 _).mono ?_
            rintro e w' ⟨rfl, rfl⟩
            go_wp2_with fail
            refine (a3 _).mono ?_
            rintro e w' ⟨rfl, rfl⟩
            go_wp2_with fail
            go_ret
            exact ⟨by rw [HE.out]; rfl, HB.out⟩
          · go_enter Tryd.func24, Tryd.ntmps24
            go_wp2_with fail
            refine (a4 _).mono ?_
            rintro e w' ⟨rfl, rfl⟩
            go_wp2_with fail
            refine (a3 _).mono ?_
            rintro e w' ⟨rfl, rfl⟩
            go_wp2_with fail
            go_ret
            exact ⟨by rw [HE.out]; rfl, HB.out⟩
        · have z2 : (i == 0) = false := by simpa using h2
          rw [decide_eq_false h2] at HE
          clear h2
          go_enter Tryd.func24, Tryd.ntmps24
          go_wp2_with fail
          refine (a4 _).mono ?_
          rintro e w' ⟨rfl, rfl⟩
          go_wp2_with fail
          refine (a3 _).mono ?_
          rintro e w' ⟨rfl, rfl⟩
          go_wp2_with fail
          go_ret
          exact ⟨by rw [HE.out]; rfl, HB.out⟩
  rw [if_neg k1] at HE
  have y1 : (k == 1) = false := by simpa using k1
  clear k1
  by_cases k2 : k = 2
  · subst k2
    rw [if_pos rfl] at HE
    have a4 := inB t 1 100000
    cases h4 : inIt t 1 100000 <;> rw [h4] at a4 HE
    · clear h4
      go_enter Tryd.func24, Tryd.ntmps24
      go_wp2_with fail
      refine (a4 _).mono ?_
      rintro e w' ⟨rfl, rfl⟩
      go_wp2_with fail
      go_ret
      exact ⟨by rw [HE.out]; rfl, HB.out⟩
    · clear h4
      have a3 := inB i 1 100000
      cases h3 : inIt i 1 100000 <;> rw [h3] at a3 HE
      · clear h3
        go_enter Tryd.func24, Tryd.ntmps24
        go_wp2_with fail
        refine (a4 _).mono ?_
        rintro e w' ⟨rfl, rfl⟩
        go_wp2_with fail
        refine (a3 _).mono ?_
        rintro e w' ⟨rfl, rfl⟩
        go_wp2_with fail
        go_ret
        exact ⟨by rw [HE.out]; rfl, HB.out⟩
      · clear h3
        by_cases h2 : v = 0
        · subst h2
          rw [decide_eq_true rfl] at HE
          have hz : decide ((d.size : Int) ≤ 900) = decide (d.size ≤ 900) := by rw [decide_eq_decide]; omega
          have hdi : (d.size : Int) ≤ 9223372036854775807 := by unfold maxLen at hd; omega
          cases h1 : decide (d.size ≤ 900) <;> rw [h1] at hz HE <;> clear h1
          · go_enter Tryd.func24, Tryd.ntmps24
            go_wp2_with fail
            refine (a4 _).mono ?_
            rintro e w' ⟨rfl, rfl⟩
            go_wp2_with fail
            refine (a3 _).mono ?_
            rintro e w' ⟨rfl, rfl⟩
            go_wp2_with fail
            go_ret
            exact ⟨by rw [HE.out]; rfl, HB.out⟩
          · go_enter Tryd.func24, Tryd.ntmps24
            go_wp2_with fail
            refine (a4 _).mono ?_
            rintro e w' ⟨rfl, rfl⟩
            go_wp2_with fail
            refine (a3 _).mono ?_
            rintro e w' ⟨rfl, rfl⟩
            go_wp2_with fail
            go_ret
            exact ⟨by rw [HE.out]; rfl, HB.out⟩
        · have z2 : (v == 0) = false := by simpa using h2
          rw [decide_eq_false h2] at HE
          clear h2
          go_enter Tryd.func24, Tryd.ntmps24
          go_wp2_with fail
          refine (a4 _).mono ?_
          rintro e w' ⟨rfl, rfl⟩
          go_wp2_with fail
          refine (a3 _).mono ?_
          rintro e w' ⟨rfl, rfl⟩
          go_wp2_with fail
          go_ret
          exact ⟨by rw [HE.out]; rfl, HB.out⟩
  rw [if_neg k2] at HE
  have y2 : (k == 2) = false := by simpa using k2
  clear k2
  by_cases k3 : k = 3
  · subst k3
    rw [if_pos rfl] at HE
    by_cases h4 : t = 0
    · subst h4
      rw [decide_eq_true rfl] at HE
      have a3 := inB i 1 100000
      cases h3 : inIt i 1 100000 <;> rw [h3] at a3 HE
      · clear h3
        go_enter Tryd.func24, Tryd.ntmps24
        go_wp2_with fail
        refine (a3 _).mono ?_
        rintro e w' ⟨rfl, rfl⟩
        go_wp2_with fail
        go_ret
        exact ⟨by rw [HE.out]; rfl, HB.out⟩
      · clear h3
        by_cases h2 : v = 0
        · subst h2
          rw [decide_eq_true rfl] at HE
          have hb := empty_beq d
          cases h1 : decide (d = ByteArray.empty) <;> rw [h1] at hb HE <;> clear h1
          · go_enter Tryd.func24, Tryd.ntmps24
            go_wp2_with fail
            refine (a3 _).mono ?_
            rintro e w' ⟨rfl, rfl⟩
            go_wp2_with fail
            go_ret
            exact ⟨by rw [HE.out]; rfl, HB.out⟩
          · go_enter Tryd.func24, Tryd.ntmps24
            go_wp2_with fail
            refine (a3 _).mono ?_
            rintro e w' ⟨rfl, rfl⟩
            go_wp2_with fail
            go_ret
            exact ⟨by rw [HE.out]; rfl, HB.out⟩
        · have z2 : (v == 0) = false := by simpa using h2
          rw [decide_eq_false h2] at HE
          clear h2
          go_enter Tryd.func24, Tryd.ntmps24
          go_wp2_with fail
          refine (a3 _).mono ?_
          rintro e w' ⟨rfl, rfl⟩
          go_wp2_with fail
          go_ret
          exact ⟨by rw [HE.out]; rfl, HB.out⟩
    · have z4 : (t == 0) = false := by simpa using h4
      rw [decide_eq_false h4] at HE
      clear h4
      go_enter Tryd.func24, Tryd.ntmps24
      go_wp2_with fail
      go_ret
      exact ⟨by rw [HE.out]; rfl, HB.out⟩
  rw [if_neg k3] at HE
  have y3 : (k == 3) = false := by simpa using k3
  clear k3
  by_cases k4 : k = 4
  · subst k4
    rw [if_pos rfl] at HE
    have a3 := basedV i t
    cases h3 : based i t <;> rw [h3] at a3 HE
    · clear h3
      go_enter Tryd.func24, Tryd.ntmps24
      go_wp2_with fail
      refine (a3 _).mono ?_
      rintro e w' ⟨rfl, rfl⟩
      go_wp2_with fail
      go_ret
      exact ⟨by rw [HE.out]; rfl, HB.out⟩
    · clear h3
      by_cases h2 : v = 0
      · subst h2
        rw [decide_eq_true rfl] at HE
        have hb := empty_beq d
        cases h1 : decide (d = ByteArray.empty) <;> rw [h1] at hb HE <;> clear h1
        · go_enter Tryd.func24, Tryd.ntmps24
          go_wp2_with fail
          refine (a3 _).mono ?_
          rintro e w' ⟨rfl, rfl⟩
          go_wp2_with fail
          go_ret
          exact ⟨by rw [HE.out]; rfl, HB.out⟩
        · go_enter Tryd.func24, Tryd.ntmps24
          go_wp2_with fail
          refine (a3 _).mono ?_
          rintro e w' ⟨rfl, rfl⟩
          go_wp2_with fail
          go_ret
          exact ⟨by rw [HE.out]; rfl, HB.out⟩
      · have z2 : (v == 0) = false := by simpa using h2
        rw [decide_eq_false h2] at HE
        clear h2
        go_enter Tryd.func24, Tryd.ntmps24
        go_wp2_with fail
        refine (a3 _).mono ?_
        rintro e w' ⟨rfl, rfl⟩
        go_wp2_with fail
        go_ret
        exact ⟨by rw [HE.out]; rfl, HB.out⟩
  rw [if_neg k4] at HE
  have y4 : (k == 4) = false := by simpa using k4
  clear k4
  go_enter Tryd.func24, Tryd.ntmps24
  go_wp2_with fail
  go_ret
  exact ⟨by rw [HE.out]; rfl, HB.out⟩
end Go.Proofs.YtnpgkmmflibmkaaDoor
