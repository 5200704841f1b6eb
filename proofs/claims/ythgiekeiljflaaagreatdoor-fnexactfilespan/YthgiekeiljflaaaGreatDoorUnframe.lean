/-
  Contracts of impl.Unframe and spec.Unframe: what each returns, at every text of at most 1048576 bytes, where the table of sixteen sums and the three sentinels hold what their texts lay.
-/
import Derived.Test.YthgiekeiljflaaaGreatDoorBodyFit
import Derived.Laws.DeepStrings4
import Derived.OwnWalk
namespace Go.Proofs.YthgiekeiljflaaaGreatDoor
open Go.ChangeShapes Go.WideShapes Go.ChangeAt Go.RowKit Go.PlainAid
set_option linter.unusedVariables false

/-- What bodyAt returns where the frame is wrong. -/
theorem body_bad (s : ByteArray) (i : Nat) (w : World) (hi : i ≤ s.size) (hs : s.size ≤ 1048576) (ht : SumTab w) (a0 a1 a2 : Addr) (he : Errs w a0 a1 a2) (hcode : code (rest s i) ≠ 0) :
    Calls Tryz.prog 76 #[.string s, .int .i64 (i : Int)] w fun e w' => (∃ p a, e = badBody p a ∧ (code (rest s i) = 1 ∧ a = a0 ∨ code (rest s i) = 2 ∧ (a = a1 ∨ a = a2))) ∧ Below w.heap.size w w' := by
  by_cases h4 : (rest s i).size < 4
  · refine (body_short4 s i w hi hs a0 a1 a2 he h4).mono ?_
    rintro e w' ⟨⟨p, rfl⟩, hb⟩
    exact ⟨⟨p, a0, rfl, .inl ⟨by rw [code, if_pos h4], rfl⟩⟩, hb⟩
  by_cases hl : rdv (rest s i) 4 = 0 ∨ 2000 < rdv (rest s i) 4
  · refine (body_len s i w hi hs a0 a1 a2 he (by omega) hl).mono ?_
    rintro e w' ⟨⟨p, rfl⟩, hb⟩
    exact ⟨⟨p, a1, rfl, .inr ⟨by rw [code, if_neg h4, if_pos hl], .inl rfl⟩⟩, hb⟩
  by_cases h8 : (rest s i).size < 8 + rdv (rest s i) 4
  · refine (body_short8 s i w hi hs a0 a1 a2 he (by omega) (by omega) (by omega) h8).mono ?_
    rintro e w' ⟨⟨p, rfl⟩, hb⟩
    exact ⟨⟨p, a0, rfl, .inl ⟨by rw [code, if_neg h4, if_neg hl, if_pos h8], rfl⟩⟩, hb⟩
  have hsum : sumOf ((rest s i).extract 0 4) (bodyOf (rest s i)) ≠ (rest s i).extract 4 8 := fun h => hcode (by rw [code, if_neg h4, if_neg hl, if_neg h8, if_pos h])
  refine (body_sum s i w hi hs ht a0 a1 a2 he (by omega) (by omega) (by omega) (by omega) hsum).mono ?_
  rintro e w' ⟨⟨p, rfl⟩, hb⟩
  exact ⟨⟨p, a2, rfl, .inr ⟨by rw [code, if_neg h4, if_neg hl, if_neg h8, if_neg hsum], .inr rfl⟩⟩, hb⟩

/-- What Unframe answers. -/
def unf (s : ByteArray) : Array Value := if code s = 0 then #[.string (bodyOf s), .int .i64 ((8 + rdv s 4 : Nat) : Int), .int .i64 0] else #[.string ⟨#[]⟩, .int .i64 0, .int .i64 (code s : Int)]

set_option maxHeartbeats 1000000 in
theorem impl_unframe (s : ByteArray) (w : World) (hs : s.size ≤ 1048576) (ht : SumTab w) (a0 a1 a2 : Addr) (he : Errs w a0 a1 a2) :
    Calls Tryz.prog 61 #[.string s] w fun e w' => e = .returned (.tuple (unf s)) ∧ Below w.heap.size w w' := by
  have HE : Hid (Errs w a0 a1 a2) := he
  by_cases hcode : code s = 0
  · have c1 := body_ok s 0 w (by omega) hs ht (by rw [rest_zero]; exact hcode)
    rw [rest_zero, show ((0 : Nat) : Int) = 0 from rfl] at c1
    obtain ⟨h4, h1, h2, h8, hsum⟩ := (code_zero _).1 hcode
    have hz := bodyOf_size s h8
    have EU : Hid (unf s = #[.string (bodyOf s), .int .i64 ((8 + rdv s 4 : Nat) : Int), .int .i64 0]) := by unfold Hid; rw [unf, if_pos hcode]
    have q1 : ((bodyOf s).size : Int) = (rdv s 4 : Int) := by rw [hz]
    have q2 : (rdv s 4 : Int) ≤ 2000 := by omega
    clear hcode hsum ht he h4 h1 h2 h8 hs hz
    generalize rdv s 4 = n at *
    generalize bodyOf s = b at *
    go_enter Tryz.func61, Tryz.ntmps61
    go_wp2_with fail
    refine c1.mono ?_
    rintro e w1 ⟨rfl, hb1⟩
    go_wp2_with fail
    go_ret3
    exact ⟨by rw [EU.out]; go_num, hb1⟩
  · have c1 := body_bad s 0 w (by omega) hs ht a0 a1 a2 he (by rw [rest_zero]; exact hcode)
    rw [rest_zero, show ((0 : Nat) : Int) = 0 from rfl] at c1
    have EU : Hid (unf s = #[.string ⟨#[]⟩, .int .i64 0, .int .i64 (code s : Int)]) := by unfold Hid; rw [unf, if_neg hcode]
    clear ht he hs hcode
    simp only [badBody, wrapped] at c1
    generalize code s = k at *
    go_enter Tryz.func61, Tryz.ntmps61
    go_wp2_with fail
    refine c1.mono ?_
    rintro e w1 ⟨⟨p, a, rfl, ha⟩, hb1⟩
    have he1 := HE.out.on hb1
    rcases ha with ⟨rfl, rfl⟩ | ⟨rfl, ha⟩
    · have c2 := code_short p a a1 a2 w1 he1
      simp only [wrapped] at c2
      clear he1
      go_wp2_with fail
      refine c2.mono ?_
      rintro e w2 ⟨rfl, hb2⟩
      go_wp2_with fail
      go_ret3
      exact ⟨by rw [EU.out]; rfl, hb1.trans (hb2.mono hb1.size)⟩
    · have c2 := code_bad p a a0 a1 a2 w1 he1 ha
      simp only [wrapped] at c2
      clear he1 ha
      go_wp2_with fail
      refine c2.mono ?_
      rintro e w2 ⟨rfl, hb2⟩
      go_wp2_with fail
      go_ret3
      exact ⟨by rw [EU.out]; rfl, hb1.trans (hb2.mono hb1.size)⟩

set_option maxRecDepth 20000 in
set_option maxHeartbeats 1000000 in
theorem spec_unframe (s : ByteArray) (w : World) (hs : s.size ≤ 1048576) :
    Calls Tryz.prog 52 #[.string s] w fun e w' => e = .returned (.tuple (unf s)) ∧ Below w.heap.size w w' := by
  by_cases h4 : s.size < 4
  · have c1 := spec_readFixed_no s 4 w (by unfold maxLen; omega) (by omega)
    have EU : Hid (unf s = #[.string ⟨#[]⟩, .int .i64 0, .int .i64 1]) := by
      have : code s = 1 := by rw [code, if_pos h4]
      unfold Hid; rw [unf, this]; rfl
    clear hs h4
    go_enter Tryz.func52, Tryz.ntmps52
    go_wp2_with fail
    refine c1.mono ?_
    rintro e w1 ⟨rfl, rfl⟩
    go_wp2_with fail
    go_ret3
    exact ⟨by rw [EU.out]; rfl, Below.refl _ _⟩
  have c1 := spec_readFixed s 4 w (by unfold maxLen; omega) (by omega) (by omega) (by omega)
  by_cases hl : rdv s 4 = 0 ∨ 2000 < rdv s 4
  · have EU : Hid (unf s = #[.string ⟨#[]⟩, .int .i64 0, .int .i64 2]) := by
      have : code s = 2 := by rw [code, if_neg h4, if_pos hl]
      unfold Hid; rw [unf, this]; rfl
    clear hs h4
    generalize rdv s 4 = n at *
    rcases hl with rfl | hl
    · go_enter Tryz.func52, Tryz.ntmps52
      go_wp2_with fail
      refine c1.mono ?_
      rintro e w1 ⟨rfl, rfl⟩
      go_wp2_with fail
      go_ret3
      exact ⟨by rw [EU.out]; rfl, Below.refl _ _⟩
    · have q3 : (2000 : Int) < (n : Int) := by omega
      have q4 : ((n : Int) == 0) = false := by simp only [beq_eq_false_iff_ne, ne_eq]; omega
      have q5 : decide ((2000 : Int) < (n : Int)) = true := decide_eq_true q3
      have q6 : ¬ (n : Int) = 0 := by omega
      go_enter Tryz.func52, Tryz.ntmps52
      go_wp2_with fail
      refine c1.mono ?_
      rintro e w1 ⟨rfl, rfl⟩
      go_wp2_with fail
      go_ret3
      exact ⟨by rw [EU.out]; rfl, Below.refl _ _⟩
  by_cases h8 : s.size < 8 + rdv s 4
  · have EU : Hid (unf s = #[.string ⟨#[]⟩, .int .i64 0, .int .i64 1]) := by
      have : code s = 1 := by rw [code, if_neg h4, if_neg hl, if_pos h8]
      unfold Hid; rw [unf, this]; rfl
    have q2 : (s.size : Int) ≤ 1048576 := by omega
    clear hs h4
    generalize rdv s 4 = n at *
    have q3 : (n : Int) ≤ 2000 := by omega
    have q4 : ((n : Int) == 0) = false := by simp only [beq_eq_false_iff_ne, ne_eq]; omega
    have q5 : decide ((2000 : Int) < (n : Int)) = false := decide_eq_false (by omega)
    have q6 : ¬ (n : Int) = 0 := by omega
    have q7 : (s.size : Int) < 8 + (n : Int) := by omega
    clear hl
    go_enter Tryz.func52, Tryz.ntmps52
    go_wp2_with fail
    refine c1.mono ?_
    rintro e w1 ⟨rfl, rfl⟩
    go_wp2_with fail
    go_ret3
    exact ⟨by rw [EU.out]; rfl, Below.refl _ _⟩
  have hz := bodyOf_size s (by omega)
  have c2 := fun wx => spec_frame (bodyOf s) wx (by omega)
  have hfit := frame_fits s (by omega) (by omega) (by omega) (by omega)
  have hb0 : s.extract 8 (8 + rdv s 4) = bodyOf s := rfl
  have q2 : (s.size : Int) ≤ 1048576 := by omega
  by_cases hsum : sumOf (s.extract 0 4) (bodyOf s) = s.extract 4 8
  · have EU : Hid (unf s = #[.string (bodyOf s), .int .i64 ((8 + rdv s 4 : Nat) : Int), .int .i64 0]) := by
      have : code s = 0 := by rw [code, if_neg h4, if_neg hl, if_neg h8, if_pos hsum]
      unfold Hid; rw [unf, if_pos this]
    have HF : Hid (frame (bodyOf s) = s.extract 0 (8 + rdv s 4)) := hfit.2 hsum
    clear hfit hsum hs h4 hz
    generalize bodyOf s = b at *
    generalize rdv s 4 = n at *
    have q3 : (n : Int) ≤ 2000 := by omega
    have q4 : ((n : Int) == 0) = false := by simp only [beq_eq_false_iff_ne, ne_eq]; omega
    have q5 : decide ((2000 : Int) < (n : Int)) = false := decide_eq_false (by omega)
    have q6 : ¬ (n : Int) = 0 := by omega
    have q7 : 8 + (n : Int) ≤ (s.size : Int) := by omega
    have hm : (8 + (n : Int)).toNat = 8 + n := by omega
    have q8 : (0 : Int) ≤ 8 + (n : Int) := by omega
    have w1 : IntKind.i64.wrap (8 + (n : Int)) = 8 + (n : Int) := by rw [IntKind.wrap_i64]; omega
    have w2 : wrap64 (8 + (n : Int)) = 8 + (n : Int) := by unfold wrap64; omega
    clear hl h8
    go_enter Tryz.func52, Tryz.ntmps52
    go_wp2_with fail
    refine c1.mono ?_
    rintro e w1 ⟨rfl, rfl⟩
    go_wp2_with fail
    go_region_with (go_at_call 57; refine (c2 _).mono ?_; rintro e w1 ⟨rfl, hb1⟩; rw [HF.out])
    all_goals go_wp2_with fail
    all_goals (go_ret3; exact ⟨by rw [EU.out]; go_num, (below_drew w).trans hb1⟩)
  · have EU : Hid (unf s = #[.string ⟨#[]⟩, .int .i64 0, .int .i64 2]) := by
      have : code s = 2 := by rw [code, if_neg h4, if_neg hl, if_neg h8, if_neg hsum]
      unfold Hid; rw [unf, this]; rfl
    have e1 : ((frame (bodyOf s)).toList == (s.extract 0 (8 + rdv s 4)).toList) = false := by
      rw [beq_eq_false_iff_ne, Lib.toList_data, Lib.toList_data]
      intro h
      exact hsum (hfit.1 (ByteArray.ext (Array.toList_inj.1 h)))
    clear hfit hsum hs h4 hz
    generalize bodyOf s = b at *
    generalize rdv s 4 = n at *
    have q3 : (n : Int) ≤ 2000 := by omega
    have q4 : ((n : Int) == 0) = false := by simp only [beq_eq_false_iff_ne, ne_eq]; omega
    have q5 : decide ((2000 : Int) < (n : Int)) = false := decide_eq_false (by omega)
    have q6 : ¬ (n : Int) = 0 := by omega
    have q7 : 8 + (n : Int) ≤ (s.size : Int) := by omega
    have hm : (8 + (n : Int)).toNat = 8 + n := by omega
    have q8 : (0 : Int) ≤ 8 + (n : Int) := by omega
    have w1 : IntKind.i64.wrap (8 + (n : Int)) = 8 + (n : Int) := by rw [IntKind.wrap_i64]; omega
    have w2 : wrap64 (8 + (n : Int)) = 8 + (n : Int) := by unfold wrap64; omega
    clear hl h8
    go_enter Tryz.func52, Tryz.ntmps52
    go_wp2_with fail
    refine c1.mono ?_
    rintro e w1 ⟨rfl, rfl⟩
    go_wp2_with fail
    go_region_with (go_at_call 57; refine (c2 _).mono ?_; rintro e w1 ⟨rfl, hb1⟩)
    all_goals go_wp2_with fail
    all_goals (go_ret3; exact ⟨by rw [EU.out]; rfl, (below_drew w).trans hb1⟩)
end Go.Proofs.YthgiekeiljflaaaGreatDoor
