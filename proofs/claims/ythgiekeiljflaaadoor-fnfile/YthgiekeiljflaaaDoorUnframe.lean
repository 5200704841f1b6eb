/-
  Contracts of impl.Unframe and spec.Unframe: what each returns, at every text of at most 1048576 bytes, where the table of sixteen sums and the three sentinels hold what their texts lay.
-/
import Derived.Test.YthgiekeiljflaaaDoorBodyFit
import Derived.Laws.DeepStrings4
import Derived.OwnWalk
namespace Go.Proofs.YthgiekeiljflaaaDoor
open Go.ChangeShapes Go.WideShapes Go.ChangeAt Go.RowKit Go.PlainAid
set_option linter.unusedVariables false

/-- What bodyAt returns where the frame is wrong. -/
theorem body_bad (s : ByteArray) (i : Nat) (w : World) (hi : i ≤ s.size) (hs : s.size ≤ 1048576) (ht : SumTab w) (a0 a1 a2 : Addr) (he : Errs w a0 a1 a2) (hcode : code (rest s i) ≠ 0) :
    Calls Tryd.prog 93 #[.string s, .int .i64 (i : Int)] w fun e w' => (∃ p a, e = badBody p a ∧ (code (rest s i) = 1 ∧ a = a0 ∨ code (rest s i) = 2 ∧ (a = a1 ∨ a = a2))) ∧ Below w.heap.size w w' := by
  by_cases h4 : (rest s i).size < 4
  · refine (body_short4 s i w hi hs a0 a1 a2 he h4).mono ?_
    rintro e w' ⟨⟨p, rfl⟩, hb⟩
    exact ⟨⟨p, a0, rfl, .inl ⟨by rw [code, if_pos h4], rfl⟩⟩, hb⟩
  by_cases hl : rdv (rest s i) 4 = 0 ∨ 2000 < rdv (rest s i) 4
  · refine (body_len s i w hi hs a0 a1 a2 he (by omega) hl).mono ?_
    rintro e w' ⟨⟨p, rfl⟩, hb⟩
    exact ⟨⟨p, a1, rfl, .inr ⟨by rw [code, if_neg h4, if_pos hl], .inl rfl⟩⟩, hb⟩
  by_cases h8 : (rest s i).size < 8 + rdv (rest s i) 4
  · refine (body_short8 s i w hi hs a0 a1 a2 he (by omega) (by omega) (by omega) h8).mono ?_
    rintro e w' ⟨⟨p, rfl⟩, hb⟩
    exact ⟨⟨p, a0, rfl, .inl ⟨by rw [code, if_neg h4, if_neg hl, if_pos h8], rfl⟩⟩, hb⟩
  have hsum : sumOf ((rest s i).extract 0 4) (bodyOf (rest s i)) ≠ (rest s i).extract 4 8 := fun h => hcode (by rw [code, if_neg h4, if_neg hl, if_neg h8, if_pos h])
  refine (body_sum s i w hi hs ht a0 a1 a2 he (by omega) (by omega) (by omega) (by omega) hsum).mono ?_
  rintro e w' ⟨⟨p, rfl⟩, hb⟩
  exact ⟨⟨p, a2, rfl, .inr ⟨by rw [code, if_neg h4, if_neg hl, if_neg h8, if_neg hsum], .inr rfl⟩⟩, hb⟩

/-- What Unframe answers. -/
def unf (s : ByteArray) : Array Value := if code s = 0 then #[.string (bodyOf s), .int .i64 ((8 + rdv s 4 : Nat) : Int), .int .i64 0] else #[.string ⟨#[]⟩, .int .i64 0, .int .i64 (code s : Int)]

set_option maxHeartbeats 1000000 in
theorem impl_unframe (s : ByteArray) (w : World) (hs : s.size ≤ 1048576) (ht : SumTab w) (a0 a1 a2 : Addr) (he : Errs w a0 a1 a2) :
    Calls Tryd.prog 73 #[.string s] w fun e w' => e = .returned (.tuple (unf s)) ∧ Below w.heap.size w w' := by
  have HE : Hid (Errs w a0 a1 a2) := he
  by_cases hcode : code s = 0
  · have c1 := body_ok s 0 w (by omega) hs ht (by rw [rest_zero]; exact hcode)
    rw [rest_zero, show ((0 : Nat) : Int) = 0 from rfl] at c1
    obtain ⟨h4, h1, h2, h8, hsum⟩ := (code_zero _).1 hcode
    have hz := bodyOf_size s h8
    have EU : Hid (unf s = #[.string (bodyOf s), .int .i64 ((8 + rdv s 4 : Nat) : Int), .int .i64 0]) := by unfold Hid; rw [unf, if_pos hcode]
    have q1 : ((bodyOf s).size : Int) = (rdv s 4 : Int) := by rw [hz]
    have q2 : (rdv s 4 : Int) ≤ 2000 := by omega
    clear hcode hsum ht he h4 h1 h2 h8 hs hz
    generalize rdv s 4 = n at *
    generalize bodyOf s = b at *
    go_enter Tryd.func73, Tryd.ntmps73
    go_wp2_with fail
    refine c1.mono ?_
    rintro e w1 ⟨rfl, hb1⟩
    go_wp2_with fail
    go_ret3
    exact ⟨by rw [EU.out]; go_num, hb1⟩
  · have c1 := body_bad s 0 w (by omega) hs ht a0 a1 a2 he (by rw [rest_zero]; exact hcode)
    rw [rest_zero, show ((0 : Nat) : Int) = 0 from rfl] at c1
    have EU : Hid (unf s = #[.string ⟨#[]⟩, .int .i64 0, .int .i64 (code s : Int)]) := by unfold Hid; rw [unf, if_neg hcode]
    clear ht he hs hcode
    simp only [badBody, wrapped] at c1
    generalize code s = k at *
    go_enter Tryd.func73, Tryd.ntmps73
    go_wp2_with fail
    refine c1.mono ?_
    rintro e w1 ⟨⟨p, a, rfl, ha⟩, hb1⟩
    have he1 := HE.out.on hb1
    rcases ha with ⟨rfl, rfl⟩ | ⟨rfl, ha⟩
    · have c2 := code_short p a a1 a2 w1 he1
      simp only [wrapped] at c2
      clear he1
      go_wp2_with fail
      refine c2.mono ?_
      rintro e w2 ⟨rfl, hb2⟩
      go_wp2_with fail
      go_ret3
      exact ⟨by rw [EU.out]; rfl, hb1.trans (hb2.mono hb1.size)⟩
    · have c2 := code_bad p a a0 a1 a2 w1 he1 ha
      simp only [wrapped] at c2
      clear he1 ha
      go_wp2_with fail
      refine c2.mono ?_
      rintro e w2 ⟨rfl, hb2⟩
      go_wp2_with fail
      go_ret3
      exact ⟨by rw [EU.out]; rfl, hb1.trans (hb2.mono hb1.size)⟩

end Go.Proofs.YthgiekeiljflaaaDoor
