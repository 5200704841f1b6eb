/-
  Contracts of impl.bodyAt where the length is right and all bytes are there: the body where the sum is right, else the third sentinel, wrapped.
-/
import Derived.Test.YthgiekeiljflaaaDoorBodyAt
import Derived.Laws.DeepStrings4
namespace Go.Proofs.YthgiekeiljflaaaDoor
open Go.ChangeShapes Go.WideShapes Go.ChangeAt Go.RowKit Go.PlainAid
set_option linter.unusedVariables false

set_option maxRecDepth 20000 in
set_option maxHeartbeats 1000000 in
theorem body_ok (s : ByteArray) (i : Nat) (w : World) (hi : i ≤ s.size) (hs : s.size ≤ 1048576) (ht : SumTab w) (hcode : code (rest s i) = 0) :
    Calls Tryd.prog 93 #[.string s, .int .i64 (i : Int)] w fun e w' => e = .returned (.tuple #[.string (bodyOf (rest s i)), .nilIface]) ∧ Below w.heap.size w w' := by
  obtain ⟨h4, h1, h2, h8, hsum⟩ := (code_zero _).1 hcode
  have hz := rest_size s i
  have c1 := impl_readFixed (rest s i) 4 w (by unfold maxLen; omega) (by omega) (by omega) h4
  have hr : s.extract i s.size = rest s i := rfl
  have q1 : (i : Int) ≤ (s.size : Int) := by omega
  have q2 : (s.size : Int) ≤ 1048576 := by omega
  have q8 : (rest s i).size ≤ 1048576 := by omega
  unfold bodyOf at hsum ⊢
  clear hcode hs hz
  generalize rdv (rest s i) 4 = n at *
  generalize rest s i = r at *
  have q3 : (n : Int) ≤ 2000 := by omega
  have q4 : ((n : Int) == 0) = false := by simp only [beq_eq_false_iff_ne, ne_eq]; omega
  have q5 : decide ((2000 : Int) < (n : Int)) = false := decide_eq_false (by omega)
  have q6 : ¬ (n : Int) = 0 := by omega
  have q7 : 8 + (n : Int) ≤ (r.size : Int) := by omega
  have q9 : (8 : Int) ≤ (r.size : Int) := by omega
  have HT : Hid (SumTab w) := ht
  have hm : (8 + (n : Int)).toNat = 8 + n := by omega
  have HB : Hid ((r.extract 0 4).size + (r.extract 8 (8 + n)).size ≤ 2097152) := by unfold Hid; rw [ByteArray.size_extract, ByteArray.size_extract]; omega
  have HC : Hid ((r.extract 8 (8 + n)).size ≤ 281474976710656) := by unfold Hid; rw [ByteArray.size_extract]; omega
  have HS : Hid (sumOf (r.extract 0 4) (r.extract 8 (8 + n)) = r.extract 4 8) := hsum
  clear ht hsum q8 h1 h2 h4
  go_enter Tryd.func93, Tryd.ntmps93
  go_wp2_with fail
  refine c1.mono ?_
  rintro e w1 ⟨rfl, rfl⟩
  go_wp2_with fail
  go_region_with (go_at_call 83; refine (impl_frameSum (r.extract 0 4) (r.extract 8 (8 + n)) _ HB.out ?_).mono ?_; exact HT.out; rintro e w1 ⟨rfl, hb1⟩; rw [HS.out])
  all_goals go_wp2_with fail
  all_goals (refine (clone _ _ HC.out).mono ?_; rintro e w2 ⟨rfl, hb2⟩; go_wp2_with fail; go_ret2; exact ⟨rfl, ((below_drew w).trans hb1).trans (hb2.mono hb1.size)⟩)

set_option maxRecDepth 20000 in
set_option maxHeartbeats 1000000 in
theorem body_sum (s : ByteArray) (i : Nat) (w : World) (hi : i ≤ s.size) (hs : s.size ≤ 1048576) (ht : SumTab w) (a0 a1 a2 : Addr) (he : Errs w a0 a1 a2) (h4 : 4 ≤ (rest s i).size) (h1 : 1 ≤ rdv (rest s i) 4) (h2 : rdv (rest s i) 4 ≤ 2000) (h8 : 8 + rdv (rest s i) 4 ≤ (rest s i).size) (hsum : sumOf ((rest s i).extract 0 4) (bodyOf (rest s i)) ≠ (rest s i).extract 4 8) :
    Calls Tryd.prog 93 #[.string s, .int .i64 (i : Int)] w fun e w' => (∃ p, e = badBody p a2) ∧ Below w.heap.size w w' := by
  have hz := rest_size s i
  have c1 := impl_readFixed (rest s i) 4 w (by unfold maxLen; omega) (by omega) (by omega) h4
  have hr : s.extract i s.size = rest s i := rfl
  have q1 : (i : Int) ≤ (s.size : Int) := by omega
  have q2 : (s.size : Int) ≤ 1048576 := by omega
  have q8 : (rest s i).size ≤ 1048576 := by omega
  unfold bodyOf at hsum
  have HE : Hid (Errs w a0 a1 a2) := he
  clear he hs hz
  generalize rdv (rest s i) 4 = n at *
  generalize rest s i = r at *
  have q3 : (n : Int) ≤ 2000 := by omega
  have q4 : ((n : Int) == 0) = false := by simp only [beq_eq_false_iff_ne, ne_eq]; omega
  have q5 : decide ((2000 : Int) < (n : Int)) = false := decide_eq_false (by omega)
  have q6 : ¬ (n : Int) = 0 := by omega
  have q7 : 8 + (n : Int) ≤ (r.size : Int) := by omega
  have q9 : (8 : Int) ≤ (r.size : Int) := by omega
  have HT : Hid (SumTab w) := ht
  have hm : (8 + (n : Int)).toNat = 8 + n := by omega
  have HB : Hid ((r.extract 0 4).size + (r.extract 8 (8 + n)).size ≤ 2097152) := by unfold Hid; rw [ByteArray.size_extract, ByteArray.size_extract]; omega
  have HC : Hid ((r.extract 8 (8 + n)).size ≤ 281474976710656) := by unfold Hid; rw [ByteArray.size_extract]; omega
  have e1 : ((sumOf (r.extract 0 4) (r.extract 8 (8 + n))).toList == (r.extract 4 8).toList) = false := by
    rw [beq_eq_false_iff_ne, Lib.toList_data, Lib.toList_data]
    intro h
    exact hsum (ByteArray.ext (Array.toList_inj.1 h))
  have q10 : wrap64 ((i : Int) + 4) = (i : Int) + 4 := by unfold wrap64; omega
  clear ht hsum q8 h1 h2 h4
  go_enter Tryd.func93, Tryd.ntmps93
  go_wp2_with fail
  refine c1.mono ?_
  rintro e w1 ⟨rfl, rfl⟩
  go_wp2_with fail
  go_region_with (go_at_call 83; refine (impl_frameSum (r.extract 0 4) (r.extract 8 (8 + n)) _ HB.out ?_).mono ?_; exact HT.out; rintro e w1 ⟨rfl, hb1⟩)
  all_goals go_wp2_with fail
  have hb : Below w.heap.size w w1 := (below_drew w).trans hb1
  have hc := (HE.out.on hb).c2
  go_quiet (fail)
  go_wp2_with fail
  go_ret2
  exact ⟨⟨_, rfl⟩, hb.trans ((below_drewN w1 nq).mono hb.size)⟩

end Go.Proofs.YthgiekeiljflaaaDoor
