/- BodyAt BodyFit Unframe BkRead FlIdx FlBlk FlSpot -/
import Derived.Test.YthhamlahdjokkaaGreatDoorRows
import Derived.Test.YthhamlahdjokkaaGreatDoorQh0
import Derived.Test.YthhamlahdjokkaaGreatDoorQh4
import Derived.WalkKit
import Derived.ProofKit
import Derived.OpenShut
import Derived.Below
import Derived.WalkSmall
import Derived.WalkLawsBesides
import Derived.Outline
import Derived.BigQuiet
import Derived.Deep.QuietTactic
import Derived.Deep.RegionWith
import Derived.Laws.DeepStrings4
import Derived.OwnWalk
import Derived.Test.YthhamlahdjokkaaGreatDoorQh6
import Derived.Test.YthhamlahdjokkaaGreatDoorQh1
import Derived.Test.YthhamlahdjokkaaGreatDoorQh5
import Derived.Handy
import Derived.Test.YthhamlahdjokkaaGreatDoorQh3
open List (setIfInBounds_toArray set_cons_zero set_cons_succ)
namespace Go.Proofs.YthhamlahdjokkaaGreatDoor
open Go.ChangeShapes Go.WideShapes Go.ChangeAt Go.RowKit Go.PlainAid
set_option linter.unusedVariables false
theorem below_drewN (w : World) (n : Nat) : Below w.heap.size w (w.drewN n) := ⟨rfl, rfl, rfl, Nat.le_refl _, fun _ _ => rfl⟩
theorem below_drew (w : World) : Below w.heap.size w w.drew := ⟨rfl, rfl, rfl, Nat.le_refl _, fun _ _ => rfl⟩
def badBody (p : Int) (a : Addr) : Ending := .returned (.tuple #[.string ⟨#[]⟩, wrapped p a])
set_option maxHeartbeats 400000 in
theorem body_short4 (s : ByteArray) (i : Nat) (w : World) (hi : i ≤ s.size) (hs : s.size ≤ 1048576) (a0 a1 a2 : Addr) (he : Errs w a0 a1 a2) (h4 : (rest s i).size < 4) :
  Calls Tryz.prog 230 #[.string s, .int .i64 (i : Int)] w fun e w' => (∃ p, e = badBody p a0) ∧ Below w.heap.size w w' := by
 have c1 := impl_readFixed_no (rest s i) 4 w (by unfold maxLen; omega) (by omega)
 have hc := he.c0
 have hr : s.extract i s.size = rest s i := rfl
 have q1 : (i : Int) ≤ (s.size : Int) := by omega
 have q2 : (s.size : Int) ≤ 1048576 := by omega
 clear he h4 hs
 generalize rest s i = r at *
 go_enter Tryz.func230, Tryz.ntmps230
 go_wp2_with fail
 refine c1.mono ?_
 rintro e w1 ⟨rfl, rfl⟩
 go_wp2_with fail
 go_quiet (fail)
 go_wp2_with fail
 go_ret2
 exact ⟨⟨_, rfl⟩, below_drewN w nq⟩
set_option maxHeartbeats 400000 in
theorem body_len (s : ByteArray) (i : Nat) (w : World) (hi : i ≤ s.size) (hs : s.size ≤ 1048576) (a0 a1 a2 : Addr) (he : Errs w a0 a1 a2) (h4 : 4 ≤ (rest s i).size) (hl : rdv (rest s i) 4 = 0 ∨ 2000 < rdv (rest s i) 4) :
  Calls Tryz.prog 230 #[.string s, .int .i64 (i : Int)] w fun e w' => (∃ p, e = badBody p a1) ∧ Below w.heap.size w w' := by
 have hz := rest_size s i
 have c1 := impl_readFixed (rest s i) 4 w (by unfold maxLen; omega) (by omega) (by omega) h4
 have hc := he.c1
 have hr : s.extract i s.size = rest s i := rfl
 have q1 : (i : Int) ≤ (s.size : Int) := by omega
 have q2 : (s.size : Int) ≤ 1048576 := by omega
 clear he h4 hs hz
 generalize rdv (rest s i) 4 = n at *
 generalize rest s i = r at *
 rcases hl with rfl | hl
 ·go_enter Tryz.func230, Tryz.ntmps230
  go_wp2_with fail
  refine c1.mono ?_
  rintro e w1 ⟨rfl, rfl⟩
  go_wp2_with fail
  go_quiet (fail)
  go_wp2_with fail
  go_ret2
  exact ⟨⟨_, rfl⟩, below_drewN w nq⟩
 ·have q3 : (2000 : Int) < (n : Int) := by omega
  have q4 : ((n : Int) == 0) = false := by simp only [beq_eq_false_iff_ne, ne_eq]; omega
  have q5 : decide ((2000 : Int) < (n : Int)) = true := decide_eq_true q3
  have q6 : ¬ (n : Int) = 0 := by omega
  go_enter Tryz.func230, Tryz.ntmps230
  go_wp2_with fail
  refine c1.mono ?_
  rintro e w1 ⟨rfl, rfl⟩
  go_wp2_with fail
  go_quiet (fail)
  go_wp2_with fail
  go_ret2
  exact ⟨⟨_, rfl⟩, below_drewN w nq⟩
set_option maxHeartbeats 400000 in
theorem body_short8 (s : ByteArray) (i : Nat) (w : World) (hi : i ≤ s.size) (hs : s.size ≤ 1048576) (a0 a1 a2 : Addr) (he : Errs w a0 a1 a2) (h4 : 4 ≤ (rest s i).size) (h1 : 1 ≤ rdv (rest s i) 4) (h2 : rdv (rest s i) 4 ≤ 2000) (h8 : (rest s i).size < 8 + rdv (rest s i) 4) :
  Calls Tryz.prog 230 #[.string s, .int .i64 (i : Int)] w fun e w' => (∃ p, e = badBody p a0) ∧ Below w.heap.size w w' := by
 have hz := rest_size s i
 have c1 := impl_readFixed (rest s i) 4 w (by unfold maxLen; omega) (by omega) (by omega) h4
 have hc := he.c0
 have hr : s.extract i s.size = rest s i := rfl
 have q1 : (i : Int) ≤ (s.size : Int) := by omega
 have q2 : (s.size : Int) ≤ 1048576 := by omega
 clear he h4 hs hz
 generalize rdv (rest s i) 4 = n at *
 generalize rest s i = r at *
 have q3 : (n : Int) ≤ 2000 := by omega
 have q4 : ((n : Int) == 0) = false := by simp only [beq_eq_false_iff_ne, ne_eq]; omega
 have q5 : decide ((2000 : Int) < (n : Int)) = false := decide_eq_false (by omega)
 have q6 : ¬ (n : Int) = 0 := by omega
 have q7 : (r.size : Int) < 8 + (n : Int) := by omega
 go_enter Tryz.func230, Tryz.ntmps230
 go_wp2_with fail
 refine c1.mono ?_
 rintro e w1 ⟨rfl, rfl⟩
 go_wp2_with fail
 go_quiet (fail)
 go_wp2_with fail
 go_ret2
 exact ⟨⟨_, rfl⟩, below_drewN w nq⟩
end Go.Proofs.YthhamlahdjokkaaGreatDoor
namespace Go.Proofs.YthhamlahdjokkaaGreatDoor
open Go.ChangeShapes Go.WideShapes Go.ChangeAt Go.RowKit Go.PlainAid
set_option linter.unusedVariables false
set_option maxRecDepth 20000 in
set_option maxHeartbeats 1000000 in
theorem body_ok (s : ByteArray) (i : Nat) (w : World) (hi : i ≤ s.size) (hs : s.size ≤ 1048576) (ht : SumTab w) (hcode : code (rest s i) = 0) :
  Calls Tryz.prog 230 #[.string s, .int .i64 (i : Int)] w fun e w' => e = .returned (.tuple #[.string (bodyOf (rest s i)), .nilIface]) ∧ Below w.heap.size w w' := by
 obtain ⟨h4, h1, h2, h8, hsum⟩ := (code_zero _).1 hcode
 have hz := rest_size s i
 have c1 := impl_readFixed (rest s i) 4 w (by unfold maxLen; omega) (by omega) (by omega) h4
 have hr : s.extract i s.size = rest s i := rfl
 have q1 : (i : Int) ≤ (s.size : Int) := by omega
 have q2 : (s.size : Int) ≤ 1048576 := by omega
 have q8 : (rest s i).size ≤ 1048576 := by omega
 unfold bodyOf at hsum ⊢
 clear hcode hs hz
 generalize rdv (rest s i) 4 = n at *
 generalize rest s i = r at *
 have q3 : (n : Int) ≤ 2000 := by omega
 have q4 : ((n : Int) == 0) = false := by simp only [beq_eq_false_iff_ne, ne_eq]; omega
 have q5 : decide ((2000 : Int) < (n : Int)) = false := decide_eq_false (by omega)
 have q6 : ¬ (n : Int) = 0 := by omega
 have q7 : 8 + (n : Int) ≤ (r.size : Int) := by omega
 have q9 : (8 : Int) ≤ (r.size : Int) := by omega
 have HT : Hid (SumTab w) := ht
 have hm : (8 + (n : Int)).toNat = 8 + n := by omega
 have HB : Hid ((r.extract 0 4).size + (r.extract 8 (8 + n)).size ≤ 2097152) := by unfold Hid; rw [ByteArray.size_extract, ByteArray.size_extract]; omega
 have HC : Hid ((r.extract 8 (8 + n)).size ≤ 281474976710656) := by unfold Hid; rw [ByteArray.size_extract]; omega
 have HS : Hid (sumOf (r.extract 0 4) (r.extract 8 (8 + n)) = r.extract 4 8) := hsum
 clear ht hsum q8 h1 h2 h4
 go_enter Tryz.func230, Tryz.ntmps230
 go_wp2_with fail
 refine c1.mono ?_
 rintro e w1 ⟨rfl, rfl⟩
 go_wp2_with fail
 go_region_with (go_at_call 182; refine (impl_frameSum (r.extract 0 4) (r.extract 8 (8 + n)) _ HB.out ?_).mono ?_; exact HT.out; rintro e w1 ⟨rfl, hb1⟩; rw [HS.out])
 all_goals go_wp2_with fail
 all_goals (refine (clone _ _ HC.out).mono ?_; rintro e w2 ⟨rfl, hb2⟩; go_wp2_with fail; go_ret2; exact ⟨rfl, ((below_drew w).trans hb1).trans (hb2.mono hb1.size)⟩)
set_option maxRecDepth 20000 in
set_option maxHeartbeats 1000000 in
theorem body_sum (s : ByteArray) (i : Nat) (w : World) (hi : i ≤ s.size) (hs : s.size ≤ 1048576) (ht : SumTab w) (a0 a1 a2 : Addr) (he : Errs w a0 a1 a2) (h4 : 4 ≤ (rest s i).size) (h1 : 1 ≤ rdv (rest s i) 4) (h2 : rdv (rest s i) 4 ≤ 2000) (h8 : 8 + rdv (rest s i) 4 ≤ (rest s i).size) (hsum : sumOf ((rest s i).extract 0 4) (bodyOf (rest s i)) ≠ (rest s i).extract 4 8) :
  Calls Tryz.prog 230 #[.string s, .int .i64 (i : Int)] w fun e w' => (∃ p, e = badBody p a2) ∧ Below w.heap.size w w' := by
 have hz := rest_size s i
 have c1 := impl_readFixed (rest s i) 4 w (by unfold maxLen; omega) (by omega) (by omega) h4
 have hr : s.extract i s.size = rest s i := rfl
 have q1 : (i : Int) ≤ (s.size : Int) := by omega
 have q2 : (s.size : Int) ≤ 1048576 := by omega
 have q8 : (rest s i).size ≤ 1048576 := by omega
 unfold bodyOf at hsum
 have HE : Hid (Errs w a0 a1 a2) := he
 clear he hs hz
 generalize rdv (rest s i) 4 = n at *
 generalize rest s i = r at *
 have q3 : (n : Int) ≤ 2000 := by omega
 have q4 : ((n : Int) == 0) = false := by simp only [beq_eq_false_iff_ne, ne_eq]; omega
 have q5 : decide ((2000 : Int) < (n : Int)) = false := decide_eq_false (by omega)
 have q6 : ¬ (n : Int) = 0 := by omega
 have q7 : 8 + (n : Int) ≤ (r.size : Int) := by omega
 have q9 : (8 : Int) ≤ (r.size : Int) := by omega
 have HT : Hid (SumTab w) := ht
 have hm : (8 + (n : Int)).toNat = 8 + n := by omega
 have HB : Hid ((r.extract 0 4).size + (r.extract 8 (8 + n)).size ≤ 2097152) := by unfold Hid; rw [ByteArray.size_extract, ByteArray.size_extract]; omega
 have HC : Hid ((r.extract 8 (8 + n)).size ≤ 281474976710656) := by unfold Hid; rw [ByteArray.size_extract]; omega
 have e1 : ((sumOf (r.extract 0 4) (r.extract 8 (8 + n))).toList == (r.extract 4 8).toList) = false := by
  rw [beq_eq_false_iff_ne, Lib.toList_data, Lib.toList_data]
  intro h
  exact hsum (ByteArray.ext (Array.toList_inj.1 h))
 have q10 : wrap64 ((i : Int) + 4) = (i : Int) + 4 := by unfold wrap64; omega
 clear ht hsum q8 h1 h2 h4
 go_enter Tryz.func230, Tryz.ntmps230
 go_wp2_with fail
 refine c1.mono ?_
 rintro e w1 ⟨rfl, rfl⟩
 go_wp2_with fail
 go_region_with (go_at_call 182; refine (impl_frameSum (r.extract 0 4) (r.extract 8 (8 + n)) _ HB.out ?_).mono ?_; exact HT.out; rintro e w1 ⟨rfl, hb1⟩)
 all_goals go_wp2_with fail
 have hb : Below w.heap.size w w1 := (below_drew w).trans hb1
 have hc := (HE.out.on hb).c2
 go_quiet (fail)
 go_wp2_with fail
 go_ret2
 exact ⟨⟨_, rfl⟩, hb.trans ((below_drewN w1 nq).mono hb.size)⟩
end Go.Proofs.YthhamlahdjokkaaGreatDoor
namespace Go.Proofs.YthhamlahdjokkaaGreatDoor
open Go.ChangeShapes Go.WideShapes Go.ChangeAt Go.RowKit Go.PlainAid
set_option linter.unusedVariables false
theorem body_bad (s : ByteArray) (i : Nat) (w : World) (hi : i ≤ s.size) (hs : s.size ≤ 1048576) (ht : SumTab w) (a0 a1 a2 : Addr) (he : Errs w a0 a1 a2) (hcode : code (rest s i) ≠ 0) :
  Calls Tryz.prog 230 #[.string s, .int .i64 (i : Int)] w fun e w' => (∃ p a, e = badBody p a ∧ (code (rest s i) = 1 ∧ a = a0 ∨ code (rest s i) = 2 ∧ (a = a1 ∨ a = a2))) ∧ Below w.heap.size w w' := by
 by_cases h4 : (rest s i).size < 4
 ·refine (body_short4 s i w hi hs a0 a1 a2 he h4).mono ?_
  rintro e w' ⟨⟨p, rfl⟩, hb⟩
  exact ⟨⟨p, a0, rfl, .inl ⟨by rw [code, if_pos h4], rfl⟩⟩, hb⟩
 by_cases hl : rdv (rest s i) 4 = 0 ∨ 2000 < rdv (rest s i) 4
 ·refine (body_len s i w hi hs a0 a1 a2 he (by omega) hl).mono ?_
  rintro e w' ⟨⟨p, rfl⟩, hb⟩
  exact ⟨⟨p, a1, rfl, .inr ⟨by rw [code, if_neg h4, if_pos hl], .inl rfl⟩⟩, hb⟩
 by_cases h8 : (rest s i).size < 8 + rdv (rest s i) 4
 ·refine (body_short8 s i w hi hs a0 a1 a2 he (by omega) (by omega) (by omega) h8).mono ?_
  rintro e w' ⟨⟨p, rfl⟩, hb⟩
  exact ⟨⟨p, a0, rfl, .inl ⟨by rw [code, if_neg h4, if_neg hl, if_pos h8], rfl⟩⟩, hb⟩
 have hsum : sumOf ((rest s i).extract 0 4) (bodyOf (rest s i)) ≠ (rest s i).extract 4 8 := fun h => hcode (by rw [code, if_neg h4, if_neg hl, if_neg h8, if_pos h])
 refine (body_sum s i w hi hs ht a0 a1 a2 he (by omega) (by omega) (by omega) (by omega) hsum).mono ?_
 rintro e w' ⟨⟨p, rfl⟩, hb⟩
 exact ⟨⟨p, a2, rfl, .inr ⟨by rw [code, if_neg h4, if_neg hl, if_neg h8, if_neg hsum], .inr rfl⟩⟩, hb⟩
def unf (s : ByteArray) : Array Value := if code s = 0 then #[.string (bodyOf s), .int .i64 ((8 + rdv s 4 : Nat) : Int), .int .i64 0] else #[.string ⟨#[]⟩, .int .i64 0, .int .i64 (code s : Int)]
set_option maxHeartbeats 1000000 in
theorem impl_unframe (s : ByteArray) (w : World) (hs : s.size ≤ 1048576) (ht : SumTab w) (a0 a1 a2 : Addr) (he : Errs w a0 a1 a2) :
  Calls Tryz.prog 220 #[.string s] w fun e w' => e = .returned (.tuple (unf s)) ∧ Below w.heap.size w w' := by
 have HE : Hid (Errs w a0 a1 a2) := he
 by_cases hcode : code s = 0
 ·have c1 := body_ok s 0 w (by omega) hs ht (by rw [rest_zero]; exact hcode)
  rw [rest_zero, show ((0 : Nat) : Int) = 0 from rfl] at c1
  obtain ⟨h4, h1, h2, h8, hsum⟩ := (code_zero _).1 hcode
  have hz := bodyOf_size s h8
  have EU : Hid (unf s = #[.string (bodyOf s), .int .i64 ((8 + rdv s 4 : Nat) : Int), .int .i64 0]) := by unfold Hid; rw [unf, if_pos hcode]
  have q1 : ((bodyOf s).size : Int) = (rdv s 4 : Int) := by rw [hz]
  have q2 : (rdv s 4 : Int) ≤ 2000 := by omega
  clear hcode hsum ht he h4 h1 h2 h8 hs hz
  generalize rdv s 4 = n at *
  generalize bodyOf s = b at *
  go_enter Tryz.func220, Tryz.ntmps220
  go_wp2_with fail
  refine c1.mono ?_
  rintro e w1 ⟨rfl, hb1⟩
  go_wp2_with fail
  go_ret3
  exact ⟨by rw [EU.out]; go_num, hb1⟩
 ·have c1 := body_bad s 0 w (by omega) hs ht a0 a1 a2 he (by rw [rest_zero]; exact hcode)
  rw [rest_zero, show ((0 : Nat) : Int) = 0 from rfl] at c1
  have EU : Hid (unf s = #[.string ⟨#[]⟩, .int .i64 0, .int .i64 (code s : Int)]) := by unfold Hid; rw [unf, if_neg hcode]
  clear ht he hs hcode
  simp only [badBody, wrapped] at c1
  generalize code s = k at *
  go_enter Tryz.func220, Tryz.ntmps220
  go_wp2_with fail
  refine c1.mono ?_
  rintro e w1 ⟨⟨p, a, rfl, ha⟩, hb1⟩
  have he1 := HE.out.on hb1
  rcases ha with ⟨rfl, rfl⟩ | ⟨rfl, ha⟩
  ·have c2 := code_short p a a1 a2 w1 he1
   simp only [wrapped] at c2
   clear he1
   go_wp2_with fail
   refine c2.mono ?_
   rintro e w2 ⟨rfl, hb2⟩
   go_wp2_with fail
   go_ret3
   exact ⟨by rw [EU.out]; rfl, hb1.trans (hb2.mono hb1.size)⟩
  ·have c2 := code_bad p a a0 a1 a2 w1 he1 ha
   simp only [wrapped] at c2
   clear he1 ha
   go_wp2_with fail
   refine c2.mono ?_
   rintro e w2 ⟨rfl, hb2⟩
   go_wp2_with fail
   go_ret3
   exact ⟨by rw [EU.out]; rfl, hb1.trans (hb2.mono hb1.size)⟩
set_option maxRecDepth 20000 in
set_option maxHeartbeats 1000000 in
theorem spec_unframe (s : ByteArray) (w : World) (hs : s.size ≤ 1048576) :
  Calls Tryz.prog 190 #[.string s] w fun e w' => e = .returned (.tuple (unf s)) ∧ Below w.heap.size w w' := by
 by_cases h4 : s.size < 4
 ·have c1 := spec_readFixed_no s 4 w (by unfold maxLen; omega) (by omega)
  have EU : Hid (unf s = #[.string ⟨#[]⟩, .int .i64 0, .int .i64 1]) := by
   have : code s = 1 := by rw [code, if_pos h4]
   unfold Hid; rw [unf, this]; rfl
  clear hs h4
  go_enter Tryz.func190, Tryz.ntmps190
  go_wp2_with fail
  refine c1.mono ?_
  rintro e w1 ⟨rfl, rfl⟩
  go_wp2_with fail
  go_ret3
  exact ⟨by rw [EU.out]; rfl, Below.refl _ _⟩
 have c1 := spec_readFixed s 4 w (by unfold maxLen; omega) (by omega) (by omega) (by omega)
 by_cases hl : rdv s 4 = 0 ∨ 2000 < rdv s 4
 ·have EU : Hid (unf s = #[.string ⟨#[]⟩, .int .i64 0, .int .i64 2]) := by
   have : code s = 2 := by rw [code, if_neg h4, if_pos hl]
   unfold Hid; rw [unf, this]; rfl
  clear hs h4
  generalize rdv s 4 = n at *
  rcases hl with rfl | hl
  ·go_enter Tryz.func190, Tryz.ntmps190
   go_wp2_with fail
   refine c1.mono ?_
   rintro e w1 ⟨rfl, rfl⟩
   go_wp2_with fail
   go_ret3
   exact ⟨by rw [EU.out]; rfl, Below.refl _ _⟩
  ·have q3 : (2000 : Int) < (n : Int) := by omega
   have q4 : ((n : Int) == 0) = false := by simp only [beq_eq_false_iff_ne, ne_eq]; omega
   have q5 : decide ((2000 : Int) < (n : Int)) = true := decide_eq_true q3
   have q6 : ¬ (n : Int) = 0 := by omega
   go_enter Tryz.func190, Tryz.ntmps190
   go_wp2_with fail
   refine c1.mono ?_
   rintro e w1 ⟨rfl, rfl⟩
   go_wp2_with fail
   go_ret3
   exact ⟨by rw [EU.out]; rfl, Below.refl _ _⟩
 by_cases h8 : s.size < 8 + rdv s 4
 ·have EU : Hid (unf s = #[.string ⟨#[]⟩, .int .i64 0, .int .i64 1]) := by
   have : code s = 1 := by rw [code, if_neg h4, if_neg hl, if_pos h8]
   unfold Hid; rw [unf, this]; rfl
  have q2 : (s.size : Int) ≤ 1048576 := by omega
  clear hs h4
  generalize rdv s 4 = n at *
  have q3 : (n : Int) ≤ 2000 := by omega
  have q4 : ((n : Int) == 0) = false := by simp only [beq_eq_false_iff_ne, ne_eq]; omega
  have q5 : decide ((2000 : Int) < (n : Int)) = false := decide_eq_false (by omega)
  have q6 : ¬ (n : Int) = 0 := by omega
  have q7 : (s.size : Int) < 8 + (n : Int) := by omega
  clear hl
  go_enter Tryz.func190, Tryz.ntmps190
  go_wp2_with fail
  refine c1.mono ?_
  rintro e w1 ⟨rfl, rfl⟩
  go_wp2_with fail
  go_ret3
  exact ⟨by rw [EU.out]; rfl, Below.refl _ _⟩
 have hz := bodyOf_size s (by omega)
 have c2 := fun wx => spec_frame (bodyOf s) wx (by omega)
 have hfit := frame_fits s (by omega) (by omega) (by omega) (by omega)
 have hb0 : s.extract 8 (8 + rdv s 4) = bodyOf s := rfl
 have q2 : (s.size : Int) ≤ 1048576 := by omega
 by_cases hsum : sumOf (s.extract 0 4) (bodyOf s) = s.extract 4 8
 ·have EU : Hid (unf s = #[.string (bodyOf s), .int .i64 ((8 + rdv s 4 : Nat) : Int), .int .i64 0]) := by
   have : code s = 0 := by rw [code, if_neg h4, if_neg hl, if_neg h8, if_pos hsum]
   unfold Hid; rw [unf, if_pos this]
  have HF : Hid (frame (bodyOf s) = s.extract 0 (8 + rdv s 4)) := hfit.2 hsum
  clear hfit hsum hs h4 hz
  generalize bodyOf s = b at *
  generalize rdv s 4 = n at *
  have q3 : (n : Int) ≤ 2000 := by omega
  have q4 : ((n : Int) == 0) = false := by simp only [beq_eq_false_iff_ne, ne_eq]; omega
  have q5 : decide ((2000 : Int) < (n : Int)) = false := decide_eq_false (by omega)
  have q6 : ¬ (n : Int) = 0 := by omega
  have q7 : 8 + (n : Int) ≤ (s.size : Int) := by omega
  have hm : (8 + (n : Int)).toNat = 8 + n := by omega
  have q8 : (0 : Int) ≤ 8 + (n : Int) := by omega
  have w1 : IntKind.i64.wrap (8 + (n : Int)) = 8 + (n : Int) := by rw [IntKind.wrap_i64]; omega
  have w2 : wrap64 (8 + (n : Int)) = 8 + (n : Int) := by unfold wrap64; omega
  clear hl h8
  go_enter Tryz.func190, Tryz.ntmps190
  go_wp2_with fail
  refine c1.mono ?_
  rintro e w1 ⟨rfl, rfl⟩
  go_wp2_with fail
  go_region_with (go_at_call 112; refine (c2 _).mono ?_; rintro e w1 ⟨rfl, hb1⟩; rw [HF.out])
  all_goals go_wp2_with fail
  all_goals (go_ret3; exact ⟨by rw [EU.out]; go_num, (below_drew w).trans hb1⟩)
 ·have EU : Hid (unf s = #[.string ⟨#[]⟩, .int .i64 0, .int .i64 2]) := by
   have : code s = 2 := by rw [code, if_neg h4, if_neg hl, if_neg h8, if_neg hsum]
   unfold Hid; rw [unf, this]; rfl
  have e1 : ((frame (bodyOf s)).toList == (s.extract 0 (8 + rdv s 4)).toList) = false := by
   rw [beq_eq_false_iff_ne, Lib.toList_data, Lib.toList_data]
   intro h
   exact hsum (hfit.1 (ByteArray.ext (Array.toList_inj.1 h)))
  clear hfit hsum hs h4 hz
  generalize bodyOf s = b at *
  generalize rdv s 4 = n at *
  have q3 : (n : Int) ≤ 2000 := by omega
  have q4 : ((n : Int) == 0) = false := by simp only [beq_eq_false_iff_ne, ne_eq]; omega
  have q5 : decide ((2000 : Int) < (n : Int)) = false := decide_eq_false (by omega)
  have q6 : ¬ (n : Int) = 0 := by omega
  have q7 : 8 + (n : Int) ≤ (s.size : Int) := by omega
  have hm : (8 + (n : Int)).toNat = 8 + n := by omega
  have q8 : (0 : Int) ≤ 8 + (n : Int) := by omega
  have w1 : IntKind.i64.wrap (8 + (n : Int)) = 8 + (n : Int) := by rw [IntKind.wrap_i64]; omega
  have w2 : wrap64 (8 + (n : Int)) = 8 + (n : Int) := by unfold wrap64; omega
  clear hl h8
  go_enter Tryz.func190, Tryz.ntmps190
  go_wp2_with fail
  refine c1.mono ?_
  rintro e w1 ⟨rfl, rfl⟩
  go_wp2_with fail
  go_region_with (go_at_call 112; refine (c2 _).mono ?_; rintro e w1 ⟨rfl, hb1⟩)
  all_goals go_wp2_with fail
  all_goals (go_ret3; exact ⟨by rw [EU.out]; rfl, (below_drew w).trans hb1⟩)
end Go.Proofs.YthhamlahdjokkaaGreatDoor
namespace Go.Proofs.YthhamlahdjokkaaGreatDoor
open Go.ChangeShapes Go.WideShapes Go.ChangeAt Go.RowKit Go.PlainAid
set_option linter.unusedVariables false
theorem cell_alloc_keep {w : World} {p : Addr} {x : Value} (h : w.cell? p = some x) (o : Obj) : (w.alloc o).cell? p = some x := by
 rw [((Below.refl w.heap.size w).alloc (Nat.le_refl _) o).cell (World.block_lt_of_cell? _ _ h)]
 exact h
set_option maxRecDepth 20000 in
set_option maxHeartbeats 2000000 in
theorem implPointsOf (t v : List Int) (ut uv : Value) (w : World) (ht : NumsV w w.heap.size ut t) (hv : NumsV w w.heap.size uv v) (hlt : t.length ≤ 1000) (hlv : v.length ≤ 1000) : Calls Tryz.prog 223 #[ut, uv] w fun e w' => (∃ u, e = .returned u ∧ Owns w' w.heap.size 98 2 u (ptR (zipP t v))) ∧ Below w.heap.size w w' := by
 obtain ⟨At, ct, rfl, _, _, h1⟩ := ht
 obtain ⟨Av, cv, rfl, _, _, h2⟩ := hv
 have HT : Hid (∀ j, j < t.length → ∃ g off, At = some ⟨g, off, none⟩ ∧ g < w.heap.size ∧ w.cell? ⟨g, off + j, none⟩ = some (.int .i64 (t.getD j 0))) := h1
 have HV : Hid (∀ j, j < v.length → ∃ g off, Av = some ⟨g, off, none⟩ ∧ g < w.heap.size ∧ w.cell? ⟨g, off + j, none⟩ = some (.int .i64 (v.getD j 0))) := h2
 have HZL : Hid ((zipP t v).length = min t.length v.length) := zipP_length t v
 have HZG : Hid (∀ k, k < t.length → k < v.length → (zipP t v).take (k + 1) = (zipP t v).take k ++ [⟨t.getD k 0, v.getD k 0⟩]) := zipP_get t v
 have q1 : (t.length : Int) ≤ 1000 := by omega
 have q2 : (v.length : Int) ≤ 1000 := by omega
 have hmn : min (t.length : Int) (v.length : Int) = ((min t.length v.length : Nat) : Int) := by omega
 have hmn2 : (if (v.length : Int) < (t.length : Int) then (v.length : Int) else (t.length : Int)) = ((min t.length v.length : Nat) : Int) := by split <;> omega
 clear h1 h2 hlt hlv
 generalize hn : t.length = n at *
 generalize hm : v.length = m at *
 generalize hN : min n m = N at *
 have HN : Hid (N ≤ n ∧ N ≤ m ∧ N ≤ 1000) := by unfold Hid; omega
 clear hn hm
 go_enter Tryz.func223, Tryz.ntmps223
 go_wp2_with fail
 go_loopw [5, 12] (fun v5 v12 wr => ∃ k : Nat, k ≤ N ∧ v12 = .int .i64 (k : Int) ∧ Owns wr w.heap.size 98 2 v5 (ptR ((zipP t v).take k)) ∧ Below w.heap.size w wr) (fun _ i _ => N - (intOf i).toNat)
 case atStart => exact ⟨0, by omega, rfl, by rw [List.take_zero]; exact Owns.nil _ _ _ _, Below.refl _ _⟩
 case round =>
  obtain ⟨k, hk, rfl, hO, hb⟩ := hrel
  have HO : Hid (Owns wr w.heap.size 98 2 u5 (ptR ((zipP t v).take k))) := hO
  have HB1 : Hid (Below w.heap.size w wr) := hb
  clear hO hb
  by_cases hlt : k < N
  ·have q3 : (k : Int) < (N : Int) := by omega
   have hkn := HN.out
   have q4 : (k : Int) < (n : Int) := by omega
   have q5 : (k : Int) < (m : Int) := by omega
   obtain ⟨gt, ot, rfl, hgt, hc1⟩ := HT.out k (by omega)
   obtain ⟨gv, ov, rfl, hgv, hc2⟩ := HV.out k (by omega)
   have HZ : Hid ((zipP t v).take (k + 1) = (zipP t v).take k ++ [⟨t.getD k 0, v.getD k 0⟩]) := HZG.out k (by omega) (by omega)
   rw [← HB1.out.cell (p := ⟨_, _, none⟩) hgt] at hc1
   rw [← HB1.out.cell (p := ⟨_, _, none⟩) hgv] at hc2
   generalize t.getD k 0 = x at *
   generalize v.getD k 0 = y at *
   have hz : w.heap.size ≤ wr.drew.heap.size := HB1.out.size
   obtain ⟨nA, nm, nc, w5, r5, hO5, hb5, hk5, _⟩ := run_append_row (P := Tryz.prog) wr.drew 99 99 98 (.agg #[.int .i64 0, .int .i64 0]) 2 16 Tryz.underlying99 Tryz.infoPt rfl (by omega) w.heap.size u5 (ptR ((zipP t v).take k)) (HO.out.kept fun _ _ _ => rfl) [.int .i64 x, .int .i64 y] rfl (pt_cells x y) (by rw [ptR_length, List.length_take]; omega) (by omega) hz
   have B5 : Hid (Below w.heap.size w w5) := (HB1.out.drew).trans hb5
   have O5 : Hid (Owns w5 w.heap.size 98 2 (.slice nA nm nc) (ptR ((zipP t v).take (k + 1)))) := by unfold Hid; rw [HZ.out, ptR_snoc']; exact hO5
   have S0 : Hid (wr.drew.cell? ⟨gt, ot + k, none⟩ = some (.int .i64 x) ∧ wr.drew.cell? ⟨gv, ov + k, none⟩ = some (.int .i64 y)) := ⟨hc1, hc2⟩
   clear hc1 hc2 hO5 hb5 hk5
   clear hgt hgv
   go_wp2_with fail
   refine wp_region_until (fun w' => w'.cell? ⟨gt, ot + k, none⟩ = some (.int .i64 x) ∧ w'.cell? ⟨gv, ov + k, none⟩ = some (.int .i64 y)) (fun i => i == 11 || i == 12) 13 (by rfl) (by kernel_rfl) ?_
   refine tKf 0 S0.out ?_
   refine tKf 1 S0.out ?_
   refine tKf 2 S0.out ?_
   refine tKf 3 S0.out ?_
   refine tKf 4 S0.out ?_
   refine tKf 5 S0.out ?_
   refine tKf 6 S0.out ?_
   refine tKf 7 S0.out ?_
   refine tKf 8 S0.out ?_
   refine tKf 9 S0.out ?_
   refine uNe 10 (fun K hK => ?_)
   go_simp
   refine hK.out _ _ (fun _ h => ⟨cell_alloc_keep h.1 _, cell_alloc_keep h.2 _⟩) ?_
   clear hK K
   try simp only [Act.put, zQ1, zQ2, zQ3]
   refine uNe 11 (fun K hK => ?_)
   refine step_append_run (by rfl) (.tmp 15) (.tmp 25) 99 (by rfl) _ _ _ _ (by rfl) (by rfl) r5 ?_
   refine hK.out _ _ (fun h => by cases h) ?_
   clear hK K
   try simp only [Act.put, zQ1, zQ2, zQ3]
   refine uNe 12 (fun K hK => ?_)
   go_simp
   refine hK.out _ _ (fun h => by cases h) ?_
   clear hK K
   try simp only [Act.put, zQ1, zQ2, zQ3]
   refine until_done (by kernel_rfl) ?_ _
   go_wp2_with fail
   go_roundw
   case rel => exact ⟨k + 1, by omega, by go_num, O5.out, B5.out⟩
   case measure => simp [intOf]; omega
  ·obtain rfl : k = N := by omega
   have hF := HO.out
   rw [List.take_of_length_le (by rw [HZL.out]; exact Nat.le_refl _)] at hF
   have HF : Hid (Owns wr w.heap.size 98 2 u5 (ptR (zipP t v))) := hF
   clear hF HO
   go_wp2_with fail
   go_ret
   exact ⟨⟨_, rfl, HF.out⟩, HB1.out⟩
theorem unf_body (s : ByteArray) : ∃ k c : Nat, unf s = #[.string (bodyR s), .int .i64 (k : Int), .int .i64 (c : Int)] ∧ ((code s = 0 ∧ k = 8 + rdv s 4) ∨ (code s ≠ 0 ∧ k = 0 ∧ bodyR s = ⟨#[]⟩)) := by
 by_cases h : code s = 0
 ·refine ⟨8 + rdv s 4, 0, ?_, .inl ⟨h, rfl⟩⟩
  rw [unf, if_pos h, bodyR, if_pos h]
  rfl
 ·refine ⟨0, code s, ?_, .inr ⟨h, rfl, by rw [bodyR, if_neg h]⟩⟩
  rw [unf, if_neg h, bodyR, if_neg h]
  rfl
set_option maxHeartbeats 4000000 in
theorem implReadBlock (s : ByteArray) (w : World) (hs : s.size ≤ 1048576) (hst : SumTab w) (a0 a1 a2 : Addr) (he : Errs w a0 a1 a2) : Calls Tryz.prog 203 #[.string s] w fun e w' => (∃ u l ok, RbAns s l ok ∧ e = .returned (.tuple #[u, .bool ok]) ∧ Owns w' w.heap.size 98 2 u (ptR l)) ∧ Below w.heap.size w w' := by
 have ST : Hid (SumTab w) := hst
 have cU := impl_unframe s w hs hst a0 a1 a2 he
 obtain ⟨k0, c0, hu, _⟩ := unf_body s
 rw [hu] at cU
 have hbz := bodyR_size s
 have qs : (s.size : Int) ≤ 1048576 := by omega
 clear hst he hu
 go_enter Tryz.func203, Tryz.ntmps203
 go_wp2_with fail
 refine cU.mono ?_
 rintro e w1 ⟨rfl, hb⟩
 have B1 : Hid (Below w.heap.size w w1) := hb
 clear hb cU
 have cV := impl_readVar (bodyR s) w1 (by omega)
 go_wp2_with fail
 refine cV.mono ?_
 rintro e w1' ⟨hRV, rfl⟩
 obtain ⟨n, k, hRd, rfl⟩ := hRV.rd
 have hle := hRd.le
 have HR : Hid (RdV (bodyR s) n k) := hRd
 have hsz : ((bodyR s).extract k (bodyR s).size).size ≤ 2000 := by rw [ByteArray.size_extract]; omega
 have cT := implReadTimesA ((bodyR s).extract k (bodyR s).size) n w1 (by omega)
 have qk : (k : Int) ≤ 7 := by omega
 have qb : ((bodyR s).size : Int) ≤ 2000 := by omega
 have qkb : (k : Int) ≤ ((bodyR s).size : Int) := by omega
 have hkb : k ≤ (bodyR s).size := hle.1
 clear hRd hRV cV hle
 go_wp2_with fail
 refine cT.mono ?_
 rintro e w2 ⟨⟨t, a, ut, hAT, rfl, hNT⟩, hb⟩
 have HAT : Hid (RdAns showT rowT ((bodyR s).extract k (bodyR s).size) n t a) := hAT
 have hsh := hAT.short rowT_length
 have LT : Hid (t.length ≤ 60) := hsh.1
 have hak : k + a ≤ (bodyR s).size := by have h2 := hsh.2; rw [ByteArray.size_extract] at h2; omega
 have B2 : Hid (Below w.heap.size w w2) := B1.out.trans (hb.mono B1.out.size)
 have NT : Hid (Nums w2 w1.heap.size ut t) := hNT
 have cW := implReadValuesA ((bodyR s).extract (k + a) (bodyR s).size) n w2 (by rw [ByteArray.size_extract]; omega)
 have qa : (k : Int) + (a : Int) ≤ ((bodyR s).size : Int) := by omega
 have qa1 : (a : Int) ≤ 2000 := by omega
 have ena : ((k : Int) + (a : Int)).toNat = k + a := by omega
 clear hAT hNT hb cT hsh hsz
 go_wp2_with fail
 refine cW.mono ?_
 rintro e w3 ⟨⟨v, b, uv, hAV, rfl, hNV⟩, hb⟩
 have HST : Hid (Steps s n k t a v b) := ⟨HR.out, HAT.out, hAV⟩
 have LV : Hid (v.length ≤ 60) := (hAV.short rowV_length).1
 have B3 : Hid (Below w.heap.size w w3) := B2.out.trans (hb.mono B2.out.size)
 have NT3 : Hid (Nums w3 w1.heap.size ut t) := NT.out.on hb
 have NV3 : Hid (Nums w3 w2.heap.size uv v) := hNV
 clear hAV hNV hb cW NT
 have cP := implPointsOf t v ut uv w3 NT3.out.lies NV3.out.lies (by have := LT.out; omega) (by have := LV.out; omega)
 go_wp2_with fail
 refine cP.mono ?_
 rintro e w4 ⟨⟨up, rfl, hO⟩, hb⟩
 have B4 : Hid (Below w.heap.size w w4) := B3.out.trans (hb.mono B3.out.size)
 have OP : Hid (Owns w4 w3.heap.size 98 2 up (ptR (zipP t v))) := hO
 have LZ : Hid ((zipP t v).length ≤ 60) := by unfold Hid; rw [zipP_length]; have := LT.out; omega
 clear hO hb cP
 have cS := implShowBlock (zipP t v) up w4 w4.heap.size OP.out.lies (by have := LZ.out; omega) (Nat.le_refl _) (ST.out.on B4.out)
 obtain ⟨Ap, cp, rfl, _⟩ := pt_look OP.out.lies
 have HG1 : Hid (∀ m, Good s m → zipP t v = m) := fun m hm => (HST.out.good hm).1
 have HG2 : Hid (1 ≤ (zipP t v).length → showB (zipP t v) = s → Good s (zipP t v)) := fun h1 h2 => HST.out.shown h1 h2
 have qz : ((zipP t v).length : Int) ≤ 60 := by have := LZ.out; omega
 generalize zipP t v = l at *
 by_cases h0 : l.length = 0
 ·have HNO : Hid (∀ m, ¬ Good s m) := fun m hm => by have e := HG1.out m hm; subst e; have := hm.1; omega
  rw [h0]
  clear h0 qz
  go_wp2_with fail
  go_ret2
  exact ⟨⟨_, [], false, .inr ⟨rfl, rfl, HNO.out⟩, rfl, Owns.nil _ _ _ _⟩, B4.out⟩
 have d0 : decide (l.length = 0) = false := decide_eq_false h0
 have d1 : ((l.length : Int) == 0) = false := by rw [beq_eq_false_iff_ne]; omega
 have H1 : Hid (1 ≤ l.length) := by unfold Hid; omega
 have HLL : Hid (Owns w4 w3.heap.size 98 2 (.slice Ap l.length cp) (ptR l)) := OP.out
 generalize hln : l.length = ln at *
 by_cases hsh : showB l = s
 ·have HG : Hid (Good s l) := HG2.out (by have := H1.out; omega) hsh
  have db := bytes_eq hsh
  go_wp2_with fail
  refine cS.mono ?_
  rintro e w5 ⟨rfl, hb5⟩
  have B5 : Hid (Below w.heap.size w w5) := B4.out.trans (hb5.mono B4.out.size)
  have O5 : Hid (Owns w5 w.heap.size 98 2 (.slice Ap ln cp) (ptR l)) := (HLL.out.on hb5).mono B3.out.size
  clear hb5 cS
  rw [hsh]
  go_wp2_with fail
  go_ret2
  exact ⟨⟨_, l, true, .inl ⟨rfl, HG.out⟩, rfl, O5.out⟩, B5.out⟩
 ·have HNO : Hid (∀ m, ¬ Good s m) := fun m hm => by have e := HG1.out m hm; subst e; exact hsh hm.2.2
  have db := bytes_ne hsh
  go_wp2_with fail
  refine cS.mono ?_
  rintro e w5 ⟨rfl, hb5⟩
  have B5 : Hid (Below w.heap.size w w5) := B4.out.trans (hb5.mono B4.out.size)
  clear hb5 cS hsh
  go_wp2_with fail
  go_ret2
  exact ⟨⟨_, [], false, .inr ⟨rfl, rfl, HNO.out⟩, rfl, Owns.nil _ _ _ _⟩, B5.out⟩
end Go.Proofs.YthhamlahdjokkaaGreatDoor
namespace Go.Proofs.YthhamlahdjokkaaGreatDoor
open Go.ChangeShapes Go.WideShapes Go.ChangeAt Go.RowKit Go.PlainAid
set_option linter.unusedVariables false
set_option maxHeartbeats 4000000 in
theorem readSpotV (s : ByteArray) (p g : Nat) (w : World) (hb : CurB w g s p 231) (hs : s.size ≤ 1048576) (hp : p ≤ s.size) : Calls Tryz.prog 197 #[.pointer (some ⟨g, 0, none⟩)] w fun e w' => e = .returned (vSp (spotA s p)) ∧ CurB w' g s (spotP s p) 231 ∧ KeptBut g w w' := by
 have HB : Hid (CurB w g s p 231) := hb
 have HS : Hid (s.size ≤ 1048576) := hs
 have HP : Hid (p ≤ s.size) := hp
 have HNG : Hid (w.heap.size ≠ g) := by have := Blk.lt hb; unfold Hid; omega
 have HGL : Hid (g < w.heap.size) := Blk.lt hb
 have HL2 : Hid (tkP s p ≤ s.size) := tkP_le _ _ hp
 have HL3 : Hid (spK s p ≤ s.size) := tk_le _ _ _
 have HL4 : Hid (tkP s (spK s p) ≤ s.size) := tkP_le _ _ HL3.out
 have HL5 : Hid (tkP s (tkP s (spK s p)) ≤ s.size) := tkP_le _ _ HL4.out
 have HL6 : Hid (tkP s (tkP s (tkP s (spK s p))) ≤ s.size) := tkP_le _ _ HL5.out
 have HM : Hid (tkN s p ≤ 562949953421311) := rvN_le _
 have HE : vSp (spotA s p) = .agg #[.string (s.extract (tkP s p) (spK s p)), .int .i64 (tkN s (spK s p) : Int), .int .i64 (tkN s (tkP s (spK s p)) : Int), .int .i64 (tkN s (tkP s (tkP s (spK s p))) : Int), .int .i64 (tkN s (tkP s (tkP s (tkP s (spK s p)))) : Int)] := rfl
 have HQ : spotP s p = tkP s (tkP s (tkP s (tkP s (spK s p)))) := rfl
 rw [HE, HQ]
 have c1 := fun wx (hC : CurB wx g s p 231) => takeVarV s p g wx hC hs hp
 have c2 : ∀ wx, CurB wx g s (tkP s p) 231 → Calls Tryz.prog 204 #[.pointer (some ⟨g, 0, none⟩), .int .i64 (tkN s p : Int)] wx fun e w' => e = .returned (.string (s.extract (tkP s p) (spK s p))) ∧ CurB w' g s (spK s p) 231 ∧ KeptBut g wx w' := fun wx hC => takeV s (tkP s p) (tkN s p) g wx hC hs HL2.out HM.out
 have c3 := fun wx (hC : CurB wx g s (spK s p) 231) => takeVarV s (spK s p) g wx hC hs HL3.out
 have c4 := fun wx (hC : CurB wx g s (tkP s (spK s p)) 231) => takeVarV s (tkP s (spK s p)) g wx hC hs HL4.out
 have c5 := fun wx (hC : CurB wx g s (tkP s (tkP s (spK s p))) 231) => takeVarV s (tkP s (tkP s (spK s p))) g wx hC hs HL5.out
 have c6 := fun wx (hC : CurB wx g s (tkP s (tkP s (tkP s (spK s p)))) 231) => takeVarV s (tkP s (tkP s (tkP s (spK s p)))) g wx hC hs HL6.out
 clear HE HQ HL2 HL3 HL4 HL5 HL6 HM
 generalize (tkN s (tkP s (tkP s (tkP s (spK s p)))) : Int) = y4 at *
 generalize (tkN s (tkP s (tkP s (spK s p))) : Int) = y3 at *
 generalize (tkN s (tkP s (spK s p)) : Int) = y2 at *
 generalize (tkN s (spK s p) : Int) = y1 at *
 generalize s.extract (tkP s p) (spK s p) = y0 at *
 generalize tkP s (tkP s (tkP s (tkP s (spK s p)))) = p6 at *
 generalize tkP s (tkP s (tkP s (spK s p))) = p5 at *
 generalize tkP s (tkP s (spK s p)) = p4 at *
 generalize tkP s (spK s p) = p3 at *
 generalize spK s p = p2 at *
 generalize tkP s p = p1 at *
 generalize (tkN s p : Int) = n0 at *
 have C0 : Hid (CurB (w.alloc (.cells #[.string ⟨#[]⟩, .int .i64 0, .int .i64 0, .int .i64 0, .int .i64 0] 127)) g s p 231) := Blk.alloc hb _
 have R0 : Hid (Blk (w.alloc (.cells #[.string ⟨#[]⟩, .int .i64 0, .int .i64 0, .int .i64 0, .int .i64 0] 127)) w.heap.size #[.string ⟨#[]⟩, .int .i64 0, .int .i64 0, .int .i64 0, .int .i64 0] 127) := Blk.new w _ _
 have D0 : Hid (KeptBut g w (w.alloc (.cells #[.string ⟨#[]⟩, .int .i64 0, .int .i64 0, .int .i64 0, .int .i64 0] 127))) := KeptBut.of ((Below.refl _ w).alloc (Nat.le_refl _) _) HGL.out
 clear hb hs hp
 go_enter Tryz.func197, Tryz.ntmps197
 go_wp2_with fail
 refine (c1 _ C0.out).mono ?_
 rintro e X1 ⟨rfl, hC, hk⟩
 have C1 : Hid (CurB X1 g s p1 231) := hC
 have D1 : Hid (KeptBut g w X1) := D0.out.trans hk
 have R1 : Hid (Blk X1 w.heap.size #[.string ⟨#[]⟩, .int .i64 0, .int .i64 0, .int .i64 0, .int .i64 0] 127) := hk.blk R0.out HNG.out
 clear hC hk
 go_wp2_with fail
 refine (c2 _ C1.out).mono ?_
 rintro e X2 ⟨rfl, hC, hk⟩
 have C2 : Hid (CurB X2 g s p2 231) := hC
 have D2 : Hid (KeptBut g w X2) := D1.out.trans hk
 have R2 : Hid (Blk X2 w.heap.size #[.string ⟨#[]⟩, .int .i64 0, .int .i64 0, .int .i64 0, .int .i64 0] 127) := hk.blk R1.out HNG.out
 clear hC hk
 go_wp2_with fail
 refine (c3 _ C2.out).mono ?_
 rintro e X3 ⟨rfl, hC, hk⟩
 have C3 : Hid (CurB X3 g s p3 231) := hC
 have D3 : Hid (KeptBut g w X3) := D2.out.trans hk
 have R3 : Hid (Blk X3 w.heap.size #[.string ⟨#[]⟩, .int .i64 0, .int .i64 0, .int .i64 0, .int .i64 0] 127) := hk.blk R2.out HNG.out
 clear hC hk
 go_wp2_with fail
 refine (c4 _ C3.out).mono ?_
 rintro e X4 ⟨rfl, hC, hk⟩
 have C4 : Hid (CurB X4 g s p4 231) := hC
 have D4 : Hid (KeptBut g w X4) := D3.out.trans hk
 have R4 : Hid (Blk X4 w.heap.size #[.string ⟨#[]⟩, .int .i64 0, .int .i64 0, .int .i64 0, .int .i64 0] 127) := hk.blk R3.out HNG.out
 clear hC hk
 go_wp2_with fail
 refine (c5 _ C4.out).mono ?_
 rintro e X5 ⟨rfl, hC, hk⟩
 have C5 : Hid (CurB X5 g s p5 231) := hC
 have D5 : Hid (KeptBut g w X5) := D4.out.trans hk
 have R5 : Hid (Blk X5 w.heap.size #[.string ⟨#[]⟩, .int .i64 0, .int .i64 0, .int .i64 0, .int .i64 0] 127) := hk.blk R4.out HNG.out
 clear hC hk
 go_wp2_with fail
 refine (c6 _ C5.out).mono ?_
 rintro e X6 ⟨rfl, hC, hk⟩
 have C6 : Hid (CurB X6 g s p6 231) := hC
 have D6 : Hid (KeptBut g w X6) := D5.out.trans hk
 have R6 : Hid (Blk X6 w.heap.size #[.string ⟨#[]⟩, .int .i64 0, .int .i64 0, .int .i64 0, .int .i64 0] 127) := hk.blk R5.out HNG.out
 clear hC hk
 clear c1 c2 c3 c4 c5 c6
 have p0 := R6.out
 have g0 : X6.cell? ⟨w.heap.size, 0, none⟩ = some (.string ⟨#[]⟩) := p0.cell 0 _ rfl
 have h0 := p0.free 0
 have g1 : X6.cell? ⟨w.heap.size, 1, none⟩ = some (.int .i64 0) := p0.cell 1 _ rfl
 have h1 := p0.free 1
 have g2 : X6.cell? ⟨w.heap.size, 2, none⟩ = some (.int .i64 0) := p0.cell 2 _ rfl
 have h2 := p0.free 2
 have g3 : X6.cell? ⟨w.heap.size, 3, none⟩ = some (.int .i64 0) := p0.cell 3 _ rfl
 have h3 := p0.free 3
 have g4 : X6.cell? ⟨w.heap.size, 4, none⟩ = some (.int .i64 0) := p0.cell 4 _ rfl
 have h4 := p0.free 4
 have p1 := p0.set 0 (.string y0)
 have p2 := p1.set 1 (.int .i64 y1)
 have p3 := p2.set 2 (.int .i64 y2)
 have p4 := p3.set 3 (.int .i64 y3)
 have p5 := p4.set 4 (.int .i64 y4)
 generalize hW5 : (((((X6.setCell ⟨w.heap.size, 0, none⟩ (.string y0)).setCell ⟨w.heap.size, 1, none⟩ (.int .i64 y1)).setCell ⟨w.heap.size, 2, none⟩ (.int .i64 y2)).setCell ⟨w.heap.size, 3, none⟩ (.int .i64 y3)).setCell ⟨w.heap.size, 4, none⟩ (.int .i64 y4)) = W5 at p5
 have P5 : Hid (Blk W5 w.heap.size #[.string y0, .int .i64 y1, .int .i64 y2, .int .i64 y3, .int .i64 y4] 127) := p5
 have PE : Hid (CurB W5 g s p6 231) := by
  rw [← hW5]
  exact ((((Blk.other C6.out (Ne.symm HNG.out) _ _).other (Ne.symm HNG.out) _ _).other (Ne.symm HNG.out) _ _).other (Ne.symm HNG.out) _ _).other (Ne.symm HNG.out) _ _
 have KE : Hid (KeptBut g w W5) := by
  rw [← hW5]
  have hk : w.heap.size ≤ w.heap.size := Nat.le_refl _
  have hg : g ≤ w.heap.size := by have := HGL.out; omega
  exact ((((D6.out.setNew hk hg _ _).setNew hk hg _ _).setNew hk hg _ _).setNew hk hg _ _).setNew hk hg _ _
 clear p0 p1 p2 p3 p4 p5
 have k0 := P5.out.cell 0 (.string y0) rfl
 have k1 := P5.out.cell 1 (.int .i64 y1) rfl
 have k2 := P5.out.cell 2 (.int .i64 y2) rfl
 have k3 := P5.out.cell 3 (.int .i64 y3) rfl
 have k4 := P5.out.cell 4 (.int .i64 y4) rfl
 go_wp2_with fail
 exact bodyPost_ret (v := .agg #[.string y0, .int .i64 y1, .int .i64 y2, .int .i64 y3, .int .i64 y4]) (by simp [results, go_sem, k0, k1, k2, k3, k4]) rfl ⟨rfl, PE.out, KE.out⟩
set_option maxHeartbeats 4000000 in
theorem readBlockV (s : ByteArray) (p g : Nat) (x : Spot) (w w0 : World) (hb : CurB w g s p 231) (hs : s.size ≤ 1048576) (hx : x.at' ≤ 562949953421311 ∧ x.size ≤ 562949953421311) (hw : Below w0.heap.size w0 w) (hg : w0.heap.size ≤ g) (hst : SumTab w0) (a0 a1 a2 : Addr) (he : Errs w0 a0 a1 a2) : Calls Tryz.prog 193 #[.pointer (some ⟨g, 0, none⟩), vSp x] w fun e w' => (∃ u, e = .returned u ∧ Owns w' w.heap.size 98 2 u (ptR (rbP (blkA s x)))) ∧ (∃ p', CurB w' g s p' 231) ∧ KeptBut g w w' := by
 have HS : Hid (s.size ≤ 1048576) := hs
 have HW : Hid (Below w0.heap.size w0 w) := hw
 have HG : Hid (w0.heap.size ≤ g) := hg
 have ST : Hid (SumTab w0) := hst
 have ER : Hid (Errs w0 a0 a1 a2) := he
 have HNG : Hid (w.heap.size ≠ g) := by have := Blk.lt hb; unfold Hid; omega
 have HGL : Hid (g < w.heap.size) := Blk.lt hb
 have HBA : Hid (s.extract (min x.at' s.size) (tk s (min x.at' s.size) x.size) = blkA s x) := rfl
 unfold vSp
 obtain ⟨xk, xa, xz, xf, xl⟩ := x
 simp only at hx HBA ⊢
 have C0 : Hid (CurB (w.alloc (.cells #[.string xk, .int .i64 (xa : Int), .int .i64 (xz : Int), .int .i64 (xf : Int), .int .i64 (xl : Int)] 127)).drew g s p 231) := Blk.alloc hb _
 have R0 : Hid (Blk (w.alloc (.cells #[.string xk, .int .i64 (xa : Int), .int .i64 (xz : Int), .int .i64 (xf : Int), .int .i64 (xl : Int)] 127)).drew w.heap.size #[.string xk, .int .i64 (xa : Int), .int .i64 (xz : Int), .int .i64 (xf : Int), .int .i64 (xl : Int)] 127) := Blk.new w _ _
 have D0 : Hid (KeptBut g w (w.alloc (.cells #[.string xk, .int .i64 (xa : Int), .int .i64 (xz : Int), .int .i64 (xf : Int), .int .i64 (xl : Int)] 127)).drew) := (KeptBut.of ((Below.refl _ w).alloc (Nat.le_refl _) _) HGL.out).drew
 have cg := goToV s p xa (w.alloc (.cells #[.string xk, .int .i64 (xa : Int), .int .i64 (xz : Int), .int .i64 (xf : Int), .int .i64 (xl : Int)] 127)).drew g 231 C0.out hs (by omega)
 have HZ : Hid (xz ≤ 562949953421311) := hx.2
 have S0 : Hid ((w.alloc (.cells #[.string xk, .int .i64 (xa : Int), .int .i64 (xz : Int), .int .i64 (xf : Int), .int .i64 (xl : Int)] 127)).drew.cell? ⟨w.heap.size, 1, none⟩ = some (.int .i64 (xa : Int))) := R0.out.cell 1 _ rfl
 have HPm : Hid (min xa s.size ≤ s.size) := Nat.min_le_right _ _
 clear hb hs hx hw hg hst he
 generalize hq : min xa s.size = q at *
 clear hq
 go_enter Tryz.func193, Tryz.ntmps193
 go_wp2_with fail
 refine wp_region_until (fun w' => w'.cell? ⟨w.heap.size, 1, none⟩ = some (.int .i64 (xa : Int))) (fun _ => false) 6 (by rfl) (by kernel_rfl) ?_
 refine tKf 0 S0.out ?_
 refine tKf 1 S0.out ?_
 refine tKf 2 S0.out ?_
 refine tKf 3 S0.out ?_
 refine tKf 4 S0.out ?_
 refine uNe 5 (fun K hK => ?_)
 go_simp
 refine cg.mono ?_
 rintro e X1 ⟨⟨u, rfl⟩, hX⟩
 have C1 : Hid (CurB X1 g s q 231) := by rw [hX]; exact Blk.set C0.out 1 _
 have R1 : Hid (Blk X1 w.heap.size #[.string xk, .int .i64 (xa : Int), .int .i64 (xz : Int), .int .i64 (xf : Int), .int .i64 (xl : Int)] 127) := by rw [hX]; exact Blk.other R0.out HNG.out _ _
 have D1 : Hid (KeptBut g w X1) := by rw [hX]; exact D0.out.set 1 _
 clear hX
 go_wp2_with fail
 refine hK.out _ _ (fun _ _ => R1.out.cell 1 _ rfl) ?_
 clear hK K
 try simp only [Act.put, zQ1, zQ2, zQ3]
 refine until_done (by kernel_rfl) ?_ _
 have m2 := R1.out.cell 2 (.int .i64 (xz : Int)) rfl
 go_wp2_with fail
 refine (takeV s q xz g X1 C1.out HS.out HPm.out HZ.out).mono ?_
 rintro e X2 ⟨rfl, hC, hk⟩
 rw [HBA.out]
 have C2 : Hid (CurB X2 g s (tk s q xz) 231) := hC
 have D2 : Hid (KeptBut g w X2) := D1.out.trans hk
 clear hC hk m2
 have B2 : Hid (Below w0.heap.size w0 X2) := HW.out.trans (D2.out.1.mono HG.out)
 have HBs : Hid ((blkA s ⟨xk, xa, xz, xf, xl⟩).size ≤ 1048576) := by unfold Hid blkA; rw [ByteArray.size_extract]; have := HS.out; omega
 go_wp2_with fail
 refine (implReadBlock (blkA s ⟨xk, xa, xz, xf, xl⟩) X2 HBs.out (ST.out.on B2.out) a0 a1 a2 (ER.out.on B2.out)).mono ?_
 rintro e X3 ⟨⟨u3, l3, ok3, hR, rfl, hO⟩, hb3⟩
 obtain rfl := rbP_is hR
 have C3 : Hid (CurB X3 g s (tk s q xz) 231) := Blk.on C2.out hb3 (Blk.lt C2.out)
 have D3 : Hid (KeptBut g w X3) := D2.out.trans (KeptBut.of hb3 (Blk.lt C2.out))
 have O3 : Hid (Owns X3 w.heap.size 98 2 u3 (ptR (rbP (blkA s ⟨xk, xa, xz, xf, xl⟩)))) := hO.mono D2.out.size
 clear hb3 hO hR
 go_wp2_with fail
 go_ret
 exact ⟨⟨_, rfl, O3.out⟩, ⟨_, C3.out⟩, D3.out⟩
def left5 (v : Value) : Nat := match v with
 | .slice _ m _ => 5 - m
 | _ => 0
set_option maxHeartbeats 4000000 in
theorem readIndexV (s : ByteArray) (p0 g : Nat) (w : World) (hb : CurB w g s p0 231) (hs : s.size ≤ 1048576) : Calls Tryz.prog 174 #[.pointer (some ⟨g, 0, none⟩)] w fun e w' => (∃ u, e = .returned u ∧ Owns w' w.heap.size 127 5 u (spR (spots s))) ∧ (∃ p', CurB w' g s p' 231) ∧ KeptBut g w w' := by
 have HB : Hid (CurB w g s p0 231) := hb
 have HS : Hid (s.size ≤ 1048576) := hs
 have HGL : Hid (g < w.heap.size) := Blk.lt hb
 have m0 : w.cell? ⟨g, 0, none⟩ = some (.string s) := Blk.cell hb 0 _ rfl
 have q0 : (s.size : Int) ≤ 1048576 := by omega
 clear hb
 by_cases h8 : s.size < 8
 ·have HE : Hid (spots s = []) := by unfold Hid spots; rw [if_pos h8]
  have q1 : (s.size : Int) < 8 := by omega
  have d1 : (s.size : Int) - 8 < 0 := by omega
  clear hs h8
  go_enter Tryz.func174, Tryz.ntmps174
  go_wp2_with fail
  go_ret
  exact ⟨⟨_, rfl, by rw [HE.out]; exact Owns.nil _ _ _ _⟩, ⟨_, HB.out⟩, KeptBut.refl _ _⟩
 have HE : Hid (spots s = idxA s (s.size - 8) 5 (min (rdv (rest s (s.size - 8)) 4) s.size)) := by unfold Hid spots; rw [if_neg h8]
 have q1 : (8 : Int) ≤ (s.size : Int) := by omega
 have d1 : decide ((s.size : Int) - 8 < 0) = false := decide_eq_false (by omega)
 have e2 : ((s.size : Int) - 8).toNat = s.size - 8 := by omega
 have HRs : Hid ((s.extract (s.size - 8) s.size).size = 8) := by unfold Hid; rw [ByteArray.size_extract]; omega
 have c1 := fun wx => impl_readFixed (s.extract (s.size - 8) s.size) 4 wx (by rw [HRs.out]; unfold maxLen; omega) (by omega) (by omega) (by rw [HRs.out]; omega)
 have hlt := rdv_four_lt (s.extract (s.size - 8) s.size)
 have HRb : Hid (rdv (s.extract (s.size - 8) s.size) 4 = rdv (rest s (s.size - 8)) 4) := rfl
 clear hs h8
 have cg := goToV s p0 (rdv (s.extract (s.size - 8) s.size) 4) w g 231 HB.out HS.out (by omega)
 rw [← HRb.out] at HE
 have HP0 : Hid (min (rdv (s.extract (s.size - 8) s.size) 4) s.size ≤ s.size) := Nat.min_le_right _ _
 have HSP : Hid (spots s = idxA s (s.size - 8) 5 (min (rdv (s.extract (s.size - 8) s.size) 4) s.size)) := HE.out
 clear HE
 generalize min (rdv (s.extract (s.size - 8) s.size) 4) s.size = pb at *
 generalize rdv (s.extract (s.size - 8) s.size) 4 = rd at *
 have C1 : Hid (CurB (w.setCell ⟨g, 1, none⟩ (.int .i64 (pb : Int))) g s pb 231) := Blk.set HB.out 1 _
 have D1 : Hid (KeptBut g w (w.setCell ⟨g, 1, none⟩ (.int .i64 (pb : Int)))) := (KeptBut.refl g w).set 1 _
 go_enter Tryz.func174, Tryz.ntmps174
 go_wp2_with fail
 refine (c1 _).mono ?_
 rintro e w' ⟨rfl, rfl⟩
 go_wp2_with fail
 refine cg.mono ?_
 rintro e X1 ⟨⟨u, rfl⟩, rfl⟩
 go_wp2_with fail
 clear c1 cg m0 hlt
 go_loopw [6] (fun v6 wr => ∃ (P : List Spot) (p : Nat), P.length ≤ 5 ∧ p ≤ s.size ∧ Owns wr w.heap.size 127 5 v6 (spR P) ∧ CurB wr g s p 231 ∧ KeptBut g w wr ∧ Hid (P ++ idxA s (s.size - 8) (5 - P.length) p = spots s)) (fun v _ => left5 v)
 case atStart => exact ⟨[], pb, by simp, HP0.out, Owns.nil _ _ _ _, C1.out, D1.out, HSP.out.symm⟩
 case round =>
  obtain ⟨P, p, hP, hp, hO, hC, hk, HX⟩ := hrel
  have HO : Hid (Owns wr w.heap.size 127 5 u6 (spR P)) := hO
  have HC : Hid (CurB wr g s p 231) := hC
  have HKB : Hid (KeptBut g w wr) := hk
  have HPs : Hid (p ≤ s.size) := hp
  obtain ⟨A6, c6, e6, _⟩ := sp_look hO.lies
  subst e6
  have m1 : wr.cell? ⟨g, 1, none⟩ = some (.int .i64 (p : Int)) := Blk.cell hC 1 _ rfl
  clear hO hC hk hp
  generalize hm : P.length = m at *
  have HMm : Hid (P.length = m) := hm
  clear hm
  by_cases hpe : p < s.size - 8
  ·have q5 : (p : Int) < (s.size : Int) - 8 := by omega
   by_cases hm5 : m < 5
   ·have q6 : (m : Int) < 5 := by omega
    have q7 : decide ((m : Int) < 5) = true := decide_eq_true q6
    have cr := readSpotV s p g wr HC.out HS.out HPs.out
    have HX2 : Hid ((P ++ [spotA s p]) ++ idxA s (s.size - 8) (5 - (P ++ [spotA s p]).length) (spotP s p) = spots s) := by
     unfold Hid
     rw [← HX.out]
     have e5 : 5 - m = (5 - (m + 1)) + 1 := by omega
     rw [e5, idxA, if_pos hpe, List.length_append, HMm.out, List.append_assoc]
     rfl
    have HPl : Hid (spotP s p ≤ s.size) := spotP_le _ _
    have hLn : (P ++ [spotA s p]).length = m + 1 := by rw [List.length_append, HMm.out]; rfl
    have HLn : Hid ((P ++ [spotA s p]).length = m + 1) := hLn
    have HRw : Hid (spR (P ++ [spotA s p]) = spR P ++ [spC (spotA s p)]) := spR_append _ _
    unfold vSp at cr
    generalize spotA s p = x at *
    generalize spotP s p = p' at *
    clear hLn
    go_wp2_with fail
    refine (placeV wr g p m1).mono ?_
    rintro e w' ⟨rfl, rfl⟩
    clear m1
    go_wp2_with fail
    refine cr.mono ?_
    rintro e X2 ⟨rfl, hC2, hk2⟩
    have hOn : (Value.slice A6 m c6).ownBlock ≠ some g := fun e => by have := (HO.out.lt g e).1; have := HGL.out; omega
    have C2 : Hid (CurB X2 g s p' 231) := hC2
    have D2 : Hid (KeptBut g w X2) := HKB.out.trans hk2
    have O2 : Hid (Owns X2 w.heap.size 127 5 (.slice A6 m c6) (spR P)) := hk2.owns HO.out hOn
    have HOn : Hid ((Value.slice A6 m c6).ownBlock ≠ some g) := hOn
    have Z2 : w.heap.size ≤ X2.heap.size := D2.out.size
    have L2 : Hid ((spR P).length ≤ 2097152) := by unfold Hid; rw [spR_length, HMm.out]; omega
    clear hC2 hk2 cr hOn
    go_wp2_with (at_builtin; refine wpList_append_row (w := X2) rfl (.tmp 43) (.tmp 46) 125 127 (.agg #[.string ⟨#[]⟩, .int .i64 0, .int .i64 0, .int .i64 0, .int .i64 0]) 5 48 rfl Tryz.underlying125 Tryz.infoSp rfl (by omega) w.heap.size (.slice A6 m c6) (spR P) rfl O2.out (spC x) rfl (sp_one _) rfl L2.out (by omega) Z2 ?_; intro v2 w4 hO4 hb4 hk4 hw4; refine Shut.out ?_)
    unfold Shut
    have O4 : Hid (Owns w4 w.heap.size 127 5 v2 (spR (P ++ [x]))) := by unfold Hid; rw [HRw.out]; exact hO4
    have C4 : Hid (CurB w4 g s p' 231) := (hk4 g (Blk.lt C2.out) HOn.out).trans C2.out
    have D4 : Hid (KeptBut g w w4) := ⟨D2.out.1.trans (hb4.mono (by have := HGL.out; omega)), fun b hb hl => by
     rw [hk4 b (Nat.lt_of_lt_of_le hl D2.out.size) (fun e => by have := (O2.out.lt b e).1; omega)]
     exact D2.out.2 b hb hl⟩
    obtain ⟨A7, c7, e7, _⟩ := sp_look O4.out.lies
    rw [HLn.out] at e7
    subst e7
    clear hO4 hb4 hk4 hw4
    go_wp2_with fail
    go_roundw
    case rel => exact ⟨P ++ [x], p', by rw [HLn.out]; omega, HPl.out, O4.out, C4.out, D4.out, HX2.out⟩
    case measure => simp [left5]; omega
   ·have q6 : ¬ (m : Int) < 5 := by omega
    have q7 : decide ((m : Int) < 5) = false := decide_eq_false q6
    have HF : Hid (P = spots s) := by
     unfold Hid
     rw [← HX.out, show 5 - m = 0 by omega, idxA, List.append_nil]
    go_wp2_with fail
    refine (placeV wr g p m1).mono ?_
    rintro e w' ⟨rfl, rfl⟩
    go_wp2_with fail
    go_ret
    exact ⟨⟨_, rfl, by rw [← HF.out]; exact HO.out⟩, ⟨_, HC.out⟩, HKB.out⟩
  ·have q5 : ¬ (p : Int) < (s.size : Int) - 8 := by omega
   have q7 : decide ((p : Int) < (s.size : Int) - 8) = false := decide_eq_false q5
   have HF : Hid (P = spots s) := by
    unfold Hid
    rw [← HX.out]
    generalize 5 - m = f
    cases f with
    | zero => rw [idxA, List.append_nil]
    | succ f => rw [idxA, if_neg hpe, List.append_nil]
   go_wp2_with fail
   refine (placeV wr g p m1).mono ?_
   rintro e w' ⟨rfl, rfl⟩
   go_wp2_with fail
   go_ret
   exact ⟨⟨_, rfl, by rw [← HF.out]; exact HO.out⟩, ⟨_, HC.out⟩, HKB.out⟩
set_option maxHeartbeats 1000000 in
theorem readerOfV (s : ByteArray) (w : World) : Calls Tryz.prog 173 #[.string s] w fun e w' => e = .returned (.pointer (some ⟨w.heap.size, 0, none⟩)) ∧ w' = w.alloc (.cells #[.string s, .int .i64 0] 231) := by
 go_enter Tryz.func173, Tryz.ntmps173
 go_wp2
 go_ret
 exact ⟨rfl, rfl⟩
end Go.Proofs.YthhamlahdjokkaaGreatDoor
namespace Go.Proofs.YthhamlahdjokkaaGreatDoor
open Go.ChangeShapes Go.WideShapes Go.ChangeAt Go.RowKit Go.PlainAid
set_option linter.unusedVariables false
set_option maxHeartbeats 4000000 in
theorem writeBlockV (t : ByteArray) (x : Ser) (v : Value) (w : World) (g B : Nat) (hb : CurB w g t t.size 123) (hv : Lies w B 2 v (ptR x.pts)) (h1 : 1 ≤ x.pts.length) (hok : POk x.pts) (hB : B ≤ g) (ht : t.size ≤ 900000) (hst : SumTab w) : Calls Tryz.prog 82 #[.pointer (some ⟨g, 0, none⟩), vSr x.key v] w fun e w' => e = .returned (vSp ⟨x.key, t.size, (showB x.pts).size, (tAt x.pts 0).toNat, (tAt x.pts (x.pts.length - 1)).toNat⟩) ∧ CurB w' g (t ++ showB x.pts) (t ++ showB x.pts).size 123 ∧ KeptBut g w w' := by
 obtain ⟨A, cap, rfl, hl⟩ := pt_look hv
 obtain ⟨gp, offp, rfl, hgp, hf0, _⟩ := hl 0 (by omega)
 obtain ⟨gp', offp', e', _, hf1, _⟩ := hl (x.pts.length - 1) (by omega)
 cases e'
 have ht0 := (hok.2 0 (by omega)).1.1
 have ht1 := (hok.2 (x.pts.length - 1) (by omega)).1.1
 have hn60 := hok.1
 rw [show offp + 0 * 2 = offp by omega] at hf0
 unfold vSr vSp
 have HV : Hid (Lies w B 2 (.slice (some ⟨gp, offp, none⟩) x.pts.length cap) (ptR x.pts)) := hv
 have E0 : Hid (((tAt x.pts 0).toNat : Int) = tAt x.pts 0) := by unfold Hid; omega
 have E1 : Hid (((tAt x.pts (x.pts.length - 1)).toNat : Int) = tAt x.pts (x.pts.length - 1)) := by unfold Hid; omega
 simp only
 rw [E0.out, E1.out]
 change w.cell? ⟨gp, offp, none⟩ = some (.int .i64 (tAt x.pts 0)) at hf0
 change w.cell? ⟨gp, offp + (x.pts.length - 1) * 2, none⟩ = some (.int .i64 (tAt x.pts (x.pts.length - 1))) at hf1
 clear E0 E1 ht0 ht1 hl hok
 generalize tAt x.pts 0 = t0 at *
 generalize tAt x.pts (x.pts.length - 1) = t1 at *
 obtain ⟨xk, xp⟩ := x
 simp only at *
 have sz0 := showB_size xp
 have HBw : Hid (CurB w g t t.size 123) := hb
 have HB : Hid (B ≤ g ∧ g < w.heap.size ∧ gp < B) := ⟨hB, Blk.lt hb, hgp⟩
 have HF0 : Hid (w.cell? ⟨gp, offp, none⟩ = some (.int .i64 t0)) := hf0
 have HF1 : Hid (w.cell? ⟨gp, offp + (xp.length - 1) * 2, none⟩ = some (.int .i64 t1)) := hf1
 have ST : Hid (SumTab w) := hst
 clear hb hv hB hgp hf0 hf1 hst
 generalize hn : xp.length = n at *
 have HNn : Hid (xp.length = n) := hn
 clear hn
 have b0 := (Blk.new w #[.string xk, .slice (some ⟨gp, offp, none⟩) n cap] 101).alloc (.cells #[.string ⟨#[]⟩, .int .i64 0, .int .i64 0, .int .i64 0, .int .i64 0] 127)
 have r0 := Blk.new (w.alloc (.cells #[.string xk, .slice (some ⟨gp, offp, none⟩) n cap] 101)) #[.string ⟨#[]⟩, .int .i64 0, .int .i64 0, .int .i64 0, .int .i64 0] 127
 have c0 : CurB ((w.alloc (.cells #[.string xk, .slice (some ⟨gp, offp, none⟩) n cap] 101)).alloc (.cells #[.string ⟨#[]⟩, .int .i64 0, .int .i64 0, .int .i64 0, .int .i64 0] 127)) g t t.size 123 := Blk.alloc (Blk.alloc HBw.out _) _
 rw [World.size_alloc] at r0
 have d0 : Below w.heap.size w ((w.alloc (.cells #[.string xk, .slice (some ⟨gp, offp, none⟩) n cap] 101)).alloc (.cells #[.string ⟨#[]⟩, .int .i64 0, .int .i64 0, .int .i64 0, .int .i64 0] 127)) := below_alloc2 _ _ _
 have m1 := Blk.cell b0 1 (.slice (some ⟨gp, offp, none⟩) n cap) rfl
 have m9 := Blk.cell c0 1 (.int .i64 (t.size : Int)) rfl
 go_enter Tryz.func82, Tryz.ntmps82
 go_wp2_with fail
 generalize hW0 : (w.alloc (.cells #[.string xk, .slice (some ⟨gp, offp, none⟩) n cap] 101)).alloc (.cells #[.string ⟨#[]⟩, .int .i64 0, .int .i64 0, .int .i64 0, .int .i64 0] 127) = W0 at *
 generalize hN : w.heap.size = N at *
 refine (placeV W0 g t.size m9).mono ?_
 rintro e w' ⟨rfl, rfl⟩
 have D0 : Hid (Below N w W0) := d0
 have L0 : Hid (Lies W0 B 2 (.slice (some ⟨gp, offp, none⟩) n cap) (ptR xp)) := HV.out.on (d0.mono (by have := HB.out; omega))
 go_wp2_with fail
 refine (implShowBlock xp (.slice (some ⟨gp, offp, none⟩) n cap) W0 B L0.out (by have := HNn.out; omega) (by have := D0.out.size; have := HB.out; omega) (ST.out.on (by rw [hN]; exact D0.out))).mono ?_
 rintro e X1 ⟨rfl, hb1⟩
 have b1 := b0.on hb1 b0.lt
 have r1 := r0.on hb1 r0.lt
 have C1 : Hid (CurB X1 g t t.size 123) := Blk.on c0 hb1 (Blk.lt c0)
 have D1 : Hid (Below N w X1) := D0.out.trans (hb1.mono (by rw [← hN]; exact D0.out.size))
 clear b0 r0 c0 hb1 m1 m9 d0 L0 D0
 have q0 : (t.size : Int) ≤ 900000 := by omega
 go_wp2_with fail
 refine (writeV t (showB xp) X1 g t.size C1.out (by omega)).mono ?_
 rintro e X2 ⟨⟨uu, rfl⟩, hC, hk⟩
 have hNg : N ≠ g := by have := HB.out; omega
 have hNg' : N + 1 ≠ g := by have := HB.out; omega
 have b2 := hk.blk b1 hNg
 have r2 := hk.blk r1 hNg'
 have C2 : Hid (CurB X2 g (t ++ showB xp) (t ++ showB xp).size 123) := hC
 have K2 : Hid (KeptBut g w X2) := (KeptBut.of (by rw [hN]; exact D1.out) (by rw [hN]; exact HB.out.2.1)).trans hk
 have F0 : Hid (X2.cell? ⟨gp, offp, none⟩ = some (.int .i64 t0)) := (K2.out.1.cell (p := ⟨gp, offp, none⟩) (by have := HB.out; simp only; omega)).trans HF0.out
 have F1 : Hid (X2.cell? ⟨gp, offp + (n - 1) * 2, none⟩ = some (.int .i64 t1)) := (K2.out.1.cell (p := ⟨gp, offp + (n - 1) * 2, none⟩) (by have := HB.out; simp only; omega)).trans HF1.out
 clear hC hk b1 r1 C1 D1
 have hsz : (t ++ showB xp).size = t.size + (showB xp).size := ByteArray.size_append
 generalize htz : (t ++ showB xp).size = tz at *
 generalize hsz' : (showB xp).size = sz at *
 have HTZ : Hid ((t ++ showB xp).size = tz ∧ (showB xp).size = sz) := ⟨htz, hsz'⟩
 have S0 : Hid (X2.drew.cell? ⟨N, 0, none⟩ = some (.string xk) ∧ X2.drew.cell? ⟨N, 1, none⟩ = some (.slice (some ⟨gp, offp, none⟩) n cap) ∧ X2.drew.cell? ⟨gp, offp, none⟩ = some (.int .i64 t0) ∧ X2.drew.cell? ⟨gp, offp + (n - 1) * 2, none⟩ = some (.int .i64 t1) ∧ X2.drew.cell? ⟨g, 1, none⟩ = some (.int .i64 (tz : Int))) := ⟨b2.cell 0 _ rfl, b2.cell 1 _ rfl, F0.out, F1.out, Blk.cell C2.out 1 _ rfl⟩
 have q3 : (1 : Int) ≤ (n : Int) := by omega
 have e3 : ((n : Int) - 1).toNat = n - 1 := by omega
 have e9 : IntKind.i64.wrap ((n : Int) - 1) = (n : Int) - 1 := by rw [IntKind.wrap_i64]; omega
 have e8 : IntKind.i64.wrap ((tz : Int) - (t.size : Int)) = (sz : Int) := by rw [IntKind.wrap_i64]; omega
 have e5 : (n : Int) - 1 < (n : Int) := by omega
 have q6 : (0 : Int) < (n : Int) := by omega
 have q7 : 0 < n := by omega
 have HR2 : Hid (Blk X2.drew (N + 1) #[.string ⟨#[]⟩, .int .i64 0, .int .i64 0, .int .i64 0, .int .i64 0] 127) := r2
 have C2d : Hid (CurB X2.drew g (t ++ showB xp) tz 123) := C2.out
 have K2d : Hid (KeptBut g w X2.drew) := K2.out.drew
 have HBn : Hid (N + 1 ≠ g ∧ N = w.heap.size) := ⟨hNg', hN.symm⟩
 clear b2 r2 F0 F1 hNg hNg' hsz htz
 go_wp2_with fail
 refine wp_region_until (fun w' => w'.cell? ⟨N, 0, none⟩ = some (.string xk) ∧ w'.cell? ⟨N, 1, none⟩ = some (.slice (some ⟨gp, offp, none⟩) n cap) ∧ w'.cell? ⟨gp, offp, none⟩ = some (.int .i64 t0) ∧ w'.cell? ⟨gp, offp + (n - 1) * 2, none⟩ = some (.int .i64 t1) ∧ w'.cell? ⟨g, 1, none⟩ = some (.int .i64 (tz : Int))) (fun _ => false) 25 (by rfl) (by kernel_rfl) ?_
 refine tKf 0 S0.out ?_
 refine tKf 1 S0.out ?_
 refine tKf 2 S0.out ?_
 refine tKf 3 S0.out ?_
 refine tKf 4 S0.out ?_
 refine tKf 5 S0.out ?_
 refine tKf 7 S0.out ?_
 refine tKf 9 S0.out ?_
 refine tKf 10 S0.out ?_
 refine tKf 11 S0.out ?_
 refine tKf 12 S0.out ?_
 refine tKf 13 S0.out ?_
 refine tKf 14 S0.out ?_
 refine tKf 15 S0.out ?_
 refine tKf 16 S0.out ?_
 refine tKf 17 S0.out ?_
 refine tKf 18 S0.out ?_
 refine tKe 19 (v := .int .i64 ((n : Int) - 1)) S0.out ?_ ?_
 ·intro w hSw
  try dsimp only at hSw
  go_simp
  try rw [e9]
 try simp only [Act.put, zQ1, zQ2, zQ3]
 refine tKf 20 S0.out ?_
 refine tKf 21 S0.out ?_
 refine tKf 22 S0.out ?_
 refine uNe 6 (fun K hK => ?_)
 go_simp
 refine (placeV _ g tz S0.out.2.2.2.2).mono ?_
 rintro e w' ⟨rfl, rfl⟩
 go_wp2_with fail
 refine hK.out _ _ (fun _ h => h) ?_
 clear hK K
 try simp only [Act.put, zQ1, zQ2, zQ3]
 refine tKe 8 (v := .int .i64 (sz : Int)) S0.out ?_ ?_
 ·intro w hSw
  try dsimp only at hSw
  go_simp
  try rw [e8]
 try simp only [Act.put, zQ1, zQ2, zQ3]
 refine pUf 23 ?_
 have p0 : Blk X2 (N + 1) #[.string ⟨#[]⟩, .int .i64 0, .int .i64 0, .int .i64 0, .int .i64 0] 127 := HR2.out
 have g0 : X2.cell? ⟨N + 1, 0, none⟩ = some (.string ⟨#[]⟩) := p0.cell 0 _ rfl
 have h0 := p0.free 0
 have g1 : X2.cell? ⟨N + 1, 1, none⟩ = some (.int .i64 0) := p0.cell 1 _ rfl
 have h1 := p0.free 1
 have g2 : X2.cell? ⟨N + 1, 2, none⟩ = some (.int .i64 0) := p0.cell 2 _ rfl
 have h2 := p0.free 2
 have g3 : X2.cell? ⟨N + 1, 3, none⟩ = some (.int .i64 0) := p0.cell 3 _ rfl
 have h3 := p0.free 3
 have g4 : X2.cell? ⟨N + 1, 4, none⟩ = some (.int .i64 0) := p0.cell 4 _ rfl
 have h4 := p0.free 4
 have p1 := p0.set 0 (.string xk)
 have p2 := p1.set 1 (.int .i64 (t.size : Int))
 have p3 := p2.set 2 (.int .i64 (sz : Int))
 have p4 := p3.set 3 (.int .i64 t0)
 have p5 := p4.set 4 (.int .i64 t1)
 generalize hW5 : (((((X2.setCell ⟨N + 1, 0, none⟩ (.string xk)).setCell ⟨N + 1, 1, none⟩ (.int .i64 (t.size : Int))).setCell ⟨N + 1, 2, none⟩ (.int .i64 (sz : Int))).setCell ⟨N + 1, 3, none⟩ (.int .i64 t0)).setCell ⟨N + 1, 4, none⟩ (.int .i64 t1)) = W5 at p5
 have P5 : Hid (Blk W5.drew (N + 1) #[.string xk, .int .i64 (t.size : Int), .int .i64 (sz : Int), .int .i64 t0, .int .i64 t1] 127) := p5
 have PE : Hid (CurB W5.drew g (t ++ showB xp) tz 123) := by
  rw [← hW5]
  exact ((((Blk.other C2.out (Ne.symm HBn.out.1) _ _).other (Ne.symm HBn.out.1) _ _).other (Ne.symm HBn.out.1) _ _).other (Ne.symm HBn.out.1) _ _).other (Ne.symm HBn.out.1) _ _
 have KE : Hid (KeptBut g w W5.drew) := by
  rw [← hW5]
  have hk : w.heap.size ≤ N + 1 := by have := HBn.out.2; omega
  have hg : g ≤ N + 1 := by have := HB.out; omega
  exact (((((K2.out.setNew hk hg _ _).setNew hk hg _ _).setNew hk hg _ _).setNew hk hg _ _).setNew hk hg _ _).drew
 have SE : Hid (W5.drew.cell? ⟨N, 0, none⟩ = some (.string xk) ∧ W5.drew.cell? ⟨N, 1, none⟩ = some (.slice (some ⟨gp, offp, none⟩) n cap) ∧ W5.drew.cell? ⟨gp, offp, none⟩ = some (.int .i64 t0) ∧ W5.drew.cell? ⟨gp, offp + (n - 1) * 2, none⟩ = some (.int .i64 t1) ∧ W5.drew.cell? ⟨g, 1, none⟩ = some (.int .i64 (tz : Int))) := by
  have e1 : ∀ c o, c ≠ N + 1 → W5.cell? ⟨c, o, none⟩ = X2.cell? ⟨c, o, none⟩ := fun c o hc => by
   rw [← hW5]
   exact World.cell?_of_block (by rw [Below.heap_setCell _ _ _ _ (show c ≠ N + 1 from hc), Below.heap_setCell _ _ _ _ (show c ≠ N + 1 from hc), Below.heap_setCell _ _ _ _ (show c ≠ N + 1 from hc), Below.heap_setCell _ _ _ _ (show c ≠ N + 1 from hc), Below.heap_setCell _ _ _ _ (show c ≠ N + 1 from hc)])
  have hB := HB.out
  have hBn := HBn.out
  exact ⟨(e1 _ _ (by omega)).trans S0.out.1, (e1 _ _ (by omega)).trans S0.out.2.1, (e1 _ _ (by omega)).trans S0.out.2.2.1, (e1 _ _ (by omega)).trans S0.out.2.2.2.1, (e1 _ _ (by omega)).trans S0.out.2.2.2.2⟩
 clear p0 p1 p2 p3 p4 p5
 refine uNe 24 (fun K hK => ?_)
 go_simp
 refine hK.out _ _ (fun _ _ => SE.out) ?_
 clear hK K
 try simp only [Act.put, zQ1, zQ2, zQ3]
 have k0 := P5.out.cell 0 (.string xk) rfl
 have k1 := P5.out.cell 1 (.int .i64 (t.size : Int)) rfl
 have k2 := P5.out.cell 2 (.int .i64 (sz : Int)) rfl
 have k3 := P5.out.cell 3 (.int .i64 t0) rfl
 have k4 := P5.out.cell 4 (.int .i64 t1) rfl
 refine until_done (by kernel_rfl) ?_ _
 go_wp2_with fail
 exact bodyPost_ret (v := .agg #[.string xk, .int .i64 (t.size : Int), .int .i64 (sz : Int), .int .i64 t0, .int .i64 t1]) (by simp [results, go_sem, k0, k1, k2, k3, k4]) rfl ⟨by rw [HTZ.out.2], by rw [HTZ.out.1]; exact PE.out, KE.out⟩
end Go.Proofs.YthhamlahdjokkaaGreatDoor
namespace Go.Proofs.YthhamlahdjokkaaGreatDoor
open Go.ChangeShapes Go.WideShapes Go.ChangeAt Go.RowKit Go.PlainAid
set_option linter.unusedVariables false
def spT (x : Spot) : List UInt8 := vF 6 x.key.size ++ (bl x.key ++ (vF 6 x.at' ++ (vF 6 x.size ++ (vF 6 x.first ++ vF 6 x.last))))
theorem spT_is (x : Spot) : txt (vF 6 x.key.size) ++ x.key ++ txt (vF 6 x.at') ++ txt (vF 6 x.size) ++ txt (vF 6 x.first) ++ txt (vF 6 x.last) = txt (spT x) := by
 conv => lhs; rw [← txt_bl x.key, txt_bl x.key]
 rw [show x.key = txt (bl x.key) from (txt_bl _).symm]
 simp only [txt_cat]
 unfold spT
 rw [txt_bl]
 simp only [List.append_assoc]
set_option maxHeartbeats 4000000 in
theorem writeSpotV (t : ByteArray) (x : Spot) (w : World) (g p : Nat) (hb : CurB w g t p 123) (hx : SpFits x) (hs : t.size + x.key.size ≤ 900000) : Calls Tryz.prog 84 #[.pointer (some ⟨g, 0, none⟩), vSp x] w fun e w' => (∃ u, e = .returned u) ∧ CurB w' g (t ++ txt (spT x)) (t ++ txt (spT x)).size 123 ∧ KeptBut g w w' := by
 have HT : Hid (txt (vF 6 x.key.size) ++ x.key ++ txt (vF 6 x.at') ++ txt (vF 6 x.size) ++ txt (vF 6 x.first) ++ txt (vF 6 x.last) = txt (spT x)) := spT_is x
 have hz : ∀ n, (txt (vF 6 n)).size ≤ 7 := fun n => by rw [txt_size]; exact vF_length 6 n
 have z1 := hz x.key.size
 have z2 := hz x.at'
 have z3 := hz x.size
 have z4 := hz x.first
 have z5 := hz x.last
 have c1 := fun wx => impl_var x.key.size wx (by have := hx.1; omega)
 have c2 := fun wx => impl_var x.at' wx hx.2.1
 have c3 := fun wx => impl_var x.size wx hx.2.2.1
 have c4 := fun wx => impl_var x.first wx hx.2.2.2.1
 have c5 := fun wx => impl_var x.last wx hx.2.2.2.2
 have HBw : Hid (CurB w g t p 123) := hb
 clear hz hx hb
 generalize hS : spT x = sp at *
 clear hS
 obtain ⟨xk, xa, xz, xf, xl⟩ := x
 unfold vSp
 simp only at *
 generalize hw1 : txt (vF 6 xk.size) = y1 at *
 generalize hw2 : txt (vF 6 xa) = y2 at *
 generalize hw3 : txt (vF 6 xz) = y3 at *
 generalize hw4 : txt (vF 6 xf) = y4 at *
 generalize hw5 : txt (vF 6 xl) = y5 at *
 clear hw1 hw2 hw3 hw4 hw5
 have q0 : (t.size : Int) + (xk.size : Int) ≤ 900000 := by omega
 have a1 : ((y1 ++ xk).size : Int) = (y1.size : Int) + (xk.size : Int) := by rw [ByteArray.size_append]; omega
 have a2 : ((y1 ++ xk ++ y2).size : Int) = (y1.size : Int) + (xk.size : Int) + (y2.size : Int) := by rw [ByteArray.size_append, ByteArray.size_append]; omega
 have a3 : ((y1 ++ xk ++ y2 ++ y3).size : Int) = (y1.size : Int) + (xk.size : Int) + (y2.size : Int) + (y3.size : Int) := by rw [ByteArray.size_append, ByteArray.size_append, ByteArray.size_append]; omega
 have a4 : ((y1 ++ xk ++ y2 ++ y3 ++ y4).size : Int) = (y1.size : Int) + (xk.size : Int) + (y2.size : Int) + (y3.size : Int) + (y4.size : Int) := by rw [ByteArray.size_append, ByteArray.size_append, ByteArray.size_append, ByteArray.size_append]; omega
 have a5 : ((y1 ++ xk ++ y2 ++ y3 ++ y4 ++ y5).size : Int) = (y1.size : Int) + (xk.size : Int) + (y2.size : Int) + (y3.size : Int) + (y4.size : Int) + (y5.size : Int) := by rw [ByteArray.size_append, ByteArray.size_append, ByteArray.size_append, ByteArray.size_append, ByteArray.size_append]; omega
 have b1 : (y1.size : Int) + (xk.size : Int) ≤ 900007 := by omega
 have b2 : (y1.size : Int) + (xk.size : Int) + (y2.size : Int) ≤ 900014 := by omega
 have b3 : (y1.size : Int) + (xk.size : Int) + (y2.size : Int) + (y3.size : Int) ≤ 900021 := by omega
 have b4 : (y1.size : Int) + (xk.size : Int) + (y2.size : Int) + (y3.size : Int) + (y4.size : Int) ≤ 900028 := by omega
 have b5 : (y1.size : Int) + (xk.size : Int) + (y2.size : Int) + (y3.size : Int) + (y4.size : Int) + (y5.size : Int) ≤ 900035 := by omega
 have n1 : ¬ 9223372036854775807 < y1.size + xk.size := by omega
 have n2 : ¬ 9223372036854775807 < y1.size + xk.size + y2.size := by omega
 have n3 : ¬ 9223372036854775807 < y1.size + xk.size + y2.size + y3.size := by omega
 have n4 : ¬ 9223372036854775807 < y1.size + xk.size + y2.size + y3.size + y4.size := by omega
 have n5 : ¬ 9223372036854775807 < y1.size + xk.size + y2.size + y3.size + y4.size + y5.size := by omega
 have HZ : Hid (t.size + (y1 ++ xk ++ y2 ++ y3 ++ y4 ++ y5).size ≤ 1000000) := by unfold Hid; omega
 have K0 : Hid (Blk (w.alloc (.cells #[.string xk, .int .i64 (xa : Int), .int .i64 (xz : Int), .int .i64 (xf : Int), .int .i64 (xl : Int)] 127)).drew w.heap.size #[.string xk, .int .i64 (xa : Int), .int .i64 (xz : Int), .int .i64 (xf : Int), .int .i64 (xl : Int)] 127) := Blk.new w _ _
 have G0 : Hid (CurB (w.alloc (.cells #[.string xk, .int .i64 (xa : Int), .int .i64 (xz : Int), .int .i64 (xf : Int), .int .i64 (xl : Int)] 127)).drew g t p 123) := Blk.alloc HBw.out _
 have D0 : Hid (KeptBut g w (w.alloc (.cells #[.string xk, .int .i64 (xa : Int), .int .i64 (xz : Int), .int .i64 (xf : Int), .int .i64 (xl : Int)] 127)).drew) := (KeptBut.of ((Below.refl _ w).alloc (Nat.le_refl _) _) (Blk.lt HBw.out)).drew
 have S0 : Hid ((w.alloc (.cells #[.string xk, .int .i64 (xa : Int), .int .i64 (xz : Int), .int .i64 (xf : Int), .int .i64 (xl : Int)] 127)).drew.cell? ⟨w.heap.size, 0, none⟩ = some (.string xk) ∧ (w.alloc (.cells #[.string xk, .int .i64 (xa : Int), .int .i64 (xz : Int), .int .i64 (xf : Int), .int .i64 (xl : Int)] 127)).drew.cell? ⟨w.heap.size, 1, none⟩ = some (.int .i64 (xa : Int)) ∧ (w.alloc (.cells #[.string xk, .int .i64 (xa : Int), .int .i64 (xz : Int), .int .i64 (xf : Int), .int .i64 (xl : Int)] 127)).drew.cell? ⟨w.heap.size, 2, none⟩ = some (.int .i64 (xz : Int)) ∧ (w.alloc (.cells #[.string xk, .int .i64 (xa : Int), .int .i64 (xz : Int), .int .i64 (xf : Int), .int .i64 (xl : Int)] 127)).drew.cell? ⟨w.heap.size, 3, none⟩ = some (.int .i64 (xf : Int)) ∧ (w.alloc (.cells #[.string xk, .int .i64 (xa : Int), .int .i64 (xz : Int), .int .i64 (xf : Int), .int .i64 (xl : Int)] 127)).drew.cell? ⟨w.heap.size, 4, none⟩ = some (.int .i64 (xl : Int))) := ⟨K0.out.cell 0 _ rfl, K0.out.cell 1 _ rfl, K0.out.cell 2 _ rfl, K0.out.cell 3 _ rfl, K0.out.cell 4 _ rfl⟩
 go_enter Tryz.func84, Tryz.ntmps84
 go_wp2_with fail
 refine wp_region_until (fun w' => w'.cell? ⟨w.heap.size, 0, none⟩ = some (.string xk) ∧ w'.cell? ⟨w.heap.size, 1, none⟩ = some (.int .i64 (xa : Int)) ∧ w'.cell? ⟨w.heap.size, 2, none⟩ = some (.int .i64 (xz : Int)) ∧ w'.cell? ⟨w.heap.size, 3, none⟩ = some (.int .i64 (xf : Int)) ∧ w'.cell? ⟨w.heap.size, 4, none⟩ = some (.int .i64 (xl : Int))) (fun _ => false) 25 (by rfl) (by kernel_rfl) ?_
 refine tKf 0 S0.out ?_
 refine tKf 1 S0.out ?_
 refine tKf 2 S0.out ?_
 refine tKf 3 S0.out ?_
 refine tKf 5 S0.out ?_
 refine tKf 6 S0.out ?_
 refine tKf 8 S0.out ?_
 refine tKf 9 S0.out ?_
 refine tKf 12 S0.out ?_
 refine tKf 13 S0.out ?_
 refine tKf 16 S0.out ?_
 refine tKf 17 S0.out ?_
 refine tKf 20 S0.out ?_
 refine tKf 21 S0.out ?_
 refine uNe 4 (fun K hK => ?_)
 go_simp
 refine (c1 _).mono ?_
 rintro e X1 ⟨rfl, hb1⟩
 have K1 : Hid (Blk X1 w.heap.size #[.string xk, .int .i64 (xa : Int), .int .i64 (xz : Int), .int .i64 (xf : Int), .int .i64 (xl : Int)] 127) := K0.out.on hb1 K0.out.lt
 have G1 : Hid (CurB X1 g t p 123) := Blk.on G0.out hb1 (Blk.lt G0.out)
 have D1 : Hid (KeptBut g w X1) := D0.out.trans (KeptBut.of hb1 (Blk.lt G0.out))
 clear hb1
 go_wp2_with fail
 refine hK.out _ _ (fun _ _ => ⟨K1.out.cell 0 _ rfl, K1.out.cell 1 _ rfl, K1.out.cell 2 _ rfl, K1.out.cell 3 _ rfl, K1.out.cell 4 _ rfl⟩) ?_
 clear hK K
 try simp only [Act.put, zQ1, zQ2, zQ3]
 refine pUf 7 ?_
 refine uNe 10 (fun K hK => ?_)
 go_simp
 refine (c2 _).mono ?_
 rintro e X2 ⟨rfl, hb2⟩
 have K2 : Hid (Blk X2 w.heap.size #[.string xk, .int .i64 (xa : Int), .int .i64 (xz : Int), .int .i64 (xf : Int), .int .i64 (xl : Int)] 127) := K1.out.on hb2 K1.out.lt
 have G2 : Hid (CurB X2 g t p 123) := Blk.on G1.out hb2 (Blk.lt G1.out)
 have D2 : Hid (KeptBut g w X2) := D1.out.trans (KeptBut.of hb2 (Blk.lt G1.out))
 clear hb2
 go_wp2_with fail
 refine hK.out _ _ (fun _ _ => ⟨K2.out.cell 0 _ rfl, K2.out.cell 1 _ rfl, K2.out.cell 2 _ rfl, K2.out.cell 3 _ rfl, K2.out.cell 4 _ rfl⟩) ?_
 clear hK K
 try simp only [Act.put, zQ1, zQ2, zQ3]
 refine pUf 11 ?_
 refine uNe 14 (fun K hK => ?_)
 go_simp
 refine (c3 _).mono ?_
 rintro e X3 ⟨rfl, hb3⟩
 have K3 : Hid (Blk X3 w.heap.size #[.string xk, .int .i64 (xa : Int), .int .i64 (xz : Int), .int .i64 (xf : Int), .int .i64 (xl : Int)] 127) := K2.out.on hb3 K2.out.lt
 have G3 : Hid (CurB X3 g t p 123) := Blk.on G2.out hb3 (Blk.lt G2.out)
 have D3 : Hid (KeptBut g w X3) := D2.out.trans (KeptBut.of hb3 (Blk.lt G2.out))
 clear hb3
 go_wp2_with fail
 refine hK.out _ _ (fun _ _ => ⟨K3.out.cell 0 _ rfl, K3.out.cell 1 _ rfl, K3.out.cell 2 _ rfl, K3.out.cell 3 _ rfl, K3.out.cell 4 _ rfl⟩) ?_
 clear hK K
 try simp only [Act.put, zQ1, zQ2, zQ3]
 refine pUf 15 ?_
 refine uNe 18 (fun K hK => ?_)
 go_simp
 refine (c4 _).mono ?_
 rintro e X4 ⟨rfl, hb4⟩
 have K4 : Hid (Blk X4 w.heap.size #[.string xk, .int .i64 (xa : Int), .int .i64 (xz : Int), .int .i64 (xf : Int), .int .i64 (xl : Int)] 127) := K3.out.on hb4 K3.out.lt
 have G4 : Hid (CurB X4 g t p 123) := Blk.on G3.out hb4 (Blk.lt G3.out)
 have D4 : Hid (KeptBut g w X4) := D3.out.trans (KeptBut.of hb4 (Blk.lt G3.out))
 clear hb4
 go_wp2_with fail
 refine hK.out _ _ (fun _ _ => ⟨K4.out.cell 0 _ rfl, K4.out.cell 1 _ rfl, K4.out.cell 2 _ rfl, K4.out.cell 3 _ rfl, K4.out.cell 4 _ rfl⟩) ?_
 clear hK K
 try simp only [Act.put, zQ1, zQ2, zQ3]
 refine pUf 19 ?_
 refine uNe 22 (fun K hK => ?_)
 go_simp
 refine (c5 _).mono ?_
 rintro e X5 ⟨rfl, hb5⟩
 have K5 : Hid (Blk X5 w.heap.size #[.string xk, .int .i64 (xa : Int), .int .i64 (xz : Int), .int .i64 (xf : Int), .int .i64 (xl : Int)] 127) := K4.out.on hb5 K4.out.lt
 have G5 : Hid (CurB X5 g t p 123) := Blk.on G4.out hb5 (Blk.lt G4.out)
 have D5 : Hid (KeptBut g w X5) := D4.out.trans (KeptBut.of hb5 (Blk.lt G4.out))
 clear hb5
 go_wp2_with fail
 refine hK.out _ _ (fun _ _ => ⟨K5.out.cell 0 _ rfl, K5.out.cell 1 _ rfl, K5.out.cell 2 _ rfl, K5.out.cell 3 _ rfl, K5.out.cell 4 _ rfl⟩) ?_
 clear hK K
 try simp only [Act.put, zQ1, zQ2, zQ3]
 refine pUf 23 ?_
 refine uNe 24 (fun K hK => ?_)
 go_simp
 refine (writeV t (y1 ++ xk ++ y2 ++ y3 ++ y4 ++ y5) _ g p G5.out HZ.out).mono ?_
 rintro e X6 ⟨⟨u, rfl⟩, hC, hk⟩
 rw [HT.out] at hC
 have K6 : Hid (Blk X6 w.heap.size #[.string xk, .int .i64 (xa : Int), .int .i64 (xz : Int), .int .i64 (xf : Int), .int .i64 (xl : Int)] 127) := hk.blk K5.out (by have := Blk.lt HBw.out; omega)
 have D6 : Hid (KeptBut g w X6) := D5.out.trans hk
 have C6 : Hid (CurB X6 g (t ++ txt sp) (t ++ txt sp).size 123) := hC
 clear hk hC
 go_wp2_with fail
 refine hK.out _ _ (fun _ _ => ⟨K6.out.cell 0 _ rfl, K6.out.cell 1 _ rfl, K6.out.cell 2 _ rfl, K6.out.cell 3 _ rfl, K6.out.cell 4 _ rfl⟩) ?_
 clear hK K
 try simp only [Act.put, zQ1, zQ2, zQ3]
 refine until_done (by kernel_rfl) ?_ _
 go_wp2_with fail
 exact bodyPost_end (v := .tuple #[]) (by simp [results, go_sem]) rfl ⟨⟨_, rfl⟩, C6.out, D6.out⟩
end Go.Proofs.YthhamlahdjokkaaGreatDoor
