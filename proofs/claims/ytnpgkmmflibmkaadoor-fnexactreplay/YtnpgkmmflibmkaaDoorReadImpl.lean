/-
  Contracts of impl.readRecord.
-/
import Derived.Test.YtnpgkmmflibmkaaDoorRows
import Derived.Test.YtnpgkmmflibmkaaDoorRcOf
import Derived.Test.YtnpgkmmflibmkaaDoorNum2
import Derived.Test.YtnpgkmmflibmkaaDoorClone
import Derived.LoopN
import Derived.Handy
namespace Go.Proofs.YtnpgkmmflibmkaaDoor
open Go.ChangeShapes Go.WideShapes Go.ChangeAt Go.RowKit Go.PlainAid
set_option linter.unusedVariables false

theorem irv_yes (s : ByteArray) (k : Nat) (hs : s.size ≤ 1048576) (h : FindV s k) (w : World) : Calls Tryd.prog 28 #[.string s] w fun e w' => e = .returned (.tuple #[.int .i64 (vvS s 0 k : Int), .int .i64 (k : Int)]) ∧ w = w' := by
  refine (impl_readVar s w hs).mono ?_
  rintro e w' ⟨⟨k', hk', rfl⟩ | ⟨hn, rfl⟩, rfl⟩
  · obtain rfl := FindV.one h hk'
    exact ⟨rfl, rfl⟩
  · exact absurd h (hn k)
theorem irv_no (s : ByteArray) (hs : s.size ≤ 1048576) (h : ∀ k, ¬ FindV s k) (w : World) : Calls Tryd.prog 28 #[.string s] w fun e w' => e = .returned (.tuple #[.int .i64 0, .int .i64 0]) ∧ w = w' := by
  refine (impl_readVar s w hs).mono ?_
  rintro e w' ⟨⟨k', hk', rfl⟩ | ⟨hn, rfl⟩, rfl⟩
  · exact absurd hk' (h k')
  · exact ⟨rfl, rfl⟩
theorem rdv_one (s : ByteArray) : rdv s 1 = bn s 0 := by simp [rdv]
/-- What is read of a text: three numbers, one behind the other, behind the first byte. -/
structure Parts (s s1 s2 s3 s4 : ByteArray) (k1 k2 k3 : Nat) : Prop where
  h0 : 1 ≤ s.size
  e1 : s1 = s.extract 1 s.size
  f1 : FindV s1 k1
  e2 : s2 = s1.extract k1 s1.size
  f2 : FindV s2 k2
  e3 : s3 = s2.extract k2 s2.size
  f3 : FindV s3 k3
  e4 : s4 = s3.extract k3 s3.size
/-- The record of those parts. -/
def partsR (s s1 s2 s3 s4 : ByteArray) (k1 k2 k3 : Nat) : Rcd := ⟨bn s 0, vvS s1 0 k1, vvS s2 0 k2, (vvS s3 0 k3 : Int) - 1, s4⟩
/-- A text that has no such parts. -/
def NoParts (s : ByteArray) : Prop := s.size = 0 ∨ (1 ≤ s.size ∧ ((∀ k, ¬ FindV (s.extract 1 s.size) k) ∨ ∃ s1 k1, s1 = s.extract 1 s.size ∧ FindV s1 k1 ∧ ((∀ k, ¬ FindV (s1.extract k1 s1.size) k) ∨ ∃ s2 k2, s2 = s1.extract k1 s1.size ∧ FindV s2 k2 ∧ ∀ k, ¬ FindV (s2.extract k2 s2.size) k)))
theorem parts_or (s : ByteArray) : NoParts s ∨ ∃ s1 s2 s3 s4 k1 k2 k3, Parts s s1 s2 s3 s4 k1 k2 k3 := by
  by_cases h0 : s.size = 0
  · exact .inl (.inl h0)
  by_cases h1 : ∃ k, FindV (s.extract 1 s.size) k
  rotate_left
  · exact .inl (.inr ⟨by omega, .inl fun k h => h1 ⟨k, h⟩⟩)
  obtain ⟨k1, h1⟩ := h1
  by_cases h2 : ∃ k, FindV ((s.extract 1 s.size).extract k1 (s.extract 1 s.size).size) k
  rotate_left
  · exact .inl (.inr ⟨by omega, .inr ⟨_, k1, rfl, h1, .inl fun k h => h2 ⟨k, h⟩⟩⟩)
  obtain ⟨k2, h2⟩ := h2
  by_cases h3 : ∃ k, FindV (((s.extract 1 s.size).extract k1 (s.extract 1 s.size).size).extract k2 ((s.extract 1 s.size).extract k1 (s.extract 1 s.size).size).size) k
  rotate_left
  · exact .inl (.inr ⟨by omega, .inr ⟨_, k1, rfl, h1, .inr ⟨_, k2, rfl, h2, fun k h => h3 ⟨k, h⟩⟩⟩⟩)
  obtain ⟨k3, h3⟩ := h3
  exact .inr ⟨_, _, _, _, k1, k2, k3, by omega, rfl, h1, rfl, h2, rfl, h3, rfl⟩
theorem ext_size (s : ByteArray) (k : Nat) : (s.extract k s.size).size = s.size - k := by simp

set_option maxHeartbeats 1000000 in
theorem readRecord_yes (s s1 s2 s3 s4 : ByteArray) (k1 k2 k3 : Nat) (w : World) (hs : s.size ≤ 1048576) (h : Parts s s1 s2 s3 s4 k1 k2 k3) :
    Calls Tryd.prog 14 #[.string s] w fun e w' => e = .returned (recV (partsR s s1 s2 s3 s4 k1 k2 k3)) ∧ Below w.heap.size w w' := by
  obtain ⟨h0, e1, f1, e2, f2, e3, f3, e4⟩ := h
  have z1 : s1.size = s.size - 1 := by rw [e1, ext_size]
  have z2 : s2.size = s1.size - k1 := by rw [e2, ext_size]
  have z3 : s3.size = s2.size - k2 := by rw [e3, ext_size]
  have z4 : s4.size = s3.size - k3 := by rw [e4, ext_size]
  have c0 := fun wx => impl_readFixed s 1 wx (by unfold maxLen; omega) (by omega) (by omega) h0
  rw [rdv_one] at c0
  have c1 := irv_yes s1 k1 (by omega) f1
  have c2 := irv_yes s2 k2 (by omega) f2
  have c3 := irv_yes s3 k3 (by omega) f3
  have u1 := f1.2.2.1
  have u2 := f2.2.2.1
  have u3 := f3.2.2.1
  have p1 : (0 : Int) < (k1 : Int) := by have := f1.1; omega
  have p2 : (0 : Int) < (k2 : Int) := by have := f2.1; omega
  have p3 : (0 : Int) < (k3 : Int) := by have := f3.1; omega
  have n1 : ((k1 : Int) == 0) = false := by simp; omega
  have n2 : ((k2 : Int) == 0) = false := by simp; omega
  have n3 : ((k3 : Int) == 0) = false := by simp; omega
  have i0 : (1 : Int) ≤ (s.size : Int) := by omega
  have i1 : (k1 : Int) ≤ (s1.size : Int) := by omega
  have i2 : (k2 : Int) ≤ (s2.size : Int) := by omega
  have i3 : (k3 : Int) ≤ (s3.size : Int) := by omega
  have v3 := vvS_le s3 k3 (by have := f3.2.1; omega) 0
  have HR : Hid (partsR s s1 s2 s3 s4 k1 k2 k3 = ⟨bn s 0, vvS s1 0 k1, vvS s2 0 k2, (vvS s3 0 k3 : Int) - 1, s4⟩) := rfl
  have c4 := fun wx => recordOfV ⟨bn s 0, vvS s1 0 k1, vvS s2 0 k2, (vvS s3 0 k3 : Int) - 1, s4⟩ wx (by simp only; unfold maxLen; omega)
  unfold vRcd at c4
  simp only at c4
  generalize vvS s1 0 k1 = a1 at *
  generalize vvS s2 0 k2 = a2 at *
  generalize vvS s3 0 k3 = a3 at *
  have hw : IntKind.i64.wrap ((a3 : Int) - 1) = (a3 : Int) - 1 := by rw [IntKind.wrap_i64]; omega
  have E1 : Hid (s1 = s.extract 1 s.size) := e1
  have E2 : Hid (s2 = s1.extract k1 s1.size) := e2
  have E3 : Hid (s3 = s2.extract k2 s2.size) := e3
  have E4 : Hid (s4 = s3.extract k3 s3.size) := e4
  clear f1 f2 f3 e1 e2 e3 e4 z1 z2 z3 z4
  go_enter Tryd.func14, Tryd.ntmps14
  go_wp2_with fail
  refine (c0 _).mono ?_
  rintro e w0 ⟨rfl, h0w⟩
  obtain rfl : w0 = w := by first | exact h0w | exact h0w.symm
  go_wp2_with fail
  refine wp_loop_rounds 4 ?_
  rw [rounds_succ]
  go_wp2_with fail
  rw [← E1.out]
  refine (c1 _).mono ?_
  rintro e w' ⟨rfl, rfl⟩
  go_wp2_with fail
  rw [rounds_succ]
  go_wp2_with fail
  rw [← E2.out]
  refine (c2 _).mono ?_
  rintro e w' ⟨rfl, rfl⟩
  go_wp2_with fail
  rw [rounds_succ]
  go_wp2_with fail
  rw [← E3.out]
  refine (c3 _).mono ?_
  rintro e w' ⟨rfl, rfl⟩
  go_wp2_with fail
  rw [rounds_succ]
  go_wp2_with fail
  rw [← E4.out]
  have hb0 : Below w0.heap.size w0 (w0.alloc (.cells #[.int .i64 (a1 : Int), .int .i64 (a2 : Int), .int .i64 (a3 : Int)] 65)) := (Below.refl _ _).alloc (Nat.le_refl _) _
  refine (c4 _).mono ?_
  rintro e w5 ⟨rfl, hb5⟩
  have B5 : Hid (Below w0.heap.size w0 w5) := hb0.trans (hb5.mono hb0.size)
  clear hb0 hb5 c4
  generalize hrv : recV ⟨(bn s 0 : Int), (a1 : Int), (a2 : Int), (a3 : Int) - 1, s4⟩ = rv at *
  go_wp2_with fail
  go_ret
  exact ⟨by rw [HR.out, hrv]; rfl, B5.out⟩

theorem readRecord_no0 (s : ByteArray) (w : World) (h : s.size = 0) : Calls Tryd.prog 14 #[.string s] w fun e w' => e = .returned .nilIface ∧ Below w.heap.size w w' := by
  have c0 := fun wx => impl_readFixed_no s 1 wx (by unfold maxLen; omega) (by omega)
  clear h
  go_enter Tryd.func14, Tryd.ntmps14
  go_wp2_with fail
  refine (c0 _).mono ?_
  rintro e w0 ⟨rfl, rfl⟩
  go_wp2_with fail
  go_ret
  exact ⟨rfl, Below.refl _ _⟩

set_option maxHeartbeats 1000000 in
theorem readRecord_no1 (s : ByteArray) (w : World) (hs : s.size ≤ 1048576) (h0 : 1 ≤ s.size) (hn : ∀ k, ¬ FindV (s.extract 1 s.size) k) : Calls Tryd.prog 14 #[.string s] w fun e w' => e = .returned .nilIface ∧ Below w.heap.size w w' := by
  obtain ⟨s1, e1⟩ : ∃ y, y = s.extract 1 s.size := ⟨_, rfl⟩
  rw [← e1] at hn
  have c0 := fun wx => impl_readFixed s 1 wx (by unfold maxLen; omega) (by omega) (by omega) h0
  have z1 : s1.size = s.size - 1 := by rw [e1, ext_size]
  have c1 := irv_no s1 (by omega) hn
  have i0 : (1 : Int) ≤ (s.size : Int) := by omega
  have E1 : Hid (s1 = s.extract 1 s.size) := e1
  clear hn e1 z1 
  go_enter Tryd.func14, Tryd.ntmps14
  go_wp2_with fail
  refine (c0 _).mono ?_
  rintro e w0 ⟨rfl, rfl⟩
  go_wp2_with fail
  refine wp_loop_rounds 4 ?_
  rw [rounds_succ]
  go_wp2_with fail
  rw [← E1.out]
  refine (c1 _).mono ?_
  rintro e w' ⟨rfl, rfl⟩
  go_wp2_with fail
  go_ret
  exact ⟨rfl, (Below.refl _ _).alloc (Nat.le_refl _) _⟩

set_option maxHeartbeats 1000000 in
theorem readRecord_no2 (s s1 : ByteArray) (k1 : Nat) (w : World) (hs : s.size ≤ 1048576) (h0 : 1 ≤ s.size) (e1 : s1 = s.extract 1 s.size) (f1 : FindV s1 k1) (hn : ∀ k, ¬ FindV (s1.extract k1 s1.size) k) : Calls Tryd.prog 14 #[.string s] w fun e w' => e = .returned .nilIface ∧ Below w.heap.size w w' := by
  obtain ⟨s2, e2⟩ : ∃ y, y = s1.extract k1 s1.size := ⟨_, rfl⟩
  rw [← e2] at hn
  have c0 := fun wx => impl_readFixed s 1 wx (by unfold maxLen; omega) (by omega) (by omega) h0
  have z1 : s1.size = s.size - 1 := by rw [e1, ext_size]
  have z2 : s2.size = s1.size - k1 := by rw [e2, ext_size]
  have c1 := irv_yes s1 k1 (by omega) f1
  have p1 : (0 : Int) < (k1 : Int) := by have := f1.1; omega
  have n1 : ((k1 : Int) == 0) = false := by simp; omega
  have i1 : (k1 : Int) ≤ (s1.size : Int) := by have := f1.2.2.1; omega
  have c2 := irv_no s2 (by omega) hn
  have i0 : (1 : Int) ≤ (s.size : Int) := by omega
  have E1 : Hid (s1 = s.extract 1 s.size) := e1
  have E2 : Hid (s2 = s1.extract k1 s1.size) := e2
  clear hn e1 z1 e2 z2 f1
  generalize vvS s1 0 k1 = a1 at *
  go_enter Tryd.func14, Tryd.ntmps14
  go_wp2_with fail
  refine (c0 _).mono ?_
  rintro e w0 ⟨rfl, rfl⟩
  go_wp2_with fail
  refine wp_loop_rounds 4 ?_
  rw [rounds_succ]
  go_wp2_with fail
  rw [← E1.out]
  refine (c1 _).mono ?_
  rintro e w' ⟨rfl, rfl⟩
  go_wp2_with fail
  rw [rounds_succ]
  go_wp2_with fail
  rw [← E2.out]
  refine (c2 _).mono ?_
  rintro e w' ⟨rfl, rfl⟩
  go_wp2_with fail
  go_ret
  exact ⟨rfl, (Below.refl _ _).alloc (Nat.le_refl _) _⟩

set_option maxHeartbeats 1000000 in
theorem readRecord_no3 (s s1 s2 : ByteArray) (k1 k2 : Nat) (w : World) (hs : s.size ≤ 1048576) (h0 : 1 ≤ s.size) (e1 : s1 = s.extract 1 s.size) (f1 : FindV s1 k1) (e2 : s2 = s1.extract k1 s1.size) (f2 : FindV s2 k2) (hn : ∀ k, ¬ FindV (s2.extract k2 s2.size) k) : Calls Tryd.prog 14 #[.string s] w fun e w' => e = .returned .nilIface ∧ Below w.heap.size w w' := by
  obtain ⟨s3, e3⟩ : ∃ y, y = s2.extract k2 s2.size := ⟨_, rfl⟩
  rw [← e3] at hn
  have c0 := fun wx => impl_readFixed s 1 wx (by unfold maxLen; omega) (by omega) (by omega) h0
  have z1 : s1.size = s.size - 1 := by rw [e1, ext_size]
  have z2 : s2.size = s1.size - k1 := by rw [e2, ext_size]
  have z3 : s3.size = s2.size - k2 := by rw [e3, ext_size]
  have c1 := irv_yes s1 k1 (by omega) f1
  have p1 : (0 : Int) < (k1 : Int) := by have := f1.1; omega
  have n1 : ((k1 : Int) == 0) = false := by simp; omega
  have i1 : (k1 : Int) ≤ (s1.size : Int) := by have := f1.2.2.1; omega
  have c2 := irv_yes s2 k2 (by omega) f2
  have p2 : (0 : Int) < (k2 : Int) := by have := f2.1; omega
  have n2 : ((k2 : Int) == 0) = false := by simp; omega
  have i2 : (k2 : Int) ≤ (s2.size : Int) := by have := f2.2.2.1; omega
  have c3 := irv_no s3 (by omega) hn
  have i0 : (1 : Int) ≤ (s.size : Int) := by omega
  have E1 : Hid (s1 = s.extract 1 s.size) := e1
  have E2 : Hid (s2 = s1.extract k1 s1.size) := e2
  have E3 : Hid (s3 = s2.extract k2 s2.size) := e3
  clear hn e1 z1 e2 z2 e3 z3 f1 f2
  generalize vvS s1 0 k1 = a1 at *
  generalize vvS s2 0 k2 = a2 at *
  go_enter Tryd.func14, Tryd.ntmps14
  go_wp2_with fail
  refine (c0 _).mono ?_
  rintro e w0 ⟨rfl, rfl⟩
  go_wp2_with fail
  refine wp_loop_rounds 4 ?_
  rw [rounds_succ]
  go_wp2_with fail
  rw [← E1.out]
  refine (c1 _).mono ?_
  rintro e w' ⟨rfl, rfl⟩
  go_wp2_with fail
  rw [rounds_succ]
  go_wp2_with fail
  rw [← E2.out]
  refine (c2 _).mono ?_
  rintro e w' ⟨rfl, rfl⟩
  go_wp2_with fail
  rw [rounds_succ]
  go_wp2_with fail
  rw [← E3.out]
  refine (c3 _).mono ?_
  rintro e w' ⟨rfl, rfl⟩
  go_wp2_with fail
  go_ret
  exact ⟨rfl, (Below.refl _ _).alloc (Nat.le_refl _) _⟩

theorem readRecordV (s : ByteArray) (w : World) (hs : s.size ≤ 1048576) :
    (NoParts s → Calls Tryd.prog 14 #[.string s] w fun e w' => e = .returned .nilIface ∧ Below w.heap.size w w') := by
  rintro (h | ⟨h0, h | ⟨s1, k1, e1, f1, h | ⟨s2, k2, e2, f2, h⟩⟩⟩)
  · exact readRecord_no0 s w h
  · exact readRecord_no1 s w hs h0 h
  · exact readRecord_no2 s s1 k1 w hs h0 e1 f1 h
  · exact readRecord_no3 s s1 s2 k1 k2 w hs h0 e1 f1 e2 f2 h
end Go.Proofs.YtnpgkmmflibmkaaDoor
