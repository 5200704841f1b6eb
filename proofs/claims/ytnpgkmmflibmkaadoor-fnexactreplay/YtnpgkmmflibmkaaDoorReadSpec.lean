/-
  The contract of spec.ReadRec: it answers as the program's, at every text.
-/
import Derived.Test.YtnpgkmmflibmkaaDoorRows
import Derived.Test.YtnpgkmmflibmkaaDoorReadTold
import Derived.Test.YtnpgkmmflibmkaaDoorShowRecD
import Derived.Handy
namespace Go.Proofs.YtnpgkmmflibmkaaDoor
open Go.ChangeShapes Go.WideShapes Go.ChangeAt Go.RowKit Go.PlainAid
set_option linter.unusedVariables false

theorem srv_yes (s : ByteArray) (k : Nat) (hs : s.size ≤ 1048576) (h : FindV s k) (w : World) : Calls Tryd.prog 20 #[.string s] w fun e w' => e = .returned (.tuple #[.int .i64 (vvS s 0 k : Int), .int .i64 (k : Int)]) ∧ Below w.heap.size w w' := by
  refine (spec_readVar s w hs).mono ?_
  rintro e w' ⟨⟨k', hk', rfl⟩ | ⟨hn, rfl⟩, hb⟩
  · obtain rfl := FindV.one h hk'
    exact ⟨rfl, hb⟩
  · exact absurd h (hn k)
theorem srv_no (s : ByteArray) (hs : s.size ≤ 1048576) (h : ∀ k, ¬ FindV s k) (w : World) : Calls Tryd.prog 20 #[.string s] w fun e w' => e = .returned (.tuple #[.int .i64 0, .int .i64 0]) ∧ Below w.heap.size w w' := by
  refine (spec_readVar s w hs).mono ?_
  rintro e w' ⟨⟨k', hk', rfl⟩ | ⟨hn, rfl⟩, hb⟩
  · exact absurd hk' (h k')
  · exact ⟨rfl, hb⟩
theorem ext_ext (s : ByteArray) (a b : Nat) : (s.extract a s.size).extract b (s.extract a s.size).size = s.extract (a + b) s.size := by
  rw [ByteArray.extract_extract]
  congr 1
  simp
  omega
theorem ext_cat (s : ByteArray) (k : Nat) (h : k ≤ s.size) : s.extract 0 k ++ s.extract k s.size = s := by
  rw [ByteArray.extract_append_extract]
  simp [Nat.max_eq_right h]
theorem var_text (s : ByteArray) (k : Nat) (h : FindV s k) : txt (vF 6 (vvS s 0 k)) = s.extract 0 k := by
  obtain ⟨h1, h7, hk, hc⟩ := h
  have := (var_eq s k h1 h7 hk).2 hc
  rw [toList_beq] at this
  exact of_decide_eq_true this
theorem first_text (s : ByteArray) (h : 1 ≤ s.size) : txt [byt (bn s 0)] = s.extract 0 1 := by
  rw [sg_extract s 1 h]
  simp [sg]
theorem show_parts (s s1 s2 s3 s4 : ByteArray) (k1 k2 k3 : Nat) (h : Parts s s1 s2 s3 s4 k1 k2 k3) : showB (partsR s s1 s2 s3 s4 k1 k2 k3) = s := by
  unfold showB partsR
  simp only [Int.toNat_natCast, Int.sub_add_cancel]
  rw [first_text s h.h0, var_text s1 k1 h.f1, var_text s2 k2 h.f2, var_text s3 k3 h.f3]
  have h4 := ext_cat s3 k3 h.f3.2.2.1
  have h3 := ext_cat s2 k2 h.f2.2.2.1
  have h2 := ext_cat s1 k1 h.f1.2.2.1
  have h1 := ext_cat s 1 h.h0
  rw [← h.e4] at h4
  rw [← h.e3] at h3
  rw [← h.e2] at h2
  rw [← h.e1] at h1
  rw [ByteArray.append_assoc, ByteArray.append_assoc, ByteArray.append_assoc, h4, h3, h2, h1]
theorem parts_long (s s1 s2 s3 s4 : ByteArray) (k1 k2 k3 : Nat) (h : Parts s s1 s2 s3 s4 k1 k2 k3) (hl : 2000 < s.size) : recOk (partsR s s1 s2 s3 s4 k1 k2 k3) = false := by
  cases ho : recOk (partsR s s1 s2 s3 s4 k1 k2 k3)
  · rfl
  · have h5 := (recOk_in _ _ _ _ _ ho).2.2.2.2
    have z1 : s1.size = s.size - 1 := by rw [h.e1, ext_size]
    have z2 : s2.size = s1.size - k1 := by rw [h.e2, ext_size]
    have z3 : s3.size = s2.size - k2 := by rw [h.e3, ext_size]
    have z4 : s4.size = s3.size - k3 := by rw [h.e4, ext_size]
    have := h.f1.2.1
    have := h.f2.2.1
    have := h.f3.2.1
    omega

set_option maxHeartbeats 1000000 in
theorem specReadRec_out (s : ByteArray) (w : World) (hs : s.size ≤ 1048576) (h : s.size = 0 ∨ 2000 < s.size) : Calls Tryd.prog 10 #[.string s] w fun e w' => e = .returned (.tuple #[.agg #[.int .i64 0, .int .i64 0, .int .i64 0, .int .i64 0, .string ⟨#[]⟩], .bool false]) ∧ Below w.heap.size w w' := by
  have q1 : (s.size : Int) ≤ 1048576 := by omega
  by_cases h0 : s.size = 0
  · obtain rfl : s = ⟨#[]⟩ := ByteArray.ext (Array.eq_empty_of_size_eq_zero h0)
    clear h h0 q1 hs
    go_enter Tryd.func10, Tryd.ntmps10
    go_wp2_with fail
    exact bodyPost_ret (v := .tuple #[.agg #[.int .i64 0, .int .i64 0, .int .i64 0, .int .i64 0, .string ⟨#[]⟩], .bool false]) (by simp [results, go_sem]) rfl ⟨rfl, (Below.refl _ _).alloc (Nat.le_refl _) _⟩
  · have h1 : ((s.size : Int) == 0) = false := by simp only [beq_eq_false_iff_ne, ne_eq]; omega
    have h2 : (2000 : Int) < (s.size : Int) := by omega
    have hne : ¬ s = ByteArray.empty := fun e => h0 (by rw [e]; rfl)
    clear h h0
    go_enter Tryd.func10, Tryd.ntmps10
    go_wp2_with fail
    exact bodyPost_ret (v := .tuple #[.agg #[.int .i64 0, .int .i64 0, .int .i64 0, .int .i64 0, .string ⟨#[]⟩], .bool false]) (by simp [results, go_sem]) rfl ⟨rfl, (Below.refl _ _).alloc (Nat.le_refl _) _⟩
end Go.Proofs.YtnpgkmmflibmkaaDoor
