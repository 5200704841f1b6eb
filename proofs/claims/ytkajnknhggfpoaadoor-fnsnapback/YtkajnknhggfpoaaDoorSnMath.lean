/-
  A snapshot's text is read as it, and nothing but a whole one is (no program in sight, no condition).
-/
import Derived.Test.YtkajnknhggfpoaaDoorSnRead
namespace Go.Proofs.YtkajnknhggfpoaaDoor
open Go.RowKit Go.PlainAid

theorem app_inj {a a' b b' : ByteArray} (h : a ++ b = a' ++ b') (hs : a.size = a'.size) : a = a' ∧ b = b' := by
  have h1 : a.data.toList ++ b.data.toList = a'.data.toList ++ b'.data.toList := by
    have := congrArg (fun z : ByteArray => z.data.toList) h
    simpa [ByteArray.data_append] using this
  obtain ⟨e1, e2⟩ := List.append_inj h1 (by rw [Array.length_toList, Array.length_toList]; exact hs)
  exact ⟨ByteArray.ext (Array.toList_inj.1 e1), ByteArray.ext (Array.toList_inj.1 e2)⟩
theorem ext_right (a b : ByteArray) (i j : Nat) (hi : i = a.size) (hj : j = (a ++ b).size) : (a ++ b).extract i j = b := by
  subst hi
  subst hj
  rw [ByteArray.extract_append, ByteArray.extract_eq_empty_iff.2 (by rw [ByteArray.size_append]; omega), ByteArray.empty_append, Nat.sub_self, ByteArray.size_append, Nat.add_sub_cancel_left]
  exact ByteArray.extract_zero_size
theorem headS_eq (j t : Nat) (d : ByteArray) : headS j t d = four j ++ (four t ++ (four d.size ++ four (crc d))) := by
  unfold headS
  rw [ByteArray.append_assoc, ByteArray.append_assoc]
theorem headS_first (j t : Nat) (d : ByteArray) (h : j < 4294967296) : rdv (headS j t d) 4 = j := by
  rw [headS_eq, rdv_append _ _ _ (by rw [four_size]; omega), rdv_four_four j h]
theorem headS_second (j t : Nat) (d : ByteArray) (h : t < 4294967296) : rdv ((headS j t d).extract 4 (headS j t d).size) 4 = t := by
  rw [headS_eq, ext_right _ _ _ _ (four_size j).symm rfl, rdv_append _ _ _ (by rw [four_size]; omega), rdv_four_four t h]
theorem headS_len {j t j' t' : Nat} {d d' : ByteArray} (h : headS j t d = headS j' t' d') (h1 : d.size < 4294967296) (h2 : d'.size < 4294967296) : d.size = d'.size := by
  rw [headS_eq, headS_eq] at h
  have e1 := (app_inj h (by rw [four_size, four_size])).2
  have e2 := (app_inj e1 (by rw [four_size, four_size])).2
  have e3 := (app_inj e2 (by rw [four_size, four_size])).1
  have e4 : rdv (four d.size) 4 = rdv (four d'.size) 4 := by rw [e3]
  rw [rdv_four_four _ h1, rdv_four_four _ h2] at e4
  exact e4
/-- A right snapshot's text. -/
theorem show_form (x : Snp) (h : isSn x = true) : showSn x = frameOf (headS x.index.toNat x.term.toNat x.data) ++ x.data := by
  unfold showSn
  rw [if_pos h]
  unfold frame
  rw [if_neg (by rw [headS_size]; omega)]
theorem show_size (x : Snp) (h : isSn x = true) : (showSn x).size = 24 + x.data.size := by
  rw [show_form x h, ByteArray.size_append, frameOf_size, headS_size]
theorem body_head (j t : Nat) (d e : ByteArray) : bodyOf (frameOf (headS j t d) ++ e) = headS j t d := bodyOf_frameOf _ _ (by rw [headS_size]; omega)
theorem rdv_head (j t : Nat) (d e : ByteArray) : rdv (frameOf (headS j t d) ++ e) 4 = 16 := by rw [rdv_frameOf _ _ (by rw [headS_size]; omega), headS_size]
/-- It is read as it. -/
theorem snOf_show (x : Snp) (h : isSn x = true) : snOf (showSn x) = x := by
  obtain ⟨_, _, ⟨i1, i2⟩, ⟨t1, t2⟩, d1⟩ := isSn_in x h
  obtain ⟨i, t, d⟩ := x
  simp only at i1 i2 t1 t2 d1
  rw [show_form _ h]
  unfold snOf
  simp only
  rw [body_head, rdv_head, headS_first _ _ _ (by omega), headS_second _ _ _ (by omega)]
  rw [ext_right _ _ _ _ (by rw [frameOf_size, headS_size]) rfl]
  congr 1 <;> omega
theorem read_show (x : Snp) (h : isSn x = true) : readSn (showSn x) = .tuple #[vSnp x, .bool true] := by
  unfold readSn
  have h1 : code (showSn x) = 0 := by
    rw [show_form x h]
    exact code_frameOf _ _ (by rw [headS_size]; omega) (by rw [headS_size]; omega)
  have h2 : (bodyOf (showSn x)).size = 16 := by rw [show_form x h, body_head, headS_size]
  have h3 : showSn (snOf (showSn x)) = showSn x := by rw [snOf_show x h]
  rw [if_pos ⟨h1, h2, h3⟩, snOf_show x h]
def noSn : Value := .tuple #[.agg #[.int .i64 0, .int .i64 0, .string ⟨#[]⟩], .bool false]
/-- With other data behind the head it is none. -/
theorem read_other (x : Snp) (h : isSn x = true) (e : ByteArray) (he : e.size ≠ x.data.size) : readSn (frameOf (headS x.index.toNat x.term.toNat x.data) ++ e) = noSn := by
  unfold readSn
  rw [if_neg]
  · rfl
  rintro ⟨_, _, h3⟩
  generalize hy : snOf (frameOf (headS x.index.toNat x.term.toNat x.data) ++ e) = y at h3
  have d1 := (isSn_in x h).2.2.2.2
  cases ho : isSn y
  · unfold showSn at h3
    rw [ho] at h3
    have := congrArg ByteArray.size h3
    rw [ByteArray.size_append, frameOf_size, headS_size] at this
    have z : (if false = true then frame (headS y.index.toNat y.term.toNat y.data) ++ y.data else ⟨#[]⟩ : ByteArray).size = 0 := rfl
    omega
  · have d2 := (isSn_in y ho).2.2.2.2
    have s1 := show_size y ho
    have hb := congrArg bodyOf h3
    rw [show_form y ho, body_head, body_head] at hb
    have hl := headS_len hb (by omega) (by omega)
    rw [h3, ByteArray.size_append, frameOf_size, headS_size] at s1
    omega
theorem read_code (s : ByteArray) (h : code s ≠ 0) : readSn s = noSn := by
  unfold readSn
  rw [if_neg (fun k => h k.1)]
  rfl
theorem read_empty : readSn ⟨#[]⟩ = noSn := read_code _ (by
  intro h
  have := ((code_zero _).1 h).1
  cases this)
theorem read_more (x : Snp) (h : isSn x = true) (e : ByteArray) (he : 0 < e.size) : readSn (showSn x ++ e) = noSn := by
  rw [show_form x h, ByteArray.append_assoc]
  exact read_other x h _ (by rw [ByteArray.size_append]; omega)
theorem read_less (x : Snp) (h : isSn x = true) (k : Nat) (hk : k < (showSn x).size) : readSn ((showSn x).extract 0 k) = noSn := by
  rw [show_size x h] at hk
  by_cases h24 : k < 24
  · refine read_code _ ?_
    have e : (showSn x).extract 0 k = (frameOf (headS x.index.toNat x.term.toNat x.data)).extract 0 k := by
      rw [show_form x h, ByteArray.extract_append]
      have : x.data.extract (0 - (frameOf (headS x.index.toNat x.term.toNat x.data)).size) (k - (frameOf (headS x.index.toNat x.term.toNat x.data)).size) = ByteArray.empty := ByteArray.extract_eq_empty_iff.2 (by rw [frameOf_size, headS_size]; omega)
      rw [this, ByteArray.append_empty]
    rw [e]
    exact code_cut _ _ (by rw [headS_size]; omega) (by rw [headS_size]; omega)
  · have e : (showSn x).extract 0 k = frameOf (headS x.index.toNat x.term.toNat x.data) ++ x.data.extract 0 (k - 24) := by
      rw [show_form x h, ByteArray.extract_append]
      have hz : (frameOf (headS x.index.toNat x.term.toNat x.data)).size = 24 := by rw [frameOf_size, headS_size]
      have e1 : (frameOf (headS x.index.toNat x.term.toNat x.data)).extract 0 k = frameOf (headS x.index.toNat x.term.toNat x.data) := by
        refine ByteArray.ext ?_
        rw [ByteArray.data_extract]
        exact Array.extract_eq_self_of_le (by have : (frameOf (headS x.index.toNat x.term.toNat x.data)).data.size = 24 := hz; omega)
      rw [e1, hz]
    rw [e]
    refine read_other x h _ ?_
    rw [ByteArray.size_extract]
    omega
end Go.Proofs.YtkajnknhggfpoaaDoor
