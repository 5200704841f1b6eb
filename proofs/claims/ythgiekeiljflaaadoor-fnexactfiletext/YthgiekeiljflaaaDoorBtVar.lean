/-
  Plain lemmas on what is read back of what was written: Var, Fixed, Dec, Hex (no program in sight).
-/
import Derived.Test.YthgiekeiljflaaaDoorAid
import Derived.Test.YthgiekeiljflaaaDoorFrAid
namespace Go.Proofs.YthgiekeiljflaaaDoor
open Go.RowKit Go.PlainAid

theorem bn_txt_append (l m : List UInt8) (j : Nat) (h : j < l.length) : bn (txt (l ++ m)) j = bn (txt l) j := by
  rw [bn_txt _ _ (by simp; omega), bn_txt _ _ h, List.getElem_append_left h]
theorem bn_cat (l m : List UInt8) (j : Nat) (h : j < l.length) : bn (txt (l ++ m)) j = (l[j]).toNat := by rw [bn_txt_append _ _ _ h, bn_txt _ _ h]
/-- Var's bytes are read as the number, wherever they stand. -/
theorem vvS_var (f n : Nat) (pre tl : List UInt8) (hn : n < 128 ^ (f + 1)) : vvS (txt (pre ++ vF f n ++ tl)) pre.length (vF f n).length = n := by
  induction f generalizing n pre with
  | zero =>
    simp at hn
    have e : (vF 0 n).length = 1 := rfl
    rw [e]
    have hb : bn (txt (pre ++ vF 0 n ++ tl)) pre.length = n := by
      rw [bn_txt _ _ (by simp [vF])]
      simp [vF, byt_toNat]
      omega
    simp only [vvS, hb]
    omega
  | succ f ih =>
    by_cases h : n < 128
    · rw [vF_small _ n h]
      have hb : bn (txt (pre ++ [byt n] ++ tl)) pre.length = n := by
        rw [bn_txt _ _ (by simp)]
        simp [byt_toNat]
        omega
      simp only [List.length_cons, List.length_nil, vvS, hb]
      omega
    · have e : vF (f + 1) n = byt (128 + n % 128) :: vF f (n / 128) := by rw [vF, if_neg h]
      have hd : n / 128 < 128 ^ (f + 1) := by
        rw [Nat.pow_succ] at hn
        exact Nat.div_lt_of_lt_mul (by rw [Nat.mul_comm]; exact hn)
      rw [e]
      have hb : bn (txt (pre ++ (byt (128 + n % 128) :: vF f (n / 128)) ++ tl)) pre.length = 128 + n % 128 := by
        rw [bn_txt _ _ (by simp)]
        simp [byt_toNat]
        omega
      have hi := ih (n / 128) (pre ++ [byt (128 + n % 128)]) hd
      have e2 : pre ++ [byt (128 + n % 128)] ++ vF f (n / 128) ++ tl = pre ++ (byt (128 + n % 128) :: vF f (n / 128)) ++ tl := by simp
      rw [e2] at hi
      simp only [List.length_cons, vvS, hb]
      simp only [List.length_append, List.length_cons, List.length_nil] at hi
      rw [Nat.zero_add] at hi
      rw [hi]
      omega
theorem sg_txt (l tl : List UInt8) : sg (txt (l ++ tl)) 0 l.length = l := by
  have h := sg_extract (txt (l ++ tl)) l.length (by rw [txt_size]; simp)
  have e : (txt (l ++ tl)).extract 0 l.length = txt l := by
    apply ByteArray.ext
    apply Array.toList_inj.1
    rw [Lib.extract_data]
    simp [txt]
  rw [e] at h
  exact (txt_inj _ _ h).symm
theorem vF_pos (f n : Nat) : 1 ≤ (vF f n).length := by
  cases f with
  | zero => simp [vF]
  | succ f => rw [vF]; split <;> simp
/-- ReadVar finds what Var wrote, whatever stands behind. -/
theorem find_var (n : Nat) (tl : List UInt8) (hn : n ≤ 562949953421311) : FindV (txt (vF 6 n ++ tl)) (vF 6 n).length ∧ vvS (txt (vF 6 n ++ tl)) 0 (vF 6 n).length = n := by
  have hp := vF_pos 6 n
  have hl := vF_length 6 n
  have hv := vvS_var 6 n [] tl (by omega)
  simp only [List.nil_append, List.length_nil] at hv
  refine ⟨⟨hp, hl, by rw [txt_size]; simp, ?_⟩, hv⟩
  obtain ⟨d, hd⟩ : ∃ d, (vF 6 n).length = d + 1 := ⟨(vF 6 n).length - 1, by omega⟩
  have hs := sg_txt (vF 6 n) tl
  rw [hd] at hs hv ⊢
  rw [← canonS_iff _ d 0 6 (by omega), hv, hs]

end Go.Proofs.YthgiekeiljflaaaDoor
