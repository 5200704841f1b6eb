/-
  Plain lemmas on what is read back of what was written: Var, Fixed, Dec, Hex (no program in sight).
-/
import Derived.Test.YtaplbjobhlbcoabDoorAid
import Derived.Test.YtaplbjobhlbcoabDoorDecAid
import Derived.Test.YtaplbjobhlbcoabDoorReadDecAid
namespace Go.Proofs.YtaplbjobhlbcoabDoor
open Go.RowKit Go.PlainAid

theorem bn_cat (l m : List UInt8) (j : Nat) (h : j < l.length) : bn (txt (l ++ m)) j = (l[j]).toNat := by rw [bn_txt_append _ _ _ h, bn_txt _ _ h]
/-- Var's bytes are read as the number, wherever they stand. -/
theorem vvS_var (f n : Nat) (pre tl : List UInt8) (hn : n < 128 ^ (f + 1)) : vvS (txt (pre ++ vF f n ++ tl)) pre.length (vF f n).length = n := by
  induction f generalizing n pre with
  | zero =>
    simp at hn
    have e : (vF 0 n).length = 1 := rfl
    rw [e]
    have hb : bn (txt (pre ++ vF 0 n ++ tl)) pre.length = n := by
      rw [bn_txt _ _ (by simp [vF])]
      simp [vF, byt_toNat]
      omega
    simp only [vvS, hb]
    omega
  | succ f ih =>
    by_cases h : n < 128
    · rw [vF_small _ n h]
      have hb : bn (txt (pre ++ [byt n] ++ tl)) pre.length = n := by
        rw [bn_txt _ _ (by simp)]
        simp [byt_toNat]
        omega
      simp only [List.length_cons, List.length_nil, vvS, hb]
      omega
    · have e : vF (f + 1) n = byt (128 + n % 128) :: vF f (n / 128) := by rw [vF, if_neg h]
      have hd : n / 128 < 128 ^ (f + 1) := by
        rw [Nat.pow_succ] at hn
        exact Nat.div_lt_of_lt_mul (by rw [Nat.mul_comm]; exact hn)
      rw [e]
      have hb : bn (txt (pre ++ (byt (128 + n % 128) :: vF f (n / 128)) ++ tl)) pre.length = 128 + n % 128 := by
        rw [bn_txt _ _ (by simp)]
        simp [byt_toNat]
        omega
      have hi := ih (n / 128) (pre ++ [byt (128 + n % 128)]) hd
      have e2 : pre ++ [byt (128 + n % 128)] ++ vF f (n / 128) ++ tl = pre ++ (byt (128 + n % 128) :: vF f (n / 128)) ++ tl := by simp
      rw [e2] at hi
      simp only [List.length_cons, vvS, hb]
      simp only [List.length_append, List.length_cons, List.length_nil] at hi
      rw [Nat.zero_add] at hi
      rw [hi]
      omega
theorem sg_txt (l tl : List UInt8) : sg (txt (l ++ tl)) 0 l.length = l := by
  have h := sg_extract (txt (l ++ tl)) l.length (by rw [txt_size]; simp)
  have e : (txt (l ++ tl)).extract 0 l.length = txt l := by
    apply ByteArray.ext
    apply Array.toList_inj.1
    rw [Lib.extract_data]
    simp [txt]
  rw [e] at h
  exact (txt_inj _ _ h).symm
theorem vF_pos (f n : Nat) : 1 ≤ (vF f n).length := by
  cases f with
  | zero => simp [vF]
  | succ f => rw [vF]; split <;> simp
/-- ReadVar finds what Var wrote, whatever stands behind. -/
theorem find_var (n : Nat) (tl : List UInt8) (hn : n ≤ 562949953421311) : FindV (txt (vF 6 n ++ tl)) (vF 6 n).length ∧ vvS (txt (vF 6 n ++ tl)) 0 (vF 6 n).length = n := by
  have hp := vF_pos 6 n
  have hl := vF_length 6 n
  have hv := vvS_var 6 n [] tl (by omega)
  simp only [List.nil_append, List.length_nil] at hv
  refine ⟨⟨hp, hl, by rw [txt_size]; simp, ?_⟩, hv⟩
  obtain ⟨d, hd⟩ : ∃ d, (vF 6 n).length = d + 1 := ⟨(vF 6 n).length - 1, by omega⟩
  have hs := sg_txt (vF 6 n) tl
  rw [hd] at hs hv ⊢
  rw [← canonS_iff _ d 0 6 (by omega), hv, hs]

/-- ReadFixed reads what Fixed wrote, whatever stands behind. -/
theorem low_at (n K j : Nat) (hj : j < K) : (low n K)[j]'(by rw [low_length]; exact hj) = byt (n / 256 ^ (K - 1 - j)) := by
  induction K generalizing j with
  | zero => omega
  | succ K ih =>
    cases j with
    | zero => simp [low]
    | succ j =>
      simp only [low, List.getElem_cons_succ]
      rw [ih j (by omega)]
      congr 3
      omega
theorem rdv_low (n K : Nat) (tl : List UInt8) (k : Nat) (hk : k ≤ K) (hn : n < 256 ^ K) : rdv (txt (low n K ++ tl)) k = n / 256 ^ (K - k) := by
  induction k with
  | zero => rw [rdv, Nat.sub_zero, Nat.div_eq_of_lt hn]
  | succ k ih =>
    rw [rdv, ih (by omega), bn_cat _ _ _ (by rw [low_length]; omega), low_at _ _ _ (by omega), byt_toNat]
    have e : K - k = K - 1 - k + 1 := by omega
    have e2 : K - (k + 1) = K - 1 - k := by omega
    rw [e, e2, Nat.pow_succ, ← Nat.div_div_eq_div_mul]
    omega
theorem rdv_fixed (n : Nat) (tl : List UInt8) (hn : n < 72057594037927936) : rdv (txt (low n 7 ++ tl)) 7 = n := by
  rw [rdv_low n 7 tl 7 (Nat.le_refl _) (by omega)]
  simp

/-- Unhex of Hex. -/
theorem hexs_at (t : ByteArray) (m k : Nat) (hk : k < m) : ∃ h0 h1, (hexs t m)[2 * k]'h0 = hexd (bn t k / 16) ∧ (hexs t m)[2 * k + 1]'h1 = hexd (bn t k % 16) := by
  induction m with
  | zero => omega
  | succ m ih =>
    have hl := hexs_length t m
    by_cases e : k = m
    · subst e
      refine ⟨by simp [hexs, hl], by simp [hexs, hl], ?_, ?_⟩
      · simp [hexs, hl]
      · simp [hexs, hl]
    · obtain ⟨h0, h1, a, b⟩ := ih (by omega)
      refine ⟨by simp [hexs, hl]; omega, by simp [hexs, hl]; omega, ?_, ?_⟩
      · simp only [hexs]
        rw [List.getElem_append_left h0]
        exact a
      · simp only [hexs]
        rw [List.getElem_append_left h1]
        exact b
theorem unhL_hex (t : ByteArray) (k : Nat) (hk : k ≤ t.size) : unhL (txt (hexs t t.size)) k = some (sg t 0 k) := by
  induction k with
  | zero => rfl
  | succ k ih =>
    have hi := ih (by omega)
    have hl := hexs_length t t.size
    obtain ⟨h0, h1, a, b⟩ := hexs_at t t.size k (by omega)
    have hb := bn_lt t k
    have b0 : bn (txt (hexs t t.size)) (2 * k) = (hexd (bn t k / 16)).toNat := by rw [bn_txt _ _ (by omega), a]
    have b1 : bn (txt (hexs t t.size)) (2 * k + 1) = (hexd (bn t k % 16)).toNat := by rw [bn_txt _ _ (by omega), b]
    have f0 := fromHex_hit (bn t k / 16) _ (by omega) (rfl : ((hexd (bn t k / 16)).toNat : Int) = _)
    have f1 := fromHex_hit (bn t k % 16) _ (by omega) (rfl : ((hexd (bn t k % 16)).toNat : Int) = _)
    rw [unhL_yes _ k _ hi (by rw [b0, f0]; omega) (by rw [b1, f1]; omega), b0, b1, f0, f1, sg_snoc]
    rw [show (16 * ((bn t k / 16 : Nat) : Int) + ((bn t k % 16 : Nat) : Int)).toNat = bn t k by omega, Nat.zero_add]
theorem unhex_hex (t : ByteArray) : unhex (txt (hexs t t.size)) = some (sg t 0 t.size) := by
  unfold unhex
  rw [txt_size, hexs_length, if_neg (by omega), show 2 * t.size / 2 = t.size by omega]
  exact unhL_hex t t.size (Nat.le_refl _)

/-- ReadDec of Dec. -/
theorem acc_dec (v : Int) (h1 : -1000000000 < v) (h2 : v < 1000000000) : AccI (txt (decI v)) v := by
  have key : ∀ n : Nat, n < 1000000000 → n ≠ 0 → 1 ≤ (dF 20 n).length ∧ (dF 20 n).length ≤ 9 := by
    intro n hn h0
    obtain ⟨d1, d2, d3⟩ := dF_good 20 n (by omega)
    refine ⟨(d3 h0).1, ?_⟩
    by_cases hc : (dF 20 n).length ≤ 9
    · exact hc
    · exfalso
      have hp : ∀ k, k ≤ (dF 20 n).length → 1 ≤ k → 10 ^ (k - 1) ≤ valO (txt (dF 20 n)) 0 k := by
        intro k
        induction k with
        | zero => intro _ h; omega
        | succ k ih =>
          intro hk _
          by_cases hk0 : k = 0
          · subst hk0
            have a := d1 0 (by omega)
            have b := (d3 h0).2
            simp [valO]
            omega
          · have := ih (by omega) (by omega)
            rw [valO, show k + 1 - 1 = k - 1 + 1 by omega, Nat.pow_succ]
            omega
      have h9 := hp _ (Nat.le_refl _) (by omega)
      rw [d2] at h9
      have : 10 ^ 9 ≤ 10 ^ ((dF 20 n).length - 1) := Nat.pow_le_pow_right (by omega) (by omega)
      omega
  by_cases hv0 : v = 0
  · subst hv0
    have e : decI 0 = [48] := rfl
    rw [e]
    have hb := bn_txt [48] 0 (by simp)
    simp at hb
    refine .inl ⟨⟨by rw [txt_size]; simp, by rw [txt_size]; simp, ?_, .inl (by rw [txt_size]; rfl)⟩, ?_⟩
    · intro j hj
      rw [txt_size] at hj
      have : j = 0 := by simp at hj; omega
      subst this
      rw [hb]
      omega
    · rw [txt_size]
      simp [valO, hb]
  · by_cases hn : v < 0
    · obtain ⟨n, rfl⟩ : ∃ n : Nat, v = -(n : Int) := ⟨v.natAbs, by omega⟩
      have h0 : n ≠ 0 := by omega
      have e : decI (-(n : Int)) = 45 :: dF 20 n := by unfold decI; rw [if_pos hn, Int.natAbs_neg, Int.natAbs_natCast]
      obtain ⟨k1, k2⟩ := key n (by omega) h0
      obtain ⟨d1, d2, d3⟩ := dF_good 20 n (by omega)
      rw [e]
      generalize dF 20 n = L at *
      have hbn : ∀ j, j < L.length → bn (txt (45 :: L)) (1 + j) = bn (txt L) (0 + j) := by
        intro j hj
        rw [Nat.zero_add, bn_txt _ _ (by simp; omega), bn_txt _ _ hj]
        have e1 : 1 + j = j + 1 := by omega
        simp [e1]
      have hb0 : bn (txt (45 :: L)) 0 = 45 := by rw [bn_txt _ _ (by simp)]; rfl
      have hs : (txt (45 :: L)).size - 1 = L.length := by rw [txt_size]; simp
      have hv : valO (txt (45 :: L)) 1 L.length = n := by rw [valO_congr _ (txt L) 1 0 L.length hbn, d2]
      refine .inr ⟨by rw [txt_size]; simp, hb0, ?_, ?_, ?_⟩
      · rw [hs]
        refine ⟨k1, k2, ?_, .inr ?_⟩
        · intro j hj
          rw [hbn j hj, Nat.zero_add]
          exact d1 j hj
        · have := hbn 0 (by omega)
          simp at this
          rw [this]
          exact (d3 h0).2
      · rw [hs, hv]; exact h0
      · rw [hs, hv]
    · obtain ⟨n, rfl⟩ := Int.eq_ofNat_of_zero_le (show 0 ≤ v by omega)
      have h0 : n ≠ 0 := by omega
      have e : decI (n : Int) = dF 20 n := by unfold decI; rw [if_neg hn, Int.toNat_natCast, decN, if_neg h0]
      obtain ⟨k1, k2⟩ := key n (by omega) h0
      obtain ⟨d1, d2, d3⟩ := dF_good 20 n (by omega)
      rw [e]
      generalize dF 20 n = L at *
      have hs : (txt L).size = L.length := txt_size L
      refine .inl ⟨⟨by omega, by omega, ?_, .inr (d3 h0).2⟩, ?_⟩
      · intro j hj
        rw [Nat.zero_add]
        exact d1 j (by omega)
      · rw [hs, d2]
theorem acc_dec_no (v : Int) (h : v ≤ -1000000000 ∨ 1000000000 ≤ v) (h1 : -9223372036854775808 ≤ v) (h2 : v ≤ 9223372036854775807) : ∀ x, ¬ AccI (txt (decI v)) x := by
  intro x hx
  obtain ⟨_, a2, a3, a4⟩ := acc_spec _ x hx
  have key : ∀ n : Nat, n < 10 ^ 20 → valO (txt (dF 20 n)) 0 (dF 20 n).length = n := fun n hn => (dF_good 20 n hn).2.1
  have hxv : x = v := by
    have e := txt_inj _ _ a4
    have hx9 : -1000000000 < x ∧ x < 1000000000 := by
      rcases hx with ⟨g, rfl⟩ | ⟨_, _, g, _, rfl⟩
      · have := valO_lt _ _ _ (fun j hj => (g.2.2.1 j hj).2)
        have h9 : 10 ^ (txt (decI v)).size ≤ 10 ^ 9 := Nat.pow_le_pow_right (by omega) g.2.1
        omega
      · have := valO_lt _ _ _ (fun j hj => (g.2.2.1 j hj).2)
        have h9 : 10 ^ ((txt (decI v)).size - 1) ≤ 10 ^ 9 := Nat.pow_le_pow_right (by omega) g.2.1
        omega
    have inj : ∀ a b : Nat, a < 10 ^ 20 → b < 10 ^ 20 → dF 20 a = dF 20 b → a = b := by
      intro a b ha hb hab
      have p := key a ha
      have q := key b hb
      rw [hab] at p
      omega
    unfold decI decN at e
    by_cases xn : x < 0 <;> by_cases vn : v < 0
    · rw [if_pos xn, if_pos vn] at e
      have := inj _ _ (by omega) (by omega) (List.cons.inj e).2
      omega
    · rw [if_pos xn, if_neg vn] at e
      rw [if_neg (by omega)] at e
      have hd := (dF_good 20 v.toNat (by omega)).1 0
      have h3 := ((dF_good 20 v.toNat (by omega)).2.2 (by omega)).1
      have hd' := hd (by omega)
      rw [← e, bn_txt _ _ (by simp)] at hd'
      simp at hd'
    · rw [if_neg xn, if_pos vn] at e
      by_cases x0 : x.toNat = 0
      · rw [if_pos x0] at e
        have := (List.cons.inj e).1
        exact absurd this (by decide)
      · rw [if_neg x0] at e
        have hd := (dF_good 20 x.toNat (by omega)).1 0
        have h3 := ((dF_good 20 x.toNat (by omega)).2.2 (by omega)).1
        have hd' := hd (by omega)
        rw [e, bn_txt _ _ (by simp)] at hd'
        simp at hd'
    · rw [if_neg xn, if_neg vn, if_neg (show ¬ v.toNat = 0 by omega)] at e
      by_cases x0 : x.toNat = 0
      · rw [if_pos x0] at e
        have h48 := ((dF_good 20 v.toNat (by omega)).2.2 (by omega)).2
        rw [← e, bn_txt _ _ (by simp)] at h48
        exact absurd rfl h48
      · rw [if_neg x0] at e
        have := inj _ _ (by omega) (by omega) e
        omega
  subst hxv
  have hx9 : -1000000000 < x ∧ x < 1000000000 := by
    rcases hx with ⟨g, hg⟩ | ⟨_, _, g, _, hg⟩
    · have := valO_lt _ _ _ (fun j hj => (g.2.2.1 j hj).2)
      have h9 : 10 ^ (txt (decI x)).size ≤ 10 ^ 9 := Nat.pow_le_pow_right (by omega) g.2.1
      omega
    · have := valO_lt _ _ _ (fun j hj => (g.2.2.1 j hj).2)
      have h9 : 10 ^ ((txt (decI x)).size - 1) ≤ 10 ^ 9 := Nat.pow_le_pow_right (by omega) g.2.1
      omega
  omega
end Go.Proofs.YtaplbjobhlbcoabDoor
