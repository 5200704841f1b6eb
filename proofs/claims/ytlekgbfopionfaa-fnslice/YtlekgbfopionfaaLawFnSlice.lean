/-
  The walk of FnSlice.
-/
import Derived.Test.YtlekgbfopionfaaRows
import Derived.Test.YtlekgbfopionfaaPtSame
import Derived.Test.YtlekgbfopionfaaPtMath
namespace Go.Proofs.Ytlekgbfopionfaa
open Go.ChangeShapes Go.WideShapes Go.ChangeAt Go.RowKit Go.PlainAid
set_option linter.unusedVariables false

theorem mem_slice (l : List Pnt) (a b : Int) (p : Pnt) : p ∈ l.filter (inP a b) ↔ p ∈ l ∧ a ≤ p.t ∧ p.t < b := by
  rw [List.mem_filter]
  unfold inP
  simp
/-- Slices side by side. -/
theorem slices_join (l : List Pnt) (a b : Int) (h : POk l) (hab : a ≤ b) : l.filter (inP (-1) a) ++ l.filter (inP a b) ++ l.filter (inP b 1099511627777) = l := by
  obtain ⟨_, hr, hb⟩ := (POk_iff l).1 h
  refine rising_ext ?_ hr fun p => ?_
  · refine List.pairwise_append.2 ⟨List.pairwise_append.2 ⟨hr.sublist List.filter_sublist, hr.sublist List.filter_sublist, ?_⟩, hr.sublist List.filter_sublist, ?_⟩
    · intro x hx y hy
      have h1 := (mem_slice _ _ _ _).1 hx
      have h2 := (mem_slice _ _ _ _).1 hy
      omega
    · intro x hx y hy
      have h2 := (mem_slice _ _ _ _).1 hy
      rcases List.mem_append.1 hx with hx | hx
      · have h1 := (mem_slice _ _ _ _).1 hx; omega
      · have h1 := (mem_slice _ _ _ _).1 hx; omega
  · rw [List.mem_append, List.mem_append, mem_slice, mem_slice, mem_slice]
    constructor
    · rintro ((h | h) | h) <;> exact h.1
    · intro hp
      have hbd := (hb p hp).1
      by_cases h1 : p.t < a
      · exact .inl (.inl ⟨hp, by omega, h1⟩)
      · by_cases h2 : p.t < b
        · exact .inl (.inr ⟨hp, by omega, h2⟩)
        · exact .inr ⟨hp, by omega, by omega⟩
theorem slice_none (l : List Pnt) (a b : Int) (h : b ≤ a) : sliceR l a b = [] := by
  unfold sliceR
  split
  · rw [List.filter_eq_nil_iff]
    intro p hp
    unfold inP
    simp
    omega
  · rfl

set_option maxHeartbeats 4000000 in
theorem law_fnSlice (ao : Option Addr) (len cap : Nat) (cs : Nat → Nat) (w : World) (h : CodeIs w w.heap.size ao len cs) (hl : len ≤ 9223372036854775807) : Calls Try.prog 7 #[.slice ao len cap] w fun e w' => e = .returned (.bool true) ∧ Below w.heap.size w w' := by
  by_cases hbig : 1048576 < len
  · have c0 := big_yes w ao len cap hbig hl
    go_enter Try.func7, Try.ntmps7
    go_wp2_with fail
    refine c0.mono ?_
    rintro e w' ⟨rfl, rfl⟩
    go_wp2_with fail
    go_ret
    exact ⟨rfl, Below.refl _ _⟩
  have c0 := big_no w ao len cap (by omega)
  have cD := drawSlice w ao len cap cs (by omega) h
  clear hbig h hl
  go_enter Try.func7, Try.ntmps7
  go_wp2_with fail
  refine c0.mono ?_
  rintro e w' ⟨rfl, rfl⟩
  go_wp2_with fail
  refine cD.mono ?_
  rintro e w1 ⟨⟨u, l, a, b, rfl, hO, hln, ⟨ha0, ha1⟩, hb0, hb1⟩, hb⟩
  have O1 : Hid (Owns w1 w.heap.size 40 2 u (ptR l)) := hO
  have B1 : Hid (Below w.heap.size w w1) := hb
  have LN : Hid (l.length ≤ 1048576) := by unfold Hid; omega
  have LL : Hid (l.length ≤ 600) := hln
  clear hO hb hln cD c0
  have cA := implSlice l (-1) a u w1 w1.heap.size O1.out.lies LN.out (Nat.le_refl _)
  go_wp2_with fail
  refine cA.mono ?_
  rintro e w2 ⟨⟨ua, rfl, hO⟩, hb⟩
  have OA2 : Hid (Owns w2 w1.heap.size 40 2 ua (ptR (sliceR l (-1) a))) := hO
  have O2 : Hid (Owns w2 w.heap.size 40 2 u (ptR l)) := O1.out.on hb
  have B2 : Hid (Below w.heap.size w w2) := B1.out.trans (hb.mono B1.out.size)
  clear hO hb cA O1
  have cB := implSlice l a b u w2 w2.heap.size O2.out.lies LN.out (Nat.le_refl _)
  go_wp2_with fail
  refine cB.mono ?_
  rintro e w3 ⟨⟨ub, rfl, hO⟩, hb⟩
  have OB3 : Hid (Owns w3 w2.heap.size 40 2 ub (ptR (sliceR l a b))) := hO
  have OA3 : Hid (Owns w3 w1.heap.size 40 2 ua (ptR (sliceR l (-1) a))) := OA2.out.on hb
  have O3 : Hid (Owns w3 w.heap.size 40 2 u (ptR l)) := O2.out.on hb
  have B3 : Hid (Below w.heap.size w w3) := B2.out.trans (hb.mono B2.out.size)
  clear hO hb cB O2 OA2
  have cC := implSlice l b 1099511627777 u w3 w3.heap.size O3.out.lies LN.out (Nat.le_refl _)
  go_wp2_with fail
  refine cC.mono ?_
  rintro e w4 ⟨⟨uc, rfl, hO⟩, hb⟩
  have OC4 : Hid (Owns w4 w3.heap.size 40 2 uc (ptR (sliceR l b 1099511627777))) := hO
  have OB4 : Hid (Owns w4 w2.heap.size 40 2 ub (ptR (sliceR l a b))) := OB3.out.on hb
  have OA4 : Hid (Owns w4 w1.heap.size 40 2 ua (ptR (sliceR l (-1) a))) := OA3.out.on hb
  have O4 : Hid (Owns w4 w.heap.size 40 2 u (ptR l)) := O3.out.on hb
  have B4 : Hid (Below w.heap.size w w4) := B3.out.trans (hb.mono B3.out.size)
  clear hO hb cC O3 OA3 OB3
  have cK := specPointsOk l u w4 w4.heap.size O4.out.lies LN.out (Nat.le_refl _)
  go_wp2_with fail
  refine cK.mono ?_
  rintro e w5 ⟨rfl, hL⟩
  have OC : Hid (Owns w5 w3.heap.size 40 2 uc (ptR (sliceR l b 1099511627777))) := OC4.out.on hL.below
  have OB : Hid (Owns w5 w2.heap.size 40 2 ub (ptR (sliceR l a b))) := OB4.out.on hL.below
  have OA : Hid (Owns w5 w1.heap.size 40 2 ua (ptR (sliceR l (-1) a))) := OA4.out.on hL.below
  have OO : Hid (Owns w5 w.heap.size 40 2 u (ptR l)) := O4.out.on hL.below
  have B5 : Hid (Below w.heap.size w w5) := B4.out.trans (hL.below.mono B4.out.size)
  clear hL cK O4 OA4 OB4 OC4
  obtain ⟨Aa, ca, rfl, _⟩ := pt_look OA.out.lies
  obtain ⟨Ab, cb, rfl, _⟩ := pt_look OB.out.lies
  obtain ⟨Ac, cc, rfl, _⟩ := pt_look OC.out.lies
  have q1 := sliceR_len l (-1) a
  have q2 := sliceR_len l a b
  have q3 := sliceR_len l b 1099511627777
  by_cases hok : ¬ POk l
  · have e1 : (sliceR l (-1) a).length = 0 := by rw [show sliceR l (-1) a = [] from if_neg hok]; rfl
    have e2 : (sliceR l a b).length = 0 := by rw [show sliceR l a b = [] from if_neg hok]; rfl
    have e3 : (sliceR l b 1099511627777).length = 0 := by rw [show sliceR l b 1099511627777 = [] from if_neg hok]; rfl
    rw [decide_eq_false hok]
    clear hok q1 q2 q3
    rw [e1, e2, e3]
    go_wp2_with fail
    go_ret
    exact ⟨rfl, B5.out⟩
  have hok' : POk l := Decidable.not_not.1 hok
  rw [decide_eq_true hok']
  by_cases hab : b < a
  · have e2 : (sliceR l a b).length = 0 := by rw [slice_none l a b (by omega)]; rfl
    rw [e2]
    clear q1 q2 q3 hok hok'
    go_wp2_with fail
    go_ret
    exact ⟨rfl, B5.out⟩
  have HJ : Hid (sliceR l (-1) a ++ sliceR l a b ++ sliceR l b 1099511627777 = l) := by
    unfold Hid sliceR
    rw [if_pos hok', if_pos hok', if_pos hok']
    exact slices_join l a b hok' (by omega)
  have Q : Hid ((sliceR l (-1) a).length ≤ 60 ∧ (sliceR l a b).length ≤ 60 ∧ (sliceR l b 1099511627777).length ≤ 60) := ⟨q1, q2, q3⟩
  have dab : decide (b < a) = false := decide_eq_false (by omega)
  clear q1 q2 q3 hok hok'
  generalize sliceR l (-1) a = sa at *
  generalize sliceR l a b = sb at *
  generalize sliceR l b 1099511627777 = sc at *
  have E0 : Hid (Owns (w5.alloc (.cells #[] 40)) w5.heap.size 40 2 (.slice (some ⟨w5.heap.size, 0, none⟩) 0 0) []) := Owns.empty w5 _ _ _ (Nat.le_refl _)
  have hb6 : Below w5.heap.size w5 (w5.alloc (.cells #[] 40)) := (Below.refl _ _).alloc (Nat.le_refl _) _
  have LA6 : Hid (Lies (w5.alloc (.cells #[] 40)) w5.heap.size 2 (.slice Aa sa.length ca) (ptR sa)) := OA.out.lies.on hb6
  have B6 : Hid (Below w5.heap.size w5 (w5.alloc (.cells #[] 40))) := hb6
  have z6 : w5.heap.size ≤ (w5.alloc (.cells #[] 40)).heap.size := hb6.size
  have l1 : Hid (([] : List (List Value)).length + (ptR sa).length ≤ 2097152) := by unfold Hid; rw [ptR_length]; have := Q.out; simp; omega
  clear hb6
  go_wp2_with (at_builtin; refine Shut.out ?_)
  unfold Shut
  refine wpList_append_all (w := w5.alloc (.cells #[] 40)) rfl (.tmp 45) (.tmp 46) 25 40 (.agg #[.int .i64 0, .int .i64 0]) 2 16 rfl Try.underlying25 Try.infoPt rfl (by omega) w5.heap.size (.slice (some ⟨w5.heap.size, 0, none⟩) 0 0) (.slice Aa sa.length ca) [] (ptR sa) w5.heap.size rfl E0.out LA6.out (pt_one sa) rfl l1.out (by omega) z6 ?_
  intro x1 w7 hO7 hb7 _ _
  have O7 : Hid (Owns w7 w5.heap.size 40 2 x1 (ptR sa)) := hO7
  have B7 : Hid (Below w5.heap.size w5 w7) := B6.out.trans hb7
  have LB7 : Hid (Lies w7 w5.heap.size 2 (.slice Ab sb.length cb) (ptR sb)) := OB.out.lies.on B7.out
  have z7 := B7.out.size
  have l2 : Hid ((ptR sa).length + (ptR sb).length ≤ 2097152) := by unfold Hid; rw [ptR_length, ptR_length]; have := Q.out; omega
  clear hO7 hb7 E0 LA6 B6 z6
  go_wp2_with (at_builtin; refine Shut.out ?_)
  unfold Shut
  refine wpList_append_all (w := w7) rfl (.tmp 47) (.tmp 48) 25 40 (.agg #[.int .i64 0, .int .i64 0]) 2 16 rfl Try.underlying25 Try.infoPt rfl (by omega) w5.heap.size x1 (.slice Ab sb.length cb) (ptR sa) (ptR sb) w5.heap.size rfl O7.out LB7.out (pt_one sb) rfl l2.out (by omega) z7 ?_
  intro x2 w8 hO8 hb8 _ _
  have O8 : Hid (Owns w8 w5.heap.size 40 2 x2 (ptR (sa ++ sb))) := by unfold Hid; rw [ptR_append]; exact hO8
  have B8 : Hid (Below w5.heap.size w5 w8) := B7.out.trans hb8
  have LC8 : Hid (Lies w8 w5.heap.size 2 (.slice Ac sc.length cc) (ptR sc)) := OC.out.lies.on B8.out
  have z8 := B8.out.size
  have l3 : Hid ((ptR (sa ++ sb)).length + (ptR sc).length ≤ 2097152) := by unfold Hid; rw [ptR_length, ptR_length, List.length_append]; have := Q.out; omega
  clear hO8 hb8 O7 B7 LB7 z7
  go_wp2_with (at_builtin; refine Shut.out ?_)
  unfold Shut
  refine wpList_append_all (w := w8) rfl (.tmp 49) (.tmp 50) 25 40 (.agg #[.int .i64 0, .int .i64 0]) 2 16 rfl Try.underlying25 Try.infoPt rfl (by omega) w5.heap.size x2 (.slice Ac sc.length cc) (ptR (sa ++ sb)) (ptR sc) w5.heap.size rfl O8.out LC8.out (pt_one sc) rfl l3.out (by omega) z8 ?_
  intro x3 w9 hO9 hb9 _ _
  have O9 : Hid (Owns w9 w5.heap.size 40 2 x3 (ptR l)) := by unfold Hid; rw [← HJ.out, ptR_append (sa ++ sb) sc]; exact hO9
  have B9 : Hid (Below w5.heap.size w5 w9) := B8.out.trans hb9
  clear hO9 hb9 O8 B8 LC8 z8
  have cS := samePoints l x3 u w9 w9.heap.size O9.out.lies (OO.out.on B9.out).lies LN.out
  go_wp2_with fail
  refine cS.mono ?_
  rintro e w10 ⟨rfl, hL⟩
  have B10 : Hid (Below w.heap.size w w10) := (B5.out.trans (B9.out.mono B5.out.size)).trans (hL.below.mono (Nat.le_trans B5.out.size B9.out.size))
  clear hL
  go_wp2_with fail
  go_ret
  exact ⟨rfl, B10.out⟩
end Go.Proofs.Ytlekgbfopionfaa
