/-
  The walk of FnMerge.
-/
import Derived.Test.YtlekgbfopionfaaRows
import Derived.Test.YtlekgbfopionfaaPtSame
import Derived.Test.YtlekgbfopionfaaPtFresh
import Derived.Test.YtlekgbfopionfaaPtMath2
import Derived.Test.YtlekgbfopionfaaPtMrgI
namespace Go.Proofs.Ytlekgbfopionfaa
open Go.ChangeShapes Go.WideShapes Go.ChangeAt Go.RowKit Go.PlainAid
set_option linter.unusedVariables false

/-- A slice of one point: its cells. -/
theorem one_look {w : World} {base : Nat} {v : Value} {p : Pnt} (h : Owns w base 40 2 v (ptR [p])) : ∃ g c, v = .slice (some ⟨g, 0, none⟩) 1 c ∧ base ≤ g ∧ w.cell? ⟨g, 0, none⟩ = some (.int .i64 p.t) ∧ w.cell? ⟨g, 1, none⟩ = some (.int .i64 p.v) := by
  have hl := h.lies
  rcases h.2.2 with ⟨_, h0⟩ | ⟨g, cap, cur, rfl, hg, _⟩
  · simp [ptR] at h0
  · obtain ⟨A, c, e, hh⟩ := pt_look hl
    cases e
    obtain ⟨g', off, e, _, h1, h2⟩ := hh 0 (by simp)
    cases e
    simp only [Nat.zero_mul, Nat.zero_add, Nat.add_zero] at h1 h2
    exact ⟨g, cap, rfl, hg, h1, h2⟩

set_option maxRecDepth 20000 in
set_option maxHeartbeats 16000000 in
theorem law_fnMerge (ao : Option Addr) (len cap : Nat) (cs : Nat → Nat) (w : World) (h : CodeIs w w.heap.size ao len cs) (hl : len ≤ 9223372036854775807) : Calls Try.prog 6 #[.slice ao len cap] w fun e w' => e = .returned (.bool true) ∧ Below w.heap.size w w' := by
  by_cases hbig : 1048576 < len
  · have c0 := big_yes w ao len cap hbig hl
    go_enter Try.func6, Try.ntmps6
    go_wp2_with fail
    refine c0.mono ?_
    rintro e w' ⟨rfl, rfl⟩
    go_wp2_with fail
    go_ret
    exact ⟨rfl, Below.refl _ _⟩
  have c0 := big_no w ao len cap (by omega)
  have hl2 : len ≤ 1048576 := by omega
  have cD := drawMerge w ao len cap cs hl2 h
  have HC0 : Hid (CodeIs w w.heap.size ao len cs) := h
  clear hbig h hl
  go_enter Try.func6, Try.ntmps6
  go_wp2_with fail
  refine c0.mono ?_
  rintro e w' ⟨rfl, rfl⟩
  go_wp2_with fail
  refine cD.mono ?_
  rintro e w1 ⟨⟨ua, ub, a, b, rfl, hOa, hOb, hla, hlb⟩, hb⟩
  have A1 : Hid (Owns w1 w.heap.size 40 2 ua (ptR a)) := hOa
  have D1 : Hid (Owns w1 w.heap.size 40 2 ub (ptR b)) := hOb
  have B1 : Hid (Below w.heap.size w w1) := hb
  have LA : Hid (a.length ≤ 1048576) := by unfold Hid; omega
  have LB : Hid (b.length ≤ 1048576) := by unfold Hid; omega
  have qa : (a.length : Int) ≤ 600 := by omega
  have qb : (b.length : Int) ≤ 600 := by omega
  clear hOa hOb hb cD c0 hla hlb
  have cM := implMerge a b ua ub w1 w1.heap.size A1.out.lies D1.out.lies LA.out LB.out (Nat.le_refl _)
  go_wp2_with fail
  refine cM.mono ?_
  rintro e w2 ⟨⟨ux, rfl, hO⟩, hb⟩
  have X2 : Hid (Owns w2 w1.heap.size 40 2 ux (ptR (mergeR a b))) := hO
  have A2 : Hid (Owns w2 w.heap.size 40 2 ua (ptR a)) := A1.out.on hb
  have D2 : Hid (Owns w2 w.heap.size 40 2 ub (ptR b)) := D1.out.on hb
  have B2 : Hid (Below w.heap.size w w2) := B1.out.trans (hb.mono B1.out.size)
  clear hO hb cM A1 D1
  have cA := specPointsOk a ua w2 w2.heap.size A2.out.lies LA.out (Nat.le_refl _)
  obtain ⟨Aa, ca, rfl, hka⟩ := pt_look A2.out.lies
  obtain ⟨Ab, cb, rfl, hkb⟩ := pt_look D2.out.lies
  obtain ⟨Ax, cx, rfl, _⟩ := pt_look X2.out.lies
  by_cases hpa : ¬ POk a
  · have e1 : mergeB a b = false := decide_eq_false (fun h => hpa h.1)
    have e2 : (mergeR a b).length = 0 := by rw [show mergeR a b = [] from if_neg (fun h => hpa h.1)]; rfl
    rw [decide_eq_false hpa] at cA
    rw [e1, e2]
    clear hpa
    go_wp2_with fail
    refine cA.mono ?_
    rintro e w3 ⟨rfl, hL⟩
    have B3 : Hid (Below w.heap.size w w3) := B2.out.trans (hL.below.mono B2.out.size)
    clear hL
    go_wp2_with fail
    go_ret
    exact ⟨rfl, B3.out⟩
  have HPA : Hid (POk a) := (Decidable.not_not (p := POk a)).1 hpa
  rw [decide_eq_true HPA.out] at cA
  clear hpa
  by_cases hpb : ¬ POk b
  · have e1 : mergeB a b = false := decide_eq_false (fun h => hpb h.2.1)
    have e2 : (mergeR a b).length = 0 := by rw [show mergeR a b = [] from if_neg (fun h => hpb h.2.1)]; rfl
    rw [e1, e2]
    go_wp2_with fail
    refine cA.mono ?_
    rintro e w3 ⟨rfl, hL⟩
    have B3 : Hid (Below w.heap.size w w3) := B2.out.trans (hL.below.mono B2.out.size)
    have cB := specPointsOk b (.slice Ab b.length cb) w3 w3.heap.size (D2.out.on hL.below).lies LB.out (Nat.le_refl _)
    rw [decide_eq_false hpb] at cB
    clear hL hpb
    go_wp2_with fail
    refine cB.mono ?_
    rintro e w4 ⟨rfl, hL⟩
    have B4 : Hid (Below w.heap.size w w4) := B3.out.trans (hL.below.mono B3.out.size)
    clear hL
    go_wp2_with fail
    go_ret
    exact ⟨rfl, B4.out⟩
  have HPB : Hid (POk b) := (Decidable.not_not (p := POk b)).1 hpb
  clear hpb
  by_cases hbb : mergeB a b = false
  · have e1 : (mergeR a b).length ≤ 60 := mergeR_len a b
    have HLL : Hid (60 < a.length + b.length) := by
      unfold Hid
      have h1 : ¬ (POk a ∧ POk b ∧ (mrg a b).length ≤ 60) := fun hh => by rw [(mergeB_iff a b).2 hh] at hbb; cases hbb
      have h2 := mrg_length b a
      have h3 : ¬ (mrg a b).length ≤ 60 := fun hh => h1 ⟨HPA.out, HPB.out, hh⟩
      omega
    rw [hbb]
    have q9 : (60 : Int) < (a.length : Int) + (b.length : Int) := by have := HLL.out; omega
    generalize (mergeR a b).length = lx at *
    generalize a.length = la at *
    generalize hlb0 : b.length = lb at *
    clear hbb
    go_wp2_with fail
    refine cA.mono ?_
    rintro e w3 ⟨rfl, hL⟩
    have B3 : Hid (Below w.heap.size w w3) := B2.out.trans (hL.below.mono B2.out.size)
    have cB := specPointsOk b (.slice Ab lb cb) w3 w3.heap.size (D2.out.on hL.below).lies (by rw [hlb0]; exact LB.out) (Nat.le_refl _)
    rw [decide_eq_true HPB.out] at cB
    clear hL hlb0
    go_wp2_with fail
    refine cB.mono ?_
    rintro e w4 ⟨rfl, hL⟩
    have B4 : Hid (Below w.heap.size w w4) := B3.out.trans (hL.below.mono B3.out.size)
    clear hL
    go_wp2_with fail
    go_ret
    exact ⟨rfl, B4.out⟩
  have HBT : Hid (mergeB a b = true) := by unfold Hid; cases hh : mergeB a b with | false => exact absurd hh hbb | true => rfl
  rw [HBT.out]
  have HXR : Hid (mergeR a b = mrg a b) := mergeR_of HBT.out
  have HXO : Hid (POk (mergeR a b)) := by unfold Hid; rw [HXR.out]; exact mrg_ok HPA.out HPB.out ((mergeB_iff a b).1 HBT.out).2.2
  have HRB : Hid (Rising b) := ((POk_iff b).1 HPB.out).2.1
  have HMB : Hid (∀ p ∈ b, p ∈ mergeR a b) := fun p hp => by rw [HXR.out]; exact (mem_mrg p b a HRB.out).2 (.inl hp)
  have HMA : Hid (∀ p ∈ a, noT b p = true → p ∈ mergeR a b) := fun p hp hn => by rw [HXR.out]; exact (mem_mrg p b a HRB.out).2 (.inr ⟨hp, (noT_iff b p).1 hn⟩)
  have HCT : Hid ((mergeR a b).length = b.length + cnt a b a.length) := by
    unfold Hid cnt
    rw [HXR.out, mrg_count _ a b (Nat.le_refl _) ((POk_iff a).1 HPA.out).2.1 HRB.out, List.take_length]
  have HBA : Hid (∀ p ∈ a, 0 ≤ p.t ∧ p.t ≤ 1099511627776) := fun p hp => (((POk_iff a).1 HPA.out).2.2 p hp).1
  have HBB : Hid (∀ p ∈ b, 0 ≤ p.t ∧ p.t ≤ 1099511627776) := fun p hp => (((POk_iff b).1 HPB.out).2.2 p hp).1
  clear hbb
  go_wp2_with fail
  refine cA.mono ?_
  rintro e w2' ⟨rfl, hL⟩
  have B2' : Hid (Below w.heap.size w w2') := B2.out.trans (hL.below.mono B2.out.size)
  have hbL := hL.below
  have cB := specPointsOk b (.slice Ab b.length cb) w2' w2'.heap.size (D2.out.on hbL).lies LB.out (Nat.le_refl _)
  rw [decide_eq_true HPB.out] at cB
  clear hL
  go_wp2_with fail
  refine cB.mono ?_
  rintro e w3 ⟨rfl, hL⟩
  have B23 : Hid (Below w2.heap.size w2 w3) := hbL.trans (hL.below.mono hbL.size)
  have B3 : Hid (Below w.heap.size w w3) := B2.out.trans (B23.out.mono B2.out.size)
  have A3 : Hid (Owns w3 w.heap.size 40 2 (.slice Aa a.length ca) (ptR a)) := A2.out.on B23.out
  have D3 : Hid (Owns w3 w.heap.size 40 2 (.slice Ab b.length cb) (ptR b)) := D2.out.on B23.out
  have X3 : Hid (Owns w3 w1.heap.size 40 2 (.slice Ax (mergeR a b).length cx) (ptR (mergeR a b))) := X2.out.on B23.out
  clear hL hbL cA cB A2 D2 X2 hka hkb
  obtain ⟨_, _, e, hka⟩ := pt_look A3.out.lies
  cases e
  obtain ⟨_, _, e, hkb⟩ := pt_look D3.out.lies
  cases e
  have HKA : Hid (∀ j, j < a.length → ∃ g off, Aa = some ⟨g, off, none⟩ ∧ g < w3.heap.size ∧ w3.cell? ⟨g, off + j * 2, none⟩ = some (.int .i64 (a.getD j default).t) ∧ w3.cell? ⟨g, off + j * 2 + 1, none⟩ = some (.int .i64 (a.getD j default).v)) := hka
  have HKB : Hid (∀ j, j < b.length → ∃ g off, Ab = some ⟨g, off, none⟩ ∧ g < w3.heap.size ∧ w3.cell? ⟨g, off + j * 2, none⟩ = some (.int .i64 (b.getD j default).t) ∧ w3.cell? ⟨g, off + j * 2 + 1, none⟩ = some (.int .i64 (b.getD j default).v)) := hkb
  clear hka hkb
  have LX : Hid ((mergeR a b).length ≤ 60) := mergeR_len a b
  have cS := fun (p : Pnt) (wx : World) (hx : Below w3.heap.size w3 wx) => implSlice (mergeR a b) p.t (p.t + 1) (.slice Ax (mergeR a b).length cx) wx wx.heap.size (X3.out.on hx).lies (by have := LX.out; omega) (Nat.le_refl _)
  have cT := fun (p : Pnt) (wx : World) (hx : Below w3.heap.size w3 wx) => specSlice b p.t (p.t + 1) (.slice Ab b.length cb) wx wx.heap.size (D3.out.on hx).lies LB.out (Nat.le_refl _)
  have qx : ((mergeR a b).length : Int) ≤ 60 := by have := LX.out; omega
  generalize hlx : (mergeR a b).length = lx at *
  have HLX : Hid ((mergeR a b).length = lx) := hlx
  generalize hlb : b.length = lb at *
  have HLB : Hid (b.length = lb) := hlb
  generalize hla : a.length = la at *
  have HLA : Hid (a.length = la) := hla
  clear hlx hlb hla
  go_wp2_with fail
  go_loopw [7] (fun v7 wr => ∃ k : Nat, k ≤ lb ∧ v7 = .int .i64 (k : Int) ∧ Below w3.heap.size w3 wr) (fun i _ => lb - (intOf i).toNat)
  case atStart => exact ⟨0, by omega, rfl, Below.refl _ _⟩
  case round =>
    obtain ⟨k, hk, rfl, hb⟩ := hrel
    have HB1 : Hid (Below w3.heap.size w3 wr) := hb
    clear hb
    by_cases hlt : k < lb
    · have q4 : (k : Int) < (lb : Int) := by omega
      obtain ⟨g, off, rfl, hg, e1, e2⟩ := HKB.out k hlt
      have hmem : b.getD k default ∈ b := getD_mem b k (by have := HLB.out; omega)
      have hbd := HBB.out _ hmem
      have cX := cS (b.getD k default)
      rw [slice_one HXO.out (HMB.out _ hmem)] at cX
      generalize b.getD k default = p at *
      have HG : Hid (g < w3.heap.size) := hg
      have HC : Hid (wr.cell? ⟨g, off + k * 2, none⟩ = some (.int .i64 p.t) ∧ wr.cell? ⟨g, off + k * 2 + 1, none⟩ = some (.int .i64 p.v)) := ⟨(HB1.out.cell (p := ⟨_, _, none⟩) hg).trans e1, (HB1.out.cell (p := ⟨_, _, none⟩) hg).trans e2⟩
      have S0 : Hid (wr.drew.cell? ⟨g, off + k * 2, none⟩ = some (.int .i64 p.t) ∧ wr.drew.cell? ⟨g, off + k * 2 + 1, none⟩ = some (.int .i64 p.v)) := HC.out
      have q5 : p.t ≤ 1099511627776 := hbd.2
      have q6 : 0 ≤ p.t := hbd.1
      have hw1 : IntKind.i64.wrap (p.t + 1) = p.t + 1 := by rw [IntKind.wrap_i64]; omega
      clear e1 e2 hg hmem hbd cS cT
      go_wp2_with fail
      refine wp_region_until (fun w' => w'.cell? ⟨g, off + k * 2, none⟩ = some (.int .i64 p.t) ∧ w'.cell? ⟨g, off + k * 2 + 1, none⟩ = some (.int .i64 p.v)) (fun _ => false) 37 (by rfl) (by kernel_rfl) ?_
      refine until_take 0 (v := ?_) (by rfl) (by kernel_rfl) (by exact fun _ _ _ h => h) (by rfl) ?_ S0.out ?_
      rotate_left
      · intro w hSw
        try dsimp only at hSw
        go_simp
        try with_reducible rfl
      try simp only [Act.put, List.setIfInBounds_toArray, List.set_cons_zero, List.set_cons_succ]
      refine until_take 1 (v := ?_) (by rfl) (by kernel_rfl) (by exact fun _ _ _ h => h) (by rfl) ?_ S0.out ?_
      rotate_left
      · intro w hSw
        try dsimp only at hSw
        go_simp
        try with_reducible rfl
      try simp only [Act.put, List.setIfInBounds_toArray, List.set_cons_zero, List.set_cons_succ]
      refine until_take 2 (v := ?_) (by rfl) (by kernel_rfl) (by exact fun _ _ _ h => h) (by rfl) ?_ S0.out ?_
      rotate_left
      · intro w hSw
        try dsimp only at hSw
        go_simp
        try with_reducible rfl
      try simp only [Act.put, List.setIfInBounds_toArray, List.set_cons_zero, List.set_cons_succ]
      refine until_take 3 (v := ?_) (by rfl) (by kernel_rfl) (by exact fun _ _ _ h => h) (by rfl) ?_ S0.out ?_
      rotate_left
      · intro w hSw
        try dsimp only at hSw
        go_simp
        try with_reducible rfl
      try simp only [Act.put, List.setIfInBounds_toArray, List.set_cons_zero, List.set_cons_succ]
      refine until_take 4 (v := ?_) (by rfl) (by kernel_rfl) (by exact fun _ _ _ h => h) (by rfl) ?_ S0.out ?_
      rotate_left
      · intro w hSw
        try dsimp only at hSw
        go_simp
        try with_reducible rfl
      try simp only [Act.put, List.setIfInBounds_toArray, List.set_cons_zero, List.set_cons_succ]
      refine until_take 5 (v := ?_) (by rfl) (by kernel_rfl) (by exact fun _ _ _ h => h) (by rfl) ?_ S0.out ?_
      rotate_left
      · intro w hSw
        try dsimp only at hSw
        go_simp
        try with_reducible rfl
      try simp only [Act.put, List.setIfInBounds_toArray, List.set_cons_zero, List.set_cons_succ]
      refine until_take 6 (v := ?_) (by rfl) (by kernel_rfl) (by exact fun _ _ _ h => h) (by rfl) ?_ S0.out ?_
      rotate_left
      · intro w hSw
        try dsimp only at hSw
        go_simp
        try with_reducible rfl
      try simp only [Act.put, List.setIfInBounds_toArray, List.set_cons_zero, List.set_cons_succ]
      refine until_take 7 (v := ?_) (by rfl) (by kernel_rfl) (by exact fun _ _ _ h => h) (by rfl) ?_ S0.out ?_
      rotate_left
      · intro w hSw
        try dsimp only at hSw
        go_simp
        try with_reducible rfl
      try simp only [Act.put, List.setIfInBounds_toArray, List.set_cons_zero, List.set_cons_succ]
      refine until_take 8 (v := ?_) (by rfl) (by kernel_rfl) (by exact fun _ _ _ h => h) (by rfl) ?_ S0.out ?_
      rotate_left
      · intro w hSw
        try dsimp only at hSw
        go_simp
        try with_reducible rfl
      try simp only [Act.put, List.setIfInBounds_toArray, List.set_cons_zero, List.set_cons_succ]
      refine until_take 9 (v := ?_) (by rfl) (by kernel_rfl) (by exact fun _ _ _ h => h) (by rfl) ?_ S0.out ?_
      rotate_left
      · intro w hSw
        try dsimp only at hSw
        go_simp
        try with_reducible rfl
      try simp only [Act.put, List.setIfInBounds_toArray, List.set_cons_zero, List.set_cons_succ]
      refine until_take 10 (v := ?_) (by rfl) (by kernel_rfl) (by exact fun _ _ _ h => h) (by rfl) ?_ S0.out ?_
      rotate_left
      · intro w hSw
        try dsimp only at hSw
        go_simp
        try with_reducible rfl
      try simp only [Act.put, List.setIfInBounds_toArray, List.set_cons_zero, List.set_cons_succ]
      refine until_take 11 (v := ?_) (by rfl) (by kernel_rfl) (by exact fun _ _ _ h => h) (by rfl) ?_ S0.out ?_
      rotate_left
      · intro w hSw
        try dsimp only at hSw
        go_simp
        try with_reducible rfl
      try simp only [Act.put, List.setIfInBounds_toArray, List.set_cons_zero, List.set_cons_succ]
      refine until_one 12 (by rfl) (by kernel_rfl) (fun K hK => ?_)
      go_simp
      refine (cX wr.drew (HB1.out.drew)).mono ?_
      rintro e w4 ⟨⟨u1, rfl, hO4⟩, hb4⟩
      have P1 : Hid (Below w3.heap.size w3 w4) := HB1.out.drew.trans (hb4.mono HB1.out.size)
      have R1 : Hid (Below w3.heap.size wr w4) := (Below.refl _ wr).drew.trans (hb4.mono HB1.out.size)
      have S1 : Hid (w4.cell? ⟨g, off + k * 2, none⟩ = some (.int .i64 p.t) ∧ w4.cell? ⟨g, off + k * 2 + 1, none⟩ = some (.int .i64 p.v)) := ⟨(R1.out.cell (p := ⟨_, _, none⟩) HG.out).trans HC.out.1, (R1.out.cell (p := ⟨_, _, none⟩) HG.out).trans HC.out.2⟩
      obtain ⟨g1, c1, rfl, _, _, _⟩ := one_look hO4
      clear hb4 hO4
      go_wp2_with fail
      refine hK.out _ _ (fun _ _ => S1.out) ?_
      clear hK K
      try simp only [Act.put, List.setIfInBounds_toArray, List.set_cons_zero, List.set_cons_succ]
      refine until_take 13 (v := ?_) (by rfl) (by kernel_rfl) (by exact fun _ _ _ h => h) (by rfl) ?_ S1.out ?_
      rotate_left
      · intro w hSw
        try dsimp only at hSw
        go_simp
        try with_reducible rfl
      try simp only [Act.put, List.setIfInBounds_toArray, List.set_cons_zero, List.set_cons_succ]
      refine until_take 14 (v := ?_) (by rfl) (by kernel_rfl) (by exact fun _ _ _ h => h) (by rfl) ?_ S1.out ?_
      rotate_left
      · intro w hSw
        try dsimp only at hSw
        go_simp
        try with_reducible rfl
      try simp only [Act.put, List.setIfInBounds_toArray, List.set_cons_zero, List.set_cons_succ]
      refine until_take 15 (v := ?_) (by rfl) (by kernel_rfl) (by exact fun _ _ _ h => h) (by rfl) ?_ S1.out ?_
      rotate_left
      · intro w hSw
        try dsimp only at hSw
        go_simp
        try with_reducible rfl
      try simp only [Act.put, List.setIfInBounds_toArray, List.set_cons_zero, List.set_cons_succ]
      refine until_take 16 (v := ?_) (by rfl) (by kernel_rfl) (by exact fun _ _ _ h => h) (by rfl) ?_ S1.out ?_
      rotate_left
      · intro w hSw
        try dsimp only at hSw
        go_simp
        try with_reducible rfl
      try simp only [Act.put, List.setIfInBounds_toArray, List.set_cons_zero, List.set_cons_succ]
      refine until_take 17 (v := ?_) (by rfl) (by kernel_rfl) (by exact fun _ _ _ h => h) (by rfl) ?_ S1.out ?_
      rotate_left
      · intro w hSw
        try dsimp only at hSw
        go_simp
        try with_reducible rfl
      try simp only [Act.put, List.setIfInBounds_toArray, List.set_cons_zero, List.set_cons_succ]
      refine until_take 18 (v := ?_) (by rfl) (by kernel_rfl) (by exact fun _ _ _ h => h) (by rfl) ?_ S1.out ?_
      rotate_left
      · intro w hSw
        try dsimp only at hSw
        go_simp
        try with_reducible rfl
      try simp only [Act.put, List.setIfInBounds_toArray, List.set_cons_zero, List.set_cons_succ]
      refine until_take 19 (v := ?_) (by rfl) (by kernel_rfl) (by exact fun _ _ _ h => h) (by rfl) ?_ S1.out ?_
      rotate_left
      · intro w hSw
        try dsimp only at hSw
        go_simp
        try with_reducible rfl
      try simp only [Act.put, List.setIfInBounds_toArray, List.set_cons_zero, List.set_cons_succ]
      refine until_take 20 (v := ?_) (by rfl) (by kernel_rfl) (by exact fun _ _ _ h => h) (by rfl) ?_ S1.out ?_
      rotate_left
      · intro w hSw
        try dsimp only at hSw
        go_simp
        try with_reducible rfl
      try simp only [Act.put, List.setIfInBounds_toArray, List.set_cons_zero, List.set_cons_succ]
      refine until_take 21 (v := ?_) (by rfl) (by kernel_rfl) (by exact fun _ _ _ h => h) (by rfl) ?_ S1.out ?_
      rotate_left
      · intro w hSw
        try dsimp only at hSw
        go_simp
        try with_reducible rfl
      try simp only [Act.put, List.setIfInBounds_toArray, List.set_cons_zero, List.set_cons_succ]
      refine until_take 22 (v := ?_) (by rfl) (by kernel_rfl) (by exact fun _ _ _ h => h) (by rfl) ?_ S1.out ?_
      rotate_left
      · intro w hSw
        try dsimp only at hSw
        go_simp
        try with_reducible rfl
      try simp only [Act.put, List.setIfInBounds_toArray, List.set_cons_zero, List.set_cons_succ]
      refine until_take 23 (v := ?_) (by rfl) (by kernel_rfl) (by exact fun _ _ _ h => h) (by rfl) ?_ S1.out ?_
      rotate_left
      · intro w hSw
        try dsimp only at hSw
        go_simp
        try with_reducible rfl
      try simp only [Act.put, List.setIfInBounds_toArray, List.set_cons_zero, List.set_cons_succ]
      refine until_take 24 (v := ?_) (by rfl) (by kernel_rfl) (by exact fun _ _ _ h => h) (by rfl) ?_ S1.out ?_
      rotate_left
      · intro w hSw
        try dsimp only at hSw
        go_simp
        try with_reducible rfl
      try simp only [Act.put, List.setIfInBounds_toArray, List.set_cons_zero, List.set_cons_succ]
      refine until_take 25 (v := ?_) (by rfl) (by kernel_rfl) (by exact fun _ _ _ h => h) (by rfl) ?_ S1.out ?_
      rotate_left
      · intro w hSw
        try dsimp only at hSw
        go_simp
        try with_reducible rfl
      try simp only [Act.put, List.setIfInBounds_toArray, List.set_cons_zero, List.set_cons_succ]
      refine until_take 26 (v := ?_) (by rfl) (by kernel_rfl) (by exact fun _ _ _ h => h) (by rfl) ?_ S1.out ?_
      rotate_left
      · intro w hSw
        try dsimp only at hSw
        go_simp
        try with_reducible rfl
      try simp only [Act.put, List.setIfInBounds_toArray, List.set_cons_zero, List.set_cons_succ]
      refine until_take 27 (v := ?_) (by rfl) (by kernel_rfl) (by exact fun _ _ _ h => h) (by rfl) ?_ S1.out ?_
      rotate_left
      · intro w hSw
        try dsimp only at hSw
        go_simp
        try with_reducible rfl
      try simp only [Act.put, List.setIfInBounds_toArray, List.set_cons_zero, List.set_cons_succ]
      refine until_take 31 (v := ?_) (by rfl) (by kernel_rfl) (by exact fun _ _ _ h => h) (by rfl) ?_ S1.out ?_
      rotate_left
      · intro w hSw
        try dsimp only at hSw
        go_simp
        try with_reducible rfl
      try simp only [Act.put, List.setIfInBounds_toArray, List.set_cons_zero, List.set_cons_succ]
      refine until_take 32 (v := ?_) (by rfl) (by kernel_rfl) (by exact fun _ _ _ h => h) (by rfl) ?_ S1.out ?_
      rotate_left
      · intro w hSw
        try dsimp only at hSw
        go_simp
        try with_reducible rfl
      try simp only [Act.put, List.setIfInBounds_toArray, List.set_cons_zero, List.set_cons_succ]
      refine until_take 33 (v := ?_) (by rfl) (by kernel_rfl) (by exact fun _ _ _ h => h) (by rfl) ?_ S1.out ?_
      rotate_left
      · intro w hSw
        try dsimp only at hSw
        go_simp
        try with_reducible rfl
      try simp only [Act.put, List.setIfInBounds_toArray, List.set_cons_zero, List.set_cons_succ]
      refine until_take 34 (v := ?_) (by rfl) (by kernel_rfl) (by exact fun _ _ _ h => h) (by rfl) ?_ S1.out ?_
      rotate_left
      · intro w hSw
        try dsimp only at hSw
        go_simp
        try with_reducible rfl
      try simp only [Act.put, List.setIfInBounds_toArray, List.set_cons_zero, List.set_cons_succ]
      refine until_one 28 (by rfl) (by kernel_rfl) (fun K hK => ?_)
      go_simp
      refine (cX w4 P1.out).mono ?_
      rintro e w5 ⟨⟨u2, rfl, hO5⟩, hb5⟩
      have P2 : Hid (Below w3.heap.size w3 w5) := P1.out.trans (hb5.mono P1.out.size)
      have R2 : Hid (Below w3.heap.size wr w5) := R1.out.trans (hb5.mono P1.out.size)
      have S2 : Hid (w5.cell? ⟨g, off + k * 2, none⟩ = some (.int .i64 p.t) ∧ w5.cell? ⟨g, off + k * 2 + 1, none⟩ = some (.int .i64 p.v)) := ⟨(R2.out.cell (p := ⟨_, _, none⟩) HG.out).trans HC.out.1, (R2.out.cell (p := ⟨_, _, none⟩) HG.out).trans HC.out.2⟩
      obtain ⟨g2, c2, rfl, _, y1, y2⟩ := one_look hO5
      clear hb5 hO5
      go_wp2_with fail
      refine hK.out _ _ (fun _ _ => S2.out) ?_
      clear hK K
      try simp only [Act.put, List.setIfInBounds_toArray, List.set_cons_zero, List.set_cons_succ]
      refine until_one 29 (by rfl) (by kernel_rfl) (fun K hK => ?_)
      go_simp
      refine hK.out _ _ (fun _ h => h) ?_
      clear hK K
      try simp only [Act.put, List.setIfInBounds_toArray, List.set_cons_zero, List.set_cons_succ]
      refine until_one 30 (by rfl) (by kernel_rfl) (fun K hK => ?_)
      go_simp
      refine hK.out _ _ (fun _ h => h) ?_
      clear hK K
      try simp only [Act.put, List.setIfInBounds_toArray, List.set_cons_zero, List.set_cons_succ]
      clear y1 y2
      refine until_take 35 (v := .bool false) (by rfl) (by kernel_rfl) (by exact fun _ _ _ h => h) (by rfl) ?_ S2.out ?_
      · intro w hSw
        try dsimp only at hSw
        go_simp
      try simp only [Act.put, List.setIfInBounds_toArray, List.set_cons_zero, List.set_cons_succ]
      refine until_take 36 (v := ?_) (by rfl) (by kernel_rfl) (by exact fun _ _ _ h => h) (by rfl) ?_ S2.out ?_
      rotate_left
      · intro w hSw
        try dsimp only at hSw
        go_simp
        try with_reducible rfl
      try simp only [Act.put, List.setIfInBounds_toArray, List.set_cons_zero, List.set_cons_succ]
      refine until_done (by kernel_rfl) ?_ _
      go_wp2_with fail
      go_roundw
      case rel => exact ⟨k + 1, by omega, by go_num, P2.out⟩
      case measure => simp [intOf]; omega
    · obtain rfl : k = lb := by omega
      have W4 : Hid (Below w3.heap.size w3 wr) := HB1.out
      generalize wr = wq at *
      go_wp2_with fail
      go_loopw [8, 9] (fun v8 v9 wr => ∃ k' : Nat, k' ≤ la ∧ v9 = .int .i64 (k' : Int) ∧ v8 = .int .i64 ((k + cnt a b k' : Nat) : Int) ∧ Below w3.heap.size w3 wr) (fun _ i _ => la - (intOf i).toNat)
      case atStart => exact ⟨0, by omega, rfl, by simp [cnt], W4.out⟩
      case round =>
        obtain ⟨k', hk', rfl, rfl, hb⟩ := hrel
        have HB1 : Hid (Below w3.heap.size w3 wr) := hb
        have hcl := cnt_le a b k'
        clear hb
        by_cases hlt2 : k' < la
        · have q4 : (k' : Int) < (la : Int) := by omega
          obtain ⟨g, off, rfl, hg, e1, e2⟩ := HKA.out k' hlt2
          have hmem : a.getD k' default ∈ a := getD_mem a k' (by have := HLA.out; omega)
          have hbd := HBA.out _ hmem
          have HCS : Hid (cnt a b (k' + 1) = cnt a b k' + (if noT b (a.getD k' default) then 1 else 0)) := cnt_succ a b k' (by have := HLA.out; omega)
          have HIN : Hid (noT b (a.getD k' default) = true → a.getD k' default ∈ mergeR a b) := HMA.out _ hmem
          have cX0 := cS (a.getD k' default)
          have cY := cT (a.getD k' default)
          have HSN : Hid (((sliceR b (a.getD k' default).t ((a.getD k' default).t + 1)).length = 0) ↔ noT b (a.getD k' default) = true) := slice_noT HPB.out _
          have HS1 : Hid (noT b (a.getD k' default) = true → sliceR (mergeR a b) (a.getD k' default).t ((a.getD k' default).t + 1) = [a.getD k' default]) := fun hh => slice_one HXO.out (HIN.out hh)
          have HSL := sliceR_len b (a.getD k' default).t ((a.getD k' default).t + 1)
          generalize a.getD k' default = p at *
          generalize hcn : cnt a b k' = cn at *
          have HG : Hid (g < w3.heap.size) := hg
          have q5 : p.t ≤ 1099511627776 := hbd.2
          have q6 : 0 ≤ p.t := hbd.1
          have hw1 : IntKind.i64.wrap (p.t + 1) = p.t + 1 := by rw [IntKind.wrap_i64]; omega
          generalize hmm : (sliceR b p.t (p.t + 1)).length = ml at *
          have q7 : (ml : Int) ≤ 60 := by omega
          have HMM : Hid ((sliceR b p.t (p.t + 1)).length = ml) := hmm
          generalize k' = kk at *
          have HC : Hid (wr.cell? ⟨g, off + kk * 2, none⟩ = some (.int .i64 p.t) ∧ wr.cell? ⟨g, off + kk * 2 + 1, none⟩ = some (.int .i64 p.v)) := ⟨(HB1.out.cell (p := ⟨_, _, none⟩) hg).trans e1, (HB1.out.cell (p := ⟨_, _, none⟩) hg).trans e2⟩
          have S0 : Hid (wr.drew.cell? ⟨g, off + kk * 2, none⟩ = some (.int .i64 p.t) ∧ wr.drew.cell? ⟨g, off + kk * 2 + 1, none⟩ = some (.int .i64 p.v)) := HC.out
          clear e1 e2 hg hmem hbd cS cT hmm hcn
          cases hnt : noT b p with
          | false =>
            have d1 : decide (ml = 0) = false := decide_eq_false (fun h0 => by rw [(HSN.out).1 h0] at hnt; cases hnt)
            have d2 : ((ml : Int) == 0) = false := by rw [beq_eq_false_iff_ne]; intro h0; have : ml = 0 := by omega
                                                      rw [(HSN.out).1 this] at hnt; cases hnt
            have d3 : ¬ ml = 0 := of_decide_eq_false d1
            rw [hnt] at HCS
            clear hnt
            go_wp2_with fail
            refine wp_region_until (fun w' => w'.cell? ⟨g, off + kk * 2, none⟩ = some (.int .i64 p.t) ∧ w'.cell? ⟨g, off + kk * 2 + 1, none⟩ = some (.int .i64 p.v)) (fun _ => false) 15 (by rfl) (by kernel_rfl) ?_
            refine until_take 0 (v := ?_) (by rfl) (by kernel_rfl) (by exact fun _ _ _ h => h) (by rfl) ?_ S0.out ?_
            rotate_left
            · intro w hSw
              try dsimp only at hSw
              go_simp
              try with_reducible rfl
            try simp only [Act.put, List.setIfInBounds_toArray, List.set_cons_zero, List.set_cons_succ]
            refine until_take 1 (v := ?_) (by rfl) (by kernel_rfl) (by exact fun _ _ _ h => h) (by rfl) ?_ S0.out ?_
            rotate_left
            · intro w hSw
              try dsimp only at hSw
              go_simp
              try with_reducible rfl
            try simp only [Act.put, List.setIfInBounds_toArray, List.set_cons_zero, List.set_cons_succ]
            refine until_take 2 (v := ?_) (by rfl) (by kernel_rfl) (by exact fun _ _ _ h => h) (by rfl) ?_ S0.out ?_
            rotate_left
            · intro w hSw
              try dsimp only at hSw
              go_simp
              try with_reducible rfl
            try simp only [Act.put, List.setIfInBounds_toArray, List.set_cons_zero, List.set_cons_succ]
            refine until_take 3 (v := ?_) (by rfl) (by kernel_rfl) (by exact fun _ _ _ h => h) (by rfl) ?_ S0.out ?_
            rotate_left
            · intro w hSw
              try dsimp only at hSw
              go_simp
              try with_reducible rfl
            try simp only [Act.put, List.setIfInBounds_toArray, List.set_cons_zero, List.set_cons_succ]
            refine until_take 4 (v := ?_) (by rfl) (by kernel_rfl) (by exact fun _ _ _ h => h) (by rfl) ?_ S0.out ?_
            rotate_left
            · intro w hSw
              try dsimp only at hSw
              go_simp
              try with_reducible rfl
            try simp only [Act.put, List.setIfInBounds_toArray, List.set_cons_zero, List.set_cons_succ]
            refine until_take 5 (v := ?_) (by rfl) (by kernel_rfl) (by exact fun _ _ _ h => h) (by rfl) ?_ S0.out ?_
            rotate_left
            · intro w hSw
              try dsimp only at hSw
              go_simp
              try with_reducible rfl
            try simp only [Act.put, List.setIfInBounds_toArray, List.set_cons_zero, List.set_cons_succ]
            refine until_take 6 (v := ?_) (by rfl) (by kernel_rfl) (by exact fun _ _ _ h => h) (by rfl) ?_ S0.out ?_
            rotate_left
            · intro w hSw
              try dsimp only at hSw
              go_simp
              try with_reducible rfl
            try simp only [Act.put, List.setIfInBounds_toArray, List.set_cons_zero, List.set_cons_succ]
            refine until_take 7 (v := ?_) (by rfl) (by kernel_rfl) (by exact fun _ _ _ h => h) (by rfl) ?_ S0.out ?_
            rotate_left
            · intro w hSw
              try dsimp only at hSw
              go_simp
              try with_reducible rfl
            try simp only [Act.put, List.setIfInBounds_toArray, List.set_cons_zero, List.set_cons_succ]
            refine until_take 8 (v := ?_) (by rfl) (by kernel_rfl) (by exact fun _ _ _ h => h) (by rfl) ?_ S0.out ?_
            rotate_left
            · intro w hSw
              try dsimp only at hSw
              go_simp
              try with_reducible rfl
            try simp only [Act.put, List.setIfInBounds_toArray, List.set_cons_zero, List.set_cons_succ]
            refine until_take 9 (v := ?_) (by rfl) (by kernel_rfl) (by exact fun _ _ _ h => h) (by rfl) ?_ S0.out ?_
            rotate_left
            · intro w hSw
              try dsimp only at hSw
              go_simp
              try with_reducible rfl
            try simp only [Act.put, List.setIfInBounds_toArray, List.set_cons_zero, List.set_cons_succ]
            refine until_take 10 (v := ?_) (by rfl) (by kernel_rfl) (by exact fun _ _ _ h => h) (by rfl) ?_ S0.out ?_
            rotate_left
            · intro w hSw
              try dsimp only at hSw
              go_simp
              try with_reducible rfl
            try simp only [Act.put, List.setIfInBounds_toArray, List.set_cons_zero, List.set_cons_succ]
            refine until_take 11 (v := ?_) (by rfl) (by kernel_rfl) (by exact fun _ _ _ h => h) (by rfl) ?_ S0.out ?_
            rotate_left
            · intro w hSw
              try dsimp only at hSw
              go_simp
              try with_reducible rfl
            try simp only [Act.put, List.setIfInBounds_toArray, List.set_cons_zero, List.set_cons_succ]
            refine until_one 12 (by rfl) (by kernel_rfl) (fun K hK => ?_)
            go_simp
            refine (cY wr.drew (HB1.out.drew)).mono ?_
            rintro e w4 ⟨⟨u1, rfl, hO4⟩, hb4⟩
            have P1 : Hid (Below w3.heap.size w3 w4) := HB1.out.drew.trans (hb4.mono HB1.out.size)
            have R1 : Hid (Below w3.heap.size wr w4) := (Below.refl _ wr).drew.trans (hb4.mono HB1.out.size)
            have S1 : Hid (w4.cell? ⟨g, off + kk * 2, none⟩ = some (.int .i64 p.t) ∧ w4.cell? ⟨g, off + kk * 2 + 1, none⟩ = some (.int .i64 p.v)) := ⟨(R1.out.cell (p := ⟨_, _, none⟩) HG.out).trans HC.out.1, (R1.out.cell (p := ⟨_, _, none⟩) HG.out).trans HC.out.2⟩
            obtain ⟨A1, c1, rfl, _⟩ := pt_look hO4.lies
            rw [HMM.out]
            clear hb4 hO4
            go_wp2_with fail
            refine hK.out _ _ (fun _ _ => S1.out) ?_
            clear hK K
            try simp only [Act.put, List.setIfInBounds_toArray, List.set_cons_zero, List.set_cons_succ]
            refine until_take 13 (v := ?_) (by rfl) (by kernel_rfl) (by exact fun _ _ _ h => h) (by rfl) ?_ S1.out ?_
            rotate_left
            · intro w hSw
              try dsimp only at hSw
              go_simp
              try with_reducible rfl
            try simp only [Act.put, List.setIfInBounds_toArray, List.set_cons_zero, List.set_cons_succ]
            refine until_take 14 (v := .bool false) (by rfl) (by kernel_rfl) (by exact fun _ _ _ h => h) (by rfl) ?_ S1.out ?_
            · intro w hSw
              try dsimp only at hSw
              go_simp
              try exact d3
            try simp only [Act.put, List.setIfInBounds_toArray, List.set_cons_zero, List.set_cons_succ]
            refine until_done (by kernel_rfl) ?_ _
            go_wp2_with fail
            go_roundw
            case rel => exact ⟨kk + 1, by omega, by go_num, by rw [HCS.out]; simp, P1.out⟩
            case measure => simp [intOf]; omega
          | true =>
            have d3 : ml = 0 := (HSN.out).2 hnt
            subst d3
            rw [hnt] at HCS
            have cX := cX0
            rw [HS1.out hnt] at cX
            clear hnt cX0
            go_wp2_with fail
            refine wp_region_until (fun w' => w'.cell? ⟨g, off + kk * 2, none⟩ = some (.int .i64 p.t) ∧ w'.cell? ⟨g, off + kk * 2 + 1, none⟩ = some (.int .i64 p.v)) (fun _ => false) 15 (by rfl) (by kernel_rfl) ?_
            refine until_take 0 (v := ?_) (by rfl) (by kernel_rfl) (by exact fun _ _ _ h => h) (by rfl) ?_ S0.out ?_
            rotate_left
            · intro w hSw
              try dsimp only at hSw
              go_simp
              try with_reducible rfl
            try simp only [Act.put, List.setIfInBounds_toArray, List.set_cons_zero, List.set_cons_succ]
            refine until_take 1 (v := ?_) (by rfl) (by kernel_rfl) (by exact fun _ _ _ h => h) (by rfl) ?_ S0.out ?_
            rotate_left
            · intro w hSw
              try dsimp only at hSw
              go_simp
              try with_reducible rfl
            try simp only [Act.put, List.setIfInBounds_toArray, List.set_cons_zero, List.set_cons_succ]
            refine until_take 2 (v := ?_) (by rfl) (by kernel_rfl) (by exact fun _ _ _ h => h) (by rfl) ?_ S0.out ?_
            rotate_left
            · intro w hSw
              try dsimp only at hSw
              go_simp
              try with_reducible rfl
            try simp only [Act.put, List.setIfInBounds_toArray, List.set_cons_zero, List.set_cons_succ]
            refine until_take 3 (v := ?_) (by rfl) (by kernel_rfl) (by exact fun _ _ _ h => h) (by rfl) ?_ S0.out ?_
            rotate_left
            · intro w hSw
              try dsimp only at hSw
              go_simp
              try with_reducible rfl
            try simp only [Act.put, List.setIfInBounds_toArray, List.set_cons_zero, List.set_cons_succ]
            refine until_take 4 (v := ?_) (by rfl) (by kernel_rfl) (by exact fun _ _ _ h => h) (by rfl) ?_ S0.out ?_
            rotate_left
            · intro w hSw
              try dsimp only at hSw
              go_simp
              try with_reducible rfl
            try simp only [Act.put, List.setIfInBounds_toArray, List.set_cons_zero, List.set_cons_succ]
            refine until_take 5 (v := ?_) (by rfl) (by kernel_rfl) (by exact fun _ _ _ h => h) (by rfl) ?_ S0.out ?_
            rotate_left
            · intro w hSw
              try dsimp only at hSw
              go_simp
              try with_reducible rfl
            try simp only [Act.put, List.setIfInBounds_toArray, List.set_cons_zero, List.set_cons_succ]
            refine until_take 6 (v := ?_) (by rfl) (by kernel_rfl) (by exact fun _ _ _ h => h) (by rfl) ?_ S0.out ?_
            rotate_left
            · intro w hSw
              try dsimp only at hSw
              go_simp
              try with_reducible rfl
            try simp only [Act.put, List.setIfInBounds_toArray, List.set_cons_zero, List.set_cons_succ]
            refine until_take 7 (v := ?_) (by rfl) (by kernel_rfl) (by exact fun _ _ _ h => h) (by rfl) ?_ S0.out ?_
            rotate_left
            · intro w hSw
              try dsimp only at hSw
              go_simp
              try with_reducible rfl
            try simp only [Act.put, List.setIfInBounds_toArray, List.set_cons_zero, List.set_cons_succ]
            refine until_take 8 (v := ?_) (by rfl) (by kernel_rfl) (by exact fun _ _ _ h => h) (by rfl) ?_ S0.out ?_
            rotate_left
            · intro w hSw
              try dsimp only at hSw
              go_simp
              try with_reducible rfl
            try simp only [Act.put, List.setIfInBounds_toArray, List.set_cons_zero, List.set_cons_succ]
            refine until_take 9 (v := ?_) (by rfl) (by kernel_rfl) (by exact fun _ _ _ h => h) (by rfl) ?_ S0.out ?_
            rotate_left
            · intro w hSw
              try dsimp only at hSw
              go_simp
              try with_reducible rfl
            try simp only [Act.put, List.setIfInBounds_toArray, List.set_cons_zero, List.set_cons_succ]
            refine until_take 10 (v := ?_) (by rfl) (by kernel_rfl) (by exact fun _ _ _ h => h) (by rfl) ?_ S0.out ?_
            rotate_left
            · intro w hSw
              try dsimp only at hSw
              go_simp
              try with_reducible rfl
            try simp only [Act.put, List.setIfInBounds_toArray, List.set_cons_zero, List.set_cons_succ]
            refine until_take 11 (v := ?_) (by rfl) (by kernel_rfl) (by exact fun _ _ _ h => h) (by rfl) ?_ S0.out ?_
            rotate_left
            · intro w hSw
              try dsimp only at hSw
              go_simp
              try with_reducible rfl
            try simp only [Act.put, List.setIfInBounds_toArray, List.set_cons_zero, List.set_cons_succ]
            refine until_one 12 (by rfl) (by kernel_rfl) (fun K hK => ?_)
            go_simp
            refine (cY wr.drew (HB1.out.drew)).mono ?_
            rintro e w4 ⟨⟨u1, rfl, hO4⟩, hb4⟩
            have P1 : Hid (Below w3.heap.size w3 w4) := HB1.out.drew.trans (hb4.mono HB1.out.size)
            have R1 : Hid (Below w3.heap.size wr w4) := (Below.refl _ wr).drew.trans (hb4.mono HB1.out.size)
            have S1 : Hid (w4.cell? ⟨g, off + kk * 2, none⟩ = some (.int .i64 p.t) ∧ w4.cell? ⟨g, off + kk * 2 + 1, none⟩ = some (.int .i64 p.v)) := ⟨(R1.out.cell (p := ⟨_, _, none⟩) HG.out).trans HC.out.1, (R1.out.cell (p := ⟨_, _, none⟩) HG.out).trans HC.out.2⟩
            obtain ⟨A1, c1, rfl, _⟩ := pt_look hO4.lies
            rw [HMM.out]
            clear hb4 hO4
            go_wp2_with fail
            refine hK.out _ _ (fun _ _ => S1.out) ?_
            clear hK K
            try simp only [Act.put, List.setIfInBounds_toArray, List.set_cons_zero, List.set_cons_succ]
            refine until_take 13 (v := ?_) (by rfl) (by kernel_rfl) (by exact fun _ _ _ h => h) (by rfl) ?_ S1.out ?_
            rotate_left
            · intro w hSw
              try dsimp only at hSw
              go_simp
              try with_reducible rfl
            try simp only [Act.put, List.setIfInBounds_toArray, List.set_cons_zero, List.set_cons_succ]
            refine until_take 14 (v := ?_) (by rfl) (by kernel_rfl) (by exact fun _ _ _ h => h) (by rfl) ?_ S1.out ?_
            rotate_left
            · intro w hSw
              try dsimp only at hSw
              go_simp
              try with_reducible rfl
            try simp only [Act.put, List.setIfInBounds_toArray, List.set_cons_zero, List.set_cons_succ]
            refine until_done (by kernel_rfl) ?_ _
            have S3 : Hid (w4.drew.cell? ⟨g, off + kk * 2, none⟩ = some (.int .i64 p.t) ∧ w4.drew.cell? ⟨g, off + kk * 2 + 1, none⟩ = some (.int .i64 p.v)) := S1.out
            go_wp2_with fail
            refine wp_region_until (fun w' => w'.cell? ⟨g, off + kk * 2, none⟩ = some (.int .i64 p.t) ∧ w'.cell? ⟨g, off + kk * 2 + 1, none⟩ = some (.int .i64 p.v)) (fun _ => false) 14 (by rfl) (by kernel_rfl) ?_
            refine until_take 0 (v := ?_) (by rfl) (by kernel_rfl) (by exact fun _ _ _ h => h) (by rfl) ?_ S3.out ?_
            rotate_left
            · intro w hSw
              try dsimp only at hSw
              go_simp
              try with_reducible rfl
            try simp only [Act.put, List.setIfInBounds_toArray, List.set_cons_zero, List.set_cons_succ]
            refine until_take 1 (v := ?_) (by rfl) (by kernel_rfl) (by exact fun _ _ _ h => h) (by rfl) ?_ S3.out ?_
            rotate_left
            · intro w hSw
              try dsimp only at hSw
              go_simp
              try with_reducible rfl
            try simp only [Act.put, List.setIfInBounds_toArray, List.set_cons_zero, List.set_cons_succ]
            refine until_take 2 (v := ?_) (by rfl) (by kernel_rfl) (by exact fun _ _ _ h => h) (by rfl) ?_ S3.out ?_
            rotate_left
            · intro w hSw
              try dsimp only at hSw
              go_simp
              try with_reducible rfl
            try simp only [Act.put, List.setIfInBounds_toArray, List.set_cons_zero, List.set_cons_succ]
            refine until_take 3 (v := ?_) (by rfl) (by kernel_rfl) (by exact fun _ _ _ h => h) (by rfl) ?_ S3.out ?_
            rotate_left
            · intro w hSw
              try dsimp only at hSw
              go_simp
              try with_reducible rfl
            try simp only [Act.put, List.setIfInBounds_toArray, List.set_cons_zero, List.set_cons_succ]
            refine until_take 4 (v := ?_) (by rfl) (by kernel_rfl) (by exact fun _ _ _ h => h) (by rfl) ?_ S3.out ?_
            rotate_left
            · intro w hSw
              try dsimp only at hSw
              go_simp
              try with_reducible rfl
            try simp only [Act.put, List.setIfInBounds_toArray, List.set_cons_zero, List.set_cons_succ]
            refine until_take 5 (v := ?_) (by rfl) (by kernel_rfl) (by exact fun _ _ _ h => h) (by rfl) ?_ S3.out ?_
            rotate_left
            · intro w hSw
              try dsimp only at hSw
              go_simp
              try with_reducible rfl
            try simp only [Act.put, List.setIfInBounds_toArray, List.set_cons_zero, List.set_cons_succ]
            refine until_take 6 (v := ?_) (by rfl) (by kernel_rfl) (by exact fun _ _ _ h => h) (by rfl) ?_ S3.out ?_
            rotate_left
            · intro w hSw
              try dsimp only at hSw
              go_simp
              try with_reducible rfl
            try simp only [Act.put, List.setIfInBounds_toArray, List.set_cons_zero, List.set_cons_succ]
            refine until_take 7 (v := ?_) (by rfl) (by kernel_rfl) (by exact fun _ _ _ h => h) (by rfl) ?_ S3.out ?_
            rotate_left
            · intro w hSw
              try dsimp only at hSw
              go_simp
              try with_reducible rfl
            try simp only [Act.put, List.setIfInBounds_toArray, List.set_cons_zero, List.set_cons_succ]
            refine until_take 8 (v := ?_) (by rfl) (by kernel_rfl) (by exact fun _ _ _ h => h) (by rfl) ?_ S3.out ?_
            rotate_left
            · intro w hSw
              try dsimp only at hSw
              go_simp
              try with_reducible rfl
            try simp only [Act.put, List.setIfInBounds_toArray, List.set_cons_zero, List.set_cons_succ]
            refine until_take 9 (v := ?_) (by rfl) (by kernel_rfl) (by exact fun _ _ _ h => h) (by rfl) ?_ S3.out ?_
            rotate_left
            · intro w hSw
              try dsimp only at hSw
              go_simp
              try with_reducible rfl
            try simp only [Act.put, List.setIfInBounds_toArray, List.set_cons_zero, List.set_cons_succ]
            refine until_take 10 (v := ?_) (by rfl) (by kernel_rfl) (by exact fun _ _ _ h => h) (by rfl) ?_ S3.out ?_
            rotate_left
            · intro w hSw
              try dsimp only at hSw
              go_simp
              try with_reducible rfl
            try simp only [Act.put, List.setIfInBounds_toArray, List.set_cons_zero, List.set_cons_succ]
            refine until_take 11 (v := ?_) (by rfl) (by kernel_rfl) (by exact fun _ _ _ h => h) (by rfl) ?_ S3.out ?_
            rotate_left
            · intro w hSw
              try dsimp only at hSw
              go_simp
              try with_reducible rfl
            try simp only [Act.put, List.setIfInBounds_toArray, List.set_cons_zero, List.set_cons_succ]
            refine until_one 12 (by rfl) (by kernel_rfl) (fun K hK => ?_)
            go_simp
            refine (cX w4.drew P1.out.drew).mono ?_
            rintro e w5 ⟨⟨u2, rfl, hO5⟩, hb5⟩
            have P2 : Hid (Below w3.heap.size w3 w5) := P1.out.drew.trans (hb5.mono P1.out.size)
            have R2 : Hid (Below w3.heap.size wr w5) := R1.out.drew.trans (hb5.mono P1.out.size)
            have S4 : Hid (w5.cell? ⟨g, off + kk * 2, none⟩ = some (.int .i64 p.t) ∧ w5.cell? ⟨g, off + kk * 2 + 1, none⟩ = some (.int .i64 p.v)) := ⟨(R2.out.cell (p := ⟨_, _, none⟩) HG.out).trans HC.out.1, (R2.out.cell (p := ⟨_, _, none⟩) HG.out).trans HC.out.2⟩
            obtain ⟨g2, c2, rfl, hg2, y1, y2⟩ := one_look hO5
            have Y1 : Hid (w5.drew.cell? ⟨g2, 0, none⟩ = some (.int .i64 p.t) ∧ w5.drew.cell? ⟨g2, 1, none⟩ = some (.int .i64 p.v) ∧ w5.drew.cell? ⟨g, off + kk * 2, none⟩ = some (.int .i64 p.t) ∧ w5.drew.cell? ⟨g, off + kk * 2 + 1, none⟩ = some (.int .i64 p.v)) := ⟨y1, y2, S4.out.1, S4.out.2⟩
            clear hb5 hO5 y1 y2
            go_wp2_with fail
            refine hK.out _ _ (fun _ _ => S4.out) ?_
            clear hK K
            try simp only [Act.put, List.setIfInBounds_toArray, List.set_cons_zero, List.set_cons_succ]
            refine until_take 13 (v := ?_) (by rfl) (by kernel_rfl) (by exact fun _ _ _ h => h) (by rfl) ?_ S4.out ?_
            rotate_left
            · intro w hSw
              try dsimp only at hSw
              go_simp
              try with_reducible rfl
            try simp only [Act.put, List.setIfInBounds_toArray, List.set_cons_zero, List.set_cons_succ]
            refine until_done (by kernel_rfl) ?_ _
            go_wp2_with fail
            refine wp_region_until (fun w' => w'.cell? ⟨g2, 0, none⟩ = some (.int .i64 p.t) ∧ w'.cell? ⟨g2, 1, none⟩ = some (.int .i64 p.v) ∧ w'.cell? ⟨g, off + kk * 2, none⟩ = some (.int .i64 p.t) ∧ w'.cell? ⟨g, off + kk * 2 + 1, none⟩ = some (.int .i64 p.v)) (fun _ => false) 13 (by rfl) (by kernel_rfl) ?_
            refine until_take 0 (v := ?_) (by rfl) (by kernel_rfl) (by exact fun _ _ _ h => h) (by rfl) ?_ Y1.out ?_
            rotate_left
            · intro w hSw
              try dsimp only at hSw
              go_simp
              try with_reducible rfl
            try simp only [Act.put, List.setIfInBounds_toArray, List.set_cons_zero, List.set_cons_succ]
            refine until_take 1 (v := ?_) (by rfl) (by kernel_rfl) (by exact fun _ _ _ h => h) (by rfl) ?_ Y1.out ?_
            rotate_left
            · intro w hSw
              try dsimp only at hSw
              go_simp
              try with_reducible rfl
            try simp only [Act.put, List.setIfInBounds_toArray, List.set_cons_zero, List.set_cons_succ]
            refine until_take 2 (v := ?_) (by rfl) (by kernel_rfl) (by exact fun _ _ _ h => h) (by rfl) ?_ Y1.out ?_
            rotate_left
            · intro w hSw
              try dsimp only at hSw
              go_simp
              try with_reducible rfl
            try simp only [Act.put, List.setIfInBounds_toArray, List.set_cons_zero, List.set_cons_succ]
            refine until_take 3 (v := ?_) (by rfl) (by kernel_rfl) (by exact fun _ _ _ h => h) (by rfl) ?_ Y1.out ?_
            rotate_left
            · intro w hSw
              try dsimp only at hSw
              go_simp
              try with_reducible rfl
            try simp only [Act.put, List.setIfInBounds_toArray, List.set_cons_zero, List.set_cons_succ]
            refine until_take 4 (v := ?_) (by rfl) (by kernel_rfl) (by exact fun _ _ _ h => h) (by rfl) ?_ Y1.out ?_
            rotate_left
            · intro w hSw
              try dsimp only at hSw
              go_simp
              try with_reducible rfl
            try simp only [Act.put, List.setIfInBounds_toArray, List.set_cons_zero, List.set_cons_succ]
            refine until_take 5 (v := ?_) (by rfl) (by kernel_rfl) (by exact fun _ _ _ h => h) (by rfl) ?_ Y1.out ?_
            rotate_left
            · intro w hSw
              try dsimp only at hSw
              go_simp
              try with_reducible rfl
            try simp only [Act.put, List.setIfInBounds_toArray, List.set_cons_zero, List.set_cons_succ]
            refine until_take 6 (v := ?_) (by rfl) (by kernel_rfl) (by exact fun _ _ _ h => h) (by rfl) ?_ Y1.out ?_
            rotate_left
            · intro w hSw
              try dsimp only at hSw
              go_simp
              try with_reducible rfl
            try simp only [Act.put, List.setIfInBounds_toArray, List.set_cons_zero, List.set_cons_succ]
            refine until_take 7 (v := ?_) (by rfl) (by kernel_rfl) (by exact fun _ _ _ h => h) (by rfl) ?_ Y1.out ?_
            rotate_left
            · intro w hSw
              try dsimp only at hSw
              go_simp
              try with_reducible rfl
            try simp only [Act.put, List.setIfInBounds_toArray, List.set_cons_zero, List.set_cons_succ]
            refine until_take 8 (v := ?_) (by rfl) (by kernel_rfl) (by exact fun _ _ _ h => h) (by rfl) ?_ Y1.out ?_
            rotate_left
            · intro w hSw
              try dsimp only at hSw
              go_simp
              try with_reducible rfl
            try simp only [Act.put, List.setIfInBounds_toArray, List.set_cons_zero, List.set_cons_succ]
            refine until_take 9 (v := ?_) (by rfl) (by kernel_rfl) (by exact fun _ _ _ h => h) (by rfl) ?_ Y1.out ?_
            rotate_left
            · intro w hSw
              try dsimp only at hSw
              go_simp
              try with_reducible rfl
            try simp only [Act.put, List.setIfInBounds_toArray, List.set_cons_zero, List.set_cons_succ]
            refine until_take 10 (v := ?_) (by rfl) (by kernel_rfl) (by exact fun _ _ _ h => h) (by rfl) ?_ Y1.out ?_
            rotate_left
            · intro w hSw
              try dsimp only at hSw
              go_simp
              try with_reducible rfl
            try simp only [Act.put, List.setIfInBounds_toArray, List.set_cons_zero, List.set_cons_succ]
            refine until_take 11 (v := .bool false) (by rfl) (by kernel_rfl) (by exact fun _ _ _ h => h) (by rfl) ?_ Y1.out ?_
            · intro w hSw
              try dsimp only at hSw
              go_simp
            try simp only [Act.put, List.setIfInBounds_toArray, List.set_cons_zero, List.set_cons_succ]
            refine until_take 12 (v := ?_) (by rfl) (by kernel_rfl) (by exact fun _ _ _ h => h) (by rfl) ?_ Y1.out ?_
            rotate_left
            · intro w hSw
              try dsimp only at hSw
              go_simp
              try with_reducible rfl
            try simp only [Act.put, List.setIfInBounds_toArray, List.set_cons_zero, List.set_cons_succ]
            refine until_done (by kernel_rfl) ?_ _
            go_wp2_with fail
            go_roundw
            case rel => exact ⟨kk + 1, by omega, by go_num, by rw [HCS.out]; simp; go_num, P2.out.drew⟩
            case measure => simp [intOf]; omega
        · obtain rfl : k' = la := by omega
          have W5 : Hid (Below w3.heap.size w3 wr) := HB1.out
          have hcnt : k + cnt a b k' = lx := HCT.out.symm
          rw [hcnt]
          have cF := fresh_any wr ao len cap cs 5 hl2 (by omega) (HC0.out.on (B3.out.trans (W5.out.mono B3.out.size)))
          go_wp2_with fail
          refine cF.mono ?_
          rintro e w6 ⟨vf, rfl, hBf, hb6⟩
          have W6 : Hid (Below w3.heap.size w3 w6) := W5.out.trans (hb6.mono W5.out.size)
          obtain ⟨af, cf, rfl, hCf⟩ := hBf.code
          have cD2 := drawMerge w6 af _ cf _ (by rw [frL_length]; omega) hCf
          clear hb6 hBf hCf cF
          go_wp2_with fail
          refine cD2.mono ?_
          rintro e w7 ⟨⟨uc, ud, c, d, rfl, hOc, _, hlc, _⟩, hb7⟩
          have W7 : Hid (Below w3.heap.size w3 w7) := W6.out.trans (hb7.mono W6.out.size)
          have C7 : Hid (Owns w7 w6.heap.size 40 2 uc (ptR c)) := hOc
          have LC : Hid (c.length ≤ 1048576) := by unfold Hid; omega
          have A7 : Hid (Owns w7 w.heap.size 40 2 (.slice Aa k' ca) (ptR a)) := A3.out.on W7.out
          have D7 : Hid (Owns w7 w.heap.size 40 2 (.slice Ab k cb) (ptR b)) := D3.out.on W7.out
          have X7 : Hid (Owns w7 w1.heap.size 40 2 (.slice Ax lx cx) (ptR (mergeR a b))) := X3.out.on W7.out
          have LXX : Hid ((mergeR a b).length ≤ 1048576) := by unfold Hid; rw [HLX.out]; have := LX.out; omega
          clear hOc hb7 hlc cD2
          have c1 := implMerge (mergeR a b) c (.slice Ax lx cx) uc w7 w7.heap.size X7.out.lies C7.out.lies LXX.out LC.out (Nat.le_refl _)
          go_wp2_with fail
          refine c1.mono ?_
          rintro e w8 ⟨⟨uy, rfl, hO⟩, hb8⟩
          have W8 : Hid (Below w3.heap.size w3 w8) := W7.out.trans (hb8.mono W7.out.size)
          have Y8 : Hid (Owns w8 w7.heap.size 40 2 uy (ptR (mergeR (mergeR a b) c))) := hO
          have C8 : Hid (Owns w8 w6.heap.size 40 2 uc (ptR c)) := C7.out.on hb8
          clear hO hb8 c1 C7
          have c2 := implMerge b c (.slice Ab k cb) uc w8 w8.heap.size (D3.out.on W8.out).lies C8.out.lies (by have := LB.out; rw [HLB.out]; exact this) LC.out (Nat.le_refl _)
          go_wp2_with fail
          refine c2.mono ?_
          rintro e w9 ⟨⟨uz, rfl, hO⟩, hb9⟩
          have W9 : Hid (Below w3.heap.size w3 w9) := W8.out.trans (hb9.mono W8.out.size)
          have Y9 : Hid (Owns w9 w7.heap.size 40 2 uy (ptR (mergeR (mergeR a b) c))) := Y8.out.on hb9
          have Z9 : Hid (Owns w9 w8.heap.size 40 2 uz (ptR (mergeR b c))) := hO
          clear hO hb9 c2 Y8 C8
          have c3 := implMerge a (mergeR b c) (.slice Aa k' ca) uz w9 w9.heap.size (A3.out.on W9.out).lies Z9.out.lies (by have := LA.out; rw [HLA.out]; exact this) (by have := mergeR_len b c; omega) (Nat.le_refl _)
          go_wp2_with fail
          refine c3.mono ?_
          rintro e w10 ⟨⟨uw, rfl, hO⟩, hb10⟩
          have W10 : Hid (Below w3.heap.size w3 w10) := W9.out.trans (hb10.mono W9.out.size)
          have Y10 : Hid (Owns w10 w7.heap.size 40 2 uy (ptR (mergeR (mergeR a b) c))) := Y9.out.on hb10
          have V10 : Hid (Owns w10 w9.heap.size 40 2 uw (ptR (mergeR a (mergeR b c)))) := hO
          clear hO hb10 c3 Y9 Z9
          have c4 := implMerge (mergeR a b) (mergeR a b) (.slice Ax lx cx) (.slice Ax lx cx) w10 w10.heap.size (X3.out.on W10.out).lies (X3.out.on W10.out).lies LXX.out LXX.out (Nat.le_refl _)
          rw [mergeR_self HXO.out] at c4
          go_wp2_with fail
          refine c4.mono ?_
          rintro e w11 ⟨⟨us, rfl, hO⟩, hb11⟩
          have W11 : Hid (Below w3.heap.size w3 w11) := W10.out.trans (hb11.mono W10.out.size)
          have Y11 : Hid (Owns w11 w7.heap.size 40 2 uy (ptR (mergeR (mergeR a b) c))) := Y10.out.on hb11
          have V11 : Hid (Owns w11 w9.heap.size 40 2 uw (ptR (mergeR a (mergeR b c)))) := V10.out.on hb11
          have S11 : Hid (Owns w11 w10.heap.size 40 2 us (ptR (mergeR a b))) := hO
          clear hO hb11 c4 Y10 V10
          have c5 := implPointsOk (mergeR a b) (.slice Ax lx cx) w11 w11.heap.size (X3.out.on W11.out).lies LXX.out (Nat.le_refl _)
          rw [decide_eq_true HXO.out] at c5
          go_wp2_with fail
          refine c5.mono ?_
          rintro e w12 ⟨rfl, hb12⟩
          have W12 : Hid (Below w3.heap.size w3 w12) := W11.out.trans (hb12.mono W11.out.size)
          have Y12 : Hid (Owns w12 w7.heap.size 40 2 uy (ptR (mergeR (mergeR a b) c))) := Y11.out.on hb12
          have V12 : Hid (Owns w12 w9.heap.size 40 2 uw (ptR (mergeR a (mergeR b c)))) := V11.out.on hb12
          have c6 := samePoints (mergeR a b) us (.slice Ax lx cx) w12 w12.heap.size (S11.out.on hb12).lies (X3.out.on W12.out).lies LXX.out
          clear hb12 c5 Y11 V11
          go_wp2_with fail
          refine c6.mono ?_
          rintro e w13 ⟨rfl, hL13⟩
          have W13 : Hid (Below w3.heap.size w3 w13) := W12.out.trans (hL13.below.mono W12.out.size)
          have F13 : Hid (Below w.heap.size w w13) := B3.out.trans (W13.out.mono B3.out.size)
          have Y13 : Hid (Owns w13 w7.heap.size 40 2 uy (ptR (mergeR (mergeR a b) c))) := Y12.out.on hL13.below
          have V13 : Hid (Owns w13 w9.heap.size 40 2 uw (ptR (mergeR a (mergeR b c)))) := V12.out.on hL13.below
          clear hL13 c6 Y12 V12
          cases h1 : mergeB (mergeR a b) c with
          | false =>
            go_wp2_with fail
            go_ret
            exact ⟨rfl, F13.out⟩
          | true =>
            cases h2 : mergeB b c with
            | false =>
              go_wp2_with fail
              go_ret
              exact ⟨rfl, F13.out⟩
            | true =>
              cases h3 : mergeB a (mergeR b c) with
              | false =>
                go_wp2_with fail
                go_ret
                exact ⟨rfl, F13.out⟩
              | true =>
                have heq := merge_assoc HBT.out h1 h2 h3
                have c7 := samePoints (mergeR (mergeR a b) c) uy uw w13 w13.heap.size Y13.out.lies (by rw [heq]; exact V13.out.lies) (by have := mergeR_len (mergeR a b) c; omega)
                go_wp2_with fail
                refine c7.mono ?_
                rintro e w14 ⟨rfl, hL14⟩
                have F14 : Hid (Below w.heap.size w w14) := F13.out.trans (hL14.below.mono F13.out.size)
                clear hL14
                go_wp2_with fail
                go_ret
                exact ⟨rfl, F14.out⟩
end Go.Proofs.Ytlekgbfopionfaa
