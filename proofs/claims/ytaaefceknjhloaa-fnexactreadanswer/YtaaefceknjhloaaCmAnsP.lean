/-
  Contract of spec.ReadAnswer.
-/
import Derived.Test.YtaaefceknjhloaaRows
import Derived.Test.YtaaefceknjhloaaCmAnsS
namespace Go.Proofs.Ytaaefceknjhloaa
open Go.ChangeShapes Go.WideShapes Go.ChangeAt Go.RowKit Go.PlainAid
set_option linter.unusedVariables false

/-- Of a text that goes on so the text of what is read is the text itself. -/
theorem ansT_back {s : ByteArray} {c i m : Int} {n : Nat} (h : RdF s 0 3 [c, i, m] n) (ho : ansOk ⟨c, i, m, lf s n⟩ = true) : ansT ⟨c, i, m, lf s n⟩ = s := by
  have h1 := h.text
  have h2 := cut_in_two s n (h.ge.2 (by omega))
  unfold ansT
  rw [if_pos ho]
  simp only
  conv => rhs; rw [h2, h1]
  simp [varsT, ByteArray.append_assoc]
theorem text_neq {a b : ByteArray} (h : ¬ a = b) : ¬ a.toList = b.toList ∧ (a.toList == b.toList) = false ∧ (a.toList != b.toList) = true := by
  have : ¬ a.toList = b.toList := by
    intro e
    rw [Lib.toList_data, Lib.toList_data] at e
    exact h (ByteArray.ext (Array.toList_inj.1 e))
  exact ⟨this, by simpa using this, by simpa [bne] using this⟩
set_option maxHeartbeats 2000000 in
theorem specReadAnswer (s : ByteArray) (w : World) (hs : s.size ≤ 1048576) :
    Calls Try.prog 9 #[.string s] w fun e w' => AnsA s e ∧ Below w.heap.size w w' := by
  have c := fun wx => specVars s 0 3 wx hs (by omega) (by omega)
  have k0 := Blk.new w #[.int .i64 0, .int .i64 0, .int .i64 0, .string ⟨#[]⟩] 26
  have hb0 := (Below.refl w.heap.size w).alloc (Nat.le_refl _) (.cells #[.int .i64 0, .int .i64 0, .int .i64 0, .string ⟨#[]⟩] 26)
  have HS : Hid (s.size ≤ 1048576) := hs
  clear hs
  go_enter Try.func9, Try.ntmps9
  go_wp2_with fail
  generalize w.alloc (.cells #[.int .i64 0, .int .i64 0, .int .i64 0, .string ⟨#[]⟩] 26) = X at *
  refine (c _).mono ?_
  rintro e w1 ⟨hR, hb1⟩
  have k1 := Hid.mk (k0.on hb1 k0.lt)
  have B1 : Hid (Below w.heap.size w w1) := hb0.trans (hb1.mono hb0.size)
  clear hb1 k0 c
  rcases hR with ⟨l, n, u, hR, rfl, hN⟩ | ⟨hno, u, rfl⟩
  rotate_left
  · have HN : Hid (∀ x, ¬ AnsRd s x) := by
      rintro x ⟨c, i, m, n, h1, _⟩
      exact hno _ _ h1
    clear hno hb0
    obtain ⟨⟨r0, s0⟩, ⟨r1, s1⟩, ⟨r2, s2⟩, ⟨r3, s3⟩, y0, y1, y2, y3⟩ := resC4 (x0 := .int .i64 0) (x1 := .int .i64 0) (x2 := .int .i64 0) (x3 := .string ⟨#[]⟩) k1.out
    have B2 : Hid (Below w.heap.size w _) := belowC4 B1.out (Nat.le_refl _) (.int .i64 0) (.int .i64 0) (.int .i64 0) (.string ⟨#[]⟩)
    go_wp2_with fail
    exact bodyPost_ret (v := .tuple #[.agg #[.int .i64 0, .int .i64 0, .int .i64 0, .string ⟨#[]⟩], .bool false]) (by simp [results, go_sem, y0, y1, y2, y3]) rfl ⟨.inr ⟨HN.out, rfl⟩, B2.out⟩
  have hl := hR.length
  obtain ⟨z0, z1, z2, rfl⟩ : ∃ a b c, l = [a, b, c] := by
    match l, hl with
    | [a, b, c], _ => exact ⟨a, b, c, rfl⟩
  have HR : Hid (RdF s 0 3 [z0, z1, z2] n) := hR
  have hns := hR.ge.2 (by omega)
  have HB0 : Hid (w.heap.size ≤ X.heap.size) := hb0.size
  have HNE : Hid (¬ s = ⟨#[]⟩) := by
    intro e
    have := hR.ge
    rw [e] at hns
    have h0 : (⟨#[]⟩ : ByteArray).size = 0 := rfl
    omega
  obtain ⟨g, cap, rfl, hg1, hg2⟩ : ∃ g cap, u = .slice (some ⟨g, 0, none⟩) 3 cap ∧ X.heap.size ≤ g ∧ g < w1.heap.size := by
    rcases hN.form with ⟨_, h⟩ | ⟨g, cap, h, _, _, h1, h2⟩
    · cases h
    · exact ⟨g, cap, h, h1, h2⟩
  have e0 : w1.cell? ⟨g, 0, none⟩ = some (.int .i64 z0) := hN.cell 0 (by simp)
  have e1 : w1.cell? ⟨g, 1, none⟩ = some (.int .i64 z1) := hN.cell 1 (by simp)
  have e2 : w1.cell? ⟨g, 2, none⟩ = some (.int .i64 z2) := hN.cell 2 (by simp)
  have SS : Hid (w1.drew.cell? ⟨g, 0, none⟩ = some (.int .i64 z0) ∧ w1.drew.cell? ⟨g, 1, none⟩ = some (.int .i64 z1) ∧ w1.drew.cell? ⟨g, 2, none⟩ = some (.int .i64 z2)) := ⟨e0, e1, e2⟩
  have q1 : (n : Int) ≤ (s.size : Int) := by omega
  have q2 : (s.size : Int) ≤ 1048576 := by have := HS.out; omega
  have HL : Hid ((lf s n).size ≤ 1048576) := by unfold Hid; rw [lf_size]; have := HS.out; omega
  have HG : Hid (g < w1.heap.size) := hg2
  clear hR hl hN e0 e1 e2 hb0 hg1 hg2 hns
  have HEX : Hid (s.extract n s.size = lf s n) := rfl
  go_wp2_with fail
  refine wp_region_until (fun w' => w'.cell? ⟨g, 0, none⟩ = some (.int .i64 z0) ∧ w'.cell? ⟨g, 1, none⟩ = some (.int .i64 z1) ∧ w'.cell? ⟨g, 2, none⟩ = some (.int .i64 z2)) (fun i => i == 14) 15 (by rfl) (by kernel_rfl) ?_
  have B1' : Hid (Below w.heap.size w w1.drew) := B1.out.drew
  have k1' : Hid (Blk w1.drew w.heap.size #[.int .i64 0, .int .i64 0, .int .i64 0, .string ⟨#[]⟩] 26) := k1.out
  have HG' : Hid (g < w1.drew.heap.size) := HG.out
  clear k1 B1 HG
  generalize w1.drew = Y at *
  refine until_pure 0 (v := ?_) (by rfl) (by kernel_rfl) (by exact fun _ _ _ h => h) (by rfl) ?_ ?_
  rotate_left
  · intro w
    go_simp
    try with_reducible rfl
  try simp only [Act.put, List.setIfInBounds_toArray, List.set_cons_zero, List.set_cons_succ]
  refine until_pure 1 (v := ?_) (by rfl) (by kernel_rfl) (by exact fun _ _ _ h => h) (by rfl) ?_ ?_
  rotate_left
  · intro w
    go_simp
    try with_reducible rfl
  try simp only [Act.put, List.setIfInBounds_toArray, List.set_cons_zero, List.set_cons_succ]
  refine until_take 2 (v := ?_) (by rfl) (by kernel_rfl) (by exact fun _ _ _ h => h) (by rfl) ?_ SS.out ?_
  rotate_left
  · intro w hSw
    try dsimp only at hSw
    go_simp
    try with_reducible rfl
  try simp only [Act.put, List.setIfInBounds_toArray, List.set_cons_zero, List.set_cons_succ]
  refine until_pure 3 (v := ?_) (by rfl) (by kernel_rfl) (by exact fun _ _ _ h => h) (by rfl) ?_ ?_
  rotate_left
  · intro w
    go_simp
    try with_reducible rfl
  try simp only [Act.put, List.setIfInBounds_toArray, List.set_cons_zero, List.set_cons_succ]
  refine until_pure 4 (v := ?_) (by rfl) (by kernel_rfl) (by exact fun _ _ _ h => h) (by rfl) ?_ ?_
  rotate_left
  · intro w
    go_simp
    try with_reducible rfl
  try simp only [Act.put, List.setIfInBounds_toArray, List.set_cons_zero, List.set_cons_succ]
  refine until_take 5 (v := ?_) (by rfl) (by kernel_rfl) (by exact fun _ _ _ h => h) (by rfl) ?_ SS.out ?_
  rotate_left
  · intro w hSw
    try dsimp only at hSw
    go_simp
    try with_reducible rfl
  try simp only [Act.put, List.setIfInBounds_toArray, List.set_cons_zero, List.set_cons_succ]
  refine until_pure 6 (v := ?_) (by rfl) (by kernel_rfl) (by exact fun _ _ _ h => h) (by rfl) ?_ ?_
  rotate_left
  · intro w
    go_simp
    try with_reducible rfl
  try simp only [Act.put, List.setIfInBounds_toArray, List.set_cons_zero, List.set_cons_succ]
  refine until_pure 7 (v := ?_) (by rfl) (by kernel_rfl) (by exact fun _ _ _ h => h) (by rfl) ?_ ?_
  rotate_left
  · intro w
    go_simp
    try with_reducible rfl
  try simp only [Act.put, List.setIfInBounds_toArray, List.set_cons_zero, List.set_cons_succ]
  refine until_take 8 (v := ?_) (by rfl) (by kernel_rfl) (by exact fun _ _ _ h => h) (by rfl) ?_ SS.out ?_
  rotate_left
  · intro w hSw
    try dsimp only at hSw
    go_simp
    try with_reducible rfl
  try simp only [Act.put, List.setIfInBounds_toArray, List.set_cons_zero, List.set_cons_succ]
  refine until_pure 9 (v := ?_) (by rfl) (by kernel_rfl) (by exact fun _ _ _ h => h) (by rfl) ?_ ?_
  rotate_left
  · intro w
    go_simp
    try with_reducible rfl
  try simp only [Act.put, List.setIfInBounds_toArray, List.set_cons_zero, List.set_cons_succ]
  refine until_pure 10 (v := ?_) (by rfl) (by kernel_rfl) (by exact fun _ _ _ h => h) (by rfl) ?_ ?_
  rotate_left
  · intro w
    go_simp
    try with_reducible rfl
  try simp only [Act.put, List.setIfInBounds_toArray, List.set_cons_zero, List.set_cons_succ]
  refine until_pure 11 (v := ?_) (by rfl) (by kernel_rfl) (by exact fun _ _ _ h => h) (by rfl) ?_ ?_
  rotate_left
  · intro w
    go_simp
    try with_reducible rfl
  try simp only [Act.put, List.setIfInBounds_toArray, List.set_cons_zero, List.set_cons_succ]
  refine until_pure 12 (v := ?_) (by rfl) (by kernel_rfl) (by exact fun _ _ _ h => h) (by rfl) ?_ ?_
  rotate_left
  · intro w
    go_simp
    try with_reducible rfl
  try simp only [Act.put, List.setIfInBounds_toArray, List.set_cons_zero, List.set_cons_succ]
  rw [HEX.out]
  clear HEX
  have HX1 : Hid (ansOk ⟨z0, z1, z2, lf s n⟩ = true → AnsRd s ⟨z0, z1, z2, lf s n⟩ ∧ ansT ⟨z0, z1, z2, lf s n⟩ = s) := fun h => ⟨⟨z0, z1, z2, n, HR.out, rfl, h⟩, ansT_back HR.out h⟩
  have HX2 : Hid (ansOk ⟨z0, z1, z2, lf s n⟩ = false → (∀ x, ¬ AnsRd s x) ∧ ansT ⟨z0, z1, z2, lf s n⟩ = ⟨#[]⟩) := by
    intro h
    refine ⟨?_, by unfold ansT; rw [h]; rfl⟩
    rintro x ⟨c, i, m, n', h1, rfl, h3⟩
    obtain ⟨e, rfl⟩ := h1.one HR.out
    simp only [List.cons.injEq, and_true] at e
    obtain ⟨rfl, rfl, rfl⟩ := e
    rw [h] at h3
    cases h3
  generalize lf s n = d at *
  refine until_one 13 (by rfl) (by kernel_rfl) (fun K hK => ?_)
  go_simp
  have S2 : Hid ((Y.alloc (.cells #[.int .i64 0, .int .i64 0, .int .i64 0, .string ⟨#[]⟩] 26)).cell? ⟨g, 0, none⟩ = some (.int .i64 z0) ∧ (Y.alloc (.cells #[.int .i64 0, .int .i64 0, .int .i64 0, .string ⟨#[]⟩] 26)).cell? ⟨g, 1, none⟩ = some (.int .i64 z1) ∧ (Y.alloc (.cells #[.int .i64 0, .int .i64 0, .int .i64 0, .string ⟨#[]⟩] 26)).cell? ⟨g, 2, none⟩ = some (.int .i64 z2)) := by
    have hb := below_a1 Y (.cells #[.int .i64 0, .int .i64 0, .int .i64 0, .string ⟨#[]⟩] 26)
    exact ⟨by rw [hb.cell HG'.out]; exact SS.out.1, by rw [hb.cell HG'.out]; exact SS.out.2.1, by rw [hb.cell HG'.out]; exact SS.out.2.2⟩
  refine hK.out _ _ (fun _ _ => S2.out) ?_
  clear hK K
  try simp only [Act.put, List.setIfInBounds_toArray, List.set_cons_zero, List.set_cons_succ]
  refine until_one 14 (by rfl) (by kernel_rfl) (fun K hK => ?_)
  go_simp
  refine hK.out _ _ (fun h => by cases h) ?_
  clear hK K
  try simp only [Act.put, List.setIfInBounds_toArray, List.set_cons_zero, List.set_cons_succ]
  refine until_done (by kernel_rfl) ?_ _
  have kA := Blk.new Y #[.int .i64 z0, .int .i64 z1, .int .i64 z2, .string d] 26
  have kR := k1'.out.alloc (.cells #[.int .i64 z0, .int .i64 z1, .int .i64 z2, .string d] 26)
  have hbA := B1'.out.alloc B1'.out.size (.cells #[.int .i64 z0, .int .i64 z1, .int .i64 z2, .string d] 26)
  obtain ⟨c0, c1, c2, c3⟩ := cellsC4 kA
  clear S2 SS k1' B1'
  go_wp2_with fail
  generalize Y.alloc (.cells #[.int .i64 z0, .int .i64 z1, .int .i64 z2, .string d] 26) = V at *
  refine (specShowAnswer ⟨z0, z1, z2, d⟩ _ (by have := HL.out; simp only [maxLen]; omega)).mono ?_
  rintro e w2 ⟨rfl, hb⟩
  have A2 := Hid.mk (kA.on hb kA.lt)
  have R2 := Hid.mk (kR.on hb kR.lt)
  have B2 : Hid (Below w.heap.size w w2) := hbA.trans (hb.mono hbA.size)
  clear hb kA kR hbA c0 c1 c2 c3
  generalize ansT ⟨z0, z1, z2, d⟩ = T at *
  cases ho : ansOk ⟨z0, z1, z2, d⟩
  · obtain ⟨HN, hT⟩ := HX2.out ho
    have HN : Hid (∀ x, ¬ AnsRd s x) := HN
    obtain ⟨hq1, hq2, hq3⟩ := text_neq (a := T) (b := s) (by rw [hT]; exact fun e => HNE.out e.symm)
    clear hT ho HX1 HX2
    obtain ⟨⟨r0, s0⟩, ⟨r1, s1⟩, ⟨r2, s2⟩, ⟨r3, s3⟩, y0, y1, y2, y3⟩ := resC4 (x0 := .int .i64 0) (x1 := .int .i64 0) (x2 := .int .i64 0) (x3 := .string ⟨#[]⟩) R2.out
    have B3 : Hid (Below w.heap.size w _) := belowC4 B2.out (Nat.le_refl _) (.int .i64 0) (.int .i64 0) (.int .i64 0) (.string ⟨#[]⟩)
    go_wp2_with fail
    exact bodyPost_ret (v := .tuple #[.agg #[.int .i64 0, .int .i64 0, .int .i64 0, .string ⟨#[]⟩], .bool false]) (by simp [results, go_sem, y0, y1, y2, y3]) rfl ⟨.inr ⟨HN.out, rfl⟩, B3.out⟩
  · obtain ⟨hx, hT⟩ := HX1.out ho
    have HX : Hid (AnsRd s ⟨z0, z1, z2, d⟩) := hx
    subst hT
    clear hx ho HX1 HX2
    obtain ⟨c0, c1, c2, c3⟩ := cellsC4 A2.out
    obtain ⟨⟨r0, s0⟩, ⟨r1, s1⟩, ⟨r2, s2⟩, ⟨r3, s3⟩, y0, y1, y2, y3⟩ := resC4 (x0 := .int .i64 z0) (x1 := .int .i64 z1) (x2 := .int .i64 z2) (x3 := .string d) R2.out
    have B3 : Hid (Below w.heap.size w _) := belowC4 B2.out (Nat.le_refl _) (.int .i64 z0) (.int .i64 z1) (.int .i64 z2) (.string d)
    go_wp2_with fail
    exact bodyPost_ret (v := .tuple #[.agg #[.int .i64 z0, .int .i64 z1, .int .i64 z2, .string d], .bool true]) (by simp [results, go_sem, y0, y1, y2, y3]) rfl ⟨.inl ⟨_, HX.out, rfl⟩, B3.out⟩
end Go.Proofs.Ytaaefceknjhloaa
