/-
  Contracts of ShowAnswer of both packages, and of spec.ReadAnswer.
-/
import Derived.Test.YtaaefceknjhloaaRows
import Derived.Test.YtaaefceknjhloaaCmAns
import Derived.Test.YtaaefceknjhloaaCmVars
import Derived.Test.YtaaefceknjhloaaUntil
namespace Go.Proofs.Ytaaefceknjhloaa
open Go.ChangeShapes Go.WideShapes Go.ChangeAt Go.RowKit Go.PlainAid
set_option linter.unusedVariables false

theorem ansOk_in {x : Ans} (h : ansOk x = true) : (0 ≤ x.code ∧ x.code ≤ 4) ∧ (0 ≤ x.index ∧ x.index ≤ 100000) ∧ (0 ≤ x.mark ∧ x.mark ≤ 1099511627776) ∧ x.data.size ≤ 900 := by
  unfold ansOk inRg at h
  simp only [Bool.and_eq_true, decide_eq_true_eq] at h
  omega
set_option maxHeartbeats 2000000 in
theorem specShowAnswer (x : Ans) (w : World) (hd : x.data.size ≤ maxLen) : Calls Try.prog 6 #[vAns x] w fun e w' => e = .returned (.string (ansT x)) ∧ Below w.heap.size w w' := by
  have c0 := fun wx => specAnswerOk x wx hd
  have hb0 := below_a1 w (.cells #[.int .i64 x.code, .int .i64 x.index, .int .i64 x.mark, .string x.data] 26)
  have k0 := Cell4.new w x 26
  cases ho : ansOk x
  · have HT : Hid (ansT x = ⟨#[]⟩) := by unfold Hid ansT; rw [ho]; rfl
    rw [ho] at c0
    unfold vAns at *
    clear ho hd k0
    go_enter Try.func6, Try.ntmps6
    go_wp2_with fail
    generalize w.alloc (.cells #[.int .i64 x.code, .int .i64 x.index, .int .i64 x.mark, .string x.data] 26) = W at *
    refine (c0 _).mono ?_
    rintro e w1 ⟨rfl, hb1⟩
    have B1 : Hid (Below w.heap.size w w1) := hb0.trans (hb1.mono hb0.size)
    clear hb0 hb1 c0
    go_wp2_with fail
    go_ret
    exact ⟨by rw [HT.out]; rfl, B1.out⟩
  obtain ⟨⟨a1, a2⟩, ⟨a3, a4⟩, ⟨a5, a6⟩, a7⟩ := ansOk_in ho
  have HT : Hid (ansT x = txt (vF 6 x.code.toNat) ++ txt (vF 6 x.index.toNat) ++ txt (vF 6 x.mark.toNat) ++ x.data) := by unfold Hid ansT; rw [if_pos ho]
  rw [ho] at c0
  clear ho hd
  obtain ⟨c, i, m, d⟩ := x
  simp only at *
  obtain ⟨cn, rfl⟩ : ∃ cn : Nat, c = (cn : Int) := ⟨c.toNat, by omega⟩
  obtain ⟨jn, rfl⟩ : ∃ cn : Nat, i = (cn : Int) := ⟨i.toNat, by omega⟩
  obtain ⟨mn, rfl⟩ : ∃ cn : Nat, m = (cn : Int) := ⟨m.toNat, by omega⟩
  simp only [Int.toNat_natCast] at HT
  have c1 := fun wx => spec_var cn wx (by omega)
  have c2 := fun wx => spec_var jn wx (by omega)
  have c3 := fun wx => spec_var mn wx (by omega)
  have l1 : (txt (vF 6 cn)).size ≤ 7 := by rw [txt_size]; exact vF_length 6 cn
  have l2 : (txt (vF 6 jn)).size ≤ 7 := by rw [txt_size]; exact vF_length 6 jn
  have l3 : (txt (vF 6 mn)).size ≤ 7 := by rw [txt_size]; exact vF_length 6 mn
  generalize txt (vF 6 cn) = t1 at *
  generalize txt (vF 6 jn) = t2 at *
  generalize txt (vF 6 mn) = t3 at *
  have p1 : ¬ 9223372036854775807 < t1.size + t2.size := by omega
  have p2 : ¬ 9223372036854775807 < t1.size + t2.size + t3.size := by omega
  have p3 : ¬ 9223372036854775807 < t1.size + t2.size + t3.size + d.size := by omega
  clear a1 a2 a3 a4 a5 a6 a7 l1 l2 l3
  unfold vAns at *
  simp only at *
  go_enter Try.func6, Try.ntmps6
  go_wp2_with fail
  generalize w.alloc (.cells #[.int .i64 (cn : Int), .int .i64 (jn : Int), .int .i64 (mn : Int), .string d] 26) = W at *
  refine (c0 _).mono ?_
  rintro e y1 ⟨rfl, hb1⟩
  have B1 : Hid (Below w.heap.size w y1) := hb0.trans (hb1.mono hb0.size)
  have Q1 := Hid.mk (k0.on hb1 k0.2.2.2.2 (Nat.le_refl _))
  clear hb0 hb1 c0 k0
  go_wp2_with fail
  have SS : Hid (y1.drew.cell? ⟨w.heap.size, 0, none⟩ = some (.int .i64 (cn : Int)) ∧ y1.drew.cell? ⟨w.heap.size, 1, none⟩ = some (.int .i64 (jn : Int)) ∧ y1.drew.cell? ⟨w.heap.size, 2, none⟩ = some (.int .i64 (mn : Int)) ∧ y1.drew.cell? ⟨w.heap.size, 3, none⟩ = some (.string d)) := ⟨Q1.out.1, Q1.out.2.1, Q1.out.2.2.1, Q1.out.2.2.2.1⟩
  have B1' : Hid (Below w.heap.size w y1.drew) := B1.out.drew
  have Q1' : Hid (Cell4 y1.drew w.heap.size ⟨(cn : Int), (jn : Int), (mn : Int), d⟩) := Q1.out
  refine wp_region_until (fun w' => w'.cell? ⟨w.heap.size, 0, none⟩ = some (.int .i64 (cn : Int)) ∧ w'.cell? ⟨w.heap.size, 1, none⟩ = some (.int .i64 (jn : Int)) ∧ w'.cell? ⟨w.heap.size, 2, none⟩ = some (.int .i64 (mn : Int)) ∧ w'.cell? ⟨w.heap.size, 3, none⟩ = some (.string d)) (fun i => false) 15 (by rfl) (by kernel_rfl) ?_
  clear Q1 B1
  generalize y1.drew = y0 at *
  have B1 := B1'
  have Q1 := Q1'
  clear B1' Q1'
  refine until_take 0 (v := ?_) (by rfl) (by kernel_rfl) (by exact fun _ _ _ h => h) (by rfl) ?_ SS.out ?_
  rotate_left
  · intro w hSw
    try dsimp only at hSw
    go_simp
    try with_reducible rfl
  try simp only [Act.put, List.setIfInBounds_toArray, List.set_cons_zero, List.set_cons_succ]
  refine until_take 1 (v := ?_) (by rfl) (by kernel_rfl) (by exact fun _ _ _ h => h) (by rfl) ?_ SS.out ?_
  rotate_left
  · intro w hSw
    try dsimp only at hSw
    go_simp
    try with_reducible rfl
  try simp only [Act.put, List.setIfInBounds_toArray, List.set_cons_zero, List.set_cons_succ]
  refine until_take 3 (v := ?_) (by rfl) (by kernel_rfl) (by exact fun _ _ _ h => h) (by rfl) ?_ SS.out ?_
  rotate_left
  · intro w hSw
    try dsimp only at hSw
    go_simp
    try with_reducible rfl
  try simp only [Act.put, List.setIfInBounds_toArray, List.set_cons_zero, List.set_cons_succ]
  refine until_take 4 (v := ?_) (by rfl) (by kernel_rfl) (by exact fun _ _ _ h => h) (by rfl) ?_ SS.out ?_
  rotate_left
  · intro w hSw
    try dsimp only at hSw
    go_simp
    try with_reducible rfl
  try simp only [Act.put, List.setIfInBounds_toArray, List.set_cons_zero, List.set_cons_succ]
  refine until_take 7 (v := ?_) (by rfl) (by kernel_rfl) (by exact fun _ _ _ h => h) (by rfl) ?_ SS.out ?_
  rotate_left
  · intro w hSw
    try dsimp only at hSw
    go_simp
    try with_reducible rfl
  try simp only [Act.put, List.setIfInBounds_toArray, List.set_cons_zero, List.set_cons_succ]
  refine until_take 8 (v := ?_) (by rfl) (by kernel_rfl) (by exact fun _ _ _ h => h) (by rfl) ?_ SS.out ?_
  rotate_left
  · intro w hSw
    try dsimp only at hSw
    go_simp
    try with_reducible rfl
  try simp only [Act.put, List.setIfInBounds_toArray, List.set_cons_zero, List.set_cons_succ]
  refine until_take 11 (v := ?_) (by rfl) (by kernel_rfl) (by exact fun _ _ _ h => h) (by rfl) ?_ SS.out ?_
  rotate_left
  · intro w hSw
    try dsimp only at hSw
    go_simp
    try with_reducible rfl
  try simp only [Act.put, List.setIfInBounds_toArray, List.set_cons_zero, List.set_cons_succ]
  refine until_take 12 (v := ?_) (by rfl) (by kernel_rfl) (by exact fun _ _ _ h => h) (by rfl) ?_ SS.out ?_
  rotate_left
  · intro w hSw
    try dsimp only at hSw
    go_simp
    try with_reducible rfl
  try simp only [Act.put, List.setIfInBounds_toArray, List.set_cons_zero, List.set_cons_succ]
  refine until_one 2 (by rfl) (by kernel_rfl) (fun K hK => ?_)
  go_simp
  refine (c1 _).mono ?_
  rintro e y2 ⟨rfl, hb⟩
  have B2 : Hid (Below w.heap.size w y2) := B1.out.trans (hb.mono B1.out.size)
  have Q2 := Hid.mk (Q1.out.on hb Q1.out.2.2.2.2 (Nat.le_refl _))
  clear hb SS Q1 B1
  have SS : Hid (y2.cell? ⟨w.heap.size, 0, none⟩ = some (.int .i64 (cn : Int)) ∧ y2.cell? ⟨w.heap.size, 1, none⟩ = some (.int .i64 (jn : Int)) ∧ y2.cell? ⟨w.heap.size, 2, none⟩ = some (.int .i64 (mn : Int)) ∧ y2.cell? ⟨w.heap.size, 3, none⟩ = some (.string d)) := ⟨Q2.out.1, Q2.out.2.1, Q2.out.2.2.1, Q2.out.2.2.2.1⟩
  go_wp2_with fail
  refine hK.out _ _ (fun _ _ => SS.out) ?_
  clear hK K
  try simp only [Act.put, List.setIfInBounds_toArray, List.set_cons_zero, List.set_cons_succ]
  refine until_one 5 (by rfl) (by kernel_rfl) (fun K hK => ?_)
  go_simp
  refine (c2 _).mono ?_
  rintro e y3 ⟨rfl, hb⟩
  have B3 : Hid (Below w.heap.size w y3) := B2.out.trans (hb.mono B2.out.size)
  have Q3 := Hid.mk (Q2.out.on hb Q2.out.2.2.2.2 (Nat.le_refl _))
  clear hb SS Q2 B2
  have SS : Hid (y3.cell? ⟨w.heap.size, 0, none⟩ = some (.int .i64 (cn : Int)) ∧ y3.cell? ⟨w.heap.size, 1, none⟩ = some (.int .i64 (jn : Int)) ∧ y3.cell? ⟨w.heap.size, 2, none⟩ = some (.int .i64 (mn : Int)) ∧ y3.cell? ⟨w.heap.size, 3, none⟩ = some (.string d)) := ⟨Q3.out.1, Q3.out.2.1, Q3.out.2.2.1, Q3.out.2.2.2.1⟩
  go_wp2_with fail
  refine hK.out _ _ (fun _ _ => SS.out) ?_
  clear hK K
  try simp only [Act.put, List.setIfInBounds_toArray, List.set_cons_zero, List.set_cons_succ]
  refine until_pure 6 (v := ?_) (by rfl) (by kernel_rfl) (by exact fun _ _ _ h => h) (by rfl) ?_ ?_
  rotate_left
  · intro w
    go_simp
    try with_reducible rfl
  try simp only [Act.put, List.setIfInBounds_toArray, List.set_cons_zero, List.set_cons_succ]
  refine until_one 9 (by rfl) (by kernel_rfl) (fun K hK => ?_)
  go_simp
  refine (c3 _).mono ?_
  rintro e y4 ⟨rfl, hb⟩
  have B4 : Hid (Below w.heap.size w y4) := B3.out.trans (hb.mono B3.out.size)
  have Q4 := Hid.mk (Q3.out.on hb Q3.out.2.2.2.2 (Nat.le_refl _))
  clear hb SS Q3 B3
  have SS : Hid (y4.cell? ⟨w.heap.size, 0, none⟩ = some (.int .i64 (cn : Int)) ∧ y4.cell? ⟨w.heap.size, 1, none⟩ = some (.int .i64 (jn : Int)) ∧ y4.cell? ⟨w.heap.size, 2, none⟩ = some (.int .i64 (mn : Int)) ∧ y4.cell? ⟨w.heap.size, 3, none⟩ = some (.string d)) := ⟨Q4.out.1, Q4.out.2.1, Q4.out.2.2.1, Q4.out.2.2.2.1⟩
  go_wp2_with fail
  refine hK.out _ _ (fun _ _ => SS.out) ?_
  clear hK K
  try simp only [Act.put, List.setIfInBounds_toArray, List.set_cons_zero, List.set_cons_succ]
  refine until_pure 10 (v := ?_) (by rfl) (by kernel_rfl) (by exact fun _ _ _ h => h) (by rfl) ?_ ?_
  rotate_left
  · intro w
    go_simp
    try with_reducible rfl
  try simp only [Act.put, List.setIfInBounds_toArray, List.set_cons_zero, List.set_cons_succ]
  refine until_pure 13 (v := ?_) (by rfl) (by kernel_rfl) (by exact fun _ _ _ h => h) (by rfl) ?_ ?_
  rotate_left
  · intro w
    go_simp
    try with_reducible rfl
  try simp only [Act.put, List.setIfInBounds_toArray, List.set_cons_zero, List.set_cons_succ]
  refine until_pure 14 (v := ?_) (by rfl) (by kernel_rfl) (by exact fun _ _ _ h => h) (by rfl) ?_ ?_
  rotate_left
  · intro w
    go_simp
    try with_reducible rfl
  try simp only [Act.put, List.setIfInBounds_toArray, List.set_cons_zero, List.set_cons_succ]
  refine until_done (by kernel_rfl) ?_ _
  go_wp2_with fail
  go_ret
  exact ⟨by rw [HT.out]; rfl, B4.out⟩
set_option maxHeartbeats 2000000 in
theorem implShowAnswer (x : Ans) (w : World) (hd : x.data.size ≤ maxLen) : Calls Try.prog 8 #[vAns x] w fun e w' => e = .returned (.string (ansT x)) ∧ Below w.heap.size w w' := by
  have c0 := fun wx => implAnswerOk x wx hd
  have hb0 := below_a1 w (.cells #[.int .i64 x.code, .int .i64 x.index, .int .i64 x.mark, .string x.data] 26)
  have k0 := Cell4.new w x 26
  cases ho : ansOk x
  · have HT : Hid (ansT x = ⟨#[]⟩) := by unfold Hid ansT; rw [ho]; rfl
    rw [ho] at c0
    unfold vAns at *
    clear ho hd k0
    go_enter Try.func8, Try.ntmps8
    go_wp2_with fail
    generalize w.alloc (.cells #[.int .i64 x.code, .int .i64 x.index, .int .i64 x.mark, .string x.data] 26) = W at *
    refine (c0 _).mono ?_
    rintro e w1 ⟨rfl, hb1⟩
    have B1 : Hid (Below w.heap.size w w1) := hb0.trans (hb1.mono hb0.size)
    clear hb0 hb1 c0
    go_wp2_with fail
    go_ret
    exact ⟨by rw [HT.out]; rfl, B1.out⟩
  obtain ⟨⟨a1, a2⟩, ⟨a3, a4⟩, ⟨a5, a6⟩, a7⟩ := ansOk_in ho
  have HT : Hid (ansT x = txt (vF 6 x.code.toNat) ++ txt (vF 6 x.index.toNat) ++ txt (vF 6 x.mark.toNat) ++ x.data) := by unfold Hid ansT; rw [if_pos ho]
  rw [ho] at c0
  clear ho hd
  obtain ⟨c, i, m, d⟩ := x
  simp only at *
  obtain ⟨cn, rfl⟩ : ∃ cn : Nat, c = (cn : Int) := ⟨c.toNat, by omega⟩
  obtain ⟨jn, rfl⟩ : ∃ cn : Nat, i = (cn : Int) := ⟨i.toNat, by omega⟩
  obtain ⟨mn, rfl⟩ : ∃ cn : Nat, m = (cn : Int) := ⟨m.toNat, by omega⟩
  simp only [Int.toNat_natCast] at HT
  have c1 := fun wx => impl_var cn wx (by omega)
  have c2 := fun wx => impl_var jn wx (by omega)
  have c3 := fun wx => impl_var mn wx (by omega)
  have l1 : (txt (vF 6 cn)).size ≤ 7 := by rw [txt_size]; exact vF_length 6 cn
  have l2 : (txt (vF 6 jn)).size ≤ 7 := by rw [txt_size]; exact vF_length 6 jn
  have l3 : (txt (vF 6 mn)).size ≤ 7 := by rw [txt_size]; exact vF_length 6 mn
  generalize txt (vF 6 cn) = t1 at *
  generalize txt (vF 6 jn) = t2 at *
  generalize txt (vF 6 mn) = t3 at *
  have p1 : ¬ 9223372036854775807 < t1.size + t2.size := by omega
  have p2 : ¬ 9223372036854775807 < t1.size + t2.size + t3.size := by omega
  have p3 : ¬ 9223372036854775807 < t1.size + t2.size + t3.size + d.size := by omega
  clear a1 a2 a3 a4 a5 a6 a7 l1 l2 l3
  unfold vAns at *
  simp only at *
  go_enter Try.func8, Try.ntmps8
  go_wp2_with fail
  generalize w.alloc (.cells #[.int .i64 (cn : Int), .int .i64 (jn : Int), .int .i64 (mn : Int), .string d] 26) = W at *
  refine (c0 _).mono ?_
  rintro e y1 ⟨rfl, hb1⟩
  have B1 : Hid (Below w.heap.size w y1) := hb0.trans (hb1.mono hb0.size)
  have Q1 := Hid.mk (k0.on hb1 k0.2.2.2.2 (Nat.le_refl _))
  clear hb0 hb1 c0 k0
  go_wp2_with fail
  have SS : Hid (y1.drew.cell? ⟨w.heap.size, 0, none⟩ = some (.int .i64 (cn : Int)) ∧ y1.drew.cell? ⟨w.heap.size, 1, none⟩ = some (.int .i64 (jn : Int)) ∧ y1.drew.cell? ⟨w.heap.size, 2, none⟩ = some (.int .i64 (mn : Int)) ∧ y1.drew.cell? ⟨w.heap.size, 3, none⟩ = some (.string d)) := ⟨Q1.out.1, Q1.out.2.1, Q1.out.2.2.1, Q1.out.2.2.2.1⟩
  have B1' : Hid (Below w.heap.size w y1.drew) := B1.out.drew
  have Q1' : Hid (Cell4 y1.drew w.heap.size ⟨(cn : Int), (jn : Int), (mn : Int), d⟩) := Q1.out
  refine wp_region_until (fun w' => w'.cell? ⟨w.heap.size, 0, none⟩ = some (.int .i64 (cn : Int)) ∧ w'.cell? ⟨w.heap.size, 1, none⟩ = some (.int .i64 (jn : Int)) ∧ w'.cell? ⟨w.heap.size, 2, none⟩ = some (.int .i64 (mn : Int)) ∧ w'.cell? ⟨w.heap.size, 3, none⟩ = some (.string d)) (fun i => false) 15 (by rfl) (by kernel_rfl) ?_
  clear Q1 B1
  generalize y1.drew = y0 at *
  have B1 := B1'
  have Q1 := Q1'
  clear B1' Q1'
  refine until_take 0 (v := ?_) (by rfl) (by kernel_rfl) (by exact fun _ _ _ h => h) (by rfl) ?_ SS.out ?_
  rotate_left
  · intro w hSw
    try dsimp only at hSw
    go_simp
    try with_reducible rfl
  try simp only [Act.put, List.setIfInBounds_toArray, List.set_cons_zero, List.set_cons_succ]
  refine until_take 1 (v := ?_) (by rfl) (by kernel_rfl) (by exact fun _ _ _ h => h) (by rfl) ?_ SS.out ?_
  rotate_left
  · intro w hSw
    try dsimp only at hSw
    go_simp
    try with_reducible rfl
  try simp only [Act.put, List.setIfInBounds_toArray, List.set_cons_zero, List.set_cons_succ]
  refine until_take 3 (v := ?_) (by rfl) (by kernel_rfl) (by exact fun _ _ _ h => h) (by rfl) ?_ SS.out ?_
  rotate_left
  · intro w hSw
    try dsimp only at hSw
    go_simp
    try with_reducible rfl
  try simp only [Act.put, List.setIfInBounds_toArray, List.set_cons_zero, List.set_cons_succ]
  refine until_take 4 (v := ?_) (by rfl) (by kernel_rfl) (by exact fun _ _ _ h => h) (by rfl) ?_ SS.out ?_
  rotate_left
  · intro w hSw
    try dsimp only at hSw
    go_simp
    try with_reducible rfl
  try simp only [Act.put, List.setIfInBounds_toArray, List.set_cons_zero, List.set_cons_succ]
  refine until_take 7 (v := ?_) (by rfl) (by kernel_rfl) (by exact fun _ _ _ h => h) (by rfl) ?_ SS.out ?_
  rotate_left
  · intro w hSw
    try dsimp only at hSw
    go_simp
    try with_reducible rfl
  try simp only [Act.put, List.setIfInBounds_toArray, List.set_cons_zero, List.set_cons_succ]
  refine until_take 8 (v := ?_) (by rfl) (by kernel_rfl) (by exact fun _ _ _ h => h) (by rfl) ?_ SS.out ?_
  rotate_left
  · intro w hSw
    try dsimp only at hSw
    go_simp
    try with_reducible rfl
  try simp only [Act.put, List.setIfInBounds_toArray, List.set_cons_zero, List.set_cons_succ]
  refine until_take 11 (v := ?_) (by rfl) (by kernel_rfl) (by exact fun _ _ _ h => h) (by rfl) ?_ SS.out ?_
  rotate_left
  · intro w hSw
    try dsimp only at hSw
    go_simp
    try with_reducible rfl
  try simp only [Act.put, List.setIfInBounds_toArray, List.set_cons_zero, List.set_cons_succ]
  refine until_take 12 (v := ?_) (by rfl) (by kernel_rfl) (by exact fun _ _ _ h => h) (by rfl) ?_ SS.out ?_
  rotate_left
  · intro w hSw
    try dsimp only at hSw
    go_simp
    try with_reducible rfl
  try simp only [Act.put, List.setIfInBounds_toArray, List.set_cons_zero, List.set_cons_succ]
  refine until_one 2 (by rfl) (by kernel_rfl) (fun K hK => ?_)
  go_simp
  refine (c1 _).mono ?_
  rintro e y2 ⟨rfl, hb⟩
  have B2 : Hid (Below w.heap.size w y2) := B1.out.trans (hb.mono B1.out.size)
  have Q2 := Hid.mk (Q1.out.on hb Q1.out.2.2.2.2 (Nat.le_refl _))
  clear hb SS Q1 B1
  have SS : Hid (y2.cell? ⟨w.heap.size, 0, none⟩ = some (.int .i64 (cn : Int)) ∧ y2.cell? ⟨w.heap.size, 1, none⟩ = some (.int .i64 (jn : Int)) ∧ y2.cell? ⟨w.heap.size, 2, none⟩ = some (.int .i64 (mn : Int)) ∧ y2.cell? ⟨w.heap.size, 3, none⟩ = some (.string d)) := ⟨Q2.out.1, Q2.out.2.1, Q2.out.2.2.1, Q2.out.2.2.2.1⟩
  go_wp2_with fail
  refine hK.out _ _ (fun _ _ => SS.out) ?_
  clear hK K
  try simp only [Act.put, List.setIfInBounds_toArray, List.set_cons_zero, List.set_cons_succ]
  refine until_one 5 (by rfl) (by kernel_rfl) (fun K hK => ?_)
  go_simp
  refine (c2 _).mono ?_
  rintro e y3 ⟨rfl, hb⟩
  have B3 : Hid (Below w.heap.size w y3) := B2.out.trans (hb.mono B2.out.size)
  have Q3 := Hid.mk (Q2.out.on hb Q2.out.2.2.2.2 (Nat.le_refl _))
  clear hb SS Q2 B2
  have SS : Hid (y3.cell? ⟨w.heap.size, 0, none⟩ = some (.int .i64 (cn : Int)) ∧ y3.cell? ⟨w.heap.size, 1, none⟩ = some (.int .i64 (jn : Int)) ∧ y3.cell? ⟨w.heap.size, 2, none⟩ = some (.int .i64 (mn : Int)) ∧ y3.cell? ⟨w.heap.size, 3, none⟩ = some (.string d)) := ⟨Q3.out.1, Q3.out.2.1, Q3.out.2.2.1, Q3.out.2.2.2.1⟩
  go_wp2_with fail
  refine hK.out _ _ (fun _ _ => SS.out) ?_
  clear hK K
  try simp only [Act.put, List.setIfInBounds_toArray, List.set_cons_zero, List.set_cons_succ]
  refine until_pure 6 (v := ?_) (by rfl) (by kernel_rfl) (by exact fun _ _ _ h => h) (by rfl) ?_ ?_
  rotate_left
  · intro w
    go_simp
    try with_reducible rfl
  try simp only [Act.put, List.setIfInBounds_toArray, List.set_cons_zero, List.set_cons_succ]
  refine until_one 9 (by rfl) (by kernel_rfl) (fun K hK => ?_)
  go_simp
  refine (c3 _).mono ?_
  rintro e y4 ⟨rfl, hb⟩
  have B4 : Hid (Below w.heap.size w y4) := B3.out.trans (hb.mono B3.out.size)
  have Q4 := Hid.mk (Q3.out.on hb Q3.out.2.2.2.2 (Nat.le_refl _))
  clear hb SS Q3 B3
  have SS : Hid (y4.cell? ⟨w.heap.size, 0, none⟩ = some (.int .i64 (cn : Int)) ∧ y4.cell? ⟨w.heap.size, 1, none⟩ = some (.int .i64 (jn : Int)) ∧ y4.cell? ⟨w.heap.size, 2, none⟩ = some (.int .i64 (mn : Int)) ∧ y4.cell? ⟨w.heap.size, 3, none⟩ = some (.string d)) := ⟨Q4.out.1, Q4.out.2.1, Q4.out.2.2.1, Q4.out.2.2.2.1⟩
  go_wp2_with fail
  refine hK.out _ _ (fun _ _ => SS.out) ?_
  clear hK K
  try simp only [Act.put, List.setIfInBounds_toArray, List.set_cons_zero, List.set_cons_succ]
  refine until_pure 10 (v := ?_) (by rfl) (by kernel_rfl) (by exact fun _ _ _ h => h) (by rfl) ?_ ?_
  rotate_left
  · intro w
    go_simp
    try with_reducible rfl
  try simp only [Act.put, List.setIfInBounds_toArray, List.set_cons_zero, List.set_cons_succ]
  refine until_pure 13 (v := ?_) (by rfl) (by kernel_rfl) (by exact fun _ _ _ h => h) (by rfl) ?_ ?_
  rotate_left
  · intro w
    go_simp
    try with_reducible rfl
  try simp only [Act.put, List.setIfInBounds_toArray, List.set_cons_zero, List.set_cons_succ]
  refine until_pure 14 (v := ?_) (by rfl) (by kernel_rfl) (by exact fun _ _ _ h => h) (by rfl) ?_ ?_
  rotate_left
  · intro w
    go_simp
    try with_reducible rfl
  try simp only [Act.put, List.setIfInBounds_toArray, List.set_cons_zero, List.set_cons_succ]
  refine until_done (by kernel_rfl) ?_ _
  go_wp2_with fail
  go_ret
  exact ⟨by rw [HT.out]; rfl, B4.out⟩
end Go.Proofs.Ytaaefceknjhloaa
