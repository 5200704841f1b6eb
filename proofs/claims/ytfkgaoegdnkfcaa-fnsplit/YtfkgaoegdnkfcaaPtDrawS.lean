/-
  What is drawn: contracts of spec.l8Points and spec.l8Right: some points, whatever the code.
-/
import Derived.Test.YtfkgaoegdnkfcaaRows
import Derived.Test.YtfkgaoegdnkfcaaCurP
import Derived.Test.YtfkgaoegdnkfcaaCurN
import Derived.Test.YtfkgaoegdnkfcaaCurT
import Derived.Test.YtfkgaoegdnkfcaaPtRun
import Derived.Test.YtfkgaoegdnkfcaaPtEqv
import Derived.Test.YtfkgaoegdnkfcaaPtSl
import Derived.Test.YtfkgaoegdnkfcaaUntilS
namespace Go.Proofs.Ytfkgaoegdnkfcaa
open Go.ChangeShapes Go.WideShapes Go.ChangeAt Go.RowKit Go.PlainAid
set_option linter.unusedVariables false

/-- What is drawn: some points. -/
def DrawnP (w : World) (p : Nat) (e : Ending) (w' : World) : Prop := ∃ u l, e = .returned u ∧ Owns w' w.heap.size 33 2 u (ptR l) ∧ l.length ≤ 600 ∧ AtS w' p ∧ Mod w.heap.size p w w'

set_option maxRecDepth 20000 in
set_option maxHeartbeats 4000000 in
theorem points_any (w : World) (p : Nat) (most : Int) (hm0 : 1 ≤ most) (hm1 : most ≤ 500) (h : AtS w p) : Calls Try.prog 29 #[.pointer (some ⟨p, 0, none⟩), .int .i64 most] w (DrawnP w p) := by
  have HP : Hid (p < w.heap.size) := h.lt
  have c1 := times_any w p most hm0 hm1 h
  clear h
  go_enter Try.func29, Try.ntmps29
  go_wp2_with fail
  refine c1.mono ?_
  rintro e w1 ⟨ut, lt, rfl, hN1, hl1, hA1, hM1⟩
  have N1 : Hid (Nums w1 w.heap.size ut lt) := hN1
  have M1 : Hid (Mod w.heap.size p w w1) := hM1
  have LT : Hid (1 ≤ lt.length ∧ lt.length ≤ 600) := hl1
  have c2 := ints_any w1 p (lt.length : Int) (by omega) (by omega) hA1
  obtain ⟨gt, ct, rfl, hgt0, hgt⟩ : ∃ g c, ut = .slice (some ⟨g, 0, none⟩) lt.length c ∧ w.heap.size ≤ g ∧ g < w1.heap.size := by
    obtain ⟨A, c, rfl, _, _⟩ := hN1.shape
    obtain ⟨g, rfl, h1, h2⟩ := hN1.block (by omega)
    exact ⟨g, c, rfl, h1, h2⟩
  have q1 : (lt.length : Int) ≤ 600 := by omega
  have q10 : (1 : Int) ≤ (lt.length : Int) := by omega
  generalize hn : lt.length = n at *
  have HN : Hid (lt.length = n) := hn
  clear hn hN1 hA1 hM1 hgt0 hl1
  go_wp2_with fail
  refine c2.mono ?_
  rintro e w2 ⟨uv, lv, rfl, hN2, hl2, hA2, hM2⟩
  have NV : Hid (Nums w2 w1.heap.size uv lv) := hN2
  have NT : Hid (Nums w2 w.heap.size (.slice (some ⟨gt, 0, none⟩) n ct) lt) := N1.out.mod hM2 HP.out (Nat.le_refl _)
  have M2 : Hid (Mod w.heap.size p w w2) := M1.out.trans (hM2.mono M1.out.size)
  have A2 : Hid (AtS w2 p) := hA2
  have HGT : Hid (gt < w2.heap.size) := Nat.lt_of_lt_of_le hgt hM2.size
  have LV : Hid (1 ≤ lv.length ∧ lv.length ≤ 600) := hl2
  obtain ⟨gv, cv, rfl, hgv⟩ : ∃ g c, uv = .slice (some ⟨g, 0, none⟩) lv.length c ∧ g < w2.heap.size := by
    obtain ⟨A, c, rfl, _, _⟩ := hN2.shape
    obtain ⟨g, rfl, h1, h2⟩ := hN2.block (by omega)
    exact ⟨g, c, rfl, h2⟩
  have HGV : Hid (gv < w2.heap.size) := hgv
  have q2 : (lv.length : Int) ≤ 600 := by omega
  have q20 : (1 : Int) ≤ (lv.length : Int) := by omega
  have q21 : 1 ≤ lv.length := by omega
  generalize hm : lv.length = m at *
  have HMM : Hid (lv.length = m) := hm
  clear hm hN2 hA2 hM2 hgt hgv hl2 N1 M1
  go_wp2_with fail
  go_loopw [7, 8] (fun v7 v8 wr => ∃ (k : Nat) (l : List Pnt), k ≤ n ∧ v8 = .int .i64 (k : Int) ∧ l.length = k ∧ Owns wr w2.heap.size 33 2 v7 (ptR l) ∧ Below w2.heap.size w2 wr) (fun _ i _ => n - (intOf i).toNat)
  case atStart => exact ⟨0, [], by omega, rfl, rfl, Owns.empty w2 _ _ _ (Nat.le_refl _), (Below.refl _ _).alloc (Nat.le_refl _) _⟩
  case round =>
    obtain ⟨k, l, hk, rfl, hkl, hO, hb⟩ := hrel
    have HO : Hid (Owns wr w2.heap.size 33 2 u7 (ptR l)) := hO
    have HB1 : Hid (Below w2.heap.size w2 wr) := hb
    have HKL : Hid (l.length = k) := hkl
    clear hO hb hkl
    by_cases hlt : k < n
    · have q3 : (k : Int) < (n : Int) := by omega
      have hmod : k % m < m := Nat.mod_lt _ (by omega)
      have hc1 := NT.out.cell k (by have := HN.out; omega)
      have hc2 := NV.out.cell (k % m) (by have := HMM.out; omega)
      rw [← HB1.out.cell (p := ⟨_, _, none⟩) HGT.out] at hc1
      rw [← HB1.out.cell (p := ⟨_, _, none⟩) HGV.out] at hc2
      generalize lt.getD k 0 = x at *
      generalize lv.getD (k % m) 0 = y at *
      have q5 : (k : Int) % (m : Int) < (m : Int) := by omega
      have q6 : (0 : Int) ≤ (k : Int) % (m : Int) := by omega
      have q7 : ((k : Int) % (m : Int)).toNat = k % m := by omega
      have hz : w2.heap.size ≤ wr.drew.heap.size := HB1.out.size
      obtain ⟨nA, nm, nc, w5, r5, hO5, hb5, hk5, _⟩ := run_append_row (P := Try.prog) wr.drew 24 24 33 (.agg #[.int .i64 0, .int .i64 0]) 2 16 Try.underlying24 Try.infoPt rfl (by omega) w2.heap.size u7 (ptR l) (HO.out.kept fun _ _ _ => rfl) [.int .i64 x, .int .i64 y] rfl (pt_cells x y) (by rw [ptR_length]; have := HKL.out; omega) (by omega) hz
      have B5 : Hid (Below w2.heap.size w2 w5) := (HB1.out.drew).trans hb5
      have O5 : Hid (Owns w5 w2.heap.size 33 2 (.slice nA nm nc) (ptR (l ++ [⟨x, y⟩]))) := by unfold Hid; rw [ptR_snoc']; exact hO5
      have S0 : Hid (wr.drew.cell? ⟨gt, k, none⟩ = some (.int .i64 x) ∧ wr.drew.cell? ⟨gv, k % m, none⟩ = some (.int .i64 y)) := ⟨hc1, hc2⟩
      have hrem : Int.tmod (k : Int) (m : Int) = ((k % m : Nat) : Int) := rfl
      have hwrap : IntKind.i64.wrap ((k % m : Nat) : Int) = ((k % m : Nat) : Int) := by rw [IntKind.wrap_i64]; omega
      clear hc1 hc2 hO5 hb5 hk5
      go_wp2_with fail
      refine wp_region_until (fun w' => w'.cell? ⟨gt, k, none⟩ = some (.int .i64 x) ∧ w'.cell? ⟨gv, k % m, none⟩ = some (.int .i64 y)) (fun i => i == 14 || i == 15) 16 (by rfl) (by kernel_rfl) ?_
      refine until_take 0 (v := ?_) (by rfl) (by kernel_rfl) (by exact fun _ _ _ h => h) (by rfl) ?_ S0.out ?_
      rotate_left
      · intro w hSw
        try dsimp only at hSw
        go_simp
        try with_reducible rfl
      try simp only [Act.put, List.setIfInBounds_toArray, List.set_cons_zero, List.set_cons_succ]
      refine until_take 1 (v := ?_) (by rfl) (by kernel_rfl) (by exact fun _ _ _ h => h) (by rfl) ?_ S0.out ?_
      rotate_left
      · intro w hSw
        try dsimp only at hSw
        go_simp
        try with_reducible rfl
      try simp only [Act.put, List.setIfInBounds_toArray, List.set_cons_zero, List.set_cons_succ]
      refine until_take 2 (v := ?_) (by rfl) (by kernel_rfl) (by exact fun _ _ _ h => h) (by rfl) ?_ S0.out ?_
      rotate_left
      · intro w hSw
        try dsimp only at hSw
        go_simp
        try with_reducible rfl
      try simp only [Act.put, List.setIfInBounds_toArray, List.set_cons_zero, List.set_cons_succ]
      refine until_take 3 (v := ?_) (by rfl) (by kernel_rfl) (by exact fun _ _ _ h => h) (by rfl) ?_ S0.out ?_
      rotate_left
      · intro w hSw
        try dsimp only at hSw
        go_simp
        try with_reducible rfl
      try simp only [Act.put, List.setIfInBounds_toArray, List.set_cons_zero, List.set_cons_succ]
      refine until_take 4 (v := ?_) (by rfl) (by kernel_rfl) (by exact fun _ _ _ h => h) (by rfl) ?_ S0.out ?_
      rotate_left
      · intro w hSw
        try dsimp only at hSw
        go_simp
        try with_reducible rfl
      try simp only [Act.put, List.setIfInBounds_toArray, List.set_cons_zero, List.set_cons_succ]
      refine until_take 5 (v := ?_) (by rfl) (by kernel_rfl) (by exact fun _ _ _ h => h) (by rfl) ?_ S0.out ?_
      rotate_left
      · intro w hSw
        try dsimp only at hSw
        go_simp
        try with_reducible rfl
      try simp only [Act.put, List.setIfInBounds_toArray, List.set_cons_zero, List.set_cons_succ]
      refine until_take 6 (v := ?_) (by rfl) (by kernel_rfl) (by exact fun _ _ _ h => h) (by rfl) ?_ S0.out ?_
      rotate_left
      · intro w hSw
        try dsimp only at hSw
        go_simp
        try with_reducible rfl
      try simp only [Act.put, List.setIfInBounds_toArray, List.set_cons_zero, List.set_cons_succ]
      refine until_take 7 (v := ?_) (by rfl) (by kernel_rfl) (by exact fun _ _ _ h => h) (by rfl) ?_ S0.out ?_
      rotate_left
      · intro w hSw
        try dsimp only at hSw
        go_simp
        try with_reducible rfl
      try simp only [Act.put, List.setIfInBounds_toArray, List.set_cons_zero, List.set_cons_succ]
      refine until_take 8 (v := ?_) (by rfl) (by kernel_rfl) (by exact fun _ _ _ h => h) (by rfl) ?_ S0.out ?_
      rotate_left
      · intro w hSw
        try dsimp only at hSw
        go_simp
        try with_reducible rfl
      try simp only [Act.put, List.setIfInBounds_toArray, List.set_cons_zero, List.set_cons_succ]
      refine until_take 9 (v := .int .i64 ((k % m : Nat) : Int)) (by rfl) (by kernel_rfl) (by exact fun _ _ _ h => h) (by rfl) ?_ S0.out ?_
      · intro w hSw
        try dsimp only at hSw
        go_simp
        omega
      try simp only [Act.put, List.setIfInBounds_toArray, List.set_cons_zero, List.set_cons_succ]
      refine until_take 10 (v := ?_) (by rfl) (by kernel_rfl) (by exact fun _ _ _ h => h) (by rfl) ?_ S0.out ?_
      rotate_left
      · intro w hSw
        try dsimp only at hSw
        go_simp
        try with_reducible rfl
      try simp only [Act.put, List.setIfInBounds_toArray, List.set_cons_zero, List.set_cons_succ]
      refine until_take 11 (v := ?_) (by rfl) (by kernel_rfl) (by exact fun _ _ _ h => h) (by rfl) ?_ S0.out ?_
      rotate_left
      · intro w hSw
        try dsimp only at hSw
        go_simp
        try with_reducible rfl
      try simp only [Act.put, List.setIfInBounds_toArray, List.set_cons_zero, List.set_cons_succ]
      refine until_take 12 (v := ?_) (by rfl) (by kernel_rfl) (by exact fun _ _ _ h => h) (by rfl) ?_ S0.out ?_
      rotate_left
      · intro w hSw
        try dsimp only at hSw
        go_simp
        try with_reducible rfl
      try simp only [Act.put, List.setIfInBounds_toArray, List.set_cons_zero, List.set_cons_succ]
      refine until_one 13 (by rfl) (by kernel_rfl) (fun K hK => ?_)
      go_simp
      refine hK.out _ _ (fun _ h => ⟨cell_alloc_keep h.1 _, cell_alloc_keep h.2 _⟩) ?_
      clear hK K
      try simp only [Act.put, List.setIfInBounds_toArray, List.set_cons_zero, List.set_cons_succ]
      refine until_one 14 (by rfl) (by kernel_rfl) (fun K hK => ?_)
      refine step_append_run (by rfl) (.tmp 23) (.tmp 36) 24 (by rfl) _ _ _ _ (by rfl) (by rfl) r5 ?_
      refine hK.out _ _ (fun h => by cases h) ?_
      clear hK K
      try simp only [Act.put, List.setIfInBounds_toArray, List.set_cons_zero, List.set_cons_succ]
      refine until_one 15 (by rfl) (by kernel_rfl) (fun K hK => ?_)
      go_simp
      refine hK.out _ _ (fun h => by cases h) ?_
      clear hK K
      try simp only [Act.put, List.setIfInBounds_toArray, List.set_cons_zero, List.set_cons_succ]
      refine until_done (by kernel_rfl) ?_ _
      go_wp2_with fail
      go_roundw
      case rel => exact ⟨k + 1, l ++ [⟨x, y⟩], by omega, by go_num, by rw [List.length_append, HKL.out]; rfl, O5.out, B5.out⟩
      case measure => simp [intOf]; omega
    · obtain rfl : k = n := by omega
      go_wp2_with fail
      go_ret
      exact ⟨_, l, rfl, HO.out.mono M2.out.size, by have := HKL.out; have := LT.out; omega, A2.out.below HB1.out A2.out.lt, M2.out.trans (Mod.of_below (HB1.out.mono M2.out.size))⟩

end Go.Proofs.Ytfkgaoegdnkfcaa
