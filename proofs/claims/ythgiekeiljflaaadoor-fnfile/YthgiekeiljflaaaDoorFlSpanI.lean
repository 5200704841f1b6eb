/-
  Contract of impl.FileSpan.
-/
import Derived.Test.YthgiekeiljflaaaDoorGF
import Derived.Test.YthgiekeiljflaaaDoorFlIxO
import Derived.Test.YthgiekeiljflaaaDoorUntil
import Derived.WalkKit
import Derived.ProofKit
import Derived.OpenShut
import Derived.Below
import Derived.WalkSmall
import Derived.BigQuiet
import Derived.Deep.QuietTactic
import Derived.Deep.RegionWith
import Derived.Handy
namespace Go.Proofs.YthgiekeiljflaaaDoor
open Go.ChangeShapes Go.WideShapes Go.ChangeAt Go.RowKit Go.PlainAid
set_option linter.unusedVariables false

set_option maxHeartbeats 4000000 in
theorem implFileSpan (s : ByteArray) (w : World) (hs : s.size ≤ 1048576) (hst : SumTab w) (a0 a1 a2 : Addr) (he : Errs w a0 a1 a2) : Calls Tryd.prog 10 #[.string s] w fun e w' => FsOk s e ∧ Below w.heap.size w w' := by
  have c1 := indexOfV s w hs hst a0 a1 a2 he
  clear hs hst he
  go_enter Tryd.func10, Tryd.ntmps10
  go_wp2_with fail
  refine c1.mono ?_
  rintro e X1 ⟨⟨v, P, rfl, hI, hO⟩, hb⟩
  have B1 : Hid (Below w.heap.size w X1) := hb
  clear hb c1
  rcases hI with ⟨m, hm, rfl⟩ | ⟨hno, rfl⟩
  · obtain ⟨A, n0, c, rfl⟩ := hO.shape
    obtain ⟨g, rfl, en, hnc, hgl, _, hc⟩ := sp_tail hO (by rw [List.length_map, List.length_range]; exact hm.1)
    rw [List.length_map, List.length_range] at en hc
    subst en
    have HC : Hid (∀ j, j < m.length → X1.cell? ⟨g, j * 5, none⟩ = some (.string (spotOf m j).key) ∧ X1.cell? ⟨g, j * 5 + 1, none⟩ = some (.int .i64 ((spotOf m j).at' : Int)) ∧ X1.cell? ⟨g, j * 5 + 2, none⟩ = some (.int .i64 ((spotOf m j).size : Int)) ∧ X1.cell? ⟨g, j * 5 + 3, none⟩ = some (.int .i64 (fT m j : Int)) ∧ X1.cell? ⟨g, j * 5 + 4, none⟩ = some (.int .i64 (lT m j : Int))) := fun j hj => by
      have := hc j hj
      rw [range_get m m.length j hj] at this
      exact this
    have HGL : Hid (g < X1.heap.size) := hgl
    have q1 : (m.length : Int) ≤ 5 := by have := hm.2.1.1; omega
    have q2 : (1 : Int) ≤ (m.length : Int) := by have := hm.1; omega
    have HA : Hid (FsAns s (loT m m.length) (hiT m m.length) true) := .inl ⟨rfl, m, hm, rfl, rfl⟩
    have HLE : Hid (∀ k, k ≤ m.length → loT m k ≤ 1099511627776 ∧ hiT m k ≤ 1099511627776) := loT_le hm.2.1 hm.1
    have HFL : Hid (∀ j, j < m.length → fT m j ≤ 1099511627776 ∧ lT m j ≤ 1099511627776) := fun j hj => by
      have h2 := hm.2.1.times j hj
      unfold fT lT
      omega
    have H1 : Hid (loT m 1 = fT m 0 ∧ hiT m 1 = lT m 0) := by
      have := hm.2.1.rise 0 (by have := hm.1; omega)
      refine ⟨?_, ?_⟩
      · show min (fT m 0) (fT m 0) = fT m 0
        omega
      · show max (fT m 0) (lT m 0) = lT m 0
        omega
    have HNC : Hid (m.length ≤ c) := hnc
    clear hc hO hm hgl hnc
    generalize hn : m.length = n at *
    have HN : Hid (m.length = n) := hn
    clear hn
    have d0 : ((n : Int) == 0) = false := by rw [beq_eq_false_iff_ne]; omega
    have d1 : decide ((n : Int) = 0) = false := decide_eq_false (by omega)
    have hc0 := HC.out 0 (by omega)
    simp only [Nat.zero_mul, Nat.zero_add] at hc0
    obtain ⟨_, _, _, f3, f4⟩ := hc0
    have H01 : Hid (loT m 1 = fT m 0 ∧ hiT m 1 = lT m 0) := H1.out
    have hb0 := HFL.out 0 (by omega)
    generalize hf0 : fT m 0 = f0 at *
    generalize hl0 : lT m 0 = l0 at *
    have S0 : Hid (X1.drew.cell? ⟨g, 3, none⟩ = some (.int .i64 (f0 : Int)) ∧ X1.drew.cell? ⟨g, 4, none⟩ = some (.int .i64 (l0 : Int))) := ⟨f3, f4⟩
    have q3 : (0 : Int) < (n : Int) := by omega
    have q4 : 0 < n := by omega
    clear f3 f4 hf0 hl0
    go_wp2_with fail
    refine wp_region_until (fun w' => w'.cell? ⟨g, 3, none⟩ = some (.int .i64 (f0 : Int)) ∧ w'.cell? ⟨g, 4, none⟩ = some (.int .i64 (l0 : Int))) (fun _ => false) 10 (by rfl) (by kernel_rfl) ?_
    refine until_take 0 (v := ?_) (by rfl) (by kernel_rfl) (by exact fun _ _ _ h => h) (by rfl) ?_ S0.out ?_
    rotate_left
    · intro w hSw
      try dsimp only at hSw
      go_simp
      try with_reducible rfl
    try simp only [Act.put, List.setIfInBounds_toArray, List.set_cons_zero, List.set_cons_succ]
    refine until_take 1 (v := ?_) (by rfl) (by kernel_rfl) (by exact fun _ _ _ h => h) (by rfl) ?_ S0.out ?_
    rotate_left
    · intro w hSw
      try dsimp only at hSw
      go_simp
      try with_reducible rfl
    try simp only [Act.put, List.setIfInBounds_toArray, List.set_cons_zero, List.set_cons_succ]
    refine until_take 2 (v := ?_) (by rfl) (by kernel_rfl) (by exact fun _ _ _ h => h) (by rfl) ?_ S0.out ?_
    rotate_left
    · intro w hSw
      try dsimp only at hSw
      go_simp
      try with_reducible rfl
    try simp only [Act.put, List.setIfInBounds_toArray, List.set_cons_zero, List.set_cons_succ]
    refine until_take 3 (v := ?_) (by rfl) (by kernel_rfl) (by exact fun _ _ _ h => h) (by rfl) ?_ S0.out ?_
    rotate_left
    · intro w hSw
      try dsimp only at hSw
      go_simp
      try with_reducible rfl
    try simp only [Act.put, List.setIfInBounds_toArray, List.set_cons_zero, List.set_cons_succ]
    refine until_take 4 (v := ?_) (by rfl) (by kernel_rfl) (by exact fun _ _ _ h => h) (by rfl) ?_ S0.out ?_
    rotate_left
    · intro w hSw
      try dsimp only at hSw
      go_simp
      try with_reducible rfl
    try simp only [Act.put, List.setIfInBounds_toArray, List.set_cons_zero, List.set_cons_succ]
    refine until_take 5 (v := ?_) (by rfl) (by kernel_rfl) (by exact fun _ _ _ h => h) (by rfl) ?_ S0.out ?_
    rotate_left
    · intro w hSw
      try dsimp only at hSw
      go_simp
      try with_reducible rfl
    try simp only [Act.put, List.setIfInBounds_toArray, List.set_cons_zero, List.set_cons_succ]
    refine until_take 6 (v := ?_) (by rfl) (by kernel_rfl) (by exact fun _ _ _ h => h) (by rfl) ?_ S0.out ?_
    rotate_left
    · intro w hSw
      try dsimp only at hSw
      go_simp
      try with_reducible rfl
    try simp only [Act.put, List.setIfInBounds_toArray, List.set_cons_zero, List.set_cons_succ]
    refine until_take 7 (v := ?_) (by rfl) (by kernel_rfl) (by exact fun _ _ _ h => h) (by rfl) ?_ S0.out ?_
    rotate_left
    · intro w hSw
      try dsimp only at hSw
      go_simp
      try with_reducible rfl
    try simp only [Act.put, List.setIfInBounds_toArray, List.set_cons_zero, List.set_cons_succ]
    refine until_take 8 (v := ?_) (by rfl) (by kernel_rfl) (by exact fun _ _ _ h => h) (by rfl) ?_ S0.out ?_
    rotate_left
    · intro w hSw
      try dsimp only at hSw
      go_simp
      try with_reducible rfl
    try simp only [Act.put, List.setIfInBounds_toArray, List.set_cons_zero, List.set_cons_succ]
    refine until_take 9 (v := ?_) (by rfl) (by kernel_rfl) (by exact fun _ _ _ h => h) (by rfl) ?_ S0.out ?_
    rotate_left
    · intro w hSw
      try dsimp only at hSw
      go_simp
      try with_reducible rfl
    try simp only [Act.put, List.setIfInBounds_toArray, List.set_cons_zero, List.set_cons_succ]
    refine until_done (by kernel_rfl) ?_ _
    have q5 : (1 : Int) ≤ (c : Int) := by have := HNC.out; omega
    have q6 : (n : Int) ≤ (c : Int) := by have := HNC.out; omega
    have q7 : n ≤ c := HNC.out
    have q8 : 1 ≤ n := by omega
    have q9 : 1 ≤ c := by omega
    have i1 : ((n - 1 : Nat) : Int) = (n : Int) - 1 := by omega
    by_cases hc1 : c = 1
    · subst hc1
      obtain rfl : n = 1 := by omega
      have X1d : Hid (Below X1.heap.size X1 X1.drew) := (Below.refl _ X1).drew
      have B1d : Hid (Below w.heap.size w X1.drew) := B1.out.drew
      rw [H01.out.1, H01.out.2] at HA
      clear S0 hb0
      go_wp2_with fail
      go_loop [6, 7, 26] (fun v6 v7 v26 => v6 = .int .i64 (f0 : Int) ∧ v7 = .int .i64 (l0 : Int) ∧ v26 = .int .i64 0) (fun _ _ _ => 0)
      case atStart => exact ⟨rfl, rfl, rfl⟩
      case round =>
        obtain ⟨rfl, rfl, rfl⟩ := hrel
        go_wp2_with fail
        refine bodyPost_ret (results_tmp3 rfl _ _ _) rfl ?_
        exact ⟨⟨_, _, true, rfl, HA.out⟩, B1d.out⟩
    go_wp2_with fail
    have B1d : Hid (Below w.heap.size w X1.drew) := B1.out.drew
    have X1d : Hid (Below X1.heap.size X1 X1.drew) := (Below.refl _ X1).drew
    clear S0 hb0
    go_loopw [6, 7, 26] (fun v6 v7 v26 wr => ∃ j : Nat, j ≤ n - 1 ∧ v26 = .int .i64 (j : Int) ∧ v6 = .int .i64 (loT m (j + 1) : Int) ∧ v7 = .int .i64 (hiT m (j + 1) : Int) ∧ Below X1.heap.size X1 wr) (fun _ _ i _ => n - 1 - (intOf i).toNat)
    case atStart => exact ⟨0, by omega, rfl, by rw [H01.out.1], by rw [H01.out.2], X1d.out⟩
    case round =>
      obtain ⟨j, hj, rfl, rfl, rfl, hb⟩ := hrel
      have HB : Hid (Below X1.heap.size X1 wr) := hb
      clear hb
      by_cases hlt : j < n - 1
      · have r1 : (j : Int) < (n : Int) - 1 := by omega
        obtain ⟨k0, k1, k2, k3, k4⟩ := HC.out (j + 1) (by omega)
        rw [show (j + 1) * 5 = 5 + j * 5 by omega] at k0 k1 k2 k3 k4
        have HLo : Hid (loT m (j + 1 + 1) = min (loT m (j + 1)) (fT m (j + 1)) ∧ hiT m (j + 1 + 1) = max (hiT m (j + 1)) (lT m (j + 1))) := ⟨rfl, rfl⟩
        have hb1 := HLE.out (j + 1) (by omega)
        have hb2 := HFL.out (j + 1) (by omega)
        rw [← HB.out.cell (p := ⟨_, _, none⟩) HGL.out] at k0 k1 k2 k3 k4
        have HBa : Hid (∀ cs, Below X1.heap.size X1 (wr.alloc (.cells cs 56))) := fun cs => HB.out.alloc HB.out.size _
        generalize (spotOf m (j + 1)).key = xk at *
        generalize (spotOf m (j + 1)).at' = xa at *
        generalize (spotOf m (j + 1)).size = xz at *
        generalize loT m (j + 1) = lo at *
        generalize hiT m (j + 1) = hi at *
        generalize fT m (j + 1) = ff at *
        generalize lT m (j + 1) = la at *
        have E1 : Hid (((min lo ff : Nat) : Int) = min (lo : Int) (ff : Int)) := by unfold Hid; omega
        have E2 : Hid (((max hi la : Nat) : Int) = max (hi : Int) (la : Int)) := by unfold Hid; omega
        go_wp2_with fail
        go_roundw
        case rel => exact ⟨j + 1, by omega, by go_num, by rw [HLo.out.1, E1.out], by rw [HLo.out.2, E2.out], HBa.out _⟩
        case measure => simp [intOf]; omega
      · have r1 : ¬ (j : Int) < (n : Int) - 1 := by omega
        have d5 : decide ((j : Int) < (n : Int) - 1) = false := decide_eq_false r1
        obtain rfl : n = j + 1 := by omega
        have BF : Hid (Below w.heap.size w wr) := B1.out.trans (HB.out.mono B1.out.size)
        go_wp2_with fail
        refine bodyPost_ret (results_tmp3 rfl _ _ _) rfl ?_
        exact ⟨⟨_, _, true, rfl, HA.out⟩, BF.out⟩
  · obtain ⟨A, n0, c, rfl⟩ := hO.shape
    obtain ⟨A', c', e', _⟩ := sp_look hO.lies
    cases e'
    have HN : Hid (FsAns s 0 0 false) := .inr ⟨rfl, rfl, rfl, hno⟩
    clear hO hno
    go_wp2_with fail
    refine bodyPost_ret (results_tmp3 rfl _ _ _) rfl ?_
    exact ⟨⟨0, 0, false, rfl, HN.out⟩, B1.out⟩
end Go.Proofs.YthgiekeiljflaaaDoor
