/-
  Contracts of laws.samePoints (of what is the same), spec.DrawSlice and spec.DrawMerge (some points, whatever the code).
-/
import Derived.Test.YtlekgbfopionfaaRows
import Derived.Test.YtlekgbfopionfaaPtDraw
import Derived.Laws.StructEq
namespace Go.Proofs.Ytlekgbfopionfaa
open Go.ChangeShapes Go.WideShapes Go.ChangeAt Go.RowKit Go.PlainAid
set_option linter.unusedVariables false

set_option maxHeartbeats 2000000 in
theorem samePoints (l : List Pnt) (va vb : Value) (w : World) (B : Nat) (ha : Lies w B 2 va (ptR l)) (hb : Lies w B 2 vb (ptR l)) (hn : l.length ≤ 1048576) :
    Calls Try.prog 22 #[va, vb] w fun e w' => e = .returned (.bool true) ∧ Like w w' := by
  obtain ⟨A, cap, rfl, hl⟩ := pt_look ha
  obtain ⟨A', cap', rfl, hl'⟩ := pt_look hb
  have HL : Hid (∀ j, j < l.length → ∃ g off, A = some ⟨g, off, none⟩ ∧ g < B ∧ _) := hl
  have HL' : Hid (∀ j, j < l.length → ∃ g off, A' = some ⟨g, off, none⟩ ∧ g < B ∧ _) := hl'
  clear hl hl' ha hb
  have q1 : (l.length : Int) ≤ 1048576 := by omega
  generalize hN : l.length = n at *
  clear hN
  go_enter Try.func22, Try.ntmps22
  go_wp2_with fail
  go_loopw [5] (fun v5 wr => ∃ k : Nat, k ≤ n ∧ v5 = .int .i64 (k : Int) ∧ Like w wr) (fun i _ => n - (intOf i).toNat)
  case atStart => exact ⟨0, by omega, rfl, Like.refl _⟩
  case round =>
    obtain ⟨k, hk, rfl, hL⟩ := hrel
    have HLK : Hid (Like w wr) := hL
    by_cases hlt : k < n
    · have q4 : (k : Int) < (n : Int) := by omega
      obtain ⟨g, off, rfl, hg, ha0, ha1⟩ := HL.out k hlt
      obtain ⟨g', off', rfl, hg', hb0, hb1⟩ := HL'.out k hlt
      rw [← cell?_heap hL.1] at ha0 ha1 hb0 hb1
      generalize l.getD k default = x at *
      have S0 : Hid (wr.drew.cell? ⟨g, off + k * 2, none⟩ = some (.int .i64 x.t) ∧ wr.drew.cell? ⟨g, off + k * 2 + 1, none⟩ = some (.int .i64 x.v) ∧ wr.drew.cell? ⟨g', off' + k * 2, none⟩ = some (.int .i64 x.t) ∧ wr.drew.cell? ⟨g', off' + k * 2 + 1, none⟩ = some (.int .i64 x.v)) := ⟨ha0, ha1, hb0, hb1⟩
      have HLD : Hid (Like w wr.drew) := hL
      clear ha0 ha1 hb0 hb1 hL
      go_wp2_with fail
      refine wp_region_until (fun w' => w'.cell? ⟨g, off + k * 2, none⟩ = some (.int .i64 x.t) ∧ w'.cell? ⟨g, off + k * 2 + 1, none⟩ = some (.int .i64 x.v) ∧ w'.cell? ⟨g', off' + k * 2, none⟩ = some (.int .i64 x.t) ∧ w'.cell? ⟨g', off' + k * 2 + 1, none⟩ = some (.int .i64 x.v)) (fun _ => false) 9 (by rfl) (by kernel_rfl) ?_
      refine until_take 0 (v := ?_) (by rfl) (by kernel_rfl) (by exact fun _ _ _ h => h) (by rfl) ?_ S0.out ?_
      rotate_left
      · intro w hSw
        try dsimp only at hSw
        go_simp
        try with_reducible rfl
      try simp only [Act.put, List.setIfInBounds_toArray, List.set_cons_zero, List.set_cons_succ]
      refine until_take 1 (v := ?_) (by rfl) (by kernel_rfl) (by exact fun _ _ _ h => h) (by rfl) ?_ S0.out ?_
      rotate_left
      · intro w hSw
        try dsimp only at hSw
        go_simp
        try with_reducible rfl
      try simp only [Act.put, List.setIfInBounds_toArray, List.set_cons_zero, List.set_cons_succ]
      refine until_take 2 (v := ?_) (by rfl) (by kernel_rfl) (by exact fun _ _ _ h => h) (by rfl) ?_ S0.out ?_
      rotate_left
      · intro w hSw
        try dsimp only at hSw
        go_simp
        try with_reducible rfl
      try simp only [Act.put, List.setIfInBounds_toArray, List.set_cons_zero, List.set_cons_succ]
      refine until_take 3 (v := ?_) (by rfl) (by kernel_rfl) (by exact fun _ _ _ h => h) (by rfl) ?_ S0.out ?_
      rotate_left
      · intro w hSw
        try dsimp only at hSw
        go_simp
        try with_reducible rfl
      try simp only [Act.put, List.setIfInBounds_toArray, List.set_cons_zero, List.set_cons_succ]
      refine until_take 4 (v := ?_) (by rfl) (by kernel_rfl) (by exact fun _ _ _ h => h) (by rfl) ?_ S0.out ?_
      rotate_left
      · intro w hSw
        try dsimp only at hSw
        go_simp
        try with_reducible rfl
      try simp only [Act.put, List.setIfInBounds_toArray, List.set_cons_zero, List.set_cons_succ]
      refine until_take 5 (v := ?_) (by rfl) (by kernel_rfl) (by exact fun _ _ _ h => h) (by rfl) ?_ S0.out ?_
      rotate_left
      · intro w hSw
        try dsimp only at hSw
        go_simp
        try with_reducible rfl
      try simp only [Act.put, List.setIfInBounds_toArray, List.set_cons_zero, List.set_cons_succ]
      refine until_take 6 (v := ?_) (by rfl) (by kernel_rfl) (by exact fun _ _ _ h => h) (by rfl) ?_ S0.out ?_
      rotate_left
      · intro w hSw
        try dsimp only at hSw
        go_simp
        try with_reducible rfl
      try simp only [Act.put, List.setIfInBounds_toArray, List.set_cons_zero, List.set_cons_succ]
      refine until_take 7 (v := ?_) (by rfl) (by kernel_rfl) (by exact fun _ _ _ h => h) (by rfl) ?_ S0.out ?_
      rotate_left
      · intro w hSw
        try dsimp only at hSw
        go_simp
        try with_reducible rfl
      try simp only [Act.put, List.setIfInBounds_toArray, List.set_cons_zero, List.set_cons_succ]
      refine until_take 8 (v := .bool false) (by rfl) (by kernel_rfl) (by exact fun _ _ _ h => h) (by rfl) ?_ S0.out ?_
      · intro w hSw
        try dsimp only at hSw
        go_simp
      try simp only [Act.put, List.setIfInBounds_toArray, List.set_cons_zero, List.set_cons_succ]
      refine until_done (by kernel_rfl) ?_ _
      go_wp2_with fail
      go_roundw
      case rel => exact ⟨k + 1, by omega, by go_num, HLD.out⟩
      case measure => simp [intOf]; omega
    · obtain rfl : k = n := by omega
      go_wp2_with fail
      go_ret
      exact ⟨rfl, HLK.out⟩

set_option maxHeartbeats 1000000 in
theorem drawSlice (w : World) (ao : Option Addr) (len cap : Nat) (cs : Nat → Nat) (hl : len ≤ 1048576) (h : CodeIs w w.heap.size ao len cs) :
    Calls Try.prog 23 #[.slice ao len cap] w fun e w' => (∃ u l a b, e = .returned (.tuple #[u, .int .i64 a, .int .i64 b]) ∧ Owns w' w.heap.size 40 2 u (ptR l) ∧ l.length ≤ 600 ∧ (-1000 ≤ a ∧ a ≤ 1000) ∧ (-1000 ≤ b ∧ b ≤ 1000)) ∧ Below w.heap.size w w' := by
  have c0 := new_any w ao len cap cs hl h
  have cz := fun wx => size_any wx ao len cap 20 hl (by omega) (by omega)
  clear h
  go_enter Try.func23, Try.ntmps23
  go_wp2_with fail
  refine c0.mono ?_
  rintro e w1 ⟨rfl, hA, hb⟩
  have A1 : Hid (AtS w1 w.heap.size) := ⟨_, _, _, _, _, hA⟩
  have B1 : Hid (Below w.heap.size w w1) := hb
  have HP : Hid (w.heap.size < w1.heap.size) := hA.lt
  clear hA hb
  go_wp2_with fail
  refine (cz _).mono ?_
  rintro e w' ⟨⟨n, rfl, hn1, hn2⟩, rfl⟩
  go_wp2_with fail
  refine (points_any w1 w.heap.size n hn1 hn2 A1.out).mono ?_
  rintro e w2 ⟨u, l, rfl, hO, hln, hA, hm⟩
  have O2 : Hid (Owns w2 w1.heap.size 40 2 u (ptR l)) := hO
  have A2 : Hid (AtS w2 w.heap.size) := hA
  have B2 : Hid (Below w.heap.size w w2) := B1.out.trans ((hm.mono B1.out.size).below (Nat.le_refl _))
  have LL : Hid (l.length ≤ 600) := hln
  have Z2 : Hid (w1.heap.size ≤ w2.heap.size) := hm.size
  clear hO hA hm hln A1
  go_wp2_with fail
  refine (belowS w2 w.heap.size 400 (by omega) (by omega) A2.out).mono ?_
  rintro e w3 ⟨a, rfl, ⟨a0, a1⟩, hA, hm⟩
  have O3 : Hid (Owns w3 w1.heap.size 40 2 u (ptR l)) := O2.out.mod hm HP.out (Nat.le_refl _)
  have A3 : Hid (AtS w3 w.heap.size) := hA
  have B3 : Hid (Below w.heap.size w w3) := B2.out.trans ((hm.mono B2.out.size).below (Nat.le_refl _))
  clear hA hm A2 O2
  go_wp2_with fail
  refine (belowS w3 w.heap.size 200 (by omega) (by omega) A3.out).mono ?_
  rintro e w4 ⟨b, rfl, ⟨b0, b1⟩, hA, hm⟩
  have O4 : Hid (Owns w4 w1.heap.size 40 2 u (ptR l)) := O3.out.mod hm HP.out (Nat.le_refl _)
  have B4 : Hid (Below w.heap.size w w4) := B3.out.trans ((hm.mono B3.out.size).below (Nat.le_refl _))
  clear hA hm A3 O3
  go_wp2_with fail
  exact bodyPost_ret (v := .tuple #[u, .int .i64 (a - 5), .int .i64 (a - 5 + b - 5)]) (by simp [results, go_sem]) rfl ⟨⟨u, l, a - 5, a - 5 + b - 5, rfl, O4.out.mono (Nat.le_of_lt HP.out), LL.out, by omega, by omega⟩, B4.out⟩

set_option maxHeartbeats 1000000 in
theorem drawMerge (w : World) (ao : Option Addr) (len cap : Nat) (cs : Nat → Nat) (hl : len ≤ 1048576) (h : CodeIs w w.heap.size ao len cs) :
    Calls Try.prog 20 #[.slice ao len cap] w fun e w' => (∃ u v l m, e = .returned (.tuple #[u, v]) ∧ Owns w' w.heap.size 40 2 u (ptR l) ∧ Owns w' w.heap.size 40 2 v (ptR m) ∧ l.length ≤ 600 ∧ m.length ≤ 600) ∧ Below w.heap.size w w' := by
  have c0 := new_any w ao len cap cs hl h
  have cz := fun wx => size_any wx ao len cap 20 hl (by omega) (by omega)
  have cy := fun wx => size_any wx ao len cap 45 hl (by omega) (by omega)
  clear h
  go_enter Try.func20, Try.ntmps20
  go_wp2_with fail
  refine c0.mono ?_
  rintro e w1 ⟨rfl, hA, hb⟩
  have A1 : Hid (AtS w1 w.heap.size) := ⟨_, _, _, _, _, hA⟩
  have B1 : Hid (Below w.heap.size w w1) := hb
  have HP : Hid (w.heap.size < w1.heap.size) := hA.lt
  clear hA hb
  go_wp2_with fail
  refine (cz _).mono ?_
  rintro e w' ⟨⟨n, rfl, hn1, hn2⟩, rfl⟩
  go_wp2_with fail
  refine (points_any w1 w.heap.size n hn1 hn2 A1.out).mono ?_
  rintro e w2 ⟨ua, la, rfl, hO, hln, hA, hm⟩
  have O2 : Hid (Owns w2 w1.heap.size 40 2 ua (ptR la)) := hO
  have A2 : Hid (AtS w2 w.heap.size) := hA
  have B2 : Hid (Below w.heap.size w w2) := B1.out.trans ((hm.mono B1.out.size).below (Nat.le_refl _))
  have LA : Hid (la.length ≤ 600) := hln
  have Z2 : Hid (w.heap.size < w2.heap.size) := Nat.lt_of_lt_of_le HP.out hm.size
  clear hO hA hm hln A1
  go_wp2_with fail
  refine (cy _).mono ?_
  rintro e w' ⟨⟨n', rfl, hm1, hm2⟩, rfl⟩
  go_wp2_with fail
  refine (right_any w2 w.heap.size n' hm1 hm2 A2.out).mono ?_
  rintro e w3 ⟨ub, lb, rfl, hO, hln, hA, hm⟩
  have O3 : Hid (Owns w3 w1.heap.size 40 2 ua (ptR la)) := O2.out.mod hm HP.out (Nat.le_refl _)
  have P3 : Hid (Owns w3 w2.heap.size 40 2 ub (ptR lb)) := hO
  have A3 : Hid (AtS w3 w.heap.size) := hA
  have B3 : Hid (Below w.heap.size w w3) := B2.out.trans ((hm.mono B2.out.size).below (Nat.le_refl _))
  have LB : Hid (lb.length ≤ 600) := hln
  have Z3 : Hid (w.heap.size < w3.heap.size) := Nat.lt_of_lt_of_le Z2.out hm.size
  clear hO hA hm hln A2 O2
  go_wp2_with fail
  refine (once_some w3 w.heap.size 3 (by omega) A3.out).mono ?_
  rintro e w4 ⟨b4, rfl, hA, hm⟩
  have O4 : Hid (Owns w4 w1.heap.size 40 2 ua (ptR la)) := O3.out.mod hm HP.out (Nat.le_refl _)
  have P4 : Hid (Owns w4 w2.heap.size 40 2 ub (ptR lb)) := P3.out.mod hm Z2.out (Nat.le_refl _)
  have A4 : Hid (AtS w4 w.heap.size) := hA
  have B4 : Hid (Below w.heap.size w w4) := B3.out.trans ((hm.mono B3.out.size).below (Nat.le_refl _))
  have Z4 : Hid (w.heap.size ≤ w4.heap.size) := B4.out.size
  clear hA hm A3 O3 P3
  cases b4
  · go_wp2_with fail
    go_ret2
    exact ⟨⟨_, _, la, lb, rfl, O4.out.mono (Nat.le_of_lt HP.out), P4.out.mono (Nat.le_of_lt Z2.out), LA.out, LB.out⟩, B4.out⟩
  · go_wp2_with fail
    refine (right_any w4 w.heap.size 40 (by omega) (by omega) A4.out).mono ?_
    rintro e w5 ⟨uc, lc, rfl, hO, hln, hA, hm⟩
    have O5 : Hid (Owns w5 w4.heap.size 40 2 uc (ptR lc)) := hO
    have P5 : Hid (Owns w5 w2.heap.size 40 2 ub (ptR lb)) := P4.out.mod hm Z2.out (Nat.le_refl _)
    have B5 : Hid (Below w.heap.size w w5) := B4.out.trans ((hm.mono B4.out.size).below (Nat.le_refl _))
    have LC : Hid (lc.length ≤ 600) := hln
    clear hO hA hm hln
    go_wp2_with fail
    go_ret2
    exact ⟨⟨_, _, lc, lb, rfl, O5.out.mono Z4.out, P5.out.mono (Nat.le_of_lt Z2.out), LC.out, LB.out⟩, B5.out⟩
end Go.Proofs.Ytlekgbfopionfaa
