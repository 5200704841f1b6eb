/-
  Contracts of laws.samePoints (of what is the same), spec.DrawSplit and spec.DrawCover (whatever the code).
-/
import Derived.Test.YtfkgaoegdnkfcaaRows
import Derived.Test.YtfkgaoegdnkfcaaPtDrawS
import Derived.Test.YtfkgaoegdnkfcaaLikeAid
import Derived.Laws.StructEq
namespace Go.Proofs.Ytfkgaoegdnkfcaa
open Go.ChangeShapes Go.WideShapes Go.ChangeAt Go.RowKit Go.PlainAid
set_option linter.unusedVariables false

set_option maxHeartbeats 2000000 in
theorem samePoints (l : List Pnt) (va vb : Value) (w : World) (B : Nat) (ha : Lies w B 2 va (ptR l)) (hb : Lies w B 2 vb (ptR l)) (hn : l.length ≤ 1048576) :
    Calls Try.prog 15 #[va, vb] w fun e w' => e = .returned (.bool true) ∧ Like w w' := by
  obtain ⟨A, cap, rfl, hl⟩ := pt_look ha
  obtain ⟨A', cap', rfl, hl'⟩ := pt_look hb
  have HL : Hid (∀ j, j < l.length → ∃ g off, A = some ⟨g, off, none⟩ ∧ g < B ∧ _) := hl
  have HL' : Hid (∀ j, j < l.length → ∃ g off, A' = some ⟨g, off, none⟩ ∧ g < B ∧ _) := hl'
  clear hl hl' ha hb
  have q1 : (l.length : Int) ≤ 1048576 := by omega
  generalize hN : l.length = n at *
  clear hN
  go_enter Try.func15, Try.ntmps15
  go_wp2_with fail
  go_loopw [5] (fun v5 wr => ∃ k : Nat, k ≤ n ∧ v5 = .int .i64 (k : Int) ∧ Like w wr) (fun i _ => n - (intOf i).toNat)
  case atStart => exact ⟨0, by omega, rfl, Like.refl _⟩
  case round =>
    obtain ⟨k, hk, rfl, hL⟩ := hrel
    have HLK : Hid (Like w wr) := hL
    by_cases hlt : k < n
    · have q4 : (k : Int) < (n : Int) := by omega
      obtain ⟨g, off, rfl, hg, ha0, ha1⟩ := HL.out k hlt
      obtain ⟨g', off', rfl, hg', hb0, hb1⟩ := HL'.out k hlt
      rw [← cell?_heap hL.1] at ha0 ha1 hb0 hb1
      generalize l.getD k default = x at *
      have S0 : Hid (wr.drew.cell? ⟨g, off + k * 2, none⟩ = some (.int .i64 x.t) ∧ wr.drew.cell? ⟨g, off + k * 2 + 1, none⟩ = some (.int .i64 x.v) ∧ wr.drew.cell? ⟨g', off' + k * 2, none⟩ = some (.int .i64 x.t) ∧ wr.drew.cell? ⟨g', off' + k * 2 + 1, none⟩ = some (.int .i64 x.v)) := ⟨ha0, ha1, hb0, hb1⟩
      have HLD : Hid (Like w wr.drew) := hL
      clear ha0 ha1 hb0 hb1 hL
      go_wp2_with fail
      refine wp_region_until (fun w' => w'.cell? ⟨g, off + k * 2, none⟩ = some (.int .i64 x.t) ∧ w'.cell? ⟨g, off + k * 2 + 1, none⟩ = some (.int .i64 x.v) ∧ w'.cell? ⟨g', off' + k * 2, none⟩ = some (.int .i64 x.t) ∧ w'.cell? ⟨g', off' + k * 2 + 1, none⟩ = some (.int .i64 x.v)) (fun _ => false) 9 (by rfl) (by kernel_rfl) ?_
      refine until_take 0 (v := ?_) (by rfl) (by kernel_rfl) (by exact fun _ _ _ h => h) (by rfl) ?_ S0.out ?_
      rotate_left
      · intro w hSw
        try dsimp only at hSw
        go_simp
        try with_reducible rfl
      try simp only [Act.put, List.setIfInBounds_toArray, List.set_cons_zero, List.set_cons_succ]
      refine until_take 1 (v := ?_) (by rfl) (by kernel_rfl) (by exact fun _ _ _ h => h) (by rfl) ?_ S0.out ?_
      rotate_left
      · intro w hSw
        try dsimp only at hSw
        go_simp
        try with_reducible rfl
      try simp only [Act.put, List.setIfInBounds_toArray, List.set_cons_zero, List.set_cons_succ]
      refine until_take 2 (v := ?_) (by rfl) (by kernel_rfl) (by exact fun _ _ _ h => h) (by rfl) ?_ S0.out ?_
      rotate_left
      · intro w hSw
        try dsimp only at hSw
        go_simp
        try with_reducible rfl
      try simp only [Act.put, List.setIfInBounds_toArray, List.set_cons_zero, List.set_cons_succ]
      refine until_take 3 (v := ?_) (by rfl) (by kernel_rfl) (by exact fun _ _ _ h => h) (by rfl) ?_ S0.out ?_
      rotate_left
      · intro w hSw
        try dsimp only at hSw
        go_simp
        try with_reducible rfl
      try simp only [Act.put, List.setIfInBounds_toArray, List.set_cons_zero, List.set_cons_succ]
      refine until_take 4 (v := ?_) (by rfl) (by kernel_rfl) (by exact fun _ _ _ h => h) (by rfl) ?_ S0.out ?_
      rotate_left
      · intro w hSw
        try dsimp only at hSw
        go_simp
        try with_reducible rfl
      try simp only [Act.put, List.setIfInBounds_toArray, List.set_cons_zero, List.set_cons_succ]
      refine until_take 5 (v := ?_) (by rfl) (by kernel_rfl) (by exact fun _ _ _ h => h) (by rfl) ?_ S0.out ?_
      rotate_left
      · intro w hSw
        try dsimp only at hSw
        go_simp
        try with_reducible rfl
      try simp only [Act.put, List.setIfInBounds_toArray, List.set_cons_zero, List.set_cons_succ]
      refine until_take 6 (v := ?_) (by rfl) (by kernel_rfl) (by exact fun _ _ _ h => h) (by rfl) ?_ S0.out ?_
      rotate_left
      · intro w hSw
        try dsimp only at hSw
        go_simp
        try with_reducible rfl
      try simp only [Act.put, List.setIfInBounds_toArray, List.set_cons_zero, List.set_cons_succ]
      refine until_take 7 (v := ?_) (by rfl) (by kernel_rfl) (by exact fun _ _ _ h => h) (by rfl) ?_ S0.out ?_
      rotate_left
      · intro w hSw
        try dsimp only at hSw
        go_simp
        try with_reducible rfl
      try simp only [Act.put, List.setIfInBounds_toArray, List.set_cons_zero, List.set_cons_succ]
      refine until_take 8 (v := .bool false) (by rfl) (by kernel_rfl) (by exact fun _ _ _ h => h) (by rfl) ?_ S0.out ?_
      · intro w hSw
        try dsimp only at hSw
        go_simp
      try simp only [Act.put, List.setIfInBounds_toArray, List.set_cons_zero, List.set_cons_succ]
      refine until_done (by kernel_rfl) ?_ _
      go_wp2_with fail
      go_roundw
      case rel => exact ⟨k + 1, by omega, by go_num, HLD.out⟩
      case measure => simp [intOf]; omega
    · obtain rfl : k = n := by omega
      go_wp2_with fail
      go_ret
      exact ⟨rfl, HLK.out⟩

set_option maxHeartbeats 1000000 in
theorem drawSplit (w : World) (ao : Option Addr) (len cap : Nat) (cs : Nat → Nat) (hl : len ≤ 1048576) (h : CodeIs w w.heap.size ao len cs) :
    Calls Try.prog 8 #[.slice ao len cap] w fun e w' => (∃ u l, e = .returned u ∧ Owns w' w.heap.size 33 2 u (ptR l) ∧ l.length ≤ 600) ∧ Below w.heap.size w w' := by
  have c0 := new_any w ao len cap cs hl h
  have cz := fun wx => size_any wx ao len cap 20 hl (by omega) (by omega)
  clear h
  go_enter Try.func8, Try.ntmps8
  go_wp2_with fail
  refine c0.mono ?_
  rintro e w1 ⟨rfl, hA, hb⟩
  have A1 : Hid (AtS w1 w.heap.size) := ⟨_, _, _, _, _, hA⟩
  have B1 : Hid (Below w.heap.size w w1) := hb
  have HP : Hid (w.heap.size < w1.heap.size) := hA.lt
  clear hA hb
  go_wp2_with fail
  refine (cz _).mono ?_
  rintro e w' ⟨⟨n, rfl, hn1, hn2⟩, rfl⟩
  go_wp2_with fail
  refine (points_any w1 w.heap.size n hn1 hn2 A1.out).mono ?_
  rintro e w2 ⟨u, l, rfl, hO, hln, hA, hm⟩
  have O2 : Hid (Owns w2 w1.heap.size 33 2 u (ptR l)) := hO
  have B2 : Hid (Below w.heap.size w w2) := B1.out.trans ((hm.mono B1.out.size).below (Nat.le_refl _))
  have LL : Hid (l.length ≤ 600) := hln
  clear hO hA hm hln A1
  go_wp2_with fail
  go_ret
  exact ⟨⟨u, l, rfl, O2.out.mono (Nat.le_of_lt HP.out), LL.out⟩, B2.out⟩

set_option maxHeartbeats 1000000 in
theorem drawCover (w : World) (ao : Option Addr) (len cap : Nat) (cs : Nat → Nat) (hl : len ≤ 1048576) (h : CodeIs w w.heap.size ao len cs) :
    Calls Try.prog 12 #[.slice ao len cap] w fun e w' => (∃ a b : Int, e = .returned (.tuple #[.int .i64 a, .int .i64 b]) ∧ (-1000 ≤ a ∧ a ≤ 2000000000000) ∧ (-1000 ≤ b ∧ b ≤ 2000000000000)) ∧ Below w.heap.size w w' := by
  have c0 := new_any w ao len cap cs hl h
  clear h
  go_enter Try.func12, Try.ntmps12
  go_wp2_with fail
  refine c0.mono ?_
  rintro e w1 ⟨rfl, hA, hb⟩
  have A1 : Hid (AtS w1 w.heap.size) := ⟨_, _, _, _, _, hA⟩
  have B1 : Hid (Below w.heap.size w w1) := hb
  clear hA hb
  go_wp2_with fail
  refine (belowS w1 w.heap.size 500 (by omega) (by omega) A1.out).mono ?_
  rintro e w2 ⟨a, rfl, ⟨a0, a1⟩, hA, hm⟩
  have A2 : Hid (AtS w2 w.heap.size) := hA
  have B2 : Hid (Below w.heap.size w w2) := B1.out.trans ((hm.mono B1.out.size).below (Nat.le_refl _))
  have g1 : IntKind.i64.wrap (a - 2) = a - 2 := by rw [IntKind.wrap_i64]; omega
  clear hA hm A1
  go_wp2_with fail
  refine (belowS w2 w.heap.size 1000 (by omega) (by omega) A2.out).mono ?_
  rintro e w3 ⟨b, rfl, ⟨b0, b1⟩, hA, hm⟩
  have A3 : Hid (AtS w3 w.heap.size) := hA
  have B3 : Hid (Below w.heap.size w w3) := B2.out.trans ((hm.mono B2.out.size).below (Nat.le_refl _))
  have g2 : IntKind.i64.wrap (a - 2 + b) = a - 2 + b := by rw [IntKind.wrap_i64]; omega
  have g3 : IntKind.i64.wrap (a - 2 + b - 5) = a - 2 + b - 5 := by rw [IntKind.wrap_i64]; omega
  clear hA hm A2
  go_wp2_with fail
  refine (once_some w3 w.heap.size 8 (by omega) A3.out).mono ?_
  rintro e w4 ⟨o1, rfl, hA, hm⟩
  have A4 : Hid (AtS w4 w.heap.size) := hA
  have B4 : Hid (Below w.heap.size w w4) := B3.out.trans ((hm.mono B3.out.size).below (Nat.le_refl _))
  clear hA hm A3
  cases o1 with
  | false =>
    go_wp2_with fail
    refine (once_some w4 w.heap.size 10 (by omega) A4.out).mono ?_
    rintro e w7 ⟨o2, rfl, hA, hm⟩
    have A7 : Hid (AtS w7 w.heap.size) := hA
    have B7 : Hid (Below w.heap.size w w7) := B4.out.trans ((hm.mono B4.out.size).below (Nat.le_refl _))
    clear hA hm
    cases o2 with
    | false =>
      go_wp2_with fail
      exact bodyPost_ret (v := .tuple #[.int .i64 (a - 2), .int .i64 (a - 2 + b - 5)]) (by simp [results, go_sem]) rfl ⟨⟨_, _, rfl, by omega, by omega⟩, B7.out⟩
    | true =>
      have hBk := Blk.new w7 (numCells [800, 801, 700]).toArray 3
      have hb8 : Below w7.heap.size w7 (w7.alloc (.cells (numCells [800, 801, 700]).toArray 3)) := (Below.refl _ _).alloc (Nat.le_refl _) _
      have A8 : Hid (AtS (w7.alloc (.cells (numCells [800, 801, 700]).toArray 3)) w.heap.size) := A7.out.below hb8 A7.out.lt
      have cK := pickS (w7.alloc (.cells (numCells [800, 801, 700]).toArray 3)) w.heap.size w7.heap.size [800, 801, 700] 3 rfl (by omega) (by omega) (fun z => 0 ≤ z ∧ z ≤ 1000) (by omega) (by simp) A8.out (fun e => by have := A7.out.lt; omega) hBk
      have B8 : Hid (Below w.heap.size w (w7.alloc (.cells (numCells [800, 801, 700]).toArray 3))) := B7.out.trans (hb8.mono B7.out.size)
      have en : (numCells [800, 801, 700]).toArray = #[.int .i64 800, .int .i64 801, .int .i64 700] := rfl
      rw [en] at cK B8
      clear hBk hb8
      go_wp2_with fail
      refine cK.mono ?_
      rintro e w9 ⟨z, rfl, ⟨z0, z1⟩, hA, hm⟩
      have B9 : Hid (Below w.heap.size w w9) := B8.out.trans ((hm.mono B8.out.size).below (Nat.le_refl _))
      have g9 : IntKind.i64.wrap (a - 2 + z) = a - 2 + z := by rw [IntKind.wrap_i64]; omega
      clear hA hm cK
      go_wp2_with fail
      exact bodyPost_ret (v := .tuple #[.int .i64 (a - 2), .int .i64 (a - 2 + z)]) (by simp [results, go_sem]) rfl ⟨⟨_, _, rfl, by omega, by omega⟩, B9.out⟩
  | true =>
    go_wp2_with fail
    refine (belowS w4 w.heap.size 300 (by omega) (by omega) A4.out).mono ?_
    rintro e w5 ⟨c, rfl, ⟨c0, c1⟩, hA, hm⟩
    have A5 : Hid (AtS w5 w.heap.size) := hA
    have B5 : Hid (Below w.heap.size w w5) := B4.out.trans ((hm.mono B4.out.size).below (Nat.le_refl _))
    have g4 : IntKind.i64.wrap (1099511627776 - c) = 1099511627776 - c := by rw [IntKind.wrap_i64]; omega
    clear hA hm
    go_wp2_with fail
    refine (belowS w5 w.heap.size 3 (by omega) (by omega) A5.out).mono ?_
    rintro e w6 ⟨d, rfl, ⟨d0, d1⟩, hA, hm⟩
    have A6 : Hid (AtS w6 w.heap.size) := hA
    have B6 : Hid (Below w.heap.size w w6) := B5.out.trans ((hm.mono B5.out.size).below (Nat.le_refl _))
    have g5 : IntKind.i64.wrap (1099511627776 + d) = 1099511627776 + d := by rw [IntKind.wrap_i64]; omega
    have g6 : IntKind.i64.wrap (1099511627776 + d - 1) = 1099511627776 + d - 1 := by rw [IntKind.wrap_i64]; omega
    clear hA hm
    go_wp2_with fail
    refine (once_some w6 w.heap.size 10 (by omega) A6.out).mono ?_
    rintro e w7 ⟨o2, rfl, hA, hm⟩
    have A7 : Hid (AtS w7 w.heap.size) := hA
    have B7 : Hid (Below w.heap.size w w7) := B6.out.trans ((hm.mono B6.out.size).below (Nat.le_refl _))
    clear hA hm
    cases o2 with
    | false =>
      go_wp2_with fail
      exact bodyPost_ret (v := .tuple #[.int .i64 (1099511627776 - c), .int .i64 (1099511627776 + d - 1)]) (by simp [results, go_sem]) rfl ⟨⟨_, _, rfl, by omega, by omega⟩, B7.out⟩
    | true =>
      have hBk := Blk.new w7 (numCells [800, 801, 700]).toArray 3
      have hb8 : Below w7.heap.size w7 (w7.alloc (.cells (numCells [800, 801, 700]).toArray 3)) := (Below.refl _ _).alloc (Nat.le_refl _) _
      have A8 : Hid (AtS (w7.alloc (.cells (numCells [800, 801, 700]).toArray 3)) w.heap.size) := A7.out.below hb8 A7.out.lt
      have cK := pickS (w7.alloc (.cells (numCells [800, 801, 700]).toArray 3)) w.heap.size w7.heap.size [800, 801, 700] 3 rfl (by omega) (by omega) (fun z => 0 ≤ z ∧ z ≤ 1000) (by omega) (by simp) A8.out (fun e => by have := A7.out.lt; omega) hBk
      have B8 : Hid (Below w.heap.size w (w7.alloc (.cells (numCells [800, 801, 700]).toArray 3))) := B7.out.trans (hb8.mono B7.out.size)
      have en : (numCells [800, 801, 700]).toArray = #[.int .i64 800, .int .i64 801, .int .i64 700] := rfl
      rw [en] at cK B8
      clear hBk hb8
      go_wp2_with fail
      refine cK.mono ?_
      rintro e w9 ⟨z, rfl, ⟨z0, z1⟩, hA, hm⟩
      have B9 : Hid (Below w.heap.size w w9) := B8.out.trans ((hm.mono B8.out.size).below (Nat.le_refl _))
      have g9 : IntKind.i64.wrap (1099511627776 - c + z) = 1099511627776 - c + z := by rw [IntKind.wrap_i64]; omega
      clear hA hm cK
      go_wp2_with fail
      exact bodyPost_ret (v := .tuple #[.int .i64 (1099511627776 - c), .int .i64 (1099511627776 - c + z)]) (by simp [results, go_sem]) rfl ⟨⟨_, _, rfl, by omega, by omega⟩, B9.out⟩
end Go.Proofs.Ytfkgaoegdnkfcaa
