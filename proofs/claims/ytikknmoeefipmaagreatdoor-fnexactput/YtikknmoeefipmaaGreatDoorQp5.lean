/- PtOkS PtSlice -/
import Derived.Test.YtikknmoeefipmaaGreatDoorRows
import Derived.Test.YtikknmoeefipmaaGreatDoorQp2
import Derived.Test.YtikknmoeefipmaaGreatDoorQp3
import Derived.Test.YtikknmoeefipmaaGreatDoorQp4
import Derived.Test.YtikknmoeefipmaaGreatDoorQp1
import Derived.Handy
import Derived.Deep.RegionHeld3
open List (setIfInBounds_toArray set_cons_zero set_cons_succ)
namespace Go.Proofs.YtikknmoeefipmaaGreatDoor
open Go.ChangeShapes Go.WideShapes Go.ChangeAt Go.RowKit Go.PlainAid
set_option linter.unusedVariables false
set_option maxHeartbeats 8000000 in
theorem specPointsOk (l : List Pnt) (v : Value) (w : World) (B : Nat) (hv : Lies w B 2 v (ptR l)) (hn : l.length ≤ 1048576) (hB : B ≤ w.heap.size) : Calls Tryz.prog 84 #[v] w fun e w' => e = .returned (.bool (decide (POk l))) ∧ Like w w' := by
 obtain ⟨A, cap, rfl, hl⟩ := pt_look hv
 have HL : Hid (∀ j, j < l.length → ∃ g off, A = some ⟨g, off, none⟩ ∧ g < B ∧ w.cell? ⟨g, off + j * 2, none⟩ = some (.int .i64 (tAt l j)) ∧ w.cell? ⟨g, off + j * 2 + 1, none⟩ = some (.int .i64 (vAt l j))) := hl
 have HD : Hid (∀ b, (b = true ↔ POk l) → decide (POk l) = b) := fun b hb => dec_of b hb
 have HV : Hid (POk l ↔ l.length ≤ 60 ∧ ∀ j, j < l.length → ((0 ≤ tAt l j ∧ tAt l j ≤ 1099511627776) ∧ (-1099511627776 ≤ vAt l j ∧ vAt l j ≤ 1099511627776)) ∧ (0 < j → tAt l (j - 1) < tAt l j)) := Iff.rfl
 have q0 : (l.length : Int) ≤ 1048576 := by omega
 clear hl hn hv hB
 generalize hN : l.length = n at *
 clear hN
 by_cases h2 : (60 : Int) < (n : Int)
 ·go_enter Tryz.func84, Tryz.ntmps84
  go_wp2
  go_ret
  refine ⟨?_, Like.refl _⟩
  rw [HD.out false]
  ·rfl
  rw [HV.out]
  exact ⟨fun h => (by cases h), fun h => by omega⟩
 have q1 : (n : Int) ≤ 60 := by omega
 clear h2
 go_enter Tryz.func84, Tryz.ntmps84
 go_wp2
 go_loopw [3] (fun v3 wr => ∃ k : Nat, k ≤ n ∧ v3 = .int .i64 (k : Int) ∧ Like w wr ∧ Hid (∀ j, j < k → ((0 ≤ tAt l j ∧ tAt l j ≤ 1099511627776) ∧ (-1099511627776 ≤ vAt l j ∧ vAt l j ≤ 1099511627776)) ∧ (0 < j → tAt l (j - 1) < tAt l j))) (fun i _ => n - (intOf i).toNat)
 case atStart => exact ⟨0, by omega, rfl, Like.refl _, fun j hj => by omega⟩
 case round =>
  obtain ⟨k, hk, rfl, hLk, HJ⟩ := hrel
  by_cases hlt : k < n
  ·have q2 : (k : Int) < (n : Int) := by omega
   obtain ⟨g, off, rfl, _, e1, e2⟩ := HL.out k hlt
   obtain ⟨g', off', eA, _, e0, _⟩ := HL.out (k - 1) (by omega)
   injection eA with eA
   injection eA with eA1 eA2
   subst eA1
   subst eA2
   rw [← cell?_heap hLk.1] at e1 e2 e0
   generalize hx : tAt l k = x at *
   have HX : Hid (tAt l k = x) := hx
   clear hx
   generalize hy : vAt l k = y at *
   have HY : Hid (vAt l k = y) := hy
   clear hy
   generalize hz : tAt l (k - 1) = z at *
   have HZ : Hid (tAt l (k - 1) = z) := hz
   clear hz
   have HNo : Hid ((x < 0 ∨ 1099511627776 < x) ∨ (y < -1099511627776 ∨ 1099511627776 < y) ∨ (0 < k ∧ x ≤ z) → decide (POk l) = false) := fun h => by
    apply HD.out
    rw [HV.out]
    refine ⟨fun h => (by cases h), fun h2 => ?_⟩
    have h3 := h2.2 k hlt
    rw [HX.out, HY.out, HZ.out] at h3
    by_cases h0 : k = 0
    ·omega
    ·have := h3.2 (by omega); omega
   have S0 : Hid (wr.drew.cell? ⟨g, off + k * 2, none⟩ = some (.int .i64 x) ∧ wr.drew.cell? ⟨g, off + k * 2 + 1, none⟩ = some (.int .i64 y) ∧ wr.drew.cell? ⟨g, off + (k - 1) * 2, none⟩ = some (.int .i64 z)) := ⟨e1, e2, e0⟩
   have HLD : Hid (Like w wr.drew) := hLk
   clear e1 e2 e0
   by_cases c1 : x < 0 ∨ 1099511627776 < x
   ·have c2 := fun wx => in_no x 0 1099511627776 wx c1
    have H9 : Hid (x < 0 ∨ 1099511627776 < x) := c1
    clear c1
    go_wp2_with fail
    refine wp_region_until (fun w' => w'.cell? ⟨g, off + k * 2, none⟩ = some (.int .i64 x) ∧ w'.cell? ⟨g, off + k * 2 + 1, none⟩ = some (.int .i64 y) ∧ w'.cell? ⟨g, off + (k - 1) * 2, none⟩ = some (.int .i64 z)) (fun _ => false) 34 (by rfl) (by kernel_rfl) ?_
    refine tKe 0 (v := ?_) S0.out ?_ ?_; rotate_left; focus (intro w hSw; (try dsimp only at hSw); go_simp; try with_reducible rfl)
    try simp only [Act.put, zQ1, zQ2, zQ3]
    refine tKe 1 (v := ?_) S0.out ?_ ?_; rotate_left; focus (intro w hSw; (try dsimp only at hSw); go_simp; try with_reducible rfl)
    try simp only [Act.put, zQ1, zQ2, zQ3]
    refine tKe 2 (v := ?_) S0.out ?_ ?_; rotate_left; focus (intro w hSw; (try dsimp only at hSw); go_simp; try with_reducible rfl)
    try simp only [Act.put, zQ1, zQ2, zQ3]
    refine tKe 3 (v := ?_) S0.out ?_ ?_; rotate_left; focus (intro w hSw; (try dsimp only at hSw); go_simp; try with_reducible rfl)
    try simp only [Act.put, zQ1, zQ2, zQ3]
    refine tKe 4 (v := ?_) S0.out ?_ ?_; rotate_left; focus (intro w hSw; (try dsimp only at hSw); go_simp; try with_reducible rfl)
    try simp only [Act.put, zQ1, zQ2, zQ3]
    refine uNe 5 (fun K hK => ?_)
    go_simp
    refine (c2 _).mono ?_
    rintro e w' ⟨rfl, rfl⟩
    go_wp2_with fail
    refine hK.out _ _ (fun _ h => h) ?_
    clear hK K
    try simp only [Act.put, zQ1, zQ2, zQ3]
    refine tKe 6 (v := ?_) S0.out ?_ ?_; rotate_left; focus (intro w hSw; (try dsimp only at hSw); go_simp; try with_reducible rfl)
    try simp only [Act.put, zQ1, zQ2, zQ3]
    refine tKe 7 (v := ?_) S0.out ?_ ?_; rotate_left; focus (intro w hSw; (try dsimp only at hSw); go_simp; try with_reducible rfl)
    try simp only [Act.put, zQ1, zQ2, zQ3]
    refine sKi 8 ?_
    try simp only [Act.put, zQ1, zQ2, zQ3]
    refine sKi 9 ?_
    try simp only [Act.put, zQ1, zQ2, zQ3]
    refine sKi 10 ?_
    try simp only [Act.put, zQ1, zQ2, zQ3]
    refine sKi 11 ?_
    try simp only [Act.put, zQ1, zQ2, zQ3]
    refine sKi 12 ?_
    try simp only [Act.put, zQ1, zQ2, zQ3]
    refine sKi 13 ?_
    try simp only [Act.put, zQ1, zQ2, zQ3]
    refine sKi 14 ?_
    try simp only [Act.put, zQ1, zQ2, zQ3]
    refine tKe 15 (v := ?_) S0.out ?_ ?_; rotate_left; focus (intro w hSw; (try dsimp only at hSw); go_simp; try with_reducible rfl)
    try simp only [Act.put, zQ1, zQ2, zQ3]
    refine tKe 16 (v := ?_) S0.out ?_ ?_; rotate_left; focus (intro w hSw; (try dsimp only at hSw); go_simp; try with_reducible rfl)
    try simp only [Act.put, zQ1, zQ2, zQ3]
    refine sKi 17 ?_
    try simp only [Act.put, zQ1, zQ2, zQ3]
    refine sKi 18 ?_
    try simp only [Act.put, zQ1, zQ2, zQ3]
    refine sKi 19 ?_
    try simp only [Act.put, zQ1, zQ2, zQ3]
    refine sKi 20 ?_
    try simp only [Act.put, zQ1, zQ2, zQ3]
    refine sKi 21 ?_
    try simp only [Act.put, zQ1, zQ2, zQ3]
    refine sKi 22 ?_
    try simp only [Act.put, zQ1, zQ2, zQ3]
    refine sKi 23 ?_
    try simp only [Act.put, zQ1, zQ2, zQ3]
    refine sKi 24 ?_
    try simp only [Act.put, zQ1, zQ2, zQ3]
    refine sKi 25 ?_
    try simp only [Act.put, zQ1, zQ2, zQ3]
    refine sKi 26 ?_
    try simp only [Act.put, zQ1, zQ2, zQ3]
    refine sKi 27 ?_
    try simp only [Act.put, zQ1, zQ2, zQ3]
    refine sKi 28 ?_
    try simp only [Act.put, zQ1, zQ2, zQ3]
    refine sKi 29 ?_
    try simp only [Act.put, zQ1, zQ2, zQ3]
    refine sKi 30 ?_
    try simp only [Act.put, zQ1, zQ2, zQ3]
    refine sKi 31 ?_
    try simp only [Act.put, zQ1, zQ2, zQ3]
    refine sKi 32 ?_
    try simp only [Act.put, zQ1, zQ2, zQ3]
    refine tKe 33 (v := ?_) S0.out ?_ ?_; rotate_left; focus (intro w hSw; (try dsimp only at hSw); go_simp; try with_reducible rfl)
    try simp only [Act.put, zQ1, zQ2, zQ3]
    refine until_done (by kernel_rfl) ?_ _
    go_wp2_with fail
    go_ret
    exact ⟨by rw [HNo.out (.inl H9.out)]; rfl, HLD.out⟩
   have c2 := fun wx => in_yes x 0 1099511627776 wx (by omega) (by omega)
   have H1 : Hid (¬ (x < 0 ∨ 1099511627776 < x)) := c1
   clear c1
   by_cases c4 : y < -1099511627776 ∨ 1099511627776 < y
   ·have c5 := fun wx => in_no y (-1099511627776) 1099511627776 wx c4
    have H9 : Hid (y < -1099511627776 ∨ 1099511627776 < y) := c4
    clear c4
    go_wp2_with fail
    refine wp_region_until (fun w' => w'.cell? ⟨g, off + k * 2, none⟩ = some (.int .i64 x) ∧ w'.cell? ⟨g, off + k * 2 + 1, none⟩ = some (.int .i64 y) ∧ w'.cell? ⟨g, off + (k - 1) * 2, none⟩ = some (.int .i64 z)) (fun _ => false) 34 (by rfl) (by kernel_rfl) ?_
    refine tKe 0 (v := ?_) S0.out ?_ ?_; rotate_left; focus (intro w hSw; (try dsimp only at hSw); go_simp; try with_reducible rfl)
    try simp only [Act.put, zQ1, zQ2, zQ3]
    refine tKe 1 (v := ?_) S0.out ?_ ?_; rotate_left; focus (intro w hSw; (try dsimp only at hSw); go_simp; try with_reducible rfl)
    try simp only [Act.put, zQ1, zQ2, zQ3]
    refine tKe 2 (v := ?_) S0.out ?_ ?_; rotate_left; focus (intro w hSw; (try dsimp only at hSw); go_simp; try with_reducible rfl)
    try simp only [Act.put, zQ1, zQ2, zQ3]
    refine tKe 3 (v := ?_) S0.out ?_ ?_; rotate_left; focus (intro w hSw; (try dsimp only at hSw); go_simp; try with_reducible rfl)
    try simp only [Act.put, zQ1, zQ2, zQ3]
    refine tKe 4 (v := ?_) S0.out ?_ ?_; rotate_left; focus (intro w hSw; (try dsimp only at hSw); go_simp; try with_reducible rfl)
    try simp only [Act.put, zQ1, zQ2, zQ3]
    refine uNe 5 (fun K hK => ?_)
    go_simp
    refine (c2 _).mono ?_
    rintro e w' ⟨rfl, rfl⟩
    go_wp2_with fail
    refine hK.out _ _ (fun _ h => h) ?_
    clear hK K
    try simp only [Act.put, zQ1, zQ2, zQ3]
    refine tKe 6 (v := ?_) S0.out ?_ ?_; rotate_left; focus (intro w hSw; (try dsimp only at hSw); go_simp; try with_reducible rfl)
    try simp only [Act.put, zQ1, zQ2, zQ3]
    refine tKe 7 (v := ?_) S0.out ?_ ?_; rotate_left; focus (intro w hSw; (try dsimp only at hSw); go_simp; try with_reducible rfl)
    try simp only [Act.put, zQ1, zQ2, zQ3]
    refine tKe 8 (v := ?_) S0.out ?_ ?_; rotate_left; focus (intro w hSw; (try dsimp only at hSw); go_simp; try with_reducible rfl)
    try simp only [Act.put, zQ1, zQ2, zQ3]
    refine tKe 9 (v := ?_) S0.out ?_ ?_; rotate_left; focus (intro w hSw; (try dsimp only at hSw); go_simp; try with_reducible rfl)
    try simp only [Act.put, zQ1, zQ2, zQ3]
    refine tKe 10 (v := ?_) S0.out ?_ ?_; rotate_left; focus (intro w hSw; (try dsimp only at hSw); go_simp; try with_reducible rfl)
    try simp only [Act.put, zQ1, zQ2, zQ3]
    refine tKe 11 (v := ?_) S0.out ?_ ?_; rotate_left; focus (intro w hSw; (try dsimp only at hSw); go_simp; try with_reducible rfl)
    try simp only [Act.put, zQ1, zQ2, zQ3]
    refine tKe 12 (v := ?_) S0.out ?_ ?_; rotate_left; focus (intro w hSw; (try dsimp only at hSw); go_simp; try with_reducible rfl)
    try simp only [Act.put, zQ1, zQ2, zQ3]
    refine uNe 13 (fun K hK => ?_)
    go_simp
    refine (c5 _).mono ?_
    rintro e w' ⟨rfl, rfl⟩
    go_wp2_with fail
    refine hK.out _ _ (fun _ h => h) ?_
    clear hK K
    try simp only [Act.put, zQ1, zQ2, zQ3]
    refine tKe 14 (v := ?_) S0.out ?_ ?_; rotate_left; focus (intro w hSw; (try dsimp only at hSw); go_simp; try with_reducible rfl)
    try simp only [Act.put, zQ1, zQ2, zQ3]
    refine tKe 15 (v := ?_) S0.out ?_ ?_; rotate_left; focus (intro w hSw; (try dsimp only at hSw); go_simp; try with_reducible rfl)
    try simp only [Act.put, zQ1, zQ2, zQ3]
    refine tKe 16 (v := ?_) S0.out ?_ ?_; rotate_left; focus (intro w hSw; (try dsimp only at hSw); go_simp; try with_reducible rfl)
    try simp only [Act.put, zQ1, zQ2, zQ3]
    refine sKi 17 ?_
    try simp only [Act.put, zQ1, zQ2, zQ3]
    refine sKi 18 ?_
    try simp only [Act.put, zQ1, zQ2, zQ3]
    refine sKi 19 ?_
    try simp only [Act.put, zQ1, zQ2, zQ3]
    refine sKi 20 ?_
    try simp only [Act.put, zQ1, zQ2, zQ3]
    refine sKi 21 ?_
    try simp only [Act.put, zQ1, zQ2, zQ3]
    refine sKi 22 ?_
    try simp only [Act.put, zQ1, zQ2, zQ3]
    refine sKi 23 ?_
    try simp only [Act.put, zQ1, zQ2, zQ3]
    refine sKi 24 ?_
    try simp only [Act.put, zQ1, zQ2, zQ3]
    refine sKi 25 ?_
    try simp only [Act.put, zQ1, zQ2, zQ3]
    refine sKi 26 ?_
    try simp only [Act.put, zQ1, zQ2, zQ3]
    refine sKi 27 ?_
    try simp only [Act.put, zQ1, zQ2, zQ3]
    refine sKi 28 ?_
    try simp only [Act.put, zQ1, zQ2, zQ3]
    refine sKi 29 ?_
    try simp only [Act.put, zQ1, zQ2, zQ3]
    refine sKi 30 ?_
    try simp only [Act.put, zQ1, zQ2, zQ3]
    refine sKi 31 ?_
    try simp only [Act.put, zQ1, zQ2, zQ3]
    refine sKi 32 ?_
    try simp only [Act.put, zQ1, zQ2, zQ3]
    refine tKe 33 (v := ?_) S0.out ?_ ?_; rotate_left; focus (intro w hSw; (try dsimp only at hSw); go_simp; try with_reducible rfl)
    try simp only [Act.put, zQ1, zQ2, zQ3]
    refine until_done (by kernel_rfl) ?_ _
    go_wp2_with fail
    go_ret
    exact ⟨by rw [HNo.out (.inr (.inl H9.out))]; rfl, HLD.out⟩
   have c5 := fun wx => in_yes y (-1099511627776) 1099511627776 wx (by omega) (by omega)
   have H2 : Hid (¬ (y < -1099511627776 ∨ 1099511627776 < y)) := c4
   clear c4
   by_cases hk0 : k = 0
   ·have d0 : decide ((0 : Int) < (k : Int)) = false := decide_eq_false (by omega)
    have d1 : decide (0 < k) = false := decide_eq_false (by omega)
    have HK0 : Hid (k = 0) := hk0
    clear hk0
    go_wp2_with fail
    refine wp_region_until (fun w' => w'.cell? ⟨g, off + k * 2, none⟩ = some (.int .i64 x) ∧ w'.cell? ⟨g, off + k * 2 + 1, none⟩ = some (.int .i64 y) ∧ w'.cell? ⟨g, off + (k - 1) * 2, none⟩ = some (.int .i64 z)) (fun _ => false) 34 (by rfl) (by kernel_rfl) ?_
    refine tKe 0 (v := ?_) S0.out ?_ ?_; rotate_left; focus (intro w hSw; (try dsimp only at hSw); go_simp; try with_reducible rfl)
    try simp only [Act.put, zQ1, zQ2, zQ3]
    refine tKe 1 (v := ?_) S0.out ?_ ?_; rotate_left; focus (intro w hSw; (try dsimp only at hSw); go_simp; try with_reducible rfl)
    try simp only [Act.put, zQ1, zQ2, zQ3]
    refine tKe 2 (v := ?_) S0.out ?_ ?_; rotate_left; focus (intro w hSw; (try dsimp only at hSw); go_simp; try with_reducible rfl)
    try simp only [Act.put, zQ1, zQ2, zQ3]
    refine tKe 3 (v := ?_) S0.out ?_ ?_; rotate_left; focus (intro w hSw; (try dsimp only at hSw); go_simp; try with_reducible rfl)
    try simp only [Act.put, zQ1, zQ2, zQ3]
    refine tKe 4 (v := ?_) S0.out ?_ ?_; rotate_left; focus (intro w hSw; (try dsimp only at hSw); go_simp; try with_reducible rfl)
    try simp only [Act.put, zQ1, zQ2, zQ3]
    refine uNe 5 (fun K hK => ?_)
    go_simp
    refine (c2 _).mono ?_
    rintro e w' ⟨rfl, rfl⟩
    go_wp2_with fail
    refine hK.out _ _ (fun _ h => h) ?_
    clear hK K
    try simp only [Act.put, zQ1, zQ2, zQ3]
    refine tKe 6 (v := ?_) S0.out ?_ ?_; rotate_left; focus (intro w hSw; (try dsimp only at hSw); go_simp; try with_reducible rfl)
    try simp only [Act.put, zQ1, zQ2, zQ3]
    refine tKe 7 (v := ?_) S0.out ?_ ?_; rotate_left; focus (intro w hSw; (try dsimp only at hSw); go_simp; try with_reducible rfl)
    try simp only [Act.put, zQ1, zQ2, zQ3]
    refine tKe 8 (v := ?_) S0.out ?_ ?_; rotate_left; focus (intro w hSw; (try dsimp only at hSw); go_simp; try with_reducible rfl)
    try simp only [Act.put, zQ1, zQ2, zQ3]
    refine tKe 9 (v := ?_) S0.out ?_ ?_; rotate_left; focus (intro w hSw; (try dsimp only at hSw); go_simp; try with_reducible rfl)
    try simp only [Act.put, zQ1, zQ2, zQ3]
    refine tKe 10 (v := ?_) S0.out ?_ ?_; rotate_left; focus (intro w hSw; (try dsimp only at hSw); go_simp; try with_reducible rfl)
    try simp only [Act.put, zQ1, zQ2, zQ3]
    refine tKe 11 (v := ?_) S0.out ?_ ?_; rotate_left; focus (intro w hSw; (try dsimp only at hSw); go_simp; try with_reducible rfl)
    try simp only [Act.put, zQ1, zQ2, zQ3]
    refine tKe 12 (v := ?_) S0.out ?_ ?_; rotate_left; focus (intro w hSw; (try dsimp only at hSw); go_simp; try with_reducible rfl)
    try simp only [Act.put, zQ1, zQ2, zQ3]
    refine uNe 13 (fun K hK => ?_)
    go_simp
    refine (c5 _).mono ?_
    rintro e w' ⟨rfl, rfl⟩
    go_wp2_with fail
    refine hK.out _ _ (fun _ h => h) ?_
    clear hK K
    try simp only [Act.put, zQ1, zQ2, zQ3]
    refine tKe 14 (v := ?_) S0.out ?_ ?_; rotate_left; focus (intro w hSw; (try dsimp only at hSw); go_simp; try with_reducible rfl)
    try simp only [Act.put, zQ1, zQ2, zQ3]
    refine tKe 15 (v := ?_) S0.out ?_ ?_; rotate_left; focus (intro w hSw; (try dsimp only at hSw); go_simp; try with_reducible rfl)
    try simp only [Act.put, zQ1, zQ2, zQ3]
    refine tKe 16 (v := ?_) S0.out ?_ ?_; rotate_left; focus (intro w hSw; (try dsimp only at hSw); go_simp; try with_reducible rfl)
    try simp only [Act.put, zQ1, zQ2, zQ3]
    refine tKe 17 (v := ?_) S0.out ?_ ?_; rotate_left; focus (intro w hSw; (try dsimp only at hSw); go_simp; try with_reducible rfl)
    try simp only [Act.put, zQ1, zQ2, zQ3]
    refine tKe 18 (v := ?_) S0.out ?_ ?_; rotate_left; focus (intro w hSw; (try dsimp only at hSw); go_simp; try with_reducible rfl)
    try simp only [Act.put, zQ1, zQ2, zQ3]
    refine tKe 19 (v := ?_) S0.out ?_ ?_; rotate_left; focus (intro w hSw; (try dsimp only at hSw); go_simp; try with_reducible rfl)
    try simp only [Act.put, zQ1, zQ2, zQ3]
    refine sKi 20 ?_
    try simp only [Act.put, zQ1, zQ2, zQ3]
    refine sKi 21 ?_
    try simp only [Act.put, zQ1, zQ2, zQ3]
    refine sKi 22 ?_
    try simp only [Act.put, zQ1, zQ2, zQ3]
    refine sKi 23 ?_
    try simp only [Act.put, zQ1, zQ2, zQ3]
    refine sKi 24 ?_
    try simp only [Act.put, zQ1, zQ2, zQ3]
    refine sKi 25 ?_
    try simp only [Act.put, zQ1, zQ2, zQ3]
    refine sKi 26 ?_
    try simp only [Act.put, zQ1, zQ2, zQ3]
    refine sKi 27 ?_
    try simp only [Act.put, zQ1, zQ2, zQ3]
    refine sKi 28 ?_
    try simp only [Act.put, zQ1, zQ2, zQ3]
    refine sKi 29 ?_
    try simp only [Act.put, zQ1, zQ2, zQ3]
    refine sKi 30 ?_
    try simp only [Act.put, zQ1, zQ2, zQ3]
    refine sKi 31 ?_
    try simp only [Act.put, zQ1, zQ2, zQ3]
    refine tKe 32 (v := ?_) S0.out ?_ ?_; rotate_left; focus (intro w hSw; (try dsimp only at hSw); go_simp; try with_reducible rfl)
    try simp only [Act.put, zQ1, zQ2, zQ3]
    refine tKe 33 (v := ?_) S0.out ?_ ?_; rotate_left; focus (intro w hSw; (try dsimp only at hSw); go_simp; try with_reducible rfl)
    try simp only [Act.put, zQ1, zQ2, zQ3]
    refine until_done (by kernel_rfl) ?_ _
    go_wp2_with fail
    go_roundw
    case rel =>
     refine ⟨k + 1, by omega, by go_num, HLD.out, fun j hj => ?_⟩
     have hk0 := HK0.out
     obtain rfl : j = k := by omega
     rw [HX.out, HY.out]
     have := H1.out
     have := H2.out
     exact ⟨by omega, fun h => by omega⟩
    case measure => simp [intOf]; omega
   have q3 : (0 : Int) < (k : Int) := by omega
   have q4 : decide (0 < k) = true := decide_eq_true (by omega)
   have q5 : 0 < k := by omega
   have e3 : ((k : Int) - 1).toNat = k - 1 := by omega
   have e9 : IntKind.i64.wrap ((k : Int) - 1) = (k : Int) - 1 := by rw [IntKind.wrap_i64]; omega
   have e4 : (1 : Int) ≤ (k : Int) := by omega
   have e5 : (k : Int) - 1 < (n : Int) := by omega
   go_wp2_with fail
   refine wp_region_until (fun w' => w'.cell? ⟨g, off + k * 2, none⟩ = some (.int .i64 x) ∧ w'.cell? ⟨g, off + k * 2 + 1, none⟩ = some (.int .i64 y) ∧ w'.cell? ⟨g, off + (k - 1) * 2, none⟩ = some (.int .i64 z)) (fun _ => false) 34 (by rfl) (by kernel_rfl) ?_
   refine tKe 0 (v := ?_) S0.out ?_ ?_; rotate_left; focus (intro w hSw; (try dsimp only at hSw); go_simp; try with_reducible rfl)
   try simp only [Act.put, zQ1, zQ2, zQ3]
   refine tKe 1 (v := ?_) S0.out ?_ ?_; rotate_left; focus (intro w hSw; (try dsimp only at hSw); go_simp; try with_reducible rfl)
   try simp only [Act.put, zQ1, zQ2, zQ3]
   refine tKe 2 (v := ?_) S0.out ?_ ?_; rotate_left; focus (intro w hSw; (try dsimp only at hSw); go_simp; try with_reducible rfl)
   try simp only [Act.put, zQ1, zQ2, zQ3]
   refine tKe 3 (v := ?_) S0.out ?_ ?_; rotate_left; focus (intro w hSw; (try dsimp only at hSw); go_simp; try with_reducible rfl)
   try simp only [Act.put, zQ1, zQ2, zQ3]
   refine tKe 4 (v := ?_) S0.out ?_ ?_; rotate_left; focus (intro w hSw; (try dsimp only at hSw); go_simp; try with_reducible rfl)
   try simp only [Act.put, zQ1, zQ2, zQ3]
   refine uNe 5 (fun K hK => ?_)
   go_simp
   refine (c2 _).mono ?_
   rintro e w' ⟨rfl, rfl⟩
   go_wp2_with fail
   refine hK.out _ _ (fun _ h => h) ?_
   clear hK K
   try simp only [Act.put, zQ1, zQ2, zQ3]
   refine tKe 6 (v := ?_) S0.out ?_ ?_; rotate_left; focus (intro w hSw; (try dsimp only at hSw); go_simp; try with_reducible rfl)
   try simp only [Act.put, zQ1, zQ2, zQ3]
   refine tKe 7 (v := ?_) S0.out ?_ ?_; rotate_left; focus (intro w hSw; (try dsimp only at hSw); go_simp; try with_reducible rfl)
   try simp only [Act.put, zQ1, zQ2, zQ3]
   refine tKe 8 (v := ?_) S0.out ?_ ?_; rotate_left; focus (intro w hSw; (try dsimp only at hSw); go_simp; try with_reducible rfl)
   try simp only [Act.put, zQ1, zQ2, zQ3]
   refine tKe 9 (v := ?_) S0.out ?_ ?_; rotate_left; focus (intro w hSw; (try dsimp only at hSw); go_simp; try with_reducible rfl)
   try simp only [Act.put, zQ1, zQ2, zQ3]
   refine tKe 10 (v := ?_) S0.out ?_ ?_; rotate_left; focus (intro w hSw; (try dsimp only at hSw); go_simp; try with_reducible rfl)
   try simp only [Act.put, zQ1, zQ2, zQ3]
   refine tKe 11 (v := ?_) S0.out ?_ ?_; rotate_left; focus (intro w hSw; (try dsimp only at hSw); go_simp; try with_reducible rfl)
   try simp only [Act.put, zQ1, zQ2, zQ3]
   refine tKe 12 (v := ?_) S0.out ?_ ?_; rotate_left; focus (intro w hSw; (try dsimp only at hSw); go_simp; try with_reducible rfl)
   try simp only [Act.put, zQ1, zQ2, zQ3]
   refine uNe 13 (fun K hK => ?_)
   go_simp
   refine (c5 _).mono ?_
   rintro e w' ⟨rfl, rfl⟩
   go_wp2_with fail
   refine hK.out _ _ (fun _ h => h) ?_
   clear hK K
   try simp only [Act.put, zQ1, zQ2, zQ3]
   refine tKe 14 (v := ?_) S0.out ?_ ?_; rotate_left; focus (intro w hSw; (try dsimp only at hSw); go_simp; try with_reducible rfl)
   try simp only [Act.put, zQ1, zQ2, zQ3]
   refine tKe 15 (v := ?_) S0.out ?_ ?_; rotate_left; focus (intro w hSw; (try dsimp only at hSw); go_simp; try with_reducible rfl)
   try simp only [Act.put, zQ1, zQ2, zQ3]
   refine tKe 16 (v := ?_) S0.out ?_ ?_; rotate_left; focus (intro w hSw; (try dsimp only at hSw); go_simp; try with_reducible rfl)
   try simp only [Act.put, zQ1, zQ2, zQ3]
   refine tKe 17 (v := ?_) S0.out ?_ ?_; rotate_left; focus (intro w hSw; (try dsimp only at hSw); go_simp; try with_reducible rfl)
   try simp only [Act.put, zQ1, zQ2, zQ3]
   refine tKe 18 (v := ?_) S0.out ?_ ?_; rotate_left; focus (intro w hSw; (try dsimp only at hSw); go_simp; try with_reducible rfl)
   try simp only [Act.put, zQ1, zQ2, zQ3]
   refine tKe 19 (v := ?_) S0.out ?_ ?_; rotate_left; focus (intro w hSw; (try dsimp only at hSw); go_simp; try with_reducible rfl)
   try simp only [Act.put, zQ1, zQ2, zQ3]
   refine tKe 20 (v := ?_) S0.out ?_ ?_; rotate_left; focus (intro w hSw; (try dsimp only at hSw); go_simp; try with_reducible rfl)
   try simp only [Act.put, zQ1, zQ2, zQ3]
   refine tKe 21 (v := ?_) S0.out ?_ ?_; rotate_left; focus (intro w hSw; (try dsimp only at hSw); go_simp; try with_reducible rfl)
   try simp only [Act.put, zQ1, zQ2, zQ3]
   refine tKe 22 (v := .int .i64 ((k : Int) - 1)) S0.out ?_ ?_
   ·intro w hSw
    try dsimp only at hSw
    go_simp
    try rw [e9]
   try simp only [Act.put, zQ1, zQ2, zQ3]
   refine tKe 23 (v := ?_) S0.out ?_ ?_; rotate_left; focus (intro w hSw; (try dsimp only at hSw); go_simp; try with_reducible rfl)
   try simp only [Act.put, zQ1, zQ2, zQ3]
   refine tKe 24 (v := ?_) S0.out ?_ ?_; rotate_left; focus (intro w hSw; (try dsimp only at hSw); go_simp; try with_reducible rfl)
   try simp only [Act.put, zQ1, zQ2, zQ3]
   refine tKe 25 (v := ?_) S0.out ?_ ?_; rotate_left; focus (intro w hSw; (try dsimp only at hSw); go_simp; try with_reducible rfl)
   try simp only [Act.put, zQ1, zQ2, zQ3]
   refine tKe 26 (v := ?_) S0.out ?_ ?_; rotate_left; focus (intro w hSw; (try dsimp only at hSw); go_simp; try with_reducible rfl)
   try simp only [Act.put, zQ1, zQ2, zQ3]
   refine tKe 27 (v := ?_) S0.out ?_ ?_; rotate_left; focus (intro w hSw; (try dsimp only at hSw); go_simp; try with_reducible rfl)
   try simp only [Act.put, zQ1, zQ2, zQ3]
   refine tKe 28 (v := ?_) S0.out ?_ ?_; rotate_left; focus (intro w hSw; (try dsimp only at hSw); go_simp; try with_reducible rfl)
   try simp only [Act.put, zQ1, zQ2, zQ3]
   refine tKe 29 (v := ?_) S0.out ?_ ?_; rotate_left; focus (intro w hSw; (try dsimp only at hSw); go_simp; try with_reducible rfl)
   try simp only [Act.put, zQ1, zQ2, zQ3]
   refine tKe 30 (v := ?_) S0.out ?_ ?_; rotate_left; focus (intro w hSw; (try dsimp only at hSw); go_simp; try with_reducible rfl)
   try simp only [Act.put, zQ1, zQ2, zQ3]
   refine tKe 31 (v := ?_) S0.out ?_ ?_; rotate_left; focus (intro w hSw; (try dsimp only at hSw); go_simp; try with_reducible rfl)
   try simp only [Act.put, zQ1, zQ2, zQ3]
   refine tKe 32 (v := ?_) S0.out ?_ ?_; rotate_left; focus (intro w hSw; (try dsimp only at hSw); go_simp; try with_reducible rfl)
   try simp only [Act.put, zQ1, zQ2, zQ3]
   refine tKe 33 (v := ?_) S0.out ?_ ?_; rotate_left; focus (intro w hSw; (try dsimp only at hSw); go_simp; try with_reducible rfl)
   try simp only [Act.put, zQ1, zQ2, zQ3]
   refine until_done (by kernel_rfl) ?_ _
   by_cases c3 : x ≤ z
   ·go_wp2_with fail
    go_ret
    exact ⟨by rw [HNo.out (.inr (.inr ⟨q5, c3⟩))]; rfl, HLD.out⟩
   ·have d1 : decide (x ≤ z) = false := decide_eq_false c3
    go_wp2_with fail
    go_roundw
    case rel =>
     refine ⟨k + 1, by omega, by go_num, HLD.out, fun j hj => ?_⟩
     by_cases e : j = k
     ·subst e
      rw [HX.out, HY.out, HZ.out]
      have := H1.out
      have := H2.out
      exact ⟨by omega, fun _ => by omega⟩
     ·exact HJ.out j (by omega)
    case measure => simp [intOf]; omega
  ·have hkk : k = n := by omega
   subst hkk
   go_wp2
   go_ret
   refine ⟨?_, hLk⟩
   rw [HD.out true]
   ·rfl
   rw [HV.out]
   exact ⟨fun _ => ⟨by omega, HJ.out⟩, fun _ => rfl⟩
end Go.Proofs.YtikknmoeefipmaaGreatDoor
namespace Go.Proofs.YtikknmoeefipmaaGreatDoor
open Go.ChangeShapes Go.WideShapes Go.ChangeAt Go.RowKit Go.PlainAid
set_option linter.unusedVariables false
def inP (a b : Int) (p : Pnt) : Bool := decide (a ≤ p.t) && decide (p.t < b)
theorem filter_snoc (l : List Pnt) (f : Pnt → Bool) (k : Nat) (h : k < l.length) : (l.take (k + 1)).filter f = if f (l.getD k default) then (l.take k).filter f ++ [l.getD k default] else (l.take k).filter f := by
 rw [take_getD l k h, List.filter_append]
 by_cases hf : f (l.getD k default) = true
 ·rw [if_pos hf, List.filter_cons, if_pos hf, List.filter_nil]
 ·rw [if_neg hf, List.filter_cons, if_neg hf, List.filter_nil, List.append_nil]
theorem ptR_snoc' (l : List Pnt) (p : Pnt) : ptR (l ++ [p]) = ptR l ++ [[.int .i64 p.t, .int .i64 p.v]] := ptR_append l [p]
theorem pt_cells (x y : Int) : ∀ u ∈ ([.int .i64 x, .int .i64 y] : List Value), u.oneCell' = true := by
 intro u hu
 simp at hu
 rcases hu with rfl | rfl <;> rfl
set_option maxHeartbeats 2000000 in
theorem specSliceL (l : List Pnt) (a b : Int) (v : Value) (w : World) (B : Nat) (hv : Lies w B 2 v (ptR l)) (hn : l.length ≤ 1048576) (hB : B ≤ w.heap.size) : Calls Tryz.prog 105 #[v, .int .i64 a, .int .i64 b] w fun e w' => (∃ u, e = .returned u ∧ Owns w' w.heap.size 90 2 u (ptR (l.filter (inP a b)))) ∧ Below w.heap.size w w' := by
 obtain ⟨A, cap, rfl, hl⟩ := pt_look hv
 have HL : Hid (∀ j, j < l.length → ∃ g off, A = some ⟨g, off, none⟩ ∧ g < B ∧ w.cell? ⟨g, off + j * 2, none⟩ = some (.int .i64 (tAt l j)) ∧ w.cell? ⟨g, off + j * 2 + 1, none⟩ = some (.int .i64 (vAt l j))) := hl
 have HB : Hid (B ≤ w.heap.size) := hB
 have q0 : (l.length : Int) ≤ 1048576 := by omega
 clear hl hn hv hB
 generalize hN : l.length = n at *
 have HN : Hid (l.length = n) := hN
 clear hN
 go_enter Tryz.func105, Tryz.ntmps105
 go_wp2_with fail
 go_loopw [7, 8] (fun v7 v8 wr => ∃ (k : Nat) (u : Value), k ≤ n ∧ v8 = .int .i64 (k : Int) ∧ v7 = u ∧ Owns wr w.heap.size 90 2 u (ptR ((l.take k).filter (inP a b))) ∧ Below w.heap.size w wr) (fun _ i _ => n - (intOf i).toNat)
 case atStart => exact ⟨0, _, by omega, rfl, rfl, Owns.empty w _ _ _ (Nat.le_refl _), (Below.refl _ _).alloc (Nat.le_refl _) _⟩
 case round =>
  obtain ⟨k, u, hk, rfl, rfl, hO, hb⟩ := hrel
  have HO : Hid (Owns wr w.heap.size 90 2 _ (ptR ((l.take k).filter (inP a b)))) := hO
  have HB1 : Hid (Below w.heap.size w wr) := hb
  clear hO hb
  by_cases hlt : k < n
  ·have q2 : (k : Int) < (n : Int) := by omega
   obtain ⟨g, off, rfl, hg, e1, e2⟩ := HL.out k hlt
   have hgw : g < w.heap.size := Nat.lt_of_lt_of_le hg HB.out
   rw [← HB1.out.cell (p := ⟨_, _, none⟩) hgw] at e1
   rw [← HB1.out.cell (p := ⟨_, _, none⟩) hgw] at e2
   have HS : Hid ((l.take (k + 1)).filter (inP a b) = if inP a b (l.getD k default) then (l.take k).filter (inP a b) ++ [l.getD k default] else (l.take k).filter (inP a b)) := filter_snoc l _ k (by have := HN.out; omega)
   have HLN : Hid ((ptR ((l.take k).filter (inP a b))).length ≤ 2097152) := by
    have h1 := List.length_filter_le (inP a b) (l.take k)
    rw [List.length_take] at h1
    have := HN.out
    unfold Hid
    rw [ptR_length]
    omega
   have HX : Hid ((l.getD k default).t = tAt l k ∧ (l.getD k default).v = vAt l k) := ⟨rfl, rfl⟩
   generalize l.getD k default = p at *
   generalize tAt l k = x at *
   generalize vAt l k = y at *
   have hsz : w.heap.size ≤ wr.heap.size := HB1.out.size
   clear hgw hg
   by_cases ca : x < a
   ·have d1 : decide (a ≤ x) = false := decide_eq_false (by omega)
    have HF : Hid (inP a b p = false) := by unfold Hid inP; rw [HX.out.1, d1]; rfl
    go_wp2_with fail
    go_roundw
    case rel => exact ⟨k + 1, _, by omega, by go_num, rfl, by rw [HS.out, HF.out]; exact HO.out, HB1.out⟩
    case measure => simp [intOf]; omega
   have ca' : a ≤ x := by omega
   by_cases cb : b ≤ x
   ·have d1 : decide (x < b) = false := decide_eq_false (by omega)
    have HF : Hid (inP a b p = false) := by unfold Hid inP; rw [HX.out.1, d1, Bool.and_false]
    go_wp2_with fail
    go_roundw
    case rel => exact ⟨k + 1, _, by omega, by go_num, rfl, by rw [HS.out, HF.out]; exact HO.out, HB1.out⟩
    case measure => simp [intOf]; omega
   have HF : Hid (inP a b p = true) := by unfold Hid inP; rw [HX.out.1, decide_eq_true ca', decide_eq_true (show x < b by omega)]; rfl
   go_wp2_with (at_builtin; refine wpList_append_row (w := wr) rfl (.tmp 32) (.tmp 37) 48 90 (.agg #[.int .i64 0, .int .i64 0]) 2 16 rfl Tryz.underlying48 Tryz.infoPt rfl (by omega) w.heap.size u7 (ptR ((l.take k).filter (inP a b))) rfl HO.out [.int .i64 x, .int .i64 y] rfl (pt_cells x y) rfl HLN.out (by omega) hsz ?_; intro u' w4 hO4 hb4 _ _)
   have HB4 : Hid (Below w.heap.size w w4) := HB1.out.trans hb4
   have HO4 : Hid (Owns w4 w.heap.size 90 2 u' (ptR ((l.take (k + 1)).filter (inP a b)))) := by
    unfold Hid
    rw [HS.out, HF.out, if_pos rfl, ptR_snoc', HX.out.1, HX.out.2]
    exact hO4
   clear hO4 hb4
   go_wp2_with fail
   go_roundw
   case rel => exact ⟨k + 1, _, by omega, by go_num, rfl, HO4.out, HB4.out⟩
   case measure => simp [intOf]; omega
  ·obtain rfl : k = n := by omega
   go_wp2_with fail
   go_ret
   refine ⟨⟨_, rfl, ?_⟩, HB1.out⟩
   have := HO.out
   rw [← HN.out, List.take_length] at this
   skip
   exact this
end Go.Proofs.YtikknmoeefipmaaGreatDoor
