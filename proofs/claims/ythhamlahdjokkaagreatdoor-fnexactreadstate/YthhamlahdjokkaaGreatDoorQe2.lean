/- PtOkS PtSlice PtPutS PtMrgS PtArg SrRow SrAid -/
import Derived.Test.YthhamlahdjokkaaGreatDoorQe1
import Derived.Deep.Slices
import Derived.ChangeArms
open List (setIfInBounds_toArray set_cons_zero set_cons_succ)
namespace Go.Proofs.YthhamlahdjokkaaGreatDoor
open Go.ChangeShapes Go.WideShapes Go.ChangeAt Go.RowKit Go.PlainAid
set_option linter.unusedVariables false
set_option maxHeartbeats 8000000 in
theorem specPointsOk (l : List Pnt) (v : Value) (w : World) (B : Nat) (hv : Lies w B 2 v (ptR l)) (hn : l.length ≤ 1048576) (hB : B ≤ w.heap.size) : Calls Tryz.prog 102 #[v] w fun e w' => e = .returned (.bool (decide (POk l))) ∧ Like w w' := by
 obtain ⟨A,cap,rfl,hl⟩ := pt_look hv
 have HL : Hid (∀ j,j < l.length → ∃ g off,A = some ⟨g,off,none⟩ ∧ g < B ∧ w.cell? ⟨g,off + j * 2,none⟩ = some (.int .i64 (tAt l j)) ∧ w.cell? ⟨g,off + j * 2 + 1,none⟩ = some (.int .i64 (vAt l j))) := hl
 have HD : Hid (∀ b,(b = true ↔ POk l) → decide (POk l) = b) := fun b hb => dec_of b hb
 have HV : Hid (POk l ↔ l.length ≤ 60 ∧ ∀ j,j < l.length → ((0 ≤ tAt l j ∧ tAt l j ≤ 1099511627776) ∧ (-1099511627776 ≤ vAt l j ∧ vAt l j ≤ 1099511627776)) ∧ (0 < j → tAt l (j - 1) < tAt l j)) := Iff.rfl
 have q0 : (l.length : Int) ≤ 1048576 := by omega
 clear hl hn hv hB
 generalize hN : l.length = n at *
 clear hN
 by_cases h2 : (60 : Int) < (n : Int)
 ·go_enter Tryz.func102,Tryz.ntmps102
  go_wp2
  go_ret
  refine ⟨?_,Like.refl _⟩
  rw [HD.out false]
  ·rfl
  rw [HV.out]
  exact ⟨fun h => (by cases h),fun h => by omega⟩
 have q1 : (n : Int) ≤ 60 := by omega
 clear h2
 go_enter Tryz.func102,Tryz.ntmps102
 go_wp2
 go_loopw [3] (fun v3 wr => ∃ k : Nat,k ≤ n ∧ v3 = .int .i64 (k : Int) ∧ Like w wr ∧ Hid (∀ j,j < k → ((0 ≤ tAt l j ∧ tAt l j ≤ 1099511627776) ∧ (-1099511627776 ≤ vAt l j ∧ vAt l j ≤ 1099511627776)) ∧ (0 < j → tAt l (j - 1) < tAt l j))) (fun i _ => n - (intOf i).toNat)
 case atStart => exact ⟨0,by omega,rfl,Like.refl _,fun j hj => by omega⟩
 case round =>
  obtain ⟨k,hk,rfl,hLk,HJ⟩ := hrel
  by_cases hlt : k < n
  ·have q2 : (k : Int) < (n : Int) := by omega
   obtain ⟨g,off,rfl,_,e1,e2⟩ := HL.out k hlt
   obtain ⟨g',off',eA,_,e0,_⟩ := HL.out (k - 1) (by omega)
   injection eA with eA
   injection eA with eA1 eA2
   subst eA1
   subst eA2
   rw [← cell?_heap hLk.1] at e1 e2 e0
   generalize hx : tAt l k = x at *
   have HX : Hid (tAt l k = x) := hx
   clear hx
   generalize hy : vAt l k = y at *
   have HY : Hid (vAt l k = y) := hy
   clear hy
   generalize hz : tAt l (k - 1) = z at *
   have HZ : Hid (tAt l (k - 1) = z) := hz
   clear hz
   have HNo : Hid ((x < 0 ∨ 1099511627776 < x) ∨ (y < -1099511627776 ∨ 1099511627776 < y) ∨ (0 < k ∧ x ≤ z) → decide (POk l) = false) := fun h => by
    apply HD.out
    rw [HV.out]
    refine ⟨fun h => (by cases h),fun h2 => ?_⟩
    have h3 := h2.2 k hlt
    rw [HX.out,HY.out,HZ.out] at h3
    by_cases h0 : k = 0
    ·omega
    ·have := h3.2 (by omega); omega
   have S0 : Hid (wr.drew.cell? ⟨g,off + k * 2,none⟩ = some (.int .i64 x) ∧ wr.drew.cell? ⟨g,off + k * 2 + 1,none⟩ = some (.int .i64 y) ∧ wr.drew.cell? ⟨g,off + (k - 1) * 2,none⟩ = some (.int .i64 z)) := ⟨e1,e2,e0⟩
   have HLD : Hid (Like w wr.drew) := hLk
   clear e1 e2 e0
   by_cases c1 : x < 0 ∨ 1099511627776 < x
   ·have c2 := fun wx => in_no x 0 1099511627776 wx c1
    have H9 : Hid (x < 0 ∨ 1099511627776 < x) := c1
    clear c1
    go_wp2_with fail
    refine wp_region_until (fun w' => w'.cell? ⟨g,off + k * 2,none⟩ = some (.int .i64 x) ∧ w'.cell? ⟨g,off + k * 2 + 1,none⟩ = some (.int .i64 y) ∧ w'.cell? ⟨g,off + (k - 1) * 2,none⟩ = some (.int .i64 z)) (fun _ => false) 34 (by rfl) (by kernel_rfl) ?_
    refine tKf 0 S0.out ?_
    refine tKf 1 S0.out ?_
    refine tKf 2 S0.out ?_
    refine tKf 3 S0.out ?_
    refine tKf 4 S0.out ?_
    refine uNe 5 (fun K hK => ?_)
    go_simp
    refine (c2 _).mono ?_
    rintro e w' ⟨rfl,rfl⟩
    go_wp2_with fail
    refine hK.out _ _ (fun _ h => h) ?_
    clear hK K
    try simp only [Act.put,zQ1,zQ2,zQ3]
    refine tKf 6 S0.out ?_
    refine tKf 7 S0.out ?_
    refine sKf 8 ?_
    refine sKf 9 ?_
    refine sKf 10 ?_
    refine sKf 11 ?_
    refine sKf 12 ?_
    refine sKf 13 ?_
    refine sKf 14 ?_
    refine tKf 15 S0.out ?_
    refine tKf 16 S0.out ?_
    refine sKf 17 ?_
    refine sKf 18 ?_
    refine sKf 19 ?_
    refine sKf 20 ?_
    refine sKf 21 ?_
    refine sKf 22 ?_
    refine sKf 23 ?_
    refine sKf 24 ?_
    refine sKf 25 ?_
    refine sKf 26 ?_
    refine sKf 27 ?_
    refine sKf 28 ?_
    refine sKf 29 ?_
    refine sKf 30 ?_
    refine sKf 31 ?_
    refine sKf 32 ?_
    refine tKf 33 S0.out ?_
    refine until_done (by kernel_rfl) ?_ _
    go_wp2_with fail
    go_ret
    exact ⟨by rw [HNo.out (.inl H9.out)]; rfl,HLD.out⟩
   have c2 := fun wx => in_yes x 0 1099511627776 wx (by omega) (by omega)
   have H1 : Hid (¬ (x < 0 ∨ 1099511627776 < x)) := c1
   clear c1
   by_cases c4 : y < -1099511627776 ∨ 1099511627776 < y
   ·have c5 := fun wx => in_no y (-1099511627776) 1099511627776 wx c4
    have H9 : Hid (y < -1099511627776 ∨ 1099511627776 < y) := c4
    clear c4
    go_wp2_with fail
    refine wp_region_until (fun w' => w'.cell? ⟨g,off + k * 2,none⟩ = some (.int .i64 x) ∧ w'.cell? ⟨g,off + k * 2 + 1,none⟩ = some (.int .i64 y) ∧ w'.cell? ⟨g,off + (k - 1) * 2,none⟩ = some (.int .i64 z)) (fun _ => false) 34 (by rfl) (by kernel_rfl) ?_
    refine tKf 0 S0.out ?_
    refine tKf 1 S0.out ?_
    refine tKf 2 S0.out ?_
    refine tKf 3 S0.out ?_
    refine tKf 4 S0.out ?_
    refine uNe 5 (fun K hK => ?_)
    go_simp
    refine (c2 _).mono ?_
    rintro e w' ⟨rfl,rfl⟩
    go_wp2_with fail
    refine hK.out _ _ (fun _ h => h) ?_
    clear hK K
    try simp only [Act.put,zQ1,zQ2,zQ3]
    refine tKf 6 S0.out ?_
    refine tKf 7 S0.out ?_
    refine tKf 8 S0.out ?_
    refine tKf 9 S0.out ?_
    refine tKf 10 S0.out ?_
    refine tKf 11 S0.out ?_
    refine tKf 12 S0.out ?_
    refine uNe 13 (fun K hK => ?_)
    go_simp
    refine (c5 _).mono ?_
    rintro e w' ⟨rfl,rfl⟩
    go_wp2_with fail
    refine hK.out _ _ (fun _ h => h) ?_
    clear hK K
    try simp only [Act.put,zQ1,zQ2,zQ3]
    refine tKf 14 S0.out ?_
    refine tKf 15 S0.out ?_
    refine tKf 16 S0.out ?_
    refine sKf 17 ?_
    refine sKf 18 ?_
    refine sKf 19 ?_
    refine sKf 20 ?_
    refine sKf 21 ?_
    refine sKf 22 ?_
    refine sKf 23 ?_
    refine sKf 24 ?_
    refine sKf 25 ?_
    refine sKf 26 ?_
    refine sKf 27 ?_
    refine sKf 28 ?_
    refine sKf 29 ?_
    refine sKf 30 ?_
    refine sKf 31 ?_
    refine sKf 32 ?_
    refine tKf 33 S0.out ?_
    refine until_done (by kernel_rfl) ?_ _
    go_wp2_with fail
    go_ret
    exact ⟨by rw [HNo.out (.inr (.inl H9.out))]; rfl,HLD.out⟩
   have c5 := fun wx => in_yes y (-1099511627776) 1099511627776 wx (by omega) (by omega)
   have H2 : Hid (¬ (y < -1099511627776 ∨ 1099511627776 < y)) := c4
   clear c4
   by_cases hk0 : k = 0
   ·have d0 : decide ((0 : Int) < (k : Int)) = false := decide_eq_false (by omega)
    have d1 : decide (0 < k) = false := decide_eq_false (by omega)
    have HK0 : Hid (k = 0) := hk0
    clear hk0
    go_wp2_with fail
    refine wp_region_until (fun w' => w'.cell? ⟨g,off + k * 2,none⟩ = some (.int .i64 x) ∧ w'.cell? ⟨g,off + k * 2 + 1,none⟩ = some (.int .i64 y) ∧ w'.cell? ⟨g,off + (k - 1) * 2,none⟩ = some (.int .i64 z)) (fun _ => false) 34 (by rfl) (by kernel_rfl) ?_
    refine tKf 0 S0.out ?_
    refine tKf 1 S0.out ?_
    refine tKf 2 S0.out ?_
    refine tKf 3 S0.out ?_
    refine tKf 4 S0.out ?_
    refine uNe 5 (fun K hK => ?_)
    go_simp
    refine (c2 _).mono ?_
    rintro e w' ⟨rfl,rfl⟩
    go_wp2_with fail
    refine hK.out _ _ (fun _ h => h) ?_
    clear hK K
    try simp only [Act.put,zQ1,zQ2,zQ3]
    refine tKf 6 S0.out ?_
    refine tKf 7 S0.out ?_
    refine tKf 8 S0.out ?_
    refine tKf 9 S0.out ?_
    refine tKf 10 S0.out ?_
    refine tKf 11 S0.out ?_
    refine tKf 12 S0.out ?_
    refine uNe 13 (fun K hK => ?_)
    go_simp
    refine (c5 _).mono ?_
    rintro e w' ⟨rfl,rfl⟩
    go_wp2_with fail
    refine hK.out _ _ (fun _ h => h) ?_
    clear hK K
    try simp only [Act.put,zQ1,zQ2,zQ3]
    refine tKf 14 S0.out ?_
    refine tKf 15 S0.out ?_
    refine tKf 16 S0.out ?_
    refine tKf 17 S0.out ?_
    refine tKf 18 S0.out ?_
    refine tKf 19 S0.out ?_
    refine sKf 20 ?_
    refine sKf 21 ?_
    refine sKf 22 ?_
    refine sKf 23 ?_
    refine sKf 24 ?_
    refine sKf 25 ?_
    refine sKf 26 ?_
    refine sKf 27 ?_
    refine sKf 28 ?_
    refine sKf 29 ?_
    refine sKf 30 ?_
    refine sKf 31 ?_
    refine tKf 32 S0.out ?_
    refine tKf 33 S0.out ?_
    refine until_done (by kernel_rfl) ?_ _
    go_wp2_with fail
    go_roundw
    case rel =>
     refine ⟨k + 1,by omega,by go_num,HLD.out,fun j hj => ?_⟩
     have hk0 := HK0.out
     obtain rfl : j = k := by omega
     rw [HX.out,HY.out]
     have := H1.out
     have := H2.out
     exact ⟨by omega,fun h => by omega⟩
    case measure => simp [intOf]; omega
   have q3 : (0 : Int) < (k : Int) := by omega
   have q4 : decide (0 < k) = true := decide_eq_true (by omega)
   have q5 : 0 < k := by omega
   have e3 : ((k : Int) - 1).toNat = k - 1 := by omega
   have e9 : IntKind.i64.wrap ((k : Int) - 1) = (k : Int) - 1 := by rw [IntKind.wrap_i64]; omega
   have e4 : (1 : Int) ≤ (k : Int) := by omega
   have e5 : (k : Int) - 1 < (n : Int) := by omega
   go_wp2_with fail
   refine wp_region_until (fun w' => w'.cell? ⟨g,off + k * 2,none⟩ = some (.int .i64 x) ∧ w'.cell? ⟨g,off + k * 2 + 1,none⟩ = some (.int .i64 y) ∧ w'.cell? ⟨g,off + (k - 1) * 2,none⟩ = some (.int .i64 z)) (fun _ => false) 34 (by rfl) (by kernel_rfl) ?_
   refine tKf 0 S0.out ?_
   refine tKf 1 S0.out ?_
   refine tKf 2 S0.out ?_
   refine tKf 3 S0.out ?_
   refine tKf 4 S0.out ?_
   refine uNe 5 (fun K hK => ?_)
   go_simp
   refine (c2 _).mono ?_
   rintro e w' ⟨rfl,rfl⟩
   go_wp2_with fail
   refine hK.out _ _ (fun _ h => h) ?_
   clear hK K
   try simp only [Act.put,zQ1,zQ2,zQ3]
   refine tKf 6 S0.out ?_
   refine tKf 7 S0.out ?_
   refine tKf 8 S0.out ?_
   refine tKf 9 S0.out ?_
   refine tKf 10 S0.out ?_
   refine tKf 11 S0.out ?_
   refine tKf 12 S0.out ?_
   refine uNe 13 (fun K hK => ?_)
   go_simp
   refine (c5 _).mono ?_
   rintro e w' ⟨rfl,rfl⟩
   go_wp2_with fail
   refine hK.out _ _ (fun _ h => h) ?_
   clear hK K
   try simp only [Act.put,zQ1,zQ2,zQ3]
   refine tKf 14 S0.out ?_
   refine tKf 15 S0.out ?_
   refine tKf 16 S0.out ?_
   refine tKf 17 S0.out ?_
   refine tKf 18 S0.out ?_
   refine tKf 19 S0.out ?_
   refine tKf 20 S0.out ?_
   refine tKf 21 S0.out ?_
   refine tKe 22 (v := .int .i64 ((k : Int) - 1)) S0.out ?_ ?_
   ·intro w hSw
    try dsimp only at hSw
    go_simp
    try rw [e9]
   try simp only [Act.put,zQ1,zQ2,zQ3]
   refine tKf 23 S0.out ?_
   refine tKf 24 S0.out ?_
   refine tKf 25 S0.out ?_
   refine tKf 26 S0.out ?_
   refine tKf 27 S0.out ?_
   refine tKf 28 S0.out ?_
   refine tKf 29 S0.out ?_
   refine tKf 30 S0.out ?_
   refine tKf 31 S0.out ?_
   refine tKf 32 S0.out ?_
   refine tKf 33 S0.out ?_
   refine until_done (by kernel_rfl) ?_ _
   by_cases c3 : x ≤ z
   ·go_wp2_with fail
    go_ret
    exact ⟨by rw [HNo.out (.inr (.inr ⟨q5,c3⟩))]; rfl,HLD.out⟩
   ·have d1 : decide (x ≤ z) = false := decide_eq_false c3
    go_wp2_with fail
    go_roundw
    case rel =>
     refine ⟨k + 1,by omega,by go_num,HLD.out,fun j hj => ?_⟩
     by_cases e : j = k
     ·subst e
      rw [HX.out,HY.out,HZ.out]
      have := H1.out
      have := H2.out
      exact ⟨by omega,fun _ => by omega⟩
     ·exact HJ.out j (by omega)
    case measure => simp [intOf]; omega
  ·have hkk : k = n := by omega
   subst hkk
   go_wp2
   go_ret
   refine ⟨?_,hLk⟩
   rw [HD.out true]
   ·rfl
   rw [HV.out]
   exact ⟨fun _ => ⟨by omega,HJ.out⟩,fun _ => rfl⟩
def inP (a b : Int) (p : Pnt) : Bool := decide (a ≤ p.t) && decide (p.t < b)
theorem filter_snoc (l : List Pnt) (f : Pnt → Bool) (k : Nat) (h : k < l.length) : (l.take (k + 1)).filter f = if f (l.getD k default) then (l.take k).filter f ++ [l.getD k default] else (l.take k).filter f := by
 rw [take_getD l k h,List.filter_append]
 by_cases hf : f (l.getD k default) = true
 ·rw [if_pos hf,List.filter_cons,if_pos hf,List.filter_nil]
 ·rw [if_neg hf,List.filter_cons,if_neg hf,List.filter_nil,List.append_nil]
theorem ptR_snoc' (l : List Pnt) (p : Pnt) : ptR (l ++ [p]) = ptR l ++ [[.int .i64 p.t,.int .i64 p.v]] := ptR_append l [p]
theorem pt_cells (x y : Int) : ∀ u ∈ ([.int .i64 x,.int .i64 y] : List Value),u.oneCell' = true := by
 intro u hu
 simp at hu
 rcases hu with rfl | rfl <;> rfl
set_option maxHeartbeats 2000000 in
theorem specSliceL (l : List Pnt) (a b : Int) (v : Value) (w : World) (B : Nat) (hv : Lies w B 2 v (ptR l)) (hn : l.length ≤ 1048576) (hB : B ≤ w.heap.size) : Calls Tryz.prog 147 #[v,.int .i64 a,.int .i64 b] w fun e w' => (∃ u,e = .returned u ∧ Owns w' w.heap.size 98 2 u (ptR (l.filter (inP a b)))) ∧ Below w.heap.size w w' := by
 obtain ⟨A,cap,rfl,hl⟩ := pt_look hv
 have HL : Hid (∀ j,j < l.length → ∃ g off,A = some ⟨g,off,none⟩ ∧ g < B ∧ w.cell? ⟨g,off + j * 2,none⟩ = some (.int .i64 (tAt l j)) ∧ w.cell? ⟨g,off + j * 2 + 1,none⟩ = some (.int .i64 (vAt l j))) := hl
 have HB : Hid (B ≤ w.heap.size) := hB
 have q0 : (l.length : Int) ≤ 1048576 := by omega
 clear hl hn hv hB
 generalize hN : l.length = n at *
 have HN : Hid (l.length = n) := hN
 clear hN
 go_enter Tryz.func147,Tryz.ntmps147
 go_wp2_with fail
 go_loopw [7,8] (fun v7 v8 wr => ∃ (k : Nat) (u : Value),k ≤ n ∧ v8 = .int .i64 (k : Int) ∧ v7 = u ∧ Owns wr w.heap.size 98 2 u (ptR ((l.take k).filter (inP a b))) ∧ Below w.heap.size w wr) (fun _ i _ => n - (intOf i).toNat)
 case atStart => exact ⟨0,_,by omega,rfl,rfl,Owns.empty w _ _ _ (Nat.le_refl _),(Below.refl _ _).alloc (Nat.le_refl _) _⟩
 case round =>
  obtain ⟨k,u,hk,rfl,rfl,hO,hb⟩ := hrel
  have HO := hQz hO
  have HB1 := hQz hb
  clear hO hb
  by_cases hlt : k < n
  ·have q2 : (k : Int) < (n : Int) := by omega
   obtain ⟨g,off,rfl,hg,e1,e2⟩ := HL.out k hlt
   have hgw : g < w.heap.size := Nat.lt_of_lt_of_le hg HB.out
   rw [← HB1.out.cell (p := ⟨_,_,none⟩) hgw] at e1
   rw [← HB1.out.cell (p := ⟨_,_,none⟩) hgw] at e2
   have HS : Hid ((l.take (k + 1)).filter (inP a b) = if inP a b (l.getD k default) then (l.take k).filter (inP a b) ++ [l.getD k default] else (l.take k).filter (inP a b)) := filter_snoc l _ k (by have := HN.out; omega)
   have HLN : Hid ((ptR ((l.take k).filter (inP a b))).length ≤ 2097152) := by
    have h1 := List.length_filter_le (inP a b) (l.take k)
    rw [List.length_take] at h1
    have := HN.out
    unfold Hid
    rw [ptR_length]
    omega
   have HX : Hid ((l.getD k default).t = tAt l k ∧ (l.getD k default).v = vAt l k) := ⟨rfl,rfl⟩
   generalize l.getD k default = p at *
   generalize tAt l k = x at *
   generalize vAt l k = y at *
   have hsz : w.heap.size ≤ wr.heap.size := HB1.out.size
   clear hgw hg
   by_cases ca : x < a
   ·have d1 : decide (a ≤ x) = false := decide_eq_false (by omega)
    have HF : Hid (inP a b p = false) := by unfold Hid inP; rw [HX.out.1,d1]; rfl
    go_wp2_with fail
    go_roundw
    case rel => exact ⟨k + 1,_,by omega,by go_num,rfl,by rw [HS.out,HF.out]; exact HO.out,HB1.out⟩
    case measure => simp [intOf]; omega
   have ca' : a ≤ x := by omega
   by_cases cb : b ≤ x
   ·have d1 : decide (x < b) = false := decide_eq_false (by omega)
    have HF : Hid (inP a b p = false) := by unfold Hid inP; rw [HX.out.1,d1,Bool.and_false]
    go_wp2_with fail
    go_roundw
    case rel => exact ⟨k + 1,_,by omega,by go_num,rfl,by rw [HS.out,HF.out]; exact HO.out,HB1.out⟩
    case measure => simp [intOf]; omega
   have HF : Hid (inP a b p = true) := by unfold Hid inP; rw [HX.out.1,decide_eq_true ca',decide_eq_true (show x < b by omega)]; rfl
   go_wp2_with (at_builtin; refine wpList_append_row (w := wr) rfl (.tmp 32) (.tmp 37) 99 98 (.agg #[.int .i64 0,.int .i64 0]) 2 16 rfl Tryz.underlying99 Tryz.infoPt rfl (by omega) w.heap.size u7 (ptR ((l.take k).filter (inP a b))) rfl HO.out [.int .i64 x,.int .i64 y] rfl (pt_cells x y) rfl HLN.out (by omega) hsz ?_; intro u' w4 hO4 hb4 _ _)
   have HB4 := hQz (HB1.out.trans hb4)
   have HO4 : Hid (Owns w4 w.heap.size 98 2 u' (ptR ((l.take (k + 1)).filter (inP a b)))) := by
    unfold Hid
    rw [HS.out,HF.out,if_pos rfl,ptR_snoc',HX.out.1,HX.out.2]
    exact hO4
   clear hO4 hb4
   go_wp2_with fail
   go_roundw
   case rel => exact ⟨k + 1,_,by omega,by go_num,rfl,HO4.out,HB4.out⟩
   case measure => simp [intOf]; omega
  ·obtain rfl : k = n := by omega
   go_wp2_with fail
   go_ret
   refine ⟨⟨_,rfl,?_⟩,HB1.out⟩
   have := HO.out
   rw [← HN.out,List.take_length] at this
   skip
   exact this
theorem stepF_len (p q : Pnt) (s : List Pnt × Bool) : (stepF p s q).1.length + (if (stepF p s q).2 then 0 else 1) ≤ s.1.length + (if s.2 then 0 else 1) + 1 := by
 unfold stepF
 obtain ⟨o,b⟩ := s
 cases b <;> by_cases h : p.t ≤ q.t <;> by_cases h2 : q.t = p.t <;> simp [h,h2] <;> omega
theorem fold_len (p : Pnt) : ∀ (l : List Pnt) (s : List Pnt × Bool),(l.foldl (stepF p) s).1.length + (if (l.foldl (stepF p) s).2 then 0 else 1) ≤ s.1.length + (if s.2 then 0 else 1) + l.length
 | [],s => Nat.le_refl _
 | q :: r,s => by
  have h1 := fold_len p r (stepF p s q)
  have h2 := stepF_len p q s
  rw [List.foldl_cons,List.length_cons]
  omega
theorem putS_len (l : List Pnt) (p : Pnt) (k : Nat) : (putS l p k).1.length ≤ k + 1 := by
 have h := fold_len p (l.take k) ([],false)
 have h2 : (l.take k).length ≤ k := by rw [List.length_take]; omega
 unfold putS
 simp only [List.length_nil,Bool.false_eq_true,if_false] at h
 omega
set_option maxHeartbeats 8000000 in
theorem specPut (l : List Pnt) (p : Pnt) (v : Value) (w : World) (B : Nat) (hv : Lies w B 2 v (ptR l)) (hn : l.length ≤ 1048576) (hB : B ≤ w.heap.size) : Calls Tryz.prog 170 #[v,vPt p] w fun e w' => (∃ u,e = .returned u ∧ Owns w' w.heap.size 98 2 u (ptR (putL l p))) ∧ Below w.heap.size w w' := by
 obtain ⟨A,cap,rfl,hl⟩ := pt_look hv
 have HL : Hid (∀ j,j < l.length → ∃ g off,A = some ⟨g,off,none⟩ ∧ g < B ∧ w.cell? ⟨g,off + j * 2,none⟩ = some (.int .i64 (tAt l j)) ∧ w.cell? ⟨g,off + j * 2 + 1,none⟩ = some (.int .i64 (vAt l j))) := hl
 have HB : Hid (B ≤ w.heap.size) := hB
 have q0 : (l.length : Int) ≤ 1048576 := by omega
 have HPL : Hid (putL l p = if (putS l p l.length).2 then (putS l p l.length).1 else (putS l p l.length).1 ++ [p]) := rfl
 clear hl hn hv hB
 generalize hN : l.length = n at *
 have HN : Hid (l.length = n) := hN
 clear hN
 unfold vPt
 go_enter Tryz.func170,Tryz.ntmps170
 go_wp2_with fail
 go_loopw [5,6,7] (fun v5 v6 v7 wr => ∃ k : Nat,k ≤ n ∧ v7 = .int .i64 (k : Int) ∧ v6 = .bool (putS l p k).2 ∧ Owns wr (w.heap.size + 1) 98 2 v5 (ptR (putS l p k).1) ∧ Blk wr w.heap.size #[.int .i64 p.t,.int .i64 p.v] 98 ∧ Below w.heap.size w wr) (fun _ _ i _ => n - (intOf i).toNat)
 case atStart =>
  refine ⟨0,by omega,rfl,rfl,?_,(Blk.new w #[.int .i64 p.t,.int .i64 p.v] 98).alloc _,((Below.refl _ w).alloc (Nat.le_refl _) _).alloc (by simp) _⟩
  have := Owns.empty (w.alloc (.cells #[.int .i64 p.t,.int .i64 p.v] 98)) (w.heap.size + 1) 98 2 (by simp)
  simp only [World.size_alloc] at this
  exact this
 case round =>
  obtain ⟨k,hk,rfl,rfl,hO,hK,hb⟩ := hrel
  have HO := hQz hO
  have HK := hQz hK
  have HB1 := hQz hb
  clear hO hK hb
  have HLN : Hid ((putS l p k).1.length ≤ 1048578) := by unfold Hid; have := putS_len l p k; omega
  by_cases hlt : k < n
  ·have q2 : (k : Int) < (n : Int) := by omega
   obtain ⟨g,off,rfl,hg,e1,e2⟩ := HL.out k hlt
   have HG := hQz (Nat.lt_of_lt_of_le hg HB.out)
   have HSU : Hid (putS l p (k + 1) = stepF p (putS l p k) (l.getD k default)) := putS_succ l p k (by have := HN.out; omega)
   have HQ : Hid ((l.getD k default).t = tAt l k ∧ (l.getD k default).v = vAt l k) := ⟨rfl,rfl⟩
   generalize l.getD k default = q at *
   generalize hx : tAt l k = x at *
   generalize hy : vAt l k = y at *
   have HC1 : Hid (w.cell? ⟨g,off + k * 2,none⟩ = some (.int .i64 x)) := e1
   have HC2 : Hid (w.cell? ⟨g,off + k * 2 + 1,none⟩ = some (.int .i64 y)) := e2
   clear e1 e2 hg hx hy HL
   generalize putS l p k = s at *
   obtain ⟨o,f⟩ := s
   simp only at HO HLN
   have HLN2 : Hid ((o ++ [p]).length ≤ 1048579) := by unfold Hid; have := HLN.out; simp only [List.length_append,List.length_singleton]; omega
   cases f with
   | true =>
    have HP : Hid (putS l p (k + 1) = if x = p.t then (o,true) else (o ++ [q],true)) := by
     unfold Hid
     rw [HSU.out]
     unfold stepF
     rw [HQ.out.1]
     simp
    have S0 : Hid (wr.drew.cell? ⟨w.heap.size,0,none⟩ = some (.int .i64 p.t) ∧ wr.drew.cell? ⟨g,off + k * 2,none⟩ = some (.int .i64 x)) := ⟨HK.out.cell 0 _ rfl,(HB1.out.cell (p := ⟨_,_,none⟩) HG.out).trans HC1.out⟩
    have BA : Hid (Below w.heap.size w wr.drew) := HB1.out.drew
    have KA : Hid (Blk wr.drew w.heap.size #[.int .i64 p.t,.int .i64 p.v] 98) := HK.out
    have OA : Hid (Owns wr.drew (w.heap.size + 1) 98 2 u5 (ptR o)) := HO.out.on (Below.refl _ wr).drew
    go_wp2_with fail
    refine wp_region_until (fun w' => w'.cell? ⟨w.heap.size,0,none⟩ = some (.int .i64 p.t) ∧ w'.cell? ⟨g,off + k * 2,none⟩ = some (.int .i64 x)) (fun _ => false) 12 (by rfl) (by kernel_rfl) ?_
    refine tKf 0 S0.out ?_
    refine tKf 1 S0.out ?_
    refine tKf 2 S0.out ?_
    refine sKf 3 ?_
    refine sKf 4 ?_
    refine sKf 5 ?_
    refine sKf 6 ?_
    refine sKf 7 ?_
    refine sKf 8 ?_
    refine sKf 9 ?_
    refine sKf 10 ?_
    refine tKf 11 S0.out ?_
    refine until_done (by kernel_rfl) ?_ _
    clear S0
    generalize wr.drew = wa at *
    have S0 : Hid (wa.drew.cell? ⟨w.heap.size,0,none⟩ = some (.int .i64 p.t) ∧ wa.drew.cell? ⟨g,off + k * 2,none⟩ = some (.int .i64 x)) := ⟨KA.out.cell 0 _ rfl,(BA.out.cell (p := ⟨_,_,none⟩) HG.out).trans HC1.out⟩
    have Ba : Hid (Below w.heap.size w wa.drew) := BA.out.drew
    have Ka : Hid (Blk wa.drew w.heap.size #[.int .i64 p.t,.int .i64 p.v] 98) := KA.out
    have Oa : Hid (Owns wa.drew (w.heap.size + 1) 98 2 u5 (ptR o)) := OA.out.on (Below.refl _ wa).drew
    have Za : w.heap.size + 1 ≤ wa.drew.heap.size := KA.out.lt
    go_wp2_with fail
    refine wp_region_until (fun w' => w'.cell? ⟨w.heap.size,0,none⟩ = some (.int .i64 p.t) ∧ w'.cell? ⟨g,off + k * 2,none⟩ = some (.int .i64 x)) (fun _ => false) 8 (by rfl) (by kernel_rfl) ?_
    refine tKf 0 S0.out ?_
    refine tKf 1 S0.out ?_
    refine tKf 2 S0.out ?_
    refine tKf 3 S0.out ?_
    refine tKf 4 S0.out ?_
    refine tKf 5 S0.out ?_
    refine tKf 6 S0.out ?_
    refine tKf 7 S0.out ?_
    refine until_done (by kernel_rfl) ?_ _
    clear S0
    generalize wa.drew = Xa at *
    by_cases hne : x = p.t
    ·have E9 : Hid (putS l p (k + 1) = (o,true)) := by unfold Hid; rw [HP.out,if_pos hne]
     go_wp2_with fail
     go_roundw
     case rel => exact ⟨k + 1,by omega,by go_num,by rw [E9.out],by rw [E9.out]; exact Oa.out,Ka.out,Ba.out⟩
     case measure => simp [intOf]; omega
    ·have E9 : Hid (putS l p (k + 1) = (o ++ [q],true)) := by unfold Hid; rw [HP.out,if_neg hne]
     have g1 := (Ba.out.cell (p := ⟨g,off + k * 2,none⟩) HG.out).trans HC1.out
     have g2 := (Ba.out.cell (p := ⟨g,off + k * 2 + 1,none⟩) HG.out).trans HC2.out
     have L9 : Hid ((ptR o).length ≤ 2097152) := by unfold Hid; rw [ptR_length]; have := HLN.out; omega
     go_wp2_with (at_builtin; refine wpList_append_row (w := Xa) rfl (.tmp 39) (.tmp 44) 99 98 (.agg #[.int .i64 0,.int .i64 0]) 2 16 rfl Tryz.underlying99 Tryz.infoPt rfl (by omega) (w.heap.size + 1) u5 (ptR o) rfl Oa.out [.int .i64 x,.int .i64 y] rfl (pt_cells _ _) rfl L9.out (by omega) Za ?_; intro u' w8 hO8 hb8 hk8 _)
     have O8 : Hid (Owns w8 (w.heap.size + 1) 98 2 u' (ptR (o ++ [q]))) := by unfold Hid; rw [ptR_snoc',HQ.out.1,HQ.out.2]; exact hO8
     have B8 : Hid (Below w.heap.size w w8) := Ba.out.trans (hb8.mono (by omega))
     have K8 : Hid (Blk w8 w.heap.size #[.int .i64 p.t,.int .i64 p.v] 98) := Ka.out.on hb8 (by omega)
     clear hO8 hb8 hk8 g1 g2
     go_wp2_with fail
     go_roundw
     case rel => exact ⟨k + 1,by omega,by go_num,by rw [E9.out],by rw [E9.out]; exact O8.out,K8.out,B8.out⟩
     case measure => simp [intOf]; omega
   | false =>
    have S0 : Hid (wr.drew.cell? ⟨w.heap.size,0,none⟩ = some (.int .i64 p.t) ∧ wr.drew.cell? ⟨g,off + k * 2,none⟩ = some (.int .i64 x)) := ⟨HK.out.cell 0 _ rfl,(HB1.out.cell (p := ⟨_,_,none⟩) HG.out).trans HC1.out⟩
    have BA : Hid (Below w.heap.size w wr.drew) := HB1.out.drew
    have KA : Hid (Blk wr.drew w.heap.size #[.int .i64 p.t,.int .i64 p.v] 98) := HK.out
    have OA : Hid (Owns wr.drew (w.heap.size + 1) 98 2 u5 (ptR o)) := HO.out.on (Below.refl _ wr).drew
    have ZA : w.heap.size + 1 ≤ wr.drew.heap.size := HK.out.lt
    go_wp2_with fail
    refine wp_region_until (fun w' => w'.cell? ⟨w.heap.size,0,none⟩ = some (.int .i64 p.t) ∧ w'.cell? ⟨g,off + k * 2,none⟩ = some (.int .i64 x)) (fun _ => false) 12 (by rfl) (by kernel_rfl) ?_
    refine tKf 0 S0.out ?_
    refine tKf 1 S0.out ?_
    refine tKf 2 S0.out ?_
    refine tKf 3 S0.out ?_
    refine tKf 4 S0.out ?_
    refine tKf 5 S0.out ?_
    refine tKf 6 S0.out ?_
    refine tKf 7 S0.out ?_
    refine tKf 8 S0.out ?_
    refine tKf 9 S0.out ?_
    refine tKf 10 S0.out ?_
    refine tKf 11 S0.out ?_
    refine until_done (by kernel_rfl) ?_ _
    clear S0
    generalize wr.drew = wa at *
    by_cases hle : p.t ≤ x
    ·have HP : Hid (putS l p (k + 1) = if x = p.t then (o ++ [p],true) else ((o ++ [p]) ++ [q],true)) := by
      unfold Hid
      rw [HSU.out]
      unfold stepF
      rw [HQ.out.1]
      simp [hle]
     have k1 := KA.out.cell 0 (.int .i64 p.t) rfl
     have k2 := KA.out.cell 1 (.int .i64 p.v) rfl
     have L8 : Hid ((ptR o).length ≤ 2097152) := by unfold Hid; rw [ptR_length]; have := HLN.out; omega
     go_wp2_with (at_builtin; refine wpList_append_row (w := wa) rfl (.tmp 27) (.tmp 29) 99 98 (.agg #[.int .i64 0,.int .i64 0]) 2 16 rfl Tryz.underlying99 Tryz.infoPt rfl (by omega) (w.heap.size + 1) u5 (ptR o) rfl OA.out [.int .i64 p.t,.int .i64 p.v] rfl (pt_cells _ _) rfl L8.out (by omega) ZA ?_; intro ua w7 hO7 hb7 hk7 _)
     have O7 : Hid (Owns w7 (w.heap.size + 1) 98 2 ua (ptR (o ++ [p]))) := by unfold Hid; rw [ptR_snoc']; exact hO7
     have B7 : Hid (Below w.heap.size w w7) := BA.out.trans (hb7.mono (by omega))
     have K7 : Hid (Blk w7 w.heap.size #[.int .i64 p.t,.int .i64 p.v] 98) := KA.out.on hb7 (by omega)
     clear hO7 hb7 hk7 k1 k2 OA BA KA ZA
     have S0 : Hid (w7.drew.cell? ⟨w.heap.size,0,none⟩ = some (.int .i64 p.t) ∧ w7.drew.cell? ⟨g,off + k * 2,none⟩ = some (.int .i64 x)) := ⟨K7.out.cell 0 _ rfl,(B7.out.cell (p := ⟨_,_,none⟩) HG.out).trans HC1.out⟩
     have Bb : Hid (Below w.heap.size w w7.drew) := B7.out.drew
     have Kb : Hid (Blk w7.drew w.heap.size #[.int .i64 p.t,.int .i64 p.v] 98) := K7.out
     have Ob : Hid (Owns w7.drew (w.heap.size + 1) 98 2 ua (ptR (o ++ [p]))) := O7.out.on (Below.refl _ w7).drew
     have Zb : w.heap.size + 1 ≤ w7.drew.heap.size := K7.out.lt
     go_wp2_with fail
     refine wp_region_until (fun w' => w'.cell? ⟨w.heap.size,0,none⟩ = some (.int .i64 p.t) ∧ w'.cell? ⟨g,off + k * 2,none⟩ = some (.int .i64 x)) (fun _ => false) 8 (by rfl) (by kernel_rfl) ?_
     refine tKf 0 S0.out ?_
     refine tKf 1 S0.out ?_
     refine tKf 2 S0.out ?_
     refine tKf 3 S0.out ?_
     refine tKf 4 S0.out ?_
     refine tKf 5 S0.out ?_
     refine tKf 6 S0.out ?_
     refine tKf 7 S0.out ?_
     refine until_done (by kernel_rfl) ?_ _
     clear S0
     generalize w7.drew = Xb at *
     by_cases hne : x = p.t
     ·have E9 : Hid (putS l p (k + 1) = ((o ++ [p]),true)) := by unfold Hid; rw [HP.out,if_pos hne]
      go_wp2_with fail
      go_roundw
      case rel => exact ⟨k + 1,by omega,by go_num,by rw [E9.out],by rw [E9.out]; exact Ob.out,Kb.out,Bb.out⟩
      case measure => simp [intOf]; omega
     ·have E9 : Hid (putS l p (k + 1) = ((o ++ [p]) ++ [q],true)) := by unfold Hid; rw [HP.out,if_neg hne]
      have g1 := (Bb.out.cell (p := ⟨g,off + k * 2,none⟩) HG.out).trans HC1.out
      have g2 := (Bb.out.cell (p := ⟨g,off + k * 2 + 1,none⟩) HG.out).trans HC2.out
      have L9 : Hid ((ptR (o ++ [p])).length ≤ 2097152) := by unfold Hid; rw [ptR_length]; have := HLN2.out; omega
      go_wp2_with (at_builtin; refine wpList_append_row (w := Xb) rfl (.tmp 39) (.tmp 44) 99 98 (.agg #[.int .i64 0,.int .i64 0]) 2 16 rfl Tryz.underlying99 Tryz.infoPt rfl (by omega) (w.heap.size + 1) ua (ptR (o ++ [p])) rfl Ob.out [.int .i64 x,.int .i64 y] rfl (pt_cells _ _) rfl L9.out (by omega) Zb ?_; intro u' w8 hO8 hb8 hk8 _)
      have O8 : Hid (Owns w8 (w.heap.size + 1) 98 2 u' (ptR ((o ++ [p]) ++ [q]))) := by unfold Hid; rw [ptR_snoc',HQ.out.1,HQ.out.2]; exact hO8
      have B8 : Hid (Below w.heap.size w w8) := Bb.out.trans (hb8.mono (by omega))
      have K8 : Hid (Blk w8 w.heap.size #[.int .i64 p.t,.int .i64 p.v] 98) := Kb.out.on hb8 (by omega)
      clear hO8 hb8 hk8 g1 g2
      go_wp2_with fail
      go_roundw
      case rel => exact ⟨k + 1,by omega,by go_num,by rw [E9.out],by rw [E9.out]; exact O8.out,K8.out,B8.out⟩
      case measure => simp [intOf]; omega
    ·have HP : Hid (putS l p (k + 1) = if x = p.t then (o,false) else (o ++ [q],false)) := by
      unfold Hid
      rw [HSU.out]
      unfold stepF
      rw [HQ.out.1]
      simp [hle]
     have dle : decide (p.t ≤ x) = false := decide_eq_false hle
     have S0 : Hid (wa.drew.cell? ⟨w.heap.size,0,none⟩ = some (.int .i64 p.t) ∧ wa.drew.cell? ⟨g,off + k * 2,none⟩ = some (.int .i64 x)) := ⟨KA.out.cell 0 _ rfl,(BA.out.cell (p := ⟨_,_,none⟩) HG.out).trans HC1.out⟩
     have Bc : Hid (Below w.heap.size w wa.drew) := BA.out.drew
     have Kc : Hid (Blk wa.drew w.heap.size #[.int .i64 p.t,.int .i64 p.v] 98) := KA.out
     have Oc : Hid (Owns wa.drew (w.heap.size + 1) 98 2 u5 (ptR o)) := OA.out.on (Below.refl _ wa).drew
     have Zc : w.heap.size + 1 ≤ wa.drew.heap.size := KA.out.lt
     go_wp2_with fail
     refine wp_region_until (fun w' => w'.cell? ⟨w.heap.size,0,none⟩ = some (.int .i64 p.t) ∧ w'.cell? ⟨g,off + k * 2,none⟩ = some (.int .i64 x)) (fun _ => false) 8 (by rfl) (by kernel_rfl) ?_
     refine tKf 0 S0.out ?_
     refine tKf 1 S0.out ?_
     refine tKf 2 S0.out ?_
     refine tKf 3 S0.out ?_
     refine tKf 4 S0.out ?_
     refine tKf 5 S0.out ?_
     refine tKf 6 S0.out ?_
     refine tKf 7 S0.out ?_
     refine until_done (by kernel_rfl) ?_ _
     clear S0
     generalize wa.drew = Xc at *
     by_cases hne : x = p.t
     ·omega
     ·have E9 : Hid (putS l p (k + 1) = (o ++ [q],false)) := by unfold Hid; rw [HP.out,if_neg hne]
      have g1 := (Bc.out.cell (p := ⟨g,off + k * 2,none⟩) HG.out).trans HC1.out
      have g2 := (Bc.out.cell (p := ⟨g,off + k * 2 + 1,none⟩) HG.out).trans HC2.out
      have L9 : Hid ((ptR o).length ≤ 2097152) := by unfold Hid; rw [ptR_length]; have := HLN.out; omega
      go_wp2_with (at_builtin; refine wpList_append_row (w := Xc) rfl (.tmp 39) (.tmp 44) 99 98 (.agg #[.int .i64 0,.int .i64 0]) 2 16 rfl Tryz.underlying99 Tryz.infoPt rfl (by omega) (w.heap.size + 1) u5 (ptR o) rfl Oc.out [.int .i64 x,.int .i64 y] rfl (pt_cells _ _) rfl L9.out (by omega) Zc ?_; intro u' w8 hO8 hb8 hk8 _)
      have O8 : Hid (Owns w8 (w.heap.size + 1) 98 2 u' (ptR (o ++ [q]))) := by unfold Hid; rw [ptR_snoc',HQ.out.1,HQ.out.2]; exact hO8
      have B8 : Hid (Below w.heap.size w w8) := Bc.out.trans (hb8.mono (by omega))
      have K8 : Hid (Blk w8 w.heap.size #[.int .i64 p.t,.int .i64 p.v] 98) := Kc.out.on hb8 (by omega)
      clear hO8 hb8 hk8 g1 g2
      go_wp2_with fail
      go_roundw
      case rel => exact ⟨k + 1,by omega,by go_num,by rw [E9.out],by rw [E9.out]; exact O8.out,K8.out,B8.out⟩
      case measure => simp [intOf]; omega
  ·obtain rfl : k = n := by omega
   generalize putS l p k = s at *
   obtain ⟨o,f⟩ := s
   simp only at HO HLN HPL
   cases f with
   | true =>
    go_wp2_with fail
    go_ret
    exact ⟨⟨_,rfl,by rw [HPL.out]; exact HO.out.mono (by omega)⟩,HB1.out⟩
   | false =>
    have k1 := HK.out.cell 0 (.int .i64 p.t) rfl
    have k2 := HK.out.cell 1 (.int .i64 p.v) rfl
    have ZA : w.heap.size + 1 ≤ wr.heap.size := HK.out.lt
    have L8 : Hid ((ptR o).length ≤ 2097152) := by unfold Hid; rw [ptR_length]; have := HLN.out; omega
    go_wp2_with (at_builtin; refine wpList_append_row (w := wr) rfl (.tmp 48) (.tmp 50) 99 98 (.agg #[.int .i64 0,.int .i64 0]) 2 16 rfl Tryz.underlying99 Tryz.infoPt rfl (by omega) (w.heap.size + 1) u5 (ptR o) rfl HO.out [.int .i64 p.t,.int .i64 p.v] rfl (pt_cells _ _) rfl L8.out (by omega) ZA ?_; intro ua w7 hO7 hb7 hk7 _)
    have O7 : Hid (Owns w7 (w.heap.size + 1) 98 2 ua (ptR (o ++ [p]))) := by unfold Hid; rw [ptR_snoc']; exact hO7
    have B7 : Hid (Below w.heap.size w w7) := HB1.out.trans (hb7.mono (by omega))
    clear hO7 hb7 hk7 k1 k2
    go_wp2_with fail
    go_ret
    exact ⟨⟨_,rfl,by rw [HPL.out]; exact O7.out.mono (by omega)⟩,B7.out⟩
theorem mrg_snoc (a b : List Pnt) (k : Nat) (h : k < b.length) : mrg a (b.take (k + 1)) = putP (mrg a (b.take k)) (b.getD k default) := by
 unfold mrg
 rw [take_getD b k h,List.foldl_append]
 rfl
set_option maxHeartbeats 2000000 in
theorem specMergeL (a b : List Pnt) (va vb : Value) (w : World) (B : Nat) (ha : Lies w B 2 va (ptR a)) (hb : Lies w B 2 vb (ptR b)) (hn : a.length + b.length ≤ 1048576) (hB : B ≤ w.heap.size) : Calls Tryz.prog 146 #[va,vb] w fun e w' => (∃ u,e = .returned u ∧ Owns w' w.heap.size 98 2 u (ptR (mrg a b))) ∧ Below w.heap.size w w' := by
 have HA := hQz ha
 obtain ⟨A',cap',rfl,_⟩ := pt_look ha
 obtain ⟨A,cap,rfl,hl⟩ := pt_look hb
 have HL : Hid (∀ j,j < b.length → ∃ g off,A = some ⟨g,off,none⟩ ∧ g < B ∧ w.cell? ⟨g,off + j * 2,none⟩ = some (.int .i64 (tAt b j)) ∧ w.cell? ⟨g,off + j * 2 + 1,none⟩ = some (.int .i64 (vAt b j))) := hl
 have HB : Hid (B ≤ w.heap.size) := hB
 have HN : Hid (a.length + b.length ≤ 1048576) := hn
 have q0 : (b.length : Int) ≤ 1048576 := by omega
 have L1 : Hid (([] : List (List Value)).length + (ptR a).length ≤ 2097152) := by unfold Hid; rw [ptR_length]; simp; omega
 have hE := Owns.empty w w.heap.size 98 2 (Nat.le_refl _)
 have HE := hQz hE
 have hb0 : Below w.heap.size w (w.alloc (.cells #[] 98)) := (Below.refl _ _).alloc (Nat.le_refl _) _
 have HA2 := hQz (HA.out.on (hb0.mono HB.out))
 have Z2 := hQz (hb0.size)
 have B0 := hQz hb0
 clear hl hn ha hb hB hE hb0
 go_enter Tryz.func146,Tryz.ntmps146
 go_wp2_with (at_builtin; refine wpList_append_all (w := w.alloc (.cells #[] 98)) rfl (.tmp 7) (.tmp 8) 99 98 (.agg #[.int .i64 0,.int .i64 0]) 2 16 rfl Tryz.underlying99 Tryz.infoPt rfl (by omega) w.heap.size (.slice (some ⟨w.heap.size,0,none⟩) 0 0) (.slice A' a.length cap') [] (ptR a) B rfl HE.out HA2.out (pt_one a) rfl L1.out (by omega) Z2.out ?_; intro u1 w1 hO1 hb1 _ _)
 have O1 := hQz hO1
 have B1 := hQz (B0.out.trans hb1)
 clear hO1 hb1 HE HA2 B0 Z2
 go_wp2_with fail
 generalize hM : b.length = n at *
 go_loopw [5,6] (fun v5 v6 wr => ∃ k : Nat,k ≤ n ∧ v6 = .int .i64 (k : Int) ∧ Owns wr w.heap.size 98 2 v5 (ptR (mrg a (b.take k))) ∧ Below w.heap.size w wr) (fun _ i _ => n - (intOf i).toNat)
 case atStart => exact ⟨0,by omega,rfl,by rw [List.take_zero]; exact O1.out,B1.out⟩
 case round =>
  obtain ⟨k,hk,rfl,hO,hb⟩ := hrel
  have HO := hQz hO
  have HB1 := hQz hb
  clear hO hb
  by_cases hlt : k < n
  ·have q2 : (k : Int) < (n : Int) := by omega
   obtain ⟨g,off,rfl,hg,e1,e2⟩ := HL.out k hlt
   have hgw : g < w.heap.size := Nat.lt_of_lt_of_le hg HB.out
   rw [← HB1.out.cell (p := ⟨_,_,none⟩) hgw] at e1
   rw [← HB1.out.cell (p := ⟨_,_,none⟩) hgw] at e2
   have HS : Hid (mrg a (b.take (k + 1)) = putP (mrg a (b.take k)) (b.getD k default)) := mrg_snoc a b k (by omega)
   have hln : (mrg a (b.take k)).length ≤ 1048576 := by
    have h1 := mrg_length (b.take k) a
    rw [List.length_take] at h1
    have := HN.out
    omega
   have c1 := specPut (mrg a (b.take k)) (b.getD k default) u5 wr wr.heap.size HO.out.lies hln (Nat.le_refl _)
   rw [putL_eq,← HS.out] at c1
   unfold vPt at c1
   rw [show (b.getD k default).t = tAt b k from rfl,show (b.getD k default).v = vAt b k from rfl] at c1
   generalize tAt b k = x at *
   generalize vAt b k = y at *
   obtain ⟨A5,m5,k5,rfl⟩ := HO.out.shape
   clear hgw hg hln
   go_wp2_with fail
   refine c1.mono ?_
   rintro e w4 ⟨⟨u',rfl,hO4⟩,hb4⟩
   have HB4 := hQz (HB1.out.trans (hb4.mono HB1.out.size))
   have HO4 := hQz (hO4.mono HB1.out.size)
   clear hO4 hb4
   go_wp2_with fail
   go_roundw
   case rel => exact ⟨k + 1,by omega,by go_num,HO4.out,HB4.out⟩
   case measure => simp [intOf]; omega
  ·obtain rfl : k = n := by omega
   go_wp2_with fail
   go_ret
   refine ⟨⟨_,rfl,?_⟩,HB1.out⟩
   have := HO.out
   rw [← hM,List.take_length] at this
   exact this
def Apart (u v : Value) : Prop := ∀ g,u.ownBlock = some g → v.ownBlock ≠ some g
theorem Apart.symm {u v : Value} (h : Apart u v) : Apart v u := fun g h1 h2 => h g h2 h1
section
variable {H : Type} {enc : TypeId × Value → H} {P : Program} {w : World} {base : Nat} {spare : Nat → Bool} {held : Bool}
end
section
variable {H : Type} {enc : TypeId × Value → H} {w : World} {base : Nat} {spare : Nat → Bool} {held : Bool}
end
structure Ser where
 key : ByteArray
 pts : List Pnt
instance : Inhabited Ser := ⟨⟨⟨#[]⟩,[]⟩⟩
instance : Inhabited (Ser × Value) := ⟨⟨default,.slice none 0 0⟩⟩
def srC (p : Ser × Value) : List Value := [.string p.1.key,p.2]
def srR (L : List (Ser × Value)) : List (List Value) := L.map srC
theorem srR_length (L : List (Ser × Value)) : (srR L).length = L.length := by simp [srR]
theorem srR_append (L M : List (Ser × Value)) : srR (L ++ M) = srR L ++ srR M := by simp [srR]
theorem sr_look {w : World} {B : Nat} {v : Value} {L : List (Ser × Value)} (h : Lies w B 2 v (srR L)) : ∃ A cap,v = .slice A L.length cap ∧ ∀ j,j < L.length → ∃ g off,A = some ⟨g,off,none⟩ ∧ g < B ∧
  w.cell? ⟨g,off + j * 2,none⟩ = some (.string (L.getD j default).1.key) ∧ w.cell? ⟨g,off + j * 2 + 1,none⟩ = some (L.getD j default).2 := by
 obtain ⟨A,cap,e,h⟩ := h.look
 refine ⟨A,cap,by rw [e]; simp [srR],fun j hj => ?_⟩
 rw [← getD_at L j hj]
 obtain ⟨g,off,e,hg,hc⟩ := h j (by simpa [srR] using hj)
 refine ⟨g,off,e,hg,?_,?_⟩
 ·have := hc 0 _ (by omega) (by simp [srR,srC]; rfl); simpa [Nat.add_assoc] using this
 ·have := hc 1 _ (by omega) (by simp [srR,srC]; rfl); simpa [Nat.add_assoc] using this
def SerL (w : World) (B : Nat) (v : Value) (L : List (Ser × Value)) : Prop := Lies w B 2 v (srR L) ∧ ∀ p ∈ L,Lies w B 2 p.2 (ptR p.1.pts)
theorem SerL.on {w w' : World} {B : Nat} {v : Value} {L : List (Ser × Value)} (h : SerL w B v L) (hb : Below B w w') : SerL w' B v L := ⟨h.1.on hb,fun p hp => (h.2 p hp).on hb⟩
theorem SerL.mono {w : World} {B C : Nat} {v : Value} {L : List (Ser × Value)} (h : SerL w B v L) (hB : B ≤ C) : SerL w C v L := ⟨h.1.mono hB,fun p hp => (h.2 p hp).mono hB⟩
def SerV (w : World) (B : Nat) (v : Value) (l : List Ser) : Prop := ∃ L : List (Ser × Value),L.map Prod.fst = l ∧ SerL w B v L
theorem SerV.on {w w' : World} {B : Nat} {v : Value} {l : List Ser} (h : SerV w B v l) (hb : Below B w w') : SerV w' B v l := h.imp fun _ h => ⟨h.1,h.2.on hb⟩
theorem SerV.mono {w : World} {B C : Nat} {v : Value} {l : List Ser} (h : SerV w B v l) (hB : B ≤ C) : SerV w C v l := h.imp fun _ h => ⟨h.1,h.2.mono hB⟩
theorem SerV.look {w : World} {B : Nat} {v : Value} {l : List Ser} (h : SerV w B v l) : ∃ A cap,v = .slice A l.length cap ∧ ∀ j,j < l.length → ∃ g off u,A = some ⟨g,off,none⟩ ∧ g < B ∧
  w.cell? ⟨g,off + j * 2,none⟩ = some (.string (l.getD j default).key) ∧ w.cell? ⟨g,off + j * 2 + 1,none⟩ = some u ∧ Lies w B 2 u (ptR (l.getD j default).pts) := by
 obtain ⟨L,rfl,h,hp⟩ := h
 obtain ⟨A,cap,e,hl⟩ := sr_look h
 refine ⟨A,cap,by rw [e]; simp,fun j hj => ?_⟩
 have hj' : j < L.length := by simpa using hj
 obtain ⟨g,off,e,hg,h1,h2⟩ := hl j hj'
 have hd : (L.map Prod.fst).getD j default = (L.getD j default).1 := by rw [← getD_at _ j hj,← getD_at _ j hj',List.getElem_map]
 rw [hd]
 exact ⟨g,off,_,e,hg,h1,h2,hp _ (getD_mem L j hj')⟩
def SerO (w : World) (base : Nat) (v : Value) (L : List (Ser × Value)) : Prop := Owns w base 101 2 v (srR L) ∧ (∀ p ∈ L,Owns w base 98 2 p.2 (ptR p.1.pts)) ∧ L.Pairwise fun p q => Apart p.2 q.2
theorem SerO.lies {w : World} {base : Nat} {v : Value} {L : List (Ser × Value)} (h : SerO w base v L) : SerL w w.heap.size v L := ⟨h.1.lies,fun p hp => (h.2.1 p hp).lies⟩
theorem SerO.view {w : World} {base : Nat} {v : Value} {L : List (Ser × Value)} (h : SerO w base v L) : SerV w w.heap.size v (L.map Prod.fst) := ⟨L,rfl,h.lies⟩
theorem SerO.on {w w' : World} {base : Nat} {v : Value} {L : List (Ser × Value)} (h : SerO w base v L) (hb : Below w.heap.size w w') : SerO w' base v L := ⟨h.1.on hb,fun p hp => (h.2.1 p hp).on hb,h.2.2⟩
theorem SerO.mono {w : World} {base base' : Nat} {v : Value} {L : List (Ser × Value)} (h : SerO w base v L) (hb : base' ≤ base) : SerO w base' v L := ⟨h.1.mono hb,fun p hp => (h.2.1 p hp).mono hb,h.2.2⟩
theorem Owns.apartT {w : World} {b b' : Nat} {e e' : TypeId} {sz sz' : Nat} {u v : Value} {r r' : List (List Value)} (h : Owns w b e sz u r) (h' : Owns w b' e' sz' v r') (hne : e ≠ e') : Apart u v := fun g h1 h2 => by
 rcases h.2.2 with ⟨rfl,_⟩ | ⟨g1,c1,cur1,rfl,_,k1,_⟩
 ·cases h1
 rcases h'.2.2 with ⟨rfl,_⟩ | ⟨g2,c2,cur2,rfl,_,k2,_⟩
 ·cases h2
 cases h1
 cases h2
 rw [k1] at k2
 cases k2
 exact hne rfl
def vSr (k : ByteArray) (u : Value) : Value := .agg #[.string k,u]
def KOk (s : ByteArray) : Prop := 1 ≤ s.size ∧ s.size ≤ 8 ∧ ∀ j,j < s.size → 97 ≤ bn s j ∧ bn s j ≤ 122
def ahd (a b : ByteArray) : Bool := Op.bytesLess a.toList b.toList
theorem less_irrefl : ∀ a : List UInt8,Op.bytesLess a a = false
 | [] => rfl
 | a :: x => by
  unfold Op.bytesLess
  rw [less_irrefl x]
  simp
theorem less_cons (a b : UInt8) (x y : List UInt8) : Op.bytesLess (a :: x) (b :: y) = true ↔ a < b ∨ (a = b ∧ Op.bytesLess x y = true) := by
 rw [Op.bytesLess]
 simp
theorem less_trans : ∀ {a b c : List UInt8},Op.bytesLess a b = true → Op.bytesLess b c = true → Op.bytesLess a c = true
 | _,_,[],_,h => by
  unfold Op.bytesLess at h
  cases h
 | [],_,_ :: _,_,_ => rfl
 | _ :: _,[],_ :: _,h,_ => by
  unfold Op.bytesLess at h
  cases h
 | a :: x,b :: y,c :: z,h,k => by
  rw [less_cons] at h k ⊢
  rcases h with h | ⟨rfl,h⟩
  ·rcases k with k | ⟨rfl,k⟩
   ·exact .inl (UInt8.lt_trans h k)
   ·exact .inl h
  ·rcases k with k | ⟨rfl,k⟩
   ·exact .inl k
   ·exact .inr ⟨rfl,less_trans h k⟩
theorem less_tri : ∀ {a b : List UInt8},Op.bytesLess a b = false → Op.bytesLess b a = false → a = b
 | [],[],_,_ => rfl
 | [],_ :: _,h,_ => by
  unfold Op.bytesLess at h
  cases h
 | _ :: _,[],_,h => by
  unfold Op.bytesLess at h
  cases h
 | a :: x,b :: y,h,k => by
  have h' : ¬ (a < b ∨ (a = b ∧ Op.bytesLess x y = true)) := fun e => by
   rw [← less_cons,h] at e
   cases e
  have k' : ¬ (b < a ∨ (b = a ∧ Op.bytesLess y x = true)) := fun e => by
   rw [← less_cons,k] at e
   cases e
  have hab : a = b := by
   rcases Nat.lt_trichotomy a.toNat b.toNat with e | e | e
   ·exact absurd (.inl (UInt8.lt_iff_toNat_lt.2 e)) h'
   ·exact UInt8.toNat_inj.1 e
   ·exact absurd (.inl (UInt8.lt_iff_toNat_lt.2 e)) k'
  subst hab
  have h1 : Op.bytesLess x y = false := by
   cases e : Op.bytesLess x y with
   | false => rfl
   | true => exact absurd (.inr ⟨rfl,e⟩) h'
  have k1 : Op.bytesLess y x = false := by
   cases e : Op.bytesLess y x with
   | false => rfl
   | true => exact absurd (.inr ⟨rfl,e⟩) k'
  rw [less_tri h1 k1]
theorem ahd_irrefl (a : ByteArray) : ahd a a = false := less_irrefl _
theorem ahd_trans {a b c : ByteArray} (h : ahd a b = true) (k : ahd b c = true) : ahd a c = true := less_trans h k
theorem toList_inj {a b : ByteArray} (h : a.toList = b.toList) : a = b := by
 rw [Lib.toList_data,Lib.toList_data] at h
 rw [← txt_toList a,← txt_toList b,h]
theorem ahd_yes {a b : ByteArray} (h : ahd a b = true) : Op.bytesLess b.toList a.toList = false ∧ (b.toList == a.toList) = false := by
 refine ⟨?_,?_⟩
 ·cases e : Op.bytesLess b.toList a.toList with
  | false => rfl
  | true =>
   have := less_trans h e
   rw [less_irrefl] at this
   cases this
 ·rw [beq_eq_false_iff_ne]
  intro e
  unfold ahd at h
  rw [e,less_irrefl] at h
  cases h
theorem ahd_no {a b : ByteArray} (h : ahd a b = false) : Op.bytesLess b.toList a.toList = true ∨ b = a := by
 cases e : Op.bytesLess b.toList a.toList with
 | true => exact .inl rfl
 | false => exact .inr (toList_inj (less_tri e h))
theorem ahd_empty (s : ByteArray) (h : 1 ≤ s.size) : ahd ⟨#[]⟩ s = true := by
 unfold ahd
 have e : (ByteArray.mk #[]).toList = [] := by rw [Lib.toList_data]
 rw [e,Lib.toList_data]
 match hl : s.data.toList with
 | [] =>
  have : s.size = 0 := by rw [ByteArray.size,← Array.length_toList,hl]; rfl
  omega
 | a :: l => rfl
def sAt (l : List Ser) (j : Nat) : Ser := l.getD j default
def SOk (l : List Ser) : Prop := l.length ≤ 5 ∧ ∀ j,j < l.length → (KOk (sAt l j).key ∧ (0 < j → ahd (sAt l (j - 1)).key (sAt l j).key = true)) ∧ 1 ≤ (sAt l j).pts.length ∧ POk (sAt l j).pts
instance (s : ByteArray) : Decidable (KOk s) := by unfold KOk; infer_instance
instance (l : List Ser) : Decidable (SOk l) := by unfold SOk; infer_instance
end Go.Proofs.YthhamlahdjokkaaGreatDoor
