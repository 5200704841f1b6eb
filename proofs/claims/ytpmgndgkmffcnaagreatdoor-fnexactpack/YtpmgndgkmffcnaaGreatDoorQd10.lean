/- PtPutS -/
import Derived.Test.YtpmgndgkmffcnaaGreatDoorRows
import Derived.Test.YtpmgndgkmffcnaaGreatDoorQd9
import Derived.Test.YtpmgndgkmffcnaaGreatDoorQd6
import Derived.Test.YtpmgndgkmffcnaaGreatDoorQd7
open List (setIfInBounds_toArray set_cons_zero set_cons_succ)
namespace Go.Proofs.YtpmgndgkmffcnaaGreatDoor
open Go.ChangeShapes Go.WideShapes Go.ChangeAt Go.RowKit Go.PlainAid
set_option linter.unusedVariables false
theorem stepF_len (p q : Pnt) (s : List Pnt × Bool) : (stepF p s q).1.length + (if (stepF p s q).2 then 0 else 1) ≤ s.1.length + (if s.2 then 0 else 1) + 1 := by
 unfold stepF
 obtain ⟨o, b⟩ := s
 cases b <;> by_cases h : p.t ≤ q.t <;> by_cases h2 : q.t = p.t <;> simp [h, h2] <;> omega
theorem fold_len (p : Pnt) : ∀ (l : List Pnt) (s : List Pnt × Bool), (l.foldl (stepF p) s).1.length + (if (l.foldl (stepF p) s).2 then 0 else 1) ≤ s.1.length + (if s.2 then 0 else 1) + l.length
 | [], s => Nat.le_refl _
 | q :: r, s => by
  have h1 := fold_len p r (stepF p s q)
  have h2 := stepF_len p q s
  rw [List.foldl_cons, List.length_cons]
  omega
theorem putS_len (l : List Pnt) (p : Pnt) (k : Nat) : (putS l p k).1.length ≤ k + 1 := by
 have h := fold_len p (l.take k) ([], false)
 have h2 : (l.take k).length ≤ k := by rw [List.length_take]; omega
 unfold putS
 simp only [List.length_nil, Bool.false_eq_true, if_false] at h
 omega
set_option maxHeartbeats 8000000 in
theorem specPut (l : List Pnt) (p : Pnt) (v : Value) (w : World) (B : Nat) (hv : Lies w B 2 v (ptR l)) (hn : l.length ≤ 1048576) (hB : B ≤ w.heap.size) : Calls Tryz.prog 87 #[v, vPt p] w fun e w' => (∃ u, e = .returned u ∧ Owns w' w.heap.size 56 2 u (ptR (putL l p))) ∧ Below w.heap.size w w' := by
 obtain ⟨A, cap, rfl, hl⟩ := pt_look hv
 have HL : Hid (∀ j, j < l.length → ∃ g off, A = some ⟨g, off, none⟩ ∧ g < B ∧ w.cell? ⟨g, off + j * 2, none⟩ = some (.int .i64 (tAt l j)) ∧ w.cell? ⟨g, off + j * 2 + 1, none⟩ = some (.int .i64 (vAt l j))) := hl
 have HB : Hid (B ≤ w.heap.size) := hB
 have q0 : (l.length : Int) ≤ 1048576 := by omega
 have HPL : Hid (putL l p = if (putS l p l.length).2 then (putS l p l.length).1 else (putS l p l.length).1 ++ [p]) := rfl
 clear hl hn hv hB
 generalize hN : l.length = n at *
 have HN : Hid (l.length = n) := hN
 clear hN
 unfold vPt
 go_enter Tryz.func87, Tryz.ntmps87
 go_wp2_with fail
 go_loopw [5, 6, 7] (fun v5 v6 v7 wr => ∃ k : Nat, k ≤ n ∧ v7 = .int .i64 (k : Int) ∧ v6 = .bool (putS l p k).2 ∧ Owns wr (w.heap.size + 1) 56 2 v5 (ptR (putS l p k).1) ∧ Blk wr w.heap.size #[.int .i64 p.t, .int .i64 p.v] 56 ∧ Below w.heap.size w wr) (fun _ _ i _ => n - (intOf i).toNat)
 case atStart =>
  refine ⟨0, by omega, rfl, rfl, ?_, (Blk.new w #[.int .i64 p.t, .int .i64 p.v] 56).alloc _, ((Below.refl _ w).alloc (Nat.le_refl _) _).alloc (by simp) _⟩
  have := Owns.empty (w.alloc (.cells #[.int .i64 p.t, .int .i64 p.v] 56)) (w.heap.size + 1) 56 2 (by simp)
  simp only [World.size_alloc] at this
  exact this
 case round =>
  obtain ⟨k, hk, rfl, rfl, hO, hK, hb⟩ := hrel
  have HO : Hid (Owns wr (w.heap.size + 1) 56 2 u5 (ptR (putS l p k).1)) := hO
  have HK : Hid (Blk wr w.heap.size #[.int .i64 p.t, .int .i64 p.v] 56) := hK
  have HB1 : Hid (Below w.heap.size w wr) := hb
  clear hO hK hb
  have HLN : Hid ((putS l p k).1.length ≤ 1048578) := by unfold Hid; have := putS_len l p k; omega
  by_cases hlt : k < n
  ·have q2 : (k : Int) < (n : Int) := by omega
   obtain ⟨g, off, rfl, hg, e1, e2⟩ := HL.out k hlt
   have HG : Hid (g < w.heap.size) := Nat.lt_of_lt_of_le hg HB.out
   have HSU : Hid (putS l p (k + 1) = stepF p (putS l p k) (l.getD k default)) := putS_succ l p k (by have := HN.out; omega)
   have HQ : Hid ((l.getD k default).t = tAt l k ∧ (l.getD k default).v = vAt l k) := ⟨rfl, rfl⟩
   generalize l.getD k default = q at *
   generalize hx : tAt l k = x at *
   generalize hy : vAt l k = y at *
   have HC1 : Hid (w.cell? ⟨g, off + k * 2, none⟩ = some (.int .i64 x)) := e1
   have HC2 : Hid (w.cell? ⟨g, off + k * 2 + 1, none⟩ = some (.int .i64 y)) := e2
   clear e1 e2 hg hx hy HL
   generalize putS l p k = s at *
   obtain ⟨o, f⟩ := s
   simp only at HO HLN
   have HLN2 : Hid ((o ++ [p]).length ≤ 1048579) := by unfold Hid; have := HLN.out; simp only [List.length_append, List.length_singleton]; omega
   cases f with
   | true =>
    have HP : Hid (putS l p (k + 1) = if x = p.t then (o, true) else (o ++ [q], true)) := by
     unfold Hid
     rw [HSU.out]
     unfold stepF
     rw [HQ.out.1]
     simp
    have S0 : Hid (wr.drew.cell? ⟨w.heap.size, 0, none⟩ = some (.int .i64 p.t) ∧ wr.drew.cell? ⟨g, off + k * 2, none⟩ = some (.int .i64 x)) := ⟨HK.out.cell 0 _ rfl, (HB1.out.cell (p := ⟨_, _, none⟩) HG.out).trans HC1.out⟩
    have BA : Hid (Below w.heap.size w wr.drew) := HB1.out.drew
    have KA : Hid (Blk wr.drew w.heap.size #[.int .i64 p.t, .int .i64 p.v] 56) := HK.out
    have OA : Hid (Owns wr.drew (w.heap.size + 1) 56 2 u5 (ptR o)) := HO.out.on (Below.refl _ wr).drew
    go_wp2_with fail
    refine wp_region_until (fun w' => w'.cell? ⟨w.heap.size, 0, none⟩ = some (.int .i64 p.t) ∧ w'.cell? ⟨g, off + k * 2, none⟩ = some (.int .i64 x)) (fun _ => false) 12 (by rfl) (by kernel_rfl) ?_
    refine until_take 0 (v := ?_) (by rfl) (by kernel_rfl) (by exact fun _ _ _ h => h) (by rfl) ?_ S0.out ?_
    rotate_left
    ·intro w hSw
     try dsimp only at hSw
     go_simp
     try with_reducible rfl
    try simp only [Act.put, setIfInBounds_toArray, set_cons_zero, set_cons_succ]
    refine until_take 1 (v := ?_) (by rfl) (by kernel_rfl) (by exact fun _ _ _ h => h) (by rfl) ?_ S0.out ?_
    rotate_left
    ·intro w hSw
     try dsimp only at hSw
     go_simp
     try with_reducible rfl
    try simp only [Act.put, setIfInBounds_toArray, set_cons_zero, set_cons_succ]
    refine until_take 2 (v := ?_) (by rfl) (by kernel_rfl) (by exact fun _ _ _ h => h) (by rfl) ?_ S0.out ?_
    rotate_left
    ·intro w hSw
     try dsimp only at hSw
     go_simp
     try with_reducible rfl
    try simp only [Act.put, setIfInBounds_toArray, set_cons_zero, set_cons_succ]
    refine until_skip 3 (by rfl) (by kernel_rfl) (by exact fun _ _ _ h => h) (by rfl) ?_
    try simp only [Act.put, setIfInBounds_toArray, set_cons_zero, set_cons_succ]
    refine until_skip 4 (by rfl) (by kernel_rfl) (by exact fun _ _ _ h => h) (by rfl) ?_
    try simp only [Act.put, setIfInBounds_toArray, set_cons_zero, set_cons_succ]
    refine until_skip 5 (by rfl) (by kernel_rfl) (by exact fun _ _ _ h => h) (by rfl) ?_
    try simp only [Act.put, setIfInBounds_toArray, set_cons_zero, set_cons_succ]
    refine until_skip 6 (by rfl) (by kernel_rfl) (by exact fun _ _ _ h => h) (by rfl) ?_
    try simp only [Act.put, setIfInBounds_toArray, set_cons_zero, set_cons_succ]
    refine until_skip 7 (by rfl) (by kernel_rfl) (by exact fun _ _ _ h => h) (by rfl) ?_
    try simp only [Act.put, setIfInBounds_toArray, set_cons_zero, set_cons_succ]
    refine until_skip 8 (by rfl) (by kernel_rfl) (by exact fun _ _ _ h => h) (by rfl) ?_
    try simp only [Act.put, setIfInBounds_toArray, set_cons_zero, set_cons_succ]
    refine until_skip 9 (by rfl) (by kernel_rfl) (by exact fun _ _ _ h => h) (by rfl) ?_
    try simp only [Act.put, setIfInBounds_toArray, set_cons_zero, set_cons_succ]
    refine until_skip 10 (by rfl) (by kernel_rfl) (by exact fun _ _ _ h => h) (by rfl) ?_
    try simp only [Act.put, setIfInBounds_toArray, set_cons_zero, set_cons_succ]
    refine until_take 11 (v := ?_) (by rfl) (by kernel_rfl) (by exact fun _ _ _ h => h) (by rfl) ?_ S0.out ?_
    rotate_left
    ·intro w hSw
     try dsimp only at hSw
     go_simp
     try with_reducible rfl
    try simp only [Act.put, setIfInBounds_toArray, set_cons_zero, set_cons_succ]
    refine until_done (by kernel_rfl) ?_ _
    clear S0
    generalize wr.drew = wa at *
    have S0 : Hid (wa.drew.cell? ⟨w.heap.size, 0, none⟩ = some (.int .i64 p.t) ∧ wa.drew.cell? ⟨g, off + k * 2, none⟩ = some (.int .i64 x)) := ⟨KA.out.cell 0 _ rfl, (BA.out.cell (p := ⟨_, _, none⟩) HG.out).trans HC1.out⟩
    have Ba : Hid (Below w.heap.size w wa.drew) := BA.out.drew
    have Ka : Hid (Blk wa.drew w.heap.size #[.int .i64 p.t, .int .i64 p.v] 56) := KA.out
    have Oa : Hid (Owns wa.drew (w.heap.size + 1) 56 2 u5 (ptR o)) := OA.out.on (Below.refl _ wa).drew
    have Za : w.heap.size + 1 ≤ wa.drew.heap.size := KA.out.lt
    go_wp2_with fail
    refine wp_region_until (fun w' => w'.cell? ⟨w.heap.size, 0, none⟩ = some (.int .i64 p.t) ∧ w'.cell? ⟨g, off + k * 2, none⟩ = some (.int .i64 x)) (fun _ => false) 8 (by rfl) (by kernel_rfl) ?_
    refine until_take 0 (v := ?_) (by rfl) (by kernel_rfl) (by exact fun _ _ _ h => h) (by rfl) ?_ S0.out ?_
    rotate_left
    ·intro w hSw
     try dsimp only at hSw
     go_simp
     try with_reducible rfl
    try simp only [Act.put, setIfInBounds_toArray, set_cons_zero, set_cons_succ]
    refine until_take 1 (v := ?_) (by rfl) (by kernel_rfl) (by exact fun _ _ _ h => h) (by rfl) ?_ S0.out ?_
    rotate_left
    ·intro w hSw
     try dsimp only at hSw
     go_simp
     try with_reducible rfl
    try simp only [Act.put, setIfInBounds_toArray, set_cons_zero, set_cons_succ]
    refine until_take 2 (v := ?_) (by rfl) (by kernel_rfl) (by exact fun _ _ _ h => h) (by rfl) ?_ S0.out ?_
    rotate_left
    ·intro w hSw
     try dsimp only at hSw
     go_simp
     try with_reducible rfl
    try simp only [Act.put, setIfInBounds_toArray, set_cons_zero, set_cons_succ]
    refine until_take 3 (v := ?_) (by rfl) (by kernel_rfl) (by exact fun _ _ _ h => h) (by rfl) ?_ S0.out ?_
    rotate_left
    ·intro w hSw
     try dsimp only at hSw
     go_simp
     try with_reducible rfl
    try simp only [Act.put, setIfInBounds_toArray, set_cons_zero, set_cons_succ]
    refine until_take 4 (v := ?_) (by rfl) (by kernel_rfl) (by exact fun _ _ _ h => h) (by rfl) ?_ S0.out ?_
    rotate_left
    ·intro w hSw
     try dsimp only at hSw
     go_simp
     try with_reducible rfl
    try simp only [Act.put, setIfInBounds_toArray, set_cons_zero, set_cons_succ]
    refine until_take 5 (v := ?_) (by rfl) (by kernel_rfl) (by exact fun _ _ _ h => h) (by rfl) ?_ S0.out ?_
    rotate_left
    ·intro w hSw
     try dsimp only at hSw
     go_simp
     try with_reducible rfl
    try simp only [Act.put, setIfInBounds_toArray, set_cons_zero, set_cons_succ]
    refine until_take 6 (v := ?_) (by rfl) (by kernel_rfl) (by exact fun _ _ _ h => h) (by rfl) ?_ S0.out ?_
    rotate_left
    ·intro w hSw
     try dsimp only at hSw
     go_simp
     try with_reducible rfl
    try simp only [Act.put, setIfInBounds_toArray, set_cons_zero, set_cons_succ]
    refine until_take 7 (v := ?_) (by rfl) (by kernel_rfl) (by exact fun _ _ _ h => h) (by rfl) ?_ S0.out ?_
    rotate_left
    ·intro w hSw
     try dsimp only at hSw
     go_simp
     try with_reducible rfl
    try simp only [Act.put, setIfInBounds_toArray, set_cons_zero, set_cons_succ]
    refine until_done (by kernel_rfl) ?_ _
    clear S0
    generalize wa.drew = Xa at *
    by_cases hne : x = p.t
    ·have E9 : Hid (putS l p (k + 1) = (o, true)) := by unfold Hid; rw [HP.out, if_pos hne]
     go_wp2_with fail
     go_roundw
     case rel => exact ⟨k + 1, by omega, by go_num, by rw [E9.out], by rw [E9.out]; exact Oa.out, Ka.out, Ba.out⟩
     case measure => simp [intOf]; omega
    ·have E9 : Hid (putS l p (k + 1) = (o ++ [q], true)) := by unfold Hid; rw [HP.out, if_neg hne]
     have g1 := (Ba.out.cell (p := ⟨g, off + k * 2, none⟩) HG.out).trans HC1.out
     have g2 := (Ba.out.cell (p := ⟨g, off + k * 2 + 1, none⟩) HG.out).trans HC2.out
     have L9 : Hid ((ptR o).length ≤ 2097152) := by unfold Hid; rw [ptR_length]; have := HLN.out; omega
     go_wp2_with (at_builtin; refine wpList_append_row (w := Xa) rfl (.tmp 39) (.tmp 44) 34 56 (.agg #[.int .i64 0, .int .i64 0]) 2 16 rfl Tryz.underlying34 Tryz.infoPt rfl (by omega) (w.heap.size + 1) u5 (ptR o) rfl Oa.out [.int .i64 x, .int .i64 y] rfl (pt_cells _ _) rfl L9.out (by omega) Za ?_; intro u' w8 hO8 hb8 hk8 _)
     have O8 : Hid (Owns w8 (w.heap.size + 1) 56 2 u' (ptR (o ++ [q]))) := by unfold Hid; rw [ptR_snoc', HQ.out.1, HQ.out.2]; exact hO8
     have B8 : Hid (Below w.heap.size w w8) := Ba.out.trans (hb8.mono (by omega))
     have K8 : Hid (Blk w8 w.heap.size #[.int .i64 p.t, .int .i64 p.v] 56) := Ka.out.on hb8 (by omega)
     clear hO8 hb8 hk8 g1 g2
     go_wp2_with fail
     go_roundw
     case rel => exact ⟨k + 1, by omega, by go_num, by rw [E9.out], by rw [E9.out]; exact O8.out, K8.out, B8.out⟩
     case measure => simp [intOf]; omega
   | false =>
    have S0 : Hid (wr.drew.cell? ⟨w.heap.size, 0, none⟩ = some (.int .i64 p.t) ∧ wr.drew.cell? ⟨g, off + k * 2, none⟩ = some (.int .i64 x)) := ⟨HK.out.cell 0 _ rfl, (HB1.out.cell (p := ⟨_, _, none⟩) HG.out).trans HC1.out⟩
    have BA : Hid (Below w.heap.size w wr.drew) := HB1.out.drew
    have KA : Hid (Blk wr.drew w.heap.size #[.int .i64 p.t, .int .i64 p.v] 56) := HK.out
    have OA : Hid (Owns wr.drew (w.heap.size + 1) 56 2 u5 (ptR o)) := HO.out.on (Below.refl _ wr).drew
    have ZA : w.heap.size + 1 ≤ wr.drew.heap.size := HK.out.lt
    go_wp2_with fail
    refine wp_region_until (fun w' => w'.cell? ⟨w.heap.size, 0, none⟩ = some (.int .i64 p.t) ∧ w'.cell? ⟨g, off + k * 2, none⟩ = some (.int .i64 x)) (fun _ => false) 12 (by rfl) (by kernel_rfl) ?_
    refine until_take 0 (v := ?_) (by rfl) (by kernel_rfl) (by exact fun _ _ _ h => h) (by rfl) ?_ S0.out ?_
    rotate_left
    ·intro w hSw
     try dsimp only at hSw
     go_simp
     try with_reducible rfl
    try simp only [Act.put, setIfInBounds_toArray, set_cons_zero, set_cons_succ]
    refine until_take 1 (v := ?_) (by rfl) (by kernel_rfl) (by exact fun _ _ _ h => h) (by rfl) ?_ S0.out ?_
    rotate_left
    ·intro w hSw
     try dsimp only at hSw
     go_simp
     try with_reducible rfl
    try simp only [Act.put, setIfInBounds_toArray, set_cons_zero, set_cons_succ]
    refine until_take 2 (v := ?_) (by rfl) (by kernel_rfl) (by exact fun _ _ _ h => h) (by rfl) ?_ S0.out ?_
    rotate_left
    ·intro w hSw
     try dsimp only at hSw
     go_simp
     try with_reducible rfl
    try simp only [Act.put, setIfInBounds_toArray, set_cons_zero, set_cons_succ]
    refine until_take 3 (v := ?_) (by rfl) (by kernel_rfl) (by exact fun _ _ _ h => h) (by rfl) ?_ S0.out ?_
    rotate_left
    ·intro w hSw
     try dsimp only at hSw
     go_simp
     try with_reducible rfl
    try simp only [Act.put, setIfInBounds_toArray, set_cons_zero, set_cons_succ]
    refine until_take 4 (v := ?_) (by rfl) (by kernel_rfl) (by exact fun _ _ _ h => h) (by rfl) ?_ S0.out ?_
    rotate_left
    ·intro w hSw
     try dsimp only at hSw
     go_simp
     try with_reducible rfl
    try simp only [Act.put, setIfInBounds_toArray, set_cons_zero, set_cons_succ]
    refine until_take 5 (v := ?_) (by rfl) (by kernel_rfl) (by exact fun _ _ _ h => h) (by rfl) ?_ S0.out ?_
    rotate_left
    ·intro w hSw
     try dsimp only at hSw
     go_simp
     try with_reducible rfl
    try simp only [Act.put, setIfInBounds_toArray, set_cons_zero, set_cons_succ]
    refine until_take 6 (v := ?_) (by rfl) (by kernel_rfl) (by exact fun _ _ _ h => h) (by rfl) ?_ S0.out ?_
    rotate_left
    ·intro w hSw
     try dsimp only at hSw
     go_simp
     try with_reducible rfl
    try simp only [Act.put, setIfInBounds_toArray, set_cons_zero, set_cons_succ]
    refine until_take 7 (v := ?_) (by rfl) (by kernel_rfl) (by exact fun _ _ _ h => h) (by rfl) ?_ S0.out ?_
    rotate_left
    ·intro w hSw
     try dsimp only at hSw
     go_simp
     try with_reducible rfl
    try simp only [Act.put, setIfInBounds_toArray, set_cons_zero, set_cons_succ]
    refine until_take 8 (v := ?_) (by rfl) (by kernel_rfl) (by exact fun _ _ _ h => h) (by rfl) ?_ S0.out ?_
    rotate_left
    ·intro w hSw
     try dsimp only at hSw
     go_simp
     try with_reducible rfl
    try simp only [Act.put, setIfInBounds_toArray, set_cons_zero, set_cons_succ]
    refine until_take 9 (v := ?_) (by rfl) (by kernel_rfl) (by exact fun _ _ _ h => h) (by rfl) ?_ S0.out ?_
    rotate_left
    ·intro w hSw
     try dsimp only at hSw
     go_simp
     try with_reducible rfl
    try simp only [Act.put, setIfInBounds_toArray, set_cons_zero, set_cons_succ]
    refine until_take 10 (v := ?_) (by rfl) (by kernel_rfl) (by exact fun _ _ _ h => h) (by rfl) ?_ S0.out ?_
    rotate_left
    ·intro w hSw
     try dsimp only at hSw
     go_simp
     try with_reducible rfl
    try simp only [Act.put, setIfInBounds_toArray, set_cons_zero, set_cons_succ]
    refine until_take 11 (v := ?_) (by rfl) (by kernel_rfl) (by exact fun _ _ _ h => h) (by rfl) ?_ S0.out ?_
    rotate_left
    ·intro w hSw
     try dsimp only at hSw
     go_simp
     try with_reducible rfl
    try simp only [Act.put, setIfInBounds_toArray, set_cons_zero, set_cons_succ]
    refine until_done (by kernel_rfl) ?_ _
    clear S0
    generalize wr.drew = wa at *
    by_cases hle : p.t ≤ x
    ·have HP : Hid (putS l p (k + 1) = if x = p.t then (o ++ [p], true) else ((o ++ [p]) ++ [q], true)) := by
      unfold Hid
      rw [HSU.out]
      unfold stepF
      rw [HQ.out.1]
      simp [hle]
     have k1 := KA.out.cell 0 (.int .i64 p.t) rfl
     have k2 := KA.out.cell 1 (.int .i64 p.v) rfl
     have L8 : Hid ((ptR o).length ≤ 2097152) := by unfold Hid; rw [ptR_length]; have := HLN.out; omega
     go_wp2_with (at_builtin; refine wpList_append_row (w := wa) rfl (.tmp 27) (.tmp 29) 34 56 (.agg #[.int .i64 0, .int .i64 0]) 2 16 rfl Tryz.underlying34 Tryz.infoPt rfl (by omega) (w.heap.size + 1) u5 (ptR o) rfl OA.out [.int .i64 p.t, .int .i64 p.v] rfl (pt_cells _ _) rfl L8.out (by omega) ZA ?_; intro ua w7 hO7 hb7 hk7 _)
     have O7 : Hid (Owns w7 (w.heap.size + 1) 56 2 ua (ptR (o ++ [p]))) := by unfold Hid; rw [ptR_snoc']; exact hO7
     have B7 : Hid (Below w.heap.size w w7) := BA.out.trans (hb7.mono (by omega))
     have K7 : Hid (Blk w7 w.heap.size #[.int .i64 p.t, .int .i64 p.v] 56) := KA.out.on hb7 (by omega)
     clear hO7 hb7 hk7 k1 k2 OA BA KA ZA
     have S0 : Hid (w7.drew.cell? ⟨w.heap.size, 0, none⟩ = some (.int .i64 p.t) ∧ w7.drew.cell? ⟨g, off + k * 2, none⟩ = some (.int .i64 x)) := ⟨K7.out.cell 0 _ rfl, (B7.out.cell (p := ⟨_, _, none⟩) HG.out).trans HC1.out⟩
     have Bb : Hid (Below w.heap.size w w7.drew) := B7.out.drew
     have Kb : Hid (Blk w7.drew w.heap.size #[.int .i64 p.t, .int .i64 p.v] 56) := K7.out
     have Ob : Hid (Owns w7.drew (w.heap.size + 1) 56 2 ua (ptR (o ++ [p]))) := O7.out.on (Below.refl _ w7).drew
     have Zb : w.heap.size + 1 ≤ w7.drew.heap.size := K7.out.lt
     go_wp2_with fail
     refine wp_region_until (fun w' => w'.cell? ⟨w.heap.size, 0, none⟩ = some (.int .i64 p.t) ∧ w'.cell? ⟨g, off + k * 2, none⟩ = some (.int .i64 x)) (fun _ => false) 8 (by rfl) (by kernel_rfl) ?_
     refine until_take 0 (v := ?_) (by rfl) (by kernel_rfl) (by exact fun _ _ _ h => h) (by rfl) ?_ S0.out ?_
     rotate_left
     ·intro w hSw
      try dsimp only at hSw
      go_simp
      try with_reducible rfl
     try simp only [Act.put, setIfInBounds_toArray, set_cons_zero, set_cons_succ]
     refine until_take 1 (v := ?_) (by rfl) (by kernel_rfl) (by exact fun _ _ _ h => h) (by rfl) ?_ S0.out ?_
     rotate_left
     ·intro w hSw
      try dsimp only at hSw
      go_simp
      try with_reducible rfl
     try simp only [Act.put, setIfInBounds_toArray, set_cons_zero, set_cons_succ]
     refine until_take 2 (v := ?_) (by rfl) (by kernel_rfl) (by exact fun _ _ _ h => h) (by rfl) ?_ S0.out ?_
     rotate_left
     ·intro w hSw
      try dsimp only at hSw
      go_simp
      try with_reducible rfl
     try simp only [Act.put, setIfInBounds_toArray, set_cons_zero, set_cons_succ]
     refine until_take 3 (v := ?_) (by rfl) (by kernel_rfl) (by exact fun _ _ _ h => h) (by rfl) ?_ S0.out ?_
     rotate_left
     ·intro w hSw
      try dsimp only at hSw
      go_simp
      try with_reducible rfl
     try simp only [Act.put, setIfInBounds_toArray, set_cons_zero, set_cons_succ]
     refine until_take 4 (v := ?_) (by rfl) (by kernel_rfl) (by exact fun _ _ _ h => h) (by rfl) ?_ S0.out ?_
     rotate_left
     ·intro w hSw
      try dsimp only at hSw
      go_simp
      try with_reducible rfl
     try simp only [Act.put, setIfInBounds_toArray, set_cons_zero, set_cons_succ]
     refine until_take 5 (v := ?_) (by rfl) (by kernel_rfl) (by exact fun _ _ _ h => h) (by rfl) ?_ S0.out ?_
     rotate_left
     ·intro w hSw
      try dsimp only at hSw
      go_simp
      try with_reducible rfl
     try simp only [Act.put, setIfInBounds_toArray, set_cons_zero, set_cons_succ]
     refine until_take 6 (v := ?_) (by rfl) (by kernel_rfl) (by exact fun _ _ _ h => h) (by rfl) ?_ S0.out ?_
     rotate_left
     ·intro w hSw
      try dsimp only at hSw
      go_simp
      try with_reducible rfl
     try simp only [Act.put, setIfInBounds_toArray, set_cons_zero, set_cons_succ]
     refine until_take 7 (v := ?_) (by rfl) (by kernel_rfl) (by exact fun _ _ _ h => h) (by rfl) ?_ S0.out ?_
     rotate_left
     ·intro w hSw
      try dsimp only at hSw
      go_simp
      try with_reducible rfl
     try simp only [Act.put, setIfInBounds_toArray, set_cons_zero, set_cons_succ]
     refine until_done (by kernel_rfl) ?_ _
     clear S0
     generalize w7.drew = Xb at *
     by_cases hne : x = p.t
     ·have E9 : Hid (putS l p (k + 1) = ((o ++ [p]), true)) := by unfold Hid; rw [HP.out, if_pos hne]
      go_wp2_with fail
      go_roundw
      case rel => exact ⟨k + 1, by omega, by go_num, by rw [E9.out], by rw [E9.out]; exact Ob.out, Kb.out, Bb.out⟩
      case measure => simp [intOf]; omega
     ·have E9 : Hid (putS l p (k + 1) = ((o ++ [p]) ++ [q], true)) := by unfold Hid; rw [HP.out, if_neg hne]
      have g1 := (Bb.out.cell (p := ⟨g, off + k * 2, none⟩) HG.out).trans HC1.out
      have g2 := (Bb.out.cell (p := ⟨g, off + k * 2 + 1, none⟩) HG.out).trans HC2.out
      have L9 : Hid ((ptR (o ++ [p])).length ≤ 2097152) := by unfold Hid; rw [ptR_length]; have := HLN2.out; omega
      go_wp2_with (at_builtin; refine wpList_append_row (w := Xb) rfl (.tmp 39) (.tmp 44) 34 56 (.agg #[.int .i64 0, .int .i64 0]) 2 16 rfl Tryz.underlying34 Tryz.infoPt rfl (by omega) (w.heap.size + 1) ua (ptR (o ++ [p])) rfl Ob.out [.int .i64 x, .int .i64 y] rfl (pt_cells _ _) rfl L9.out (by omega) Zb ?_; intro u' w8 hO8 hb8 hk8 _)
      have O8 : Hid (Owns w8 (w.heap.size + 1) 56 2 u' (ptR ((o ++ [p]) ++ [q]))) := by unfold Hid; rw [ptR_snoc', HQ.out.1, HQ.out.2]; exact hO8
      have B8 : Hid (Below w.heap.size w w8) := Bb.out.trans (hb8.mono (by omega))
      have K8 : Hid (Blk w8 w.heap.size #[.int .i64 p.t, .int .i64 p.v] 56) := Kb.out.on hb8 (by omega)
      clear hO8 hb8 hk8 g1 g2
      go_wp2_with fail
      go_roundw
      case rel => exact ⟨k + 1, by omega, by go_num, by rw [E9.out], by rw [E9.out]; exact O8.out, K8.out, B8.out⟩
      case measure => simp [intOf]; omega
    ·have HP : Hid (putS l p (k + 1) = if x = p.t then (o, false) else (o ++ [q], false)) := by
      unfold Hid
      rw [HSU.out]
      unfold stepF
      rw [HQ.out.1]
      simp [hle]
     have dle : decide (p.t ≤ x) = false := decide_eq_false hle
     have S0 : Hid (wa.drew.cell? ⟨w.heap.size, 0, none⟩ = some (.int .i64 p.t) ∧ wa.drew.cell? ⟨g, off + k * 2, none⟩ = some (.int .i64 x)) := ⟨KA.out.cell 0 _ rfl, (BA.out.cell (p := ⟨_, _, none⟩) HG.out).trans HC1.out⟩
     have Bc : Hid (Below w.heap.size w wa.drew) := BA.out.drew
     have Kc : Hid (Blk wa.drew w.heap.size #[.int .i64 p.t, .int .i64 p.v] 56) := KA.out
     have Oc : Hid (Owns wa.drew (w.heap.size + 1) 56 2 u5 (ptR o)) := OA.out.on (Below.refl _ wa).drew
     have Zc : w.heap.size + 1 ≤ wa.drew.heap.size := KA.out.lt
     go_wp2_with fail
     refine wp_region_until (fun w' => w'.cell? ⟨w.heap.size, 0, none⟩ = some (.int .i64 p.t) ∧ w'.cell? ⟨g, off + k * 2, none⟩ = some (.int .i64 x)) (fun _ => false) 8 (by rfl) (by kernel_rfl) ?_
     refine until_take 0 (v := ?_) (by rfl) (by kernel_rfl) (by exact fun _ _ _ h => h) (by rfl) ?_ S0.out ?_
     rotate_left
     ·intro w hSw
      try dsimp only at hSw
      go_simp
      try with_reducible rfl
     try simp only [Act.put, setIfInBounds_toArray, set_cons_zero, set_cons_succ]
     refine until_take 1 (v := ?_) (by rfl) (by kernel_rfl) (by exact fun _ _ _ h => h) (by rfl) ?_ S0.out ?_
     rotate_left
     ·intro w hSw
      try dsimp only at hSw
      go_simp
      try with_reducible rfl
     try simp only [Act.put, setIfInBounds_toArray, set_cons_zero, set_cons_succ]
     refine until_take 2 (v := ?_) (by rfl) (by kernel_rfl) (by exact fun _ _ _ h => h) (by rfl) ?_ S0.out ?_
     rotate_left
     ·intro w hSw
      try dsimp only at hSw
      go_simp
      try with_reducible rfl
     try simp only [Act.put, setIfInBounds_toArray, set_cons_zero, set_cons_succ]
     refine until_take 3 (v := ?_) (by rfl) (by kernel_rfl) (by exact fun _ _ _ h => h) (by rfl) ?_ S0.out ?_
     rotate_left
     ·intro w hSw
      try dsimp only at hSw
      go_simp
      try with_reducible rfl
     try simp only [Act.put, setIfInBounds_toArray, set_cons_zero, set_cons_succ]
     refine until_take 4 (v := ?_) (by rfl) (by kernel_rfl) (by exact fun _ _ _ h => h) (by rfl) ?_ S0.out ?_
     rotate_left
     ·intro w hSw
      try dsimp only at hSw
      go_simp
      try with_reducible rfl
     try simp only [Act.put, setIfInBounds_toArray, set_cons_zero, set_cons_succ]
     refine until_take 5 (v := ?_) (by rfl) (by kernel_rfl) (by exact fun _ _ _ h => h) (by rfl) ?_ S0.out ?_
     rotate_left
     ·intro w hSw
      try dsimp only at hSw
      go_simp
      try with_reducible rfl
     try simp only [Act.put, setIfInBounds_toArray, set_cons_zero, set_cons_succ]
     refine until_take 6 (v := ?_) (by rfl) (by kernel_rfl) (by exact fun _ _ _ h => h) (by rfl) ?_ S0.out ?_
     rotate_left
     ·intro w hSw
      try dsimp only at hSw
      go_simp
      try with_reducible rfl
     try simp only [Act.put, setIfInBounds_toArray, set_cons_zero, set_cons_succ]
     refine until_take 7 (v := ?_) (by rfl) (by kernel_rfl) (by exact fun _ _ _ h => h) (by rfl) ?_ S0.out ?_
     rotate_left
     ·intro w hSw
      try dsimp only at hSw
      go_simp
      try with_reducible rfl
     try simp only [Act.put, setIfInBounds_toArray, set_cons_zero, set_cons_succ]
     refine until_done (by kernel_rfl) ?_ _
     clear S0
     generalize wa.drew = Xc at *
     by_cases hne : x = p.t
     ·omega
     ·have E9 : Hid (putS l p (k + 1) = (o ++ [q], false)) := by unfold Hid; rw [HP.out, if_neg hne]
      have g1 := (Bc.out.cell (p := ⟨g, off + k * 2, none⟩) HG.out).trans HC1.out
      have g2 := (Bc.out.cell (p := ⟨g, off + k * 2 + 1, none⟩) HG.out).trans HC2.out
      have L9 : Hid ((ptR o).length ≤ 2097152) := by unfold Hid; rw [ptR_length]; have := HLN.out; omega
      go_wp2_with (at_builtin; refine wpList_append_row (w := Xc) rfl (.tmp 39) (.tmp 44) 34 56 (.agg #[.int .i64 0, .int .i64 0]) 2 16 rfl Tryz.underlying34 Tryz.infoPt rfl (by omega) (w.heap.size + 1) u5 (ptR o) rfl Oc.out [.int .i64 x, .int .i64 y] rfl (pt_cells _ _) rfl L9.out (by omega) Zc ?_; intro u' w8 hO8 hb8 hk8 _)
      have O8 : Hid (Owns w8 (w.heap.size + 1) 56 2 u' (ptR (o ++ [q]))) := by unfold Hid; rw [ptR_snoc', HQ.out.1, HQ.out.2]; exact hO8
      have B8 : Hid (Below w.heap.size w w8) := Bc.out.trans (hb8.mono (by omega))
      have K8 : Hid (Blk w8 w.heap.size #[.int .i64 p.t, .int .i64 p.v] 56) := Kc.out.on hb8 (by omega)
      clear hO8 hb8 hk8 g1 g2
      go_wp2_with fail
      go_roundw
      case rel => exact ⟨k + 1, by omega, by go_num, by rw [E9.out], by rw [E9.out]; exact O8.out, K8.out, B8.out⟩
      case measure => simp [intOf]; omega
  ·obtain rfl : k = n := by omega
   generalize putS l p k = s at *
   obtain ⟨o, f⟩ := s
   simp only at HO HLN HPL
   cases f with
   | true =>
    go_wp2_with fail
    go_ret
    exact ⟨⟨_, rfl, by rw [HPL.out]; exact HO.out.mono (by omega)⟩, HB1.out⟩
   | false =>
    have k1 := HK.out.cell 0 (.int .i64 p.t) rfl
    have k2 := HK.out.cell 1 (.int .i64 p.v) rfl
    have ZA : w.heap.size + 1 ≤ wr.heap.size := HK.out.lt
    have L8 : Hid ((ptR o).length ≤ 2097152) := by unfold Hid; rw [ptR_length]; have := HLN.out; omega
    go_wp2_with (at_builtin; refine wpList_append_row (w := wr) rfl (.tmp 48) (.tmp 50) 34 56 (.agg #[.int .i64 0, .int .i64 0]) 2 16 rfl Tryz.underlying34 Tryz.infoPt rfl (by omega) (w.heap.size + 1) u5 (ptR o) rfl HO.out [.int .i64 p.t, .int .i64 p.v] rfl (pt_cells _ _) rfl L8.out (by omega) ZA ?_; intro ua w7 hO7 hb7 hk7 _)
    have O7 : Hid (Owns w7 (w.heap.size + 1) 56 2 ua (ptR (o ++ [p]))) := by unfold Hid; rw [ptR_snoc']; exact hO7
    have B7 : Hid (Below w.heap.size w w7) := HB1.out.trans (hb7.mono (by omega))
    clear hO7 hb7 hk7 k1 k2
    go_wp2_with fail
    go_ret
    exact ⟨⟨_, rfl, by rw [HPL.out]; exact O7.out.mono (by omega)⟩, B7.out⟩
end Go.Proofs.YtpmgndgkmffcnaaGreatDoor
