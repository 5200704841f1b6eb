/- PtPutS PtMrgS PtMath2 SrAid BtVar NumV -/
import Derived.Test.YtikknmoeefipmaaGreatDoorRows
import Derived.Test.YtikknmoeefipmaaGreatDoorQp5
import Derived.Test.YtikknmoeefipmaaGreatDoorQp3
import Derived.Test.YtikknmoeefipmaaGreatDoorQp4
import Derived.Test.YtikknmoeefipmaaGreatDoorQp2
import Derived.Test.YtikknmoeefipmaaGreatDoorQp0
import Derived.WalkKit
import Derived.ProofKit
import Derived.OpenShut
import Derived.Below
import Derived.Handy
import Derived.WalkLawsBesides
import Derived.WalkSpells
import Derived.WalkMore
import Derived.Outline
import Derived.Deep.OwnRows
import Derived.Deep.RegionHeld3
import Derived.Deep.RegionLaw
import Derived.Deep.DrawnRows
import Derived.WalkSmall
open List (setIfInBounds_toArray set_cons_zero set_cons_succ)
namespace Go.Proofs.YtikknmoeefipmaaGreatDoor
open Go.ChangeShapes Go.WideShapes Go.ChangeAt Go.RowKit Go.PlainAid
set_option linter.unusedVariables false
theorem stepF_len (p q : Pnt) (s : List Pnt × Bool) : (stepF p s q).1.length + (if (stepF p s q).2 then 0 else 1) ≤ s.1.length + (if s.2 then 0 else 1) + 1 := by
 unfold stepF
 obtain ⟨o, b⟩ := s
 cases b <;> by_cases h : p.t ≤ q.t <;> by_cases h2 : q.t = p.t <;> simp [h, h2] <;> omega
theorem fold_len (p : Pnt) : ∀ (l : List Pnt) (s : List Pnt × Bool), (l.foldl (stepF p) s).1.length + (if (l.foldl (stepF p) s).2 then 0 else 1) ≤ s.1.length + (if s.2 then 0 else 1) + l.length
 | [], s => Nat.le_refl _
 | q :: r, s => by
  have h1 := fold_len p r (stepF p s q)
  have h2 := stepF_len p q s
  rw [List.foldl_cons, List.length_cons]
  omega
theorem putS_len (l : List Pnt) (p : Pnt) (k : Nat) : (putS l p k).1.length ≤ k + 1 := by
 have h := fold_len p (l.take k) ([], false)
 have h2 : (l.take k).length ≤ k := by rw [List.length_take]; omega
 unfold putS
 simp only [List.length_nil, Bool.false_eq_true, if_false] at h
 omega
set_option maxHeartbeats 8000000 in
theorem specPut (l : List Pnt) (p : Pnt) (v : Value) (w : World) (B : Nat) (hv : Lies w B 2 v (ptR l)) (hn : l.length ≤ 1048576) (hB : B ≤ w.heap.size) : Calls Tryz.prog 152 #[v, vPt p] w fun e w' => (∃ u, e = .returned u ∧ Owns w' w.heap.size 90 2 u (ptR (putL l p))) ∧ Below w.heap.size w w' := by
 obtain ⟨A, cap, rfl, hl⟩ := pt_look hv
 have HL : Hid (∀ j, j < l.length → ∃ g off, A = some ⟨g, off, none⟩ ∧ g < B ∧ w.cell? ⟨g, off + j * 2, none⟩ = some (.int .i64 (tAt l j)) ∧ w.cell? ⟨g, off + j * 2 + 1, none⟩ = some (.int .i64 (vAt l j))) := hl
 have HB : Hid (B ≤ w.heap.size) := hB
 have q0 : (l.length : Int) ≤ 1048576 := by omega
 have HPL : Hid (putL l p = if (putS l p l.length).2 then (putS l p l.length).1 else (putS l p l.length).1 ++ [p]) := rfl
 clear hl hn hv hB
 generalize hN : l.length = n at *
 have HN : Hid (l.length = n) := hN
 clear hN
 unfold vPt
 go_enter Tryz.func152, Tryz.ntmps152
 go_wp2_with fail
 go_loopw [5, 6, 7] (fun v5 v6 v7 wr => ∃ k : Nat, k ≤ n ∧ v7 = .int .i64 (k : Int) ∧ v6 = .bool (putS l p k).2 ∧ Owns wr (w.heap.size + 1) 90 2 v5 (ptR (putS l p k).1) ∧ Blk wr w.heap.size #[.int .i64 p.t, .int .i64 p.v] 90 ∧ Below w.heap.size w wr) (fun _ _ i _ => n - (intOf i).toNat)
 case atStart =>
  refine ⟨0, by omega, rfl, rfl, ?_, (Blk.new w #[.int .i64 p.t, .int .i64 p.v] 90).alloc _, ((Below.refl _ w).alloc (Nat.le_refl _) _).alloc (by simp) _⟩
  have := Owns.empty (w.alloc (.cells #[.int .i64 p.t, .int .i64 p.v] 90)) (w.heap.size + 1) 90 2 (by simp)
  simp only [World.size_alloc] at this
  exact this
 case round =>
  obtain ⟨k, hk, rfl, rfl, hO, hK, hb⟩ := hrel
  have HO : Hid (Owns wr (w.heap.size + 1) 90 2 u5 (ptR (putS l p k).1)) := hO
  have HK : Hid (Blk wr w.heap.size #[.int .i64 p.t, .int .i64 p.v] 90) := hK
  have HB1 : Hid (Below w.heap.size w wr) := hb
  clear hO hK hb
  have HLN : Hid ((putS l p k).1.length ≤ 1048578) := by unfold Hid; have := putS_len l p k; omega
  by_cases hlt : k < n
  ·have q2 : (k : Int) < (n : Int) := by omega
   obtain ⟨g, off, rfl, hg, e1, e2⟩ := HL.out k hlt
   have HG : Hid (g < w.heap.size) := Nat.lt_of_lt_of_le hg HB.out
   have HSU : Hid (putS l p (k + 1) = stepF p (putS l p k) (l.getD k default)) := putS_succ l p k (by have := HN.out; omega)
   have HQ : Hid ((l.getD k default).t = tAt l k ∧ (l.getD k default).v = vAt l k) := ⟨rfl, rfl⟩
   generalize l.getD k default = q at *
   generalize hx : tAt l k = x at *
   generalize hy : vAt l k = y at *
   have HC1 : Hid (w.cell? ⟨g, off + k * 2, none⟩ = some (.int .i64 x)) := e1
   have HC2 : Hid (w.cell? ⟨g, off + k * 2 + 1, none⟩ = some (.int .i64 y)) := e2
   clear e1 e2 hg hx hy HL
   generalize putS l p k = s at *
   obtain ⟨o, f⟩ := s
   simp only at HO HLN
   have HLN2 : Hid ((o ++ [p]).length ≤ 1048579) := by unfold Hid; have := HLN.out; simp only [List.length_append, List.length_singleton]; omega
   cases f with
   | true =>
    have HP : Hid (putS l p (k + 1) = if x = p.t then (o, true) else (o ++ [q], true)) := by
     unfold Hid
     rw [HSU.out]
     unfold stepF
     rw [HQ.out.1]
     simp
    have S0 : Hid (wr.drew.cell? ⟨w.heap.size, 0, none⟩ = some (.int .i64 p.t) ∧ wr.drew.cell? ⟨g, off + k * 2, none⟩ = some (.int .i64 x)) := ⟨HK.out.cell 0 _ rfl, (HB1.out.cell (p := ⟨_, _, none⟩) HG.out).trans HC1.out⟩
    have BA : Hid (Below w.heap.size w wr.drew) := HB1.out.drew
    have KA : Hid (Blk wr.drew w.heap.size #[.int .i64 p.t, .int .i64 p.v] 90) := HK.out
    have OA : Hid (Owns wr.drew (w.heap.size + 1) 90 2 u5 (ptR o)) := HO.out.on (Below.refl _ wr).drew
    go_wp2_with fail
    refine wp_region_until (fun w' => w'.cell? ⟨w.heap.size, 0, none⟩ = some (.int .i64 p.t) ∧ w'.cell? ⟨g, off + k * 2, none⟩ = some (.int .i64 x)) (fun _ => false) 12 (by rfl) (by kernel_rfl) ?_
    refine tKe 0 (v := ?_) S0.out ?_ ?_; rotate_left; focus (intro w hSw; (try dsimp only at hSw); go_simp; try with_reducible rfl)
    try simp only [Act.put, zQ1, zQ2, zQ3]
    refine tKe 1 (v := ?_) S0.out ?_ ?_; rotate_left; focus (intro w hSw; (try dsimp only at hSw); go_simp; try with_reducible rfl)
    try simp only [Act.put, zQ1, zQ2, zQ3]
    refine tKe 2 (v := ?_) S0.out ?_ ?_; rotate_left; focus (intro w hSw; (try dsimp only at hSw); go_simp; try with_reducible rfl)
    try simp only [Act.put, zQ1, zQ2, zQ3]
    refine sKi 3 ?_
    try simp only [Act.put, zQ1, zQ2, zQ3]
    refine sKi 4 ?_
    try simp only [Act.put, zQ1, zQ2, zQ3]
    refine sKi 5 ?_
    try simp only [Act.put, zQ1, zQ2, zQ3]
    refine sKi 6 ?_
    try simp only [Act.put, zQ1, zQ2, zQ3]
    refine sKi 7 ?_
    try simp only [Act.put, zQ1, zQ2, zQ3]
    refine sKi 8 ?_
    try simp only [Act.put, zQ1, zQ2, zQ3]
    refine sKi 9 ?_
    try simp only [Act.put, zQ1, zQ2, zQ3]
    refine sKi 10 ?_
    try simp only [Act.put, zQ1, zQ2, zQ3]
    refine tKe 11 (v := ?_) S0.out ?_ ?_; rotate_left; focus (intro w hSw; (try dsimp only at hSw); go_simp; try with_reducible rfl)
    try simp only [Act.put, zQ1, zQ2, zQ3]
    refine until_done (by kernel_rfl) ?_ _
    clear S0
    generalize wr.drew = wa at *
    have S0 : Hid (wa.drew.cell? ⟨w.heap.size, 0, none⟩ = some (.int .i64 p.t) ∧ wa.drew.cell? ⟨g, off + k * 2, none⟩ = some (.int .i64 x)) := ⟨KA.out.cell 0 _ rfl, (BA.out.cell (p := ⟨_, _, none⟩) HG.out).trans HC1.out⟩
    have Ba : Hid (Below w.heap.size w wa.drew) := BA.out.drew
    have Ka : Hid (Blk wa.drew w.heap.size #[.int .i64 p.t, .int .i64 p.v] 90) := KA.out
    have Oa : Hid (Owns wa.drew (w.heap.size + 1) 90 2 u5 (ptR o)) := OA.out.on (Below.refl _ wa).drew
    have Za : w.heap.size + 1 ≤ wa.drew.heap.size := KA.out.lt
    go_wp2_with fail
    refine wp_region_until (fun w' => w'.cell? ⟨w.heap.size, 0, none⟩ = some (.int .i64 p.t) ∧ w'.cell? ⟨g, off + k * 2, none⟩ = some (.int .i64 x)) (fun _ => false) 8 (by rfl) (by kernel_rfl) ?_
    refine tKe 0 (v := ?_) S0.out ?_ ?_; rotate_left; focus (intro w hSw; (try dsimp only at hSw); go_simp; try with_reducible rfl)
    try simp only [Act.put, zQ1, zQ2, zQ3]
    refine tKe 1 (v := ?_) S0.out ?_ ?_; rotate_left; focus (intro w hSw; (try dsimp only at hSw); go_simp; try with_reducible rfl)
    try simp only [Act.put, zQ1, zQ2, zQ3]
    refine tKe 2 (v := ?_) S0.out ?_ ?_; rotate_left; focus (intro w hSw; (try dsimp only at hSw); go_simp; try with_reducible rfl)
    try simp only [Act.put, zQ1, zQ2, zQ3]
    refine tKe 3 (v := ?_) S0.out ?_ ?_; rotate_left; focus (intro w hSw; (try dsimp only at hSw); go_simp; try with_reducible rfl)
    try simp only [Act.put, zQ1, zQ2, zQ3]
    refine tKe 4 (v := ?_) S0.out ?_ ?_; rotate_left; focus (intro w hSw; (try dsimp only at hSw); go_simp; try with_reducible rfl)
    try simp only [Act.put, zQ1, zQ2, zQ3]
    refine tKe 5 (v := ?_) S0.out ?_ ?_; rotate_left; focus (intro w hSw; (try dsimp only at hSw); go_simp; try with_reducible rfl)
    try simp only [Act.put, zQ1, zQ2, zQ3]
    refine tKe 6 (v := ?_) S0.out ?_ ?_; rotate_left; focus (intro w hSw; (try dsimp only at hSw); go_simp; try with_reducible rfl)
    try simp only [Act.put, zQ1, zQ2, zQ3]
    refine tKe 7 (v := ?_) S0.out ?_ ?_; rotate_left; focus (intro w hSw; (try dsimp only at hSw); go_simp; try with_reducible rfl)
    try simp only [Act.put, zQ1, zQ2, zQ3]
    refine until_done (by kernel_rfl) ?_ _
    clear S0
    generalize wa.drew = Xa at *
    by_cases hne : x = p.t
    ·have E9 : Hid (putS l p (k + 1) = (o, true)) := by unfold Hid; rw [HP.out, if_pos hne]
     go_wp2_with fail
     go_roundw
     case rel => exact ⟨k + 1, by omega, by go_num, by rw [E9.out], by rw [E9.out]; exact Oa.out, Ka.out, Ba.out⟩
     case measure => simp [intOf]; omega
    ·have E9 : Hid (putS l p (k + 1) = (o ++ [q], true)) := by unfold Hid; rw [HP.out, if_neg hne]
     have g1 := (Ba.out.cell (p := ⟨g, off + k * 2, none⟩) HG.out).trans HC1.out
     have g2 := (Ba.out.cell (p := ⟨g, off + k * 2 + 1, none⟩) HG.out).trans HC2.out
     have L9 : Hid ((ptR o).length ≤ 2097152) := by unfold Hid; rw [ptR_length]; have := HLN.out; omega
     go_wp2_with (at_builtin; refine wpList_append_row (w := Xa) rfl (.tmp 39) (.tmp 44) 48 90 (.agg #[.int .i64 0, .int .i64 0]) 2 16 rfl Tryz.underlying48 Tryz.infoPt rfl (by omega) (w.heap.size + 1) u5 (ptR o) rfl Oa.out [.int .i64 x, .int .i64 y] rfl (pt_cells _ _) rfl L9.out (by omega) Za ?_; intro u' w8 hO8 hb8 hk8 _)
     have O8 : Hid (Owns w8 (w.heap.size + 1) 90 2 u' (ptR (o ++ [q]))) := by unfold Hid; rw [ptR_snoc', HQ.out.1, HQ.out.2]; exact hO8
     have B8 : Hid (Below w.heap.size w w8) := Ba.out.trans (hb8.mono (by omega))
     have K8 : Hid (Blk w8 w.heap.size #[.int .i64 p.t, .int .i64 p.v] 90) := Ka.out.on hb8 (by omega)
     clear hO8 hb8 hk8 g1 g2
     go_wp2_with fail
     go_roundw
     case rel => exact ⟨k + 1, by omega, by go_num, by rw [E9.out], by rw [E9.out]; exact O8.out, K8.out, B8.out⟩
     case measure => simp [intOf]; omega
   | false =>
    have S0 : Hid (wr.drew.cell? ⟨w.heap.size, 0, none⟩ = some (.int .i64 p.t) ∧ wr.drew.cell? ⟨g, off + k * 2, none⟩ = some (.int .i64 x)) := ⟨HK.out.cell 0 _ rfl, (HB1.out.cell (p := ⟨_, _, none⟩) HG.out).trans HC1.out⟩
    have BA : Hid (Below w.heap.size w wr.drew) := HB1.out.drew
    have KA : Hid (Blk wr.drew w.heap.size #[.int .i64 p.t, .int .i64 p.v] 90) := HK.out
    have OA : Hid (Owns wr.drew (w.heap.size + 1) 90 2 u5 (ptR o)) := HO.out.on (Below.refl _ wr).drew
    have ZA : w.heap.size + 1 ≤ wr.drew.heap.size := HK.out.lt
    go_wp2_with fail
    refine wp_region_until (fun w' => w'.cell? ⟨w.heap.size, 0, none⟩ = some (.int .i64 p.t) ∧ w'.cell? ⟨g, off + k * 2, none⟩ = some (.int .i64 x)) (fun _ => false) 12 (by rfl) (by kernel_rfl) ?_
    refine tKe 0 (v := ?_) S0.out ?_ ?_; rotate_left; focus (intro w hSw; (try dsimp only at hSw); go_simp; try with_reducible rfl)
    try simp only [Act.put, zQ1, zQ2, zQ3]
    refine tKe 1 (v := ?_) S0.out ?_ ?_; rotate_left; focus (intro w hSw; (try dsimp only at hSw); go_simp; try with_reducible rfl)
    try simp only [Act.put, zQ1, zQ2, zQ3]
    refine tKe 2 (v := ?_) S0.out ?_ ?_; rotate_left; focus (intro w hSw; (try dsimp only at hSw); go_simp; try with_reducible rfl)
    try simp only [Act.put, zQ1, zQ2, zQ3]
    refine tKe 3 (v := ?_) S0.out ?_ ?_; rotate_left; focus (intro w hSw; (try dsimp only at hSw); go_simp; try with_reducible rfl)
    try simp only [Act.put, zQ1, zQ2, zQ3]
    refine tKe 4 (v := ?_) S0.out ?_ ?_; rotate_left; focus (intro w hSw; (try dsimp only at hSw); go_simp; try with_reducible rfl)
    try simp only [Act.put, zQ1, zQ2, zQ3]
    refine tKe 5 (v := ?_) S0.out ?_ ?_; rotate_left; focus (intro w hSw; (try dsimp only at hSw); go_simp; try with_reducible rfl)
    try simp only [Act.put, zQ1, zQ2, zQ3]
    refine tKe 6 (v := ?_) S0.out ?_ ?_; rotate_left; focus (intro w hSw; (try dsimp only at hSw); go_simp; try with_reducible rfl)
    try simp only [Act.put, zQ1, zQ2, zQ3]
    refine tKe 7 (v := ?_) S0.out ?_ ?_; rotate_left; focus (intro w hSw; (try dsimp only at hSw); go_simp; try with_reducible rfl)
    try simp only [Act.put, zQ1, zQ2, zQ3]
    refine tKe 8 (v := ?_) S0.out ?_ ?_; rotate_left; focus (intro w hSw; (try dsimp only at hSw); go_simp; try with_reducible rfl)
    try simp only [Act.put, zQ1, zQ2, zQ3]
    refine tKe 9 (v := ?_) S0.out ?_ ?_; rotate_left; focus (intro w hSw; (try dsimp only at hSw); go_simp; try with_reducible rfl)
    try simp only [Act.put, zQ1, zQ2, zQ3]
    refine tKe 10 (v := ?_) S0.out ?_ ?_; rotate_left; focus (intro w hSw; (try dsimp only at hSw); go_simp; try with_reducible rfl)
    try simp only [Act.put, zQ1, zQ2, zQ3]
    refine tKe 11 (v := ?_) S0.out ?_ ?_; rotate_left; focus (intro w hSw; (try dsimp only at hSw); go_simp; try with_reducible rfl)
    try simp only [Act.put, zQ1, zQ2, zQ3]
    refine until_done (by kernel_rfl) ?_ _
    clear S0
    generalize wr.drew = wa at *
    by_cases hle : p.t ≤ x
    ·have HP : Hid (putS l p (k + 1) = if x = p.t then (o ++ [p], true) else ((o ++ [p]) ++ [q], true)) := by
      unfold Hid
      rw [HSU.out]
      unfold stepF
      rw [HQ.out.1]
      simp [hle]
     have k1 := KA.out.cell 0 (.int .i64 p.t) rfl
     have k2 := KA.out.cell 1 (.int .i64 p.v) rfl
     have L8 : Hid ((ptR o).length ≤ 2097152) := by unfold Hid; rw [ptR_length]; have := HLN.out; omega
     go_wp2_with (at_builtin; refine wpList_append_row (w := wa) rfl (.tmp 27) (.tmp 29) 48 90 (.agg #[.int .i64 0, .int .i64 0]) 2 16 rfl Tryz.underlying48 Tryz.infoPt rfl (by omega) (w.heap.size + 1) u5 (ptR o) rfl OA.out [.int .i64 p.t, .int .i64 p.v] rfl (pt_cells _ _) rfl L8.out (by omega) ZA ?_; intro ua w7 hO7 hb7 hk7 _)
     have O7 : Hid (Owns w7 (w.heap.size + 1) 90 2 ua (ptR (o ++ [p]))) := by unfold Hid; rw [ptR_snoc']; exact hO7
     have B7 : Hid (Below w.heap.size w w7) := BA.out.trans (hb7.mono (by omega))
     have K7 : Hid (Blk w7 w.heap.size #[.int .i64 p.t, .int .i64 p.v] 90) := KA.out.on hb7 (by omega)
     clear hO7 hb7 hk7 k1 k2 OA BA KA ZA
     have S0 : Hid (w7.drew.cell? ⟨w.heap.size, 0, none⟩ = some (.int .i64 p.t) ∧ w7.drew.cell? ⟨g, off + k * 2, none⟩ = some (.int .i64 x)) := ⟨K7.out.cell 0 _ rfl, (B7.out.cell (p := ⟨_, _, none⟩) HG.out).trans HC1.out⟩
     have Bb : Hid (Below w.heap.size w w7.drew) := B7.out.drew
     have Kb : Hid (Blk w7.drew w.heap.size #[.int .i64 p.t, .int .i64 p.v] 90) := K7.out
     have Ob : Hid (Owns w7.drew (w.heap.size + 1) 90 2 ua (ptR (o ++ [p]))) := O7.out.on (Below.refl _ w7).drew
     have Zb : w.heap.size + 1 ≤ w7.drew.heap.size := K7.out.lt
     go_wp2_with fail
     refine wp_region_until (fun w' => w'.cell? ⟨w.heap.size, 0, none⟩ = some (.int .i64 p.t) ∧ w'.cell? ⟨g, off + k * 2, none⟩ = some (.int .i64 x)) (fun _ => false) 8 (by rfl) (by kernel_rfl) ?_
     refine tKe 0 (v := ?_) S0.out ?_ ?_; rotate_left; focus (intro w hSw; (try dsimp only at hSw); go_simp; try with_reducible rfl)
     try simp only [Act.put, zQ1, zQ2, zQ3]
     refine tKe 1 (v := ?_) S0.out ?_ ?_; rotate_left; focus (intro w hSw; (try dsimp only at hSw); go_simp; try with_reducible rfl)
     try simp only [Act.put, zQ1, zQ2, zQ3]
     refine tKe 2 (v := ?_) S0.out ?_ ?_; rotate_left; focus (intro w hSw; (try dsimp only at hSw); go_simp; try with_reducible rfl)
     try simp only [Act.put, zQ1, zQ2, zQ3]
     refine tKe 3 (v := ?_) S0.out ?_ ?_; rotate_left; focus (intro w hSw; (try dsimp only at hSw); go_simp; try with_reducible rfl)
     try simp only [Act.put, zQ1, zQ2, zQ3]
     refine tKe 4 (v := ?_) S0.out ?_ ?_; rotate_left; focus (intro w hSw; (try dsimp only at hSw); go_simp; try with_reducible rfl)
     try simp only [Act.put, zQ1, zQ2, zQ3]
     refine tKe 5 (v := ?_) S0.out ?_ ?_; rotate_left; focus (intro w hSw; (try dsimp only at hSw); go_simp; try with_reducible rfl)
     try simp only [Act.put, zQ1, zQ2, zQ3]
     refine tKe 6 (v := ?_) S0.out ?_ ?_; rotate_left; focus (intro w hSw; (try dsimp only at hSw); go_simp; try with_reducible rfl)
     try simp only [Act.put, zQ1, zQ2, zQ3]
     refine tKe 7 (v := ?_) S0.out ?_ ?_; rotate_left; focus (intro w hSw; (try dsimp only at hSw); go_simp; try with_reducible rfl)
     try simp only [Act.put, zQ1, zQ2, zQ3]
     refine until_done (by kernel_rfl) ?_ _
     clear S0
     generalize w7.drew = Xb at *
     by_cases hne : x = p.t
     ·have E9 : Hid (putS l p (k + 1) = ((o ++ [p]), true)) := by unfold Hid; rw [HP.out, if_pos hne]
      go_wp2_with fail
      go_roundw
      case rel => exact ⟨k + 1, by omega, by go_num, by rw [E9.out], by rw [E9.out]; exact Ob.out, Kb.out, Bb.out⟩
      case measure => simp [intOf]; omega
     ·have E9 : Hid (putS l p (k + 1) = ((o ++ [p]) ++ [q], true)) := by unfold Hid; rw [HP.out, if_neg hne]
      have g1 := (Bb.out.cell (p := ⟨g, off + k * 2, none⟩) HG.out).trans HC1.out
      have g2 := (Bb.out.cell (p := ⟨g, off + k * 2 + 1, none⟩) HG.out).trans HC2.out
      have L9 : Hid ((ptR (o ++ [p])).length ≤ 2097152) := by unfold Hid; rw [ptR_length]; have := HLN2.out; omega
      go_wp2_with (at_builtin; refine wpList_append_row (w := Xb) rfl (.tmp 39) (.tmp 44) 48 90 (.agg #[.int .i64 0, .int .i64 0]) 2 16 rfl Tryz.underlying48 Tryz.infoPt rfl (by omega) (w.heap.size + 1) ua (ptR (o ++ [p])) rfl Ob.out [.int .i64 x, .int .i64 y] rfl (pt_cells _ _) rfl L9.out (by omega) Zb ?_; intro u' w8 hO8 hb8 hk8 _)
      have O8 : Hid (Owns w8 (w.heap.size + 1) 90 2 u' (ptR ((o ++ [p]) ++ [q]))) := by unfold Hid; rw [ptR_snoc', HQ.out.1, HQ.out.2]; exact hO8
      have B8 : Hid (Below w.heap.size w w8) := Bb.out.trans (hb8.mono (by omega))
      have K8 : Hid (Blk w8 w.heap.size #[.int .i64 p.t, .int .i64 p.v] 90) := Kb.out.on hb8 (by omega)
      clear hO8 hb8 hk8 g1 g2
      go_wp2_with fail
      go_roundw
      case rel => exact ⟨k + 1, by omega, by go_num, by rw [E9.out], by rw [E9.out]; exact O8.out, K8.out, B8.out⟩
      case measure => simp [intOf]; omega
    ·have HP : Hid (putS l p (k + 1) = if x = p.t then (o, false) else (o ++ [q], false)) := by
      unfold Hid
      rw [HSU.out]
      unfold stepF
      rw [HQ.out.1]
      simp [hle]
     have dle : decide (p.t ≤ x) = false := decide_eq_false hle
     have S0 : Hid (wa.drew.cell? ⟨w.heap.size, 0, none⟩ = some (.int .i64 p.t) ∧ wa.drew.cell? ⟨g, off + k * 2, none⟩ = some (.int .i64 x)) := ⟨KA.out.cell 0 _ rfl, (BA.out.cell (p := ⟨_, _, none⟩) HG.out).trans HC1.out⟩
     have Bc : Hid (Below w.heap.size w wa.drew) := BA.out.drew
     have Kc : Hid (Blk wa.drew w.heap.size #[.int .i64 p.t, .int .i64 p.v] 90) := KA.out
     have Oc : Hid (Owns wa.drew (w.heap.size + 1) 90 2 u5 (ptR o)) := OA.out.on (Below.refl _ wa).drew
     have Zc : w.heap.size + 1 ≤ wa.drew.heap.size := KA.out.lt
     go_wp2_with fail
     refine wp_region_until (fun w' => w'.cell? ⟨w.heap.size, 0, none⟩ = some (.int .i64 p.t) ∧ w'.cell? ⟨g, off + k * 2, none⟩ = some (.int .i64 x)) (fun _ => false) 8 (by rfl) (by kernel_rfl) ?_
     refine tKe 0 (v := ?_) S0.out ?_ ?_; rotate_left; focus (intro w hSw; (try dsimp only at hSw); go_simp; try with_reducible rfl)
     try simp only [Act.put, zQ1, zQ2, zQ3]
     refine tKe 1 (v := ?_) S0.out ?_ ?_; rotate_left; focus (intro w hSw; (try dsimp only at hSw); go_simp; try with_reducible rfl)
     try simp only [Act.put, zQ1, zQ2, zQ3]
     refine tKe 2 (v := ?_) S0.out ?_ ?_; rotate_left; focus (intro w hSw; (try dsimp only at hSw); go_simp; try with_reducible rfl)
     try simp only [Act.put, zQ1, zQ2, zQ3]
     refine tKe 3 (v := ?_) S0.out ?_ ?_; rotate_left; focus (intro w hSw; (try dsimp only at hSw); go_simp; try with_reducible rfl)
     try simp only [Act.put, zQ1, zQ2, zQ3]
     refine tKe 4 (v := ?_) S0.out ?_ ?_; rotate_left; focus (intro w hSw; (try dsimp only at hSw); go_simp; try with_reducible rfl)
     try simp only [Act.put, zQ1, zQ2, zQ3]
     refine tKe 5 (v := ?_) S0.out ?_ ?_; rotate_left; focus (intro w hSw; (try dsimp only at hSw); go_simp; try with_reducible rfl)
     try simp only [Act.put, zQ1, zQ2, zQ3]
     refine tKe 6 (v := ?_) S0.out ?_ ?_; rotate_left; focus (intro w hSw; (try dsimp only at hSw); go_simp; try with_reducible rfl)
     try simp only [Act.put, zQ1, zQ2, zQ3]
     refine tKe 7 (v := ?_) S0.out ?_ ?_; rotate_left; focus (intro w hSw; (try dsimp only at hSw); go_simp; try with_reducible rfl)
     try simp only [Act.put, zQ1, zQ2, zQ3]
     refine until_done (by kernel_rfl) ?_ _
     clear S0
     generalize wa.drew = Xc at *
     by_cases hne : x = p.t
     ·omega
     ·have E9 : Hid (putS l p (k + 1) = (o ++ [q], false)) := by unfold Hid; rw [HP.out, if_neg hne]
      have g1 := (Bc.out.cell (p := ⟨g, off + k * 2, none⟩) HG.out).trans HC1.out
      have g2 := (Bc.out.cell (p := ⟨g, off + k * 2 + 1, none⟩) HG.out).trans HC2.out
      have L9 : Hid ((ptR o).length ≤ 2097152) := by unfold Hid; rw [ptR_length]; have := HLN.out; omega
      go_wp2_with (at_builtin; refine wpList_append_row (w := Xc) rfl (.tmp 39) (.tmp 44) 48 90 (.agg #[.int .i64 0, .int .i64 0]) 2 16 rfl Tryz.underlying48 Tryz.infoPt rfl (by omega) (w.heap.size + 1) u5 (ptR o) rfl Oc.out [.int .i64 x, .int .i64 y] rfl (pt_cells _ _) rfl L9.out (by omega) Zc ?_; intro u' w8 hO8 hb8 hk8 _)
      have O8 : Hid (Owns w8 (w.heap.size + 1) 90 2 u' (ptR (o ++ [q]))) := by unfold Hid; rw [ptR_snoc', HQ.out.1, HQ.out.2]; exact hO8
      have B8 : Hid (Below w.heap.size w w8) := Bc.out.trans (hb8.mono (by omega))
      have K8 : Hid (Blk w8 w.heap.size #[.int .i64 p.t, .int .i64 p.v] 90) := Kc.out.on hb8 (by omega)
      clear hO8 hb8 hk8 g1 g2
      go_wp2_with fail
      go_roundw
      case rel => exact ⟨k + 1, by omega, by go_num, by rw [E9.out], by rw [E9.out]; exact O8.out, K8.out, B8.out⟩
      case measure => simp [intOf]; omega
  ·obtain rfl : k = n := by omega
   generalize putS l p k = s at *
   obtain ⟨o, f⟩ := s
   simp only at HO HLN HPL
   cases f with
   | true =>
    go_wp2_with fail
    go_ret
    exact ⟨⟨_, rfl, by rw [HPL.out]; exact HO.out.mono (by omega)⟩, HB1.out⟩
   | false =>
    have k1 := HK.out.cell 0 (.int .i64 p.t) rfl
    have k2 := HK.out.cell 1 (.int .i64 p.v) rfl
    have ZA : w.heap.size + 1 ≤ wr.heap.size := HK.out.lt
    have L8 : Hid ((ptR o).length ≤ 2097152) := by unfold Hid; rw [ptR_length]; have := HLN.out; omega
    go_wp2_with (at_builtin; refine wpList_append_row (w := wr) rfl (.tmp 48) (.tmp 50) 48 90 (.agg #[.int .i64 0, .int .i64 0]) 2 16 rfl Tryz.underlying48 Tryz.infoPt rfl (by omega) (w.heap.size + 1) u5 (ptR o) rfl HO.out [.int .i64 p.t, .int .i64 p.v] rfl (pt_cells _ _) rfl L8.out (by omega) ZA ?_; intro ua w7 hO7 hb7 hk7 _)
    have O7 : Hid (Owns w7 (w.heap.size + 1) 90 2 ua (ptR (o ++ [p]))) := by unfold Hid; rw [ptR_snoc']; exact hO7
    have B7 : Hid (Below w.heap.size w w7) := HB1.out.trans (hb7.mono (by omega))
    clear hO7 hb7 hk7 k1 k2
    go_wp2_with fail
    go_ret
    exact ⟨⟨_, rfl, by rw [HPL.out]; exact O7.out.mono (by omega)⟩, B7.out⟩
end Go.Proofs.YtikknmoeefipmaaGreatDoor
namespace Go.Proofs.YtikknmoeefipmaaGreatDoor
open Go.ChangeShapes Go.WideShapes Go.ChangeAt Go.RowKit Go.PlainAid
set_option linter.unusedVariables false
theorem mrg_snoc (a b : List Pnt) (k : Nat) (h : k < b.length) : mrg a (b.take (k + 1)) = putP (mrg a (b.take k)) (b.getD k default) := by
 unfold mrg
 rw [take_getD b k h, List.foldl_append]
 rfl
set_option maxHeartbeats 2000000 in
theorem specMergeL (a b : List Pnt) (va vb : Value) (w : World) (B : Nat) (ha : Lies w B 2 va (ptR a)) (hb : Lies w B 2 vb (ptR b)) (hn : a.length + b.length ≤ 1048576) (hB : B ≤ w.heap.size) : Calls Tryz.prog 115 #[va, vb] w fun e w' => (∃ u, e = .returned u ∧ Owns w' w.heap.size 90 2 u (ptR (mrg a b))) ∧ Below w.heap.size w w' := by
 have HA : Hid (Lies w B 2 va (ptR a)) := ha
 obtain ⟨A', cap', rfl, _⟩ := pt_look ha
 obtain ⟨A, cap, rfl, hl⟩ := pt_look hb
 have HL : Hid (∀ j, j < b.length → ∃ g off, A = some ⟨g, off, none⟩ ∧ g < B ∧ w.cell? ⟨g, off + j * 2, none⟩ = some (.int .i64 (tAt b j)) ∧ w.cell? ⟨g, off + j * 2 + 1, none⟩ = some (.int .i64 (vAt b j))) := hl
 have HB : Hid (B ≤ w.heap.size) := hB
 have HN : Hid (a.length + b.length ≤ 1048576) := hn
 have q0 : (b.length : Int) ≤ 1048576 := by omega
 have L1 : Hid (([] : List (List Value)).length + (ptR a).length ≤ 2097152) := by unfold Hid; rw [ptR_length]; simp; omega
 have hE := Owns.empty w w.heap.size 90 2 (Nat.le_refl _)
 have HE : Hid (Owns (w.alloc (.cells #[] 90)) w.heap.size 90 2 (.slice (some ⟨w.heap.size, 0, none⟩) 0 0) []) := hE
 have hb0 : Below w.heap.size w (w.alloc (.cells #[] 90)) := (Below.refl _ _).alloc (Nat.le_refl _) _
 have HA2 : Hid (Lies (w.alloc (.cells #[] 90)) B 2 (.slice A' a.length cap') (ptR a)) := HA.out.on (hb0.mono HB.out)
 have Z2 : Hid (w.heap.size ≤ (w.alloc (.cells #[] 90)).heap.size) := hb0.size
 have B0 : Hid (Below w.heap.size w (w.alloc (.cells #[] 90))) := hb0
 clear hl hn ha hb hB hE hb0
 go_enter Tryz.func115, Tryz.ntmps115
 go_wp2_with (at_builtin; refine wpList_append_all (w := w.alloc (.cells #[] 90)) rfl (.tmp 7) (.tmp 8) 48 90 (.agg #[.int .i64 0, .int .i64 0]) 2 16 rfl Tryz.underlying48 Tryz.infoPt rfl (by omega) w.heap.size (.slice (some ⟨w.heap.size, 0, none⟩) 0 0) (.slice A' a.length cap') [] (ptR a) B rfl HE.out HA2.out (pt_one a) rfl L1.out (by omega) Z2.out ?_; intro u1 w1 hO1 hb1 _ _)
 have O1 : Hid (Owns w1 w.heap.size 90 2 u1 (ptR a)) := hO1
 have B1 : Hid (Below w.heap.size w w1) := B0.out.trans hb1
 clear hO1 hb1 HE HA2 B0 Z2
 go_wp2_with fail
 generalize hM : b.length = n at *
 go_loopw [5, 6] (fun v5 v6 wr => ∃ k : Nat, k ≤ n ∧ v6 = .int .i64 (k : Int) ∧ Owns wr w.heap.size 90 2 v5 (ptR (mrg a (b.take k))) ∧ Below w.heap.size w wr) (fun _ i _ => n - (intOf i).toNat)
 case atStart => exact ⟨0, by omega, rfl, by rw [List.take_zero]; exact O1.out, B1.out⟩
 case round =>
  obtain ⟨k, hk, rfl, hO, hb⟩ := hrel
  have HO : Hid (Owns wr w.heap.size 90 2 u5 (ptR (mrg a (b.take k)))) := hO
  have HB1 : Hid (Below w.heap.size w wr) := hb
  clear hO hb
  by_cases hlt : k < n
  ·have q2 : (k : Int) < (n : Int) := by omega
   obtain ⟨g, off, rfl, hg, e1, e2⟩ := HL.out k hlt
   have hgw : g < w.heap.size := Nat.lt_of_lt_of_le hg HB.out
   rw [← HB1.out.cell (p := ⟨_, _, none⟩) hgw] at e1
   rw [← HB1.out.cell (p := ⟨_, _, none⟩) hgw] at e2
   have HS : Hid (mrg a (b.take (k + 1)) = putP (mrg a (b.take k)) (b.getD k default)) := mrg_snoc a b k (by omega)
   have hln : (mrg a (b.take k)).length ≤ 1048576 := by
    have h1 := mrg_length (b.take k) a
    rw [List.length_take] at h1
    have := HN.out
    omega
   have c1 := specPut (mrg a (b.take k)) (b.getD k default) u5 wr wr.heap.size HO.out.lies hln (Nat.le_refl _)
   rw [putL_eq, ← HS.out] at c1
   unfold vPt at c1
   rw [show (b.getD k default).t = tAt b k from rfl, show (b.getD k default).v = vAt b k from rfl] at c1
   generalize tAt b k = x at *
   generalize vAt b k = y at *
   obtain ⟨A5, m5, k5, rfl⟩ := HO.out.shape
   clear hgw hg hln
   go_wp2_with fail
   refine c1.mono ?_
   rintro e w4 ⟨⟨u', rfl, hO4⟩, hb4⟩
   have HB4 : Hid (Below w.heap.size w w4) := HB1.out.trans (hb4.mono HB1.out.size)
   have HO4 : Hid (Owns w4 w.heap.size 90 2 u' (ptR (mrg a (b.take (k + 1))))) := hO4.mono HB1.out.size
   clear hO4 hb4
   go_wp2_with fail
   go_roundw
   case rel => exact ⟨k + 1, by omega, by go_num, HO4.out, HB4.out⟩
   case measure => simp [intOf]; omega
  ·obtain rfl : k = n := by omega
   go_wp2_with fail
   go_ret
   refine ⟨⟨_, rfl, ?_⟩, HB1.out⟩
   have := HO.out
   rw [← hM, List.take_length] at this
   exact this
end Go.Proofs.YtikknmoeefipmaaGreatDoor
namespace Go.Proofs.YtikknmoeefipmaaGreatDoor
open Go.RowKit Go.PlainAid
def noT (l : List Pnt) (p : Pnt) : Bool := l.all fun q => decide (q.t ≠ p.t)
theorem noT_iff (l : List Pnt) (p : Pnt) : noT l p = true ↔ ∀ q ∈ l, q.t ≠ p.t := by simp [noT]
theorem noT_cons (y : Pnt) (l : List Pnt) (p : Pnt) (h : y.t ≠ p.t) : noT (y :: l) p = noT l p := by simp [noT, h]
theorem filter_same {α : Type} (f g : α → Bool) : ∀ l : List α, (∀ x ∈ l, f x = g x) → l.filter f = l.filter g
 | [], _ => rfl
 | x :: l, h => by
  have h1 := h x (by simp)
  have h2 := filter_same f g l fun y hy => h y (by simp [hy])
  rw [List.filter_cons, List.filter_cons, h1, h2]
theorem mrg_count : ∀ (n : Nat) (a b : List Pnt), a.length + b.length ≤ n → Rising a → Rising b → (mrg a b).length = b.length + (a.filter (noT b)).length
 | _, [], b, _, _, hb => by rw [mrg_nil_left b hb]; simp
 | _, x :: a, [], _, _, _ => by
  have : (x :: a).filter (noT []) = x :: a := List.filter_eq_self.2 fun p _ => rfl
  rw [this]
  simp [mrg]
 | 0, x :: a, y :: b, h, _, _ => by simp at h
 | n + 1, x :: a, y :: b, h, ha, hb => by
  have ha' := List.pairwise_cons.1 ha
  have hb' := List.pairwise_cons.1 hb
  simp only [List.length_cons] at h
  by_cases h1 : x.t < y.t
  ·have hx : noT (y :: b) x = true := (noT_iff _ _).2 fun q hq => by
    rcases List.mem_cons.1 hq with e | hq
    ·subst e; omega
    ·have := hb'.1 q hq; omega
   rw [mrg_less ha hb h1, List.filter_cons, if_pos hx, List.length_cons, mrg_count n a (y :: b) (by simp only [List.length_cons]; omega) ha'.2 hb]
   simp only [List.length_cons]
   omega
  ·by_cases h2 : x.t = y.t
   ·have hx : noT (y :: b) x = false := by
     cases e : noT (y :: b) x with
     | false => rfl
     | true => exact absurd h2.symm ((noT_iff _ _).1 e y (by simp))
    have hs : a.filter (noT (y :: b)) = a.filter (noT b) := filter_same _ _ a fun p hp => noT_cons y b p (by have := ha'.1 p hp; omega)
    rw [mrg_same ha hb h2, List.filter_cons, hx, hs, List.length_cons, mrg_count n a b (by omega) ha'.2 hb'.2]
    simp only [List.length_cons, Bool.false_eq_true, if_false]
    omega
   ·have h3 : y.t < x.t := by omega
    have hs : (x :: a).filter (noT (y :: b)) = (x :: a).filter (noT b) := filter_same _ _ (x :: a) fun p hp => noT_cons y b p (by
     rcases List.mem_cons.1 hp with e | hp
     ·subst e; omega
     ·have := ha'.1 p hp; omega)
    rw [mrg_more ha hb h3, hs, List.length_cons, mrg_count n (x :: a) b (by simp only [List.length_cons]; omega) ha hb'.2]
    simp only [List.length_cons]
    omega
theorem mrg_assoc {a b c : List Pnt} (ha : Rising a) (hb : Rising b) (hc : Rising c) : mrg (mrg a b) c = mrg a (mrg b c) := by
 have hbc := rising_mrg c b hb
 refine rising_ext (rising_mrg _ _ (rising_mrg _ _ ha)) (rising_mrg _ _ ha) fun p => ?_
 rw [mem_mrg p c _ hc, mem_mrg p b a hb, mem_mrg p (mrg b c) a hbc, mem_mrg p c b hc]
 constructor
 ·rintro (h | ⟨h | ⟨h1, h2⟩, h3⟩)
  ·exact .inl (.inl h)
  ·exact .inl (.inr ⟨h, h3⟩)
  ·refine .inr ⟨h1, fun q hq => ?_⟩
   rcases (mem_mrg q c b hc).1 hq with h4 | ⟨h4, _⟩
   ·exact h3 q h4
   ·exact h2 q h4
 ·rintro ((h | ⟨h, h3⟩) | ⟨h1, h2⟩)
  ·exact .inl h
  ·exact .inr ⟨.inl h, h3⟩
  ·by_cases hx : ∃ q ∈ c, q.t = p.t
   ·obtain ⟨q, hq, e⟩ := hx
    exact absurd e (h2 q ((mem_mrg q c b hc).2 (.inl hq)))
   ·have hx' : ∀ q ∈ c, q.t ≠ p.t := fun q hq e => hx ⟨q, hq, e⟩
    refine .inr ⟨.inr ⟨h1, fun q hq e => h2 q ((mem_mrg q c b hc).2 (.inr ⟨hq, fun r hr e2 => hx' r hr (by omega)⟩)) e⟩, hx'⟩
end Go.Proofs.YtikknmoeefipmaaGreatDoor
namespace Go.Proofs.YtikknmoeefipmaaGreatDoor
open Go.RowKit Go.PlainAid
def KOk (s : ByteArray) : Prop := 1 ≤ s.size ∧ s.size ≤ 8 ∧ ∀ j, j < s.size → 97 ≤ bn s j ∧ bn s j ≤ 122
def ahd (a b : ByteArray) : Bool := Op.bytesLess a.toList b.toList
theorem less_irrefl : ∀ a : List UInt8, Op.bytesLess a a = false
 | [] => rfl
 | a :: x => by
  unfold Op.bytesLess
  rw [less_irrefl x]
  simp
theorem less_cons (a b : UInt8) (x y : List UInt8) : Op.bytesLess (a :: x) (b :: y) = true ↔ a < b ∨ (a = b ∧ Op.bytesLess x y = true) := by
 rw [Op.bytesLess]
 simp
theorem less_trans : ∀ {a b c : List UInt8}, Op.bytesLess a b = true → Op.bytesLess b c = true → Op.bytesLess a c = true
 | _, _, [], _, h => by
  unfold Op.bytesLess at h
  cases h
 | [], _, _ :: _, _, _ => rfl
 | _ :: _, [], _ :: _, h, _ => by
  unfold Op.bytesLess at h
  cases h
 | a :: x, b :: y, c :: z, h, k => by
  rw [less_cons] at h k ⊢
  rcases h with h | ⟨rfl, h⟩
  ·rcases k with k | ⟨rfl, k⟩
   ·exact .inl (UInt8.lt_trans h k)
   ·exact .inl h
  ·rcases k with k | ⟨rfl, k⟩
   ·exact .inl k
   ·exact .inr ⟨rfl, less_trans h k⟩
theorem less_tri : ∀ {a b : List UInt8}, Op.bytesLess a b = false → Op.bytesLess b a = false → a = b
 | [], [], _, _ => rfl
 | [], _ :: _, h, _ => by
  unfold Op.bytesLess at h
  cases h
 | _ :: _, [], _, h => by
  unfold Op.bytesLess at h
  cases h
 | a :: x, b :: y, h, k => by
  have h' : ¬ (a < b ∨ (a = b ∧ Op.bytesLess x y = true)) := fun e => by
   rw [← less_cons, h] at e
   cases e
  have k' : ¬ (b < a ∨ (b = a ∧ Op.bytesLess y x = true)) := fun e => by
   rw [← less_cons, k] at e
   cases e
  have hab : a = b := by
   rcases Nat.lt_trichotomy a.toNat b.toNat with e | e | e
   ·exact absurd (.inl (UInt8.lt_iff_toNat_lt.2 e)) h'
   ·exact UInt8.toNat_inj.1 e
   ·exact absurd (.inl (UInt8.lt_iff_toNat_lt.2 e)) k'
  subst hab
  have h1 : Op.bytesLess x y = false := by
   cases e : Op.bytesLess x y with
   | false => rfl
   | true => exact absurd (.inr ⟨rfl, e⟩) h'
  have k1 : Op.bytesLess y x = false := by
   cases e : Op.bytesLess y x with
   | false => rfl
   | true => exact absurd (.inr ⟨rfl, e⟩) k'
  rw [less_tri h1 k1]
theorem ahd_irrefl (a : ByteArray) : ahd a a = false := less_irrefl _
theorem ahd_trans {a b c : ByteArray} (h : ahd a b = true) (k : ahd b c = true) : ahd a c = true := less_trans h k
theorem toList_inj {a b : ByteArray} (h : a.toList = b.toList) : a = b := by
 rw [Lib.toList_data, Lib.toList_data] at h
 rw [← txt_toList a, ← txt_toList b, h]
theorem ahd_yes {a b : ByteArray} (h : ahd a b = true) : Op.bytesLess b.toList a.toList = false ∧ (b.toList == a.toList) = false := by
 refine ⟨?_, ?_⟩
 ·cases e : Op.bytesLess b.toList a.toList with
  | false => rfl
  | true =>
   have := less_trans h e
   rw [less_irrefl] at this
   cases this
 ·rw [beq_eq_false_iff_ne]
  intro e
  unfold ahd at h
  rw [e, less_irrefl] at h
  cases h
theorem ahd_no {a b : ByteArray} (h : ahd a b = false) : Op.bytesLess b.toList a.toList = true ∨ b = a := by
 cases e : Op.bytesLess b.toList a.toList with
 | true => exact .inl rfl
 | false => exact .inr (toList_inj (less_tri e h))
theorem ahd_empty (s : ByteArray) (h : 1 ≤ s.size) : ahd ⟨#[]⟩ s = true := by
 unfold ahd
 have e : (ByteArray.mk #[]).toList = [] := by rw [Lib.toList_data]
 rw [e, Lib.toList_data]
 match hl : s.data.toList with
 | [] =>
  have : s.size = 0 := by rw [ByteArray.size, ← Array.length_toList, hl]; rfl
  omega
 | a :: l => rfl
def sAt (l : List Ser) (j : Nat) : Ser := l.getD j default
def SOk (l : List Ser) : Prop := l.length ≤ 5 ∧ ∀ j, j < l.length → (KOk (sAt l j).key ∧ (0 < j → ahd (sAt l (j - 1)).key (sAt l j).key = true)) ∧ 1 ≤ (sAt l j).pts.length ∧ POk (sAt l j).pts
instance (s : ByteArray) : Decidable (KOk s) := by unfold KOk; infer_instance
instance (l : List Ser) : Decidable (SOk l) := by unfold SOk; infer_instance
theorem SOk.nil : SOk [] := ⟨by simp, fun j hj => by simp at hj⟩
end Go.Proofs.YtikknmoeefipmaaGreatDoor
namespace Go.Proofs.YtikknmoeefipmaaGreatDoor
open Go.RowKit Go.PlainAid
theorem vvS_var (f n : Nat) (pre tl : List UInt8) (hn : n < 128 ^ (f + 1)) : vvS (txt (pre ++ vF f n ++ tl)) pre.length (vF f n).length = n := by
 induction f generalizing n pre with
 | zero =>
  simp at hn
  have e : (vF 0 n).length = 1 := rfl
  rw [e]
  have hb : bn (txt (pre ++ vF 0 n ++ tl)) pre.length = n := by
   rw [bn_txt _ _ (by simp [vF])]
   simp [vF, byt_toNat]
   omega
  simp only [vvS, hb]
  omega
 | succ f ih =>
  by_cases h : n < 128
  ·rw [vF_small _ n h]
   have hb : bn (txt (pre ++ [byt n] ++ tl)) pre.length = n := by
    rw [bn_txt _ _ (by simp)]
    simp [byt_toNat]
    omega
   simp only [List.length_cons, List.length_nil, vvS, hb]
   omega
  ·have e : vF (f + 1) n = byt (128 + n % 128) :: vF f (n / 128) := by rw [vF, if_neg h]
   have hd : n / 128 < 128 ^ (f + 1) := by
    rw [Nat.pow_succ] at hn
    exact Nat.div_lt_of_lt_mul (by rw [Nat.mul_comm]; exact hn)
   rw [e]
   have hb : bn (txt (pre ++ (byt (128 + n % 128) :: vF f (n / 128)) ++ tl)) pre.length = 128 + n % 128 := by
    rw [bn_txt _ _ (by simp)]
    simp [byt_toNat]
    omega
   have hi := ih (n / 128) (pre ++ [byt (128 + n % 128)]) hd
   have e2 : pre ++ [byt (128 + n % 128)] ++ vF f (n / 128) ++ tl = pre ++ (byt (128 + n % 128) :: vF f (n / 128)) ++ tl := by simp
   rw [e2] at hi
   simp only [List.length_cons, vvS, hb]
   simp only [List.length_append, List.length_cons, List.length_nil] at hi
   rw [Nat.zero_add] at hi
   rw [hi]
   omega
theorem sg_txt (l tl : List UInt8) : sg (txt (l ++ tl)) 0 l.length = l := by
 have h := sg_extract (txt (l ++ tl)) l.length (by rw [txt_size]; simp)
 have e : (txt (l ++ tl)).extract 0 l.length = txt l := by
  apply ByteArray.ext
  apply Array.toList_inj.1
  rw [Lib.extract_data]
  simp [txt]
 rw [e] at h
 exact (txt_inj _ _ h).symm
theorem vF_pos (f n : Nat) : 1 ≤ (vF f n).length := by
 cases f with
 | zero => simp [vF]
 | succ f => rw [vF]; split <;> simp
theorem find_var (n : Nat) (tl : List UInt8) (hn : n ≤ 562949953421311) : FindV (txt (vF 6 n ++ tl)) (vF 6 n).length ∧ vvS (txt (vF 6 n ++ tl)) 0 (vF 6 n).length = n := by
 have hp := vF_pos 6 n
 have hl := vF_length 6 n
 have hv := vvS_var 6 n [] tl (by omega)
 simp only [List.nil_append, List.length_nil] at hv
 refine ⟨⟨hp, hl, by rw [txt_size]; simp, ?_⟩, hv⟩
 obtain ⟨d, hd⟩ : ∃ d, (vF 6 n).length = d + 1 := ⟨(vF 6 n).length - 1, by omega⟩
 have hs := sg_txt (vF 6 n) tl
 rw [hd] at hs hv ⊢
 rw [← canonS_iff _ d 0 6 (by omega), hv, hs]
end Go.Proofs.YtikknmoeefipmaaGreatDoor
namespace Go.Proofs.YtikknmoeefipmaaGreatDoor
open Go.ChangeShapes Go.WideShapes Go.ChangeAt Go.RowKit Go.PlainAid
set_option linter.unusedVariables false
set_option maxHeartbeats 400000 in
theorem spec_var (n : Nat) (w : World) (h1 : n ≤ 562949953421311) :
  Calls Tryz.prog 141 #[.int .i64 (n : Int)] w fun e w' => e = .returned (.string (txt (vF 6 n))) ∧ Below w.heap.size w w' := by
 have q1 : (n : Int) ≤ 562949953421311 := by omega
 go_enter Tryz.func141, Tryz.ntmps141
 go_wp2_with (go_at_call 30; refine (in_yes _ _ _ _ (by omega) (by omega)).mono ?_; rintro e w' ⟨rfl, rfl⟩)
 go_loopw [0, 3] (fun v0 v3 wr => ∃ m f : Nat, ∃ pre : List UInt8, v0 = .int .i64 m ∧ m ≤ 562949953421311 ∧ m < 128 ^ (f + 1) ∧ pre ++ vF f m = vF 6 n ∧ Buf wr w.heap.size v3 pre ∧ Below w.heap.size w wr) (fun i _ _ => (intOf i).toNat)
 case atStart => exact ⟨n, 6, [], rfl, h1, by omega, rfl, Buf.made w w.heap.size 0 #[] (Nat.le_refl _) (by simp [maxLen]) rfl, (Below.refl _ _).alloc (Nat.le_refl _) _⟩
 case round =>
  obtain ⟨m, f, pre, rfl, hm1, hm2, hpre, hbuf, hb⟩ := hrel
  have HP : Hid (pre ++ vF f m = vF 6 n) := hpre
  clear hpre
  have HM : Hid (m < 128 ^ (f + 1)) := hm2
  clear hm2
  have hlp : pre.length ≤ 7 := by
   have := congrArg List.length HP.out
   have := vF_length 6 n
   simp at *
   omega
  have hsz := hb.size
  by_cases hlt : (128 : Int) ≤ (m : Int)
  ·have hcs := one_cell (128 + (m : Int) % 128) (128 + m % 128) (by omega) (by omega)
   have HC : Hid (#[Value.int .u8 (128 + (m : Int) % 128)] = byteCells [byt (128 + m % 128)]) := hcs
   clear hcs
   go_wp2_with (at_builtin; refine wpList_append_bytes rfl (.tmp 10) (.tmp 15) 55 rfl Tryz.underlying55 Tryz.info5 w.heap.size _ pre rfl hbuf _ [byt (128 + m % 128)] HC.out 1 1 rfl rfl (by simp; omega) hsz ?_; intro v' w1 hbuf1 hb1)
   obtain ⟨g, hg1, hg2, _⟩ := vF_round f m pre HM.out (by omega)
   go_roundw
   case rel => exact ⟨m / 128, g, pre ++ [byt (128 + m % 128)], by go_num, by omega, hg1, hg2.trans HP.out, hbuf1, hb.trans hb1⟩
   case measure => simp [intOf]; omega
  ·have hcs := one_cell (m : Int) m rfl (by omega)
   have HC : Hid (#[Value.int .u8 (m : Int)] = byteCells [byt m]) := hcs
   clear hcs
   go_wp2_with (at_builtin; refine wpList_append_bytes rfl (.tmp 19) (.tmp 22) 55 rfl Tryz.underlying55 Tryz.info5 w.heap.size _ pre rfl hbuf _ [byt m] HC.out 1 1 rfl rfl (by simp; omega) hsz ?_; intro v' w1 hbuf1 hb1; have hcv := hbuf1.string (P := Tryz.prog) 55 9 Tryz.underlying55 Tryz.underlying5 Tryz.underlying9)
   go_ret
   exact ⟨by rw [← HP.out, vF_small f m (by omega)]; rfl, hb.trans hb1⟩
set_option maxHeartbeats 400000 in
theorem impl_var (n : Nat) (w : World) (h1 : n ≤ 562949953421311) :
  Calls Tryz.prog 164 #[.int .i64 (n : Int)] w fun e w' => e = .returned (.string (txt (vF 6 n))) ∧ Below w.heap.size w w' := by
 have q1 : (n : Int) ≤ 562949953421311 := by omega
 have q0 : (0 : Int) ≤ (n : Int) := by omega
 have hmk : ∀ w : World, (Instr.makeSlice 55 (.int .i64 0) (.int .i64 7)).run Tryz.prog w = .ok (.slice (some ⟨w.heap.size, 0, none⟩) 0 7) (w.alloc (.cells #[.int .u8 0, .int .u8 0, .int .u8 0, .int .u8 0, .int .u8 0, .int .u8 0, .int .u8 0] 5)) := fun _ => by kernel_rfl
 go_enter Tryz.func164, Tryz.ntmps164
 go_wp2
 go_loopw [0, 3] (fun v0 v3 wr => ∃ m f : Nat, ∃ pre : List UInt8, v0 = .int .i64 m ∧ m ≤ 562949953421311 ∧ m < 128 ^ (f + 1) ∧ pre ++ vF f m = vF 6 n ∧ Buf wr w.heap.size v3 pre ∧ Below w.heap.size w wr) (fun i _ _ => (intOf i).toNat)
 case atStart => exact ⟨n, 6, [], rfl, h1, by omega, rfl, Buf.made w w.heap.size 7 _ (Nat.le_refl _) (by simp [maxLen]) rfl, (Below.refl _ _).alloc (Nat.le_refl _) _⟩
 case round =>
  obtain ⟨m, f, pre, rfl, hm1, hm2, hpre, hbuf, hb⟩ := hrel
  have HP : Hid (pre ++ vF f m = vF 6 n) := hpre
  clear hpre
  have HM : Hid (m < 128 ^ (f + 1)) := hm2
  clear hm2
  have hlp : pre.length ≤ 7 := by
   have := congrArg List.length HP.out
   have := vF_length 6 n
   simp at *
   omega
  have hsz := hb.size
  by_cases hlt : (128 : Int) ≤ (m : Int)
  ·have hcs := one_cell ((m : Int) % 128 + 128) (128 + m % 128) (by omega) (by omega)
   have HC : Hid (#[Value.int .u8 ((m : Int) % 128 + 128)] = byteCells [byt (128 + m % 128)]) := hcs
   clear hcs
   go_wp2_with (at_builtin; refine wpList_append_bytes rfl (.tmp 13) (.tmp 18) 55 rfl Tryz.underlying55 Tryz.info5 w.heap.size _ pre rfl hbuf _ [byt (128 + m % 128)] HC.out 1 1 rfl rfl (by simp; omega) hsz ?_; intro v' w1 hbuf1 hb1)
   obtain ⟨g, hg1, hg2, _⟩ := vF_round f m pre HM.out (by omega)
   go_roundw
   case rel => exact ⟨m / 128, g, pre ++ [byt (128 + m % 128)], by go_num, by omega, hg1, hg2.trans HP.out, hbuf1, hb.trans hb1⟩
   case measure => simp [intOf]; omega
  ·have hcs := one_cell (m : Int) m rfl (by omega)
   have HC : Hid (#[Value.int .u8 (m : Int)] = byteCells [byt m]) := hcs
   clear hcs
   go_wp2_with (at_builtin; refine wpList_append_bytes rfl (.tmp 22) (.tmp 25) 55 rfl Tryz.underlying55 Tryz.info5 w.heap.size _ pre rfl hbuf _ [byt m] HC.out 1 1 rfl rfl (by simp; omega) hsz ?_; intro v' w1 hbuf1 hb1; have hcv := hbuf1.string (P := Tryz.prog) 55 9 Tryz.underlying55 Tryz.underlying5 Tryz.underlying9)
   go_ret
   exact ⟨by rw [← HP.out, vF_small f m (by omega)]; rfl, hb.trans hb1⟩
end Go.Proofs.YtikknmoeefipmaaGreatDoor
