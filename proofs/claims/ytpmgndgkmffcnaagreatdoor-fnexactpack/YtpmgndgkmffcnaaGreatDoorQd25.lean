/- BkRead -/
import Derived.Test.YtpmgndgkmffcnaaGreatDoorRows
import Derived.Test.YtpmgndgkmffcnaaGreatDoorQd22
import Derived.Test.YtpmgndgkmffcnaaGreatDoorQd23
import Derived.Test.YtpmgndgkmffcnaaGreatDoorQd24
import Derived.Test.YtpmgndgkmffcnaaGreatDoorQd7
open List (setIfInBounds_toArray set_cons_zero set_cons_succ)
namespace Go.Proofs.YtpmgndgkmffcnaaGreatDoor
open Go.ChangeShapes Go.WideShapes Go.ChangeAt Go.RowKit Go.PlainAid
set_option linter.unusedVariables false
theorem cell_alloc_keep {w : World} {p : Addr} {x : Value} (h : w.cell? p = some x) (o : Obj) : (w.alloc o).cell? p = some x := by
 rw [((Below.refl w.heap.size w).alloc (Nat.le_refl _) o).cell (World.block_lt_of_cell? _ _ h)]
 exact h
set_option maxRecDepth 20000 in
set_option maxHeartbeats 2000000 in
theorem implPointsOf (t v : List Int) (ut uv : Value) (w : World) (ht : NumsV w w.heap.size ut t) (hv : NumsV w w.heap.size uv v) (hlt : t.length ≤ 1000) (hlv : v.length ≤ 1000) : Calls Tryz.prog 173 #[ut, uv] w fun e w' => (∃ u, e = .returned u ∧ Owns w' w.heap.size 56 2 u (ptR (zipP t v))) ∧ Below w.heap.size w w' := by
 obtain ⟨At, ct, rfl, _, _, h1⟩ := ht
 obtain ⟨Av, cv, rfl, _, _, h2⟩ := hv
 have HT : Hid (∀ j, j < t.length → ∃ g off, At = some ⟨g, off, none⟩ ∧ g < w.heap.size ∧ w.cell? ⟨g, off + j, none⟩ = some (.int .i64 (t.getD j 0))) := h1
 have HV : Hid (∀ j, j < v.length → ∃ g off, Av = some ⟨g, off, none⟩ ∧ g < w.heap.size ∧ w.cell? ⟨g, off + j, none⟩ = some (.int .i64 (v.getD j 0))) := h2
 have HZL : Hid ((zipP t v).length = min t.length v.length) := zipP_length t v
 have HZG : Hid (∀ k, k < t.length → k < v.length → (zipP t v).take (k + 1) = (zipP t v).take k ++ [⟨t.getD k 0, v.getD k 0⟩]) := zipP_get t v
 have q1 : (t.length : Int) ≤ 1000 := by omega
 have q2 : (v.length : Int) ≤ 1000 := by omega
 have hmn : min (t.length : Int) (v.length : Int) = ((min t.length v.length : Nat) : Int) := by omega
 have hmn2 : (if (v.length : Int) < (t.length : Int) then (v.length : Int) else (t.length : Int)) = ((min t.length v.length : Nat) : Int) := by split <;> omega
 clear h1 h2 hlt hlv
 generalize hn : t.length = n at *
 generalize hm : v.length = m at *
 generalize hN : min n m = N at *
 have HN : Hid (N ≤ n ∧ N ≤ m ∧ N ≤ 1000) := by unfold Hid; omega
 clear hn hm
 go_enter Tryz.func173, Tryz.ntmps173
 go_wp2_with fail
 go_loopw [5, 12] (fun v5 v12 wr => ∃ k : Nat, k ≤ N ∧ v12 = .int .i64 (k : Int) ∧ Owns wr w.heap.size 56 2 v5 (ptR ((zipP t v).take k)) ∧ Below w.heap.size w wr) (fun _ i _ => N - (intOf i).toNat)
 case atStart => exact ⟨0, by omega, rfl, by rw [List.take_zero]; exact Owns.nil _ _ _ _, Below.refl _ _⟩
 case round =>
  obtain ⟨k, hk, rfl, hO, hb⟩ := hrel
  have HO : Hid (Owns wr w.heap.size 56 2 u5 (ptR ((zipP t v).take k))) := hO
  have HB1 : Hid (Below w.heap.size w wr) := hb
  clear hO hb
  by_cases hlt : k < N
  ·have q3 : (k : Int) < (N : Int) := by omega
   have hkn := HN.out
   have q4 : (k : Int) < (n : Int) := by omega
   have q5 : (k : Int) < (m : Int) := by omega
   obtain ⟨gt, ot, rfl, hgt, hc1⟩ := HT.out k (by omega)
   obtain ⟨gv, ov, rfl, hgv, hc2⟩ := HV.out k (by omega)
   have HZ : Hid ((zipP t v).take (k + 1) = (zipP t v).take k ++ [⟨t.getD k 0, v.getD k 0⟩]) := HZG.out k (by omega) (by omega)
   rw [← HB1.out.cell (p := ⟨_, _, none⟩) hgt] at hc1
   rw [← HB1.out.cell (p := ⟨_, _, none⟩) hgv] at hc2
   generalize t.getD k 0 = x at *
   generalize v.getD k 0 = y at *
   have hz : w.heap.size ≤ wr.drew.heap.size := HB1.out.size
   obtain ⟨nA, nm, nc, w5, r5, hO5, hb5, hk5, _⟩ := run_append_row (P := Tryz.prog) wr.drew 34 34 56 (.agg #[.int .i64 0, .int .i64 0]) 2 16 Tryz.underlying34 Tryz.infoPt rfl (by omega) w.heap.size u5 (ptR ((zipP t v).take k)) (HO.out.kept fun _ _ _ => rfl) [.int .i64 x, .int .i64 y] rfl (pt_cells x y) (by rw [ptR_length, List.length_take]; omega) (by omega) hz
   have B5 : Hid (Below w.heap.size w w5) := (HB1.out.drew).trans hb5
   have O5 : Hid (Owns w5 w.heap.size 56 2 (.slice nA nm nc) (ptR ((zipP t v).take (k + 1)))) := by unfold Hid; rw [HZ.out, ptR_snoc']; exact hO5
   have S0 : Hid (wr.drew.cell? ⟨gt, ot + k, none⟩ = some (.int .i64 x) ∧ wr.drew.cell? ⟨gv, ov + k, none⟩ = some (.int .i64 y)) := ⟨hc1, hc2⟩
   clear hc1 hc2 hO5 hb5 hk5
   clear hgt hgv
   go_wp2_with fail
   refine wp_region_until (fun w' => w'.cell? ⟨gt, ot + k, none⟩ = some (.int .i64 x) ∧ w'.cell? ⟨gv, ov + k, none⟩ = some (.int .i64 y)) (fun i => i == 11 || i == 12) 13 (by rfl) (by kernel_rfl) ?_
   refine until_take 0 (v := ?_) (by rfl) (by kernel_rfl) (by exact fun _ _ _ h => h) (by rfl) ?_ S0.out ?_
   rotate_left
   ·intro w hSw
    try dsimp only at hSw
    go_simp
    try with_reducible rfl
   try simp only [Act.put, setIfInBounds_toArray, set_cons_zero, set_cons_succ]
   refine until_take 1 (v := ?_) (by rfl) (by kernel_rfl) (by exact fun _ _ _ h => h) (by rfl) ?_ S0.out ?_
   rotate_left
   ·intro w hSw
    try dsimp only at hSw
    go_simp
    try with_reducible rfl
   try simp only [Act.put, setIfInBounds_toArray, set_cons_zero, set_cons_succ]
   refine until_take 2 (v := ?_) (by rfl) (by kernel_rfl) (by exact fun _ _ _ h => h) (by rfl) ?_ S0.out ?_
   rotate_left
   ·intro w hSw
    try dsimp only at hSw
    go_simp
    try with_reducible rfl
   try simp only [Act.put, setIfInBounds_toArray, set_cons_zero, set_cons_succ]
   refine until_take 3 (v := ?_) (by rfl) (by kernel_rfl) (by exact fun _ _ _ h => h) (by rfl) ?_ S0.out ?_
   rotate_left
   ·intro w hSw
    try dsimp only at hSw
    go_simp
    try with_reducible rfl
   try simp only [Act.put, setIfInBounds_toArray, set_cons_zero, set_cons_succ]
   refine until_take 4 (v := ?_) (by rfl) (by kernel_rfl) (by exact fun _ _ _ h => h) (by rfl) ?_ S0.out ?_
   rotate_left
   ·intro w hSw
    try dsimp only at hSw
    go_simp
    try with_reducible rfl
   try simp only [Act.put, setIfInBounds_toArray, set_cons_zero, set_cons_succ]
   refine until_take 5 (v := ?_) (by rfl) (by kernel_rfl) (by exact fun _ _ _ h => h) (by rfl) ?_ S0.out ?_
   rotate_left
   ·intro w hSw
    try dsimp only at hSw
    go_simp
    try with_reducible rfl
   try simp only [Act.put, setIfInBounds_toArray, set_cons_zero, set_cons_succ]
   refine until_take 6 (v := ?_) (by rfl) (by kernel_rfl) (by exact fun _ _ _ h => h) (by rfl) ?_ S0.out ?_
   rotate_left
   ·intro w hSw
    try dsimp only at hSw
    go_simp
    try with_reducible rfl
   try simp only [Act.put, setIfInBounds_toArray, set_cons_zero, set_cons_succ]
   refine until_take 7 (v := ?_) (by rfl) (by kernel_rfl) (by exact fun _ _ _ h => h) (by rfl) ?_ S0.out ?_
   rotate_left
   ·intro w hSw
    try dsimp only at hSw
    go_simp
    try with_reducible rfl
   try simp only [Act.put, setIfInBounds_toArray, set_cons_zero, set_cons_succ]
   refine until_take 8 (v := ?_) (by rfl) (by kernel_rfl) (by exact fun _ _ _ h => h) (by rfl) ?_ S0.out ?_
   rotate_left
   ·intro w hSw
    try dsimp only at hSw
    go_simp
    try with_reducible rfl
   try simp only [Act.put, setIfInBounds_toArray, set_cons_zero, set_cons_succ]
   refine until_take 9 (v := ?_) (by rfl) (by kernel_rfl) (by exact fun _ _ _ h => h) (by rfl) ?_ S0.out ?_
   rotate_left
   ·intro w hSw
    try dsimp only at hSw
    go_simp
    try with_reducible rfl
   try simp only [Act.put, setIfInBounds_toArray, set_cons_zero, set_cons_succ]
   refine until_one 10 (by rfl) (by kernel_rfl) (fun K hK => ?_)
   go_simp
   refine hK.out _ _ (fun _ h => ⟨cell_alloc_keep h.1 _, cell_alloc_keep h.2 _⟩) ?_
   clear hK K
   try simp only [Act.put, setIfInBounds_toArray, set_cons_zero, set_cons_succ]
   refine until_one 11 (by rfl) (by kernel_rfl) (fun K hK => ?_)
   refine step_append_run (by rfl) (.tmp 15) (.tmp 25) 34 (by rfl) _ _ _ _ (by rfl) (by rfl) r5 ?_
   refine hK.out _ _ (fun h => by cases h) ?_
   clear hK K
   try simp only [Act.put, setIfInBounds_toArray, set_cons_zero, set_cons_succ]
   refine until_one 12 (by rfl) (by kernel_rfl) (fun K hK => ?_)
   go_simp
   refine hK.out _ _ (fun h => by cases h) ?_
   clear hK K
   try simp only [Act.put, setIfInBounds_toArray, set_cons_zero, set_cons_succ]
   refine until_done (by kernel_rfl) ?_ _
   go_wp2_with fail
   go_roundw
   case rel => exact ⟨k + 1, by omega, by go_num, O5.out, B5.out⟩
   case measure => simp [intOf]; omega
  ·obtain rfl : k = N := by omega
   have hF := HO.out
   rw [List.take_of_length_le (by rw [HZL.out]; exact Nat.le_refl _)] at hF
   have HF : Hid (Owns wr w.heap.size 56 2 u5 (ptR (zipP t v))) := hF
   clear hF HO
   go_wp2_with fail
   go_ret
   exact ⟨⟨_, rfl, HF.out⟩, HB1.out⟩
theorem unf_body (s : ByteArray) : ∃ k c : Nat, unf s = #[.string (bodyR s), .int .i64 (k : Int), .int .i64 (c : Int)] ∧ ((code s = 0 ∧ k = 8 + rdv s 4) ∨ (code s ≠ 0 ∧ k = 0 ∧ bodyR s = ⟨#[]⟩)) := by
 by_cases h : code s = 0
 ·refine ⟨8 + rdv s 4, 0, ?_, .inl ⟨h, rfl⟩⟩
  rw [unf, if_pos h, bodyR, if_pos h]
  rfl
 ·refine ⟨0, code s, ?_, .inr ⟨h, rfl, by rw [bodyR, if_neg h]⟩⟩
  rw [unf, if_neg h, bodyR, if_neg h]
  rfl
set_option maxHeartbeats 4000000 in
theorem implReadBlock (s : ByteArray) (w : World) (hs : s.size ≤ 1048576) (hst : SumTab w) (a0 a1 a2 : Addr) (he : Errs w a0 a1 a2) : Calls Tryz.prog 149 #[.string s] w fun e w' => (∃ u l ok, RbAns s l ok ∧ e = .returned (.tuple #[u, .bool ok]) ∧ Owns w' w.heap.size 56 2 u (ptR l)) ∧ Below w.heap.size w w' := by
 have ST : Hid (SumTab w) := hst
 have cU := impl_unframe s w hs hst a0 a1 a2 he
 obtain ⟨k0, c0, hu, _⟩ := unf_body s
 rw [hu] at cU
 have hbz := bodyR_size s
 have qs : (s.size : Int) ≤ 1048576 := by omega
 clear hst he hu
 go_enter Tryz.func149, Tryz.ntmps149
 go_wp2_with fail
 refine cU.mono ?_
 rintro e w1 ⟨rfl, hb⟩
 have B1 : Hid (Below w.heap.size w w1) := hb
 clear hb cU
 have cV := impl_readVar (bodyR s) w1 (by omega)
 go_wp2_with fail
 refine cV.mono ?_
 rintro e w1' ⟨hRV, rfl⟩
 obtain ⟨n, k, hRd, rfl⟩ := hRV.rd
 have hle := hRd.le
 have HR : Hid (RdV (bodyR s) n k) := hRd
 have hsz : ((bodyR s).extract k (bodyR s).size).size ≤ 2000 := by rw [ByteArray.size_extract]; omega
 have cT := implReadTimesA ((bodyR s).extract k (bodyR s).size) n w1 (by omega)
 have qk : (k : Int) ≤ 7 := by omega
 have qb : ((bodyR s).size : Int) ≤ 2000 := by omega
 have qkb : (k : Int) ≤ ((bodyR s).size : Int) := by omega
 have hkb : k ≤ (bodyR s).size := hle.1
 clear hRd hRV cV hle
 go_wp2_with fail
 refine cT.mono ?_
 rintro e w2 ⟨⟨t, a, ut, hAT, rfl, hNT⟩, hb⟩
 have HAT : Hid (RdAns showT rowT ((bodyR s).extract k (bodyR s).size) n t a) := hAT
 have hsh := hAT.short rowT_length
 have LT : Hid (t.length ≤ 60) := hsh.1
 have hak : k + a ≤ (bodyR s).size := by have h2 := hsh.2; rw [ByteArray.size_extract] at h2; omega
 have B2 : Hid (Below w.heap.size w w2) := B1.out.trans (hb.mono B1.out.size)
 have NT : Hid (Nums w2 w1.heap.size ut t) := hNT
 have cW := implReadValuesA ((bodyR s).extract (k + a) (bodyR s).size) n w2 (by rw [ByteArray.size_extract]; omega)
 have qa : (k : Int) + (a : Int) ≤ ((bodyR s).size : Int) := by omega
 have qa1 : (a : Int) ≤ 2000 := by omega
 have ena : ((k : Int) + (a : Int)).toNat = k + a := by omega
 clear hAT hNT hb cT hsh hsz
 go_wp2_with fail
 refine cW.mono ?_
 rintro e w3 ⟨⟨v, b, uv, hAV, rfl, hNV⟩, hb⟩
 have HST : Hid (Steps s n k t a v b) := ⟨HR.out, HAT.out, hAV⟩
 have LV : Hid (v.length ≤ 60) := (hAV.short rowV_length).1
 have B3 : Hid (Below w.heap.size w w3) := B2.out.trans (hb.mono B2.out.size)
 have NT3 : Hid (Nums w3 w1.heap.size ut t) := NT.out.on hb
 have NV3 : Hid (Nums w3 w2.heap.size uv v) := hNV
 clear hAV hNV hb cW NT
 have cP := implPointsOf t v ut uv w3 NT3.out.lies NV3.out.lies (by have := LT.out; omega) (by have := LV.out; omega)
 go_wp2_with fail
 refine cP.mono ?_
 rintro e w4 ⟨⟨up, rfl, hO⟩, hb⟩
 have B4 : Hid (Below w.heap.size w w4) := B3.out.trans (hb.mono B3.out.size)
 have OP : Hid (Owns w4 w3.heap.size 56 2 up (ptR (zipP t v))) := hO
 have LZ : Hid ((zipP t v).length ≤ 60) := by unfold Hid; rw [zipP_length]; have := LT.out; omega
 clear hO hb cP
 have cS := implShowBlock (zipP t v) up w4 w4.heap.size OP.out.lies (by have := LZ.out; omega) (Nat.le_refl _) (ST.out.on B4.out)
 obtain ⟨Ap, cp, rfl, _⟩ := pt_look OP.out.lies
 have HG1 : Hid (∀ m, Good s m → zipP t v = m) := fun m hm => (HST.out.good hm).1
 have HG2 : Hid (1 ≤ (zipP t v).length → showB (zipP t v) = s → Good s (zipP t v)) := fun h1 h2 => HST.out.shown h1 h2
 have qz : ((zipP t v).length : Int) ≤ 60 := by have := LZ.out; omega
 generalize zipP t v = l at *
 by_cases h0 : l.length = 0
 ·have HNO : Hid (∀ m, ¬ Good s m) := fun m hm => by have e := HG1.out m hm; subst e; have := hm.1; omega
  rw [h0]
  clear h0 qz
  go_wp2_with fail
  go_ret2
  exact ⟨⟨_, [], false, .inr ⟨rfl, rfl, HNO.out⟩, rfl, Owns.nil _ _ _ _⟩, B4.out⟩
 have d0 : decide (l.length = 0) = false := decide_eq_false h0
 have d1 : ((l.length : Int) == 0) = false := by rw [beq_eq_false_iff_ne]; omega
 have H1 : Hid (1 ≤ l.length) := by unfold Hid; omega
 have HLL : Hid (Owns w4 w3.heap.size 56 2 (.slice Ap l.length cp) (ptR l)) := OP.out
 generalize hln : l.length = ln at *
 by_cases hsh : showB l = s
 ·have HG : Hid (Good s l) := HG2.out (by have := H1.out; omega) hsh
  have db := bytes_eq hsh
  go_wp2_with fail
  refine cS.mono ?_
  rintro e w5 ⟨rfl, hb5⟩
  have B5 : Hid (Below w.heap.size w w5) := B4.out.trans (hb5.mono B4.out.size)
  have O5 : Hid (Owns w5 w.heap.size 56 2 (.slice Ap ln cp) (ptR l)) := (HLL.out.on hb5).mono B3.out.size
  clear hb5 cS
  rw [hsh]
  go_wp2_with fail
  go_ret2
  exact ⟨⟨_, l, true, .inl ⟨rfl, HG.out⟩, rfl, O5.out⟩, B5.out⟩
 ·have HNO : Hid (∀ m, ¬ Good s m) := fun m hm => by have e := HG1.out m hm; subst e; exact hsh hm.2.2
  have db := bytes_ne hsh
  go_wp2_with fail
  refine cS.mono ?_
  rintro e w5 ⟨rfl, hb5⟩
  have B5 : Hid (Below w.heap.size w w5) := B4.out.trans (hb5.mono B4.out.size)
  clear hb5 cS hsh
  go_wp2_with fail
  go_ret2
  exact ⟨⟨_, [], false, .inr ⟨rfl, rfl, HNO.out⟩, rfl, Owns.nil _ _ _ _⟩, B5.out⟩
end Go.Proofs.YtpmgndgkmffcnaaGreatDoor
