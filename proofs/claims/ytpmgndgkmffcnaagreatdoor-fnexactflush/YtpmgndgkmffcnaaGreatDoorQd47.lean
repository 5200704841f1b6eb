/- EgIB EgSB -/
import Derived.Test.YtpmgndgkmffcnaaGreatDoorQd46
import Derived.Test.YtpmgndgkmffcnaaGreatDoorQd45
import Derived.WalkKit
import Derived.ProofKit
import Derived.OpenShut
import Derived.Below
import Derived.WalkSmall
import Derived.BigQuiet
import Derived.Deep.QuietTactic
import Derived.Deep.RegionWith
import Derived.Handy
open List (setIfInBounds_toArray set_cons_zero set_cons_succ)
namespace Go.Proofs.YtpmgndgkmffcnaaGreatDoor
open Go.ChangeShapes Go.WideShapes Go.ChangeAt Go.RowKit Go.PlainAid
set_option linter.unusedVariables false
set_option maxRecDepth 100000 in
set_option maxHeartbeats 8000000 in
theorem implFlushed (e : Eng) (all : List Ser) (v vc vf va : Value) (L : List (Ser × Value)) (base : Nat) (w : World) (ev : v = vE e.floor vc vf) (hL : L.map Prod.fst = e.cache) (hS : SerO w base vc L) (hT : Strs w base vf e.files) (hva : SerV w w.heap.size va all) (hsa : SShort all) (hka : ∀ x ∈ all, x.key.size ≤ maxLen) (hc : SOk e.cache) (hn : e.files.length ≤ 4) (hbs : base ≤ w.heap.size) (hst : SumTab w) :
  Calls Tryz.prog 55 #[v, va] w fun b w' => (∃ u, b = .returned u ∧ EngO w' base u (flushA e all)) ∧ Below base w w' := by
 have HC : Hid (SOk e.cache) := hc
 have HL : Hid (L.map Prod.fst = e.cache) := hL
 have HBs : Hid (base ≤ w.heap.size) := hbs
 have ST : Hid (SumTab w) := hst
 have HVa : Hid (SerV w w.heap.size va all) := hva
 have HV : Hid (SerV w w.heap.size vc e.cache) := by unfold Hid; rw [← hL]; exact hS.view
 obtain ⟨A1, c1, rfl, _⟩ := HV.out.look
 obtain ⟨A2, c2, rfl, _⟩ := st_look (strs_owns hT).lies
 obtain ⟨Aa, ca, rfl, _⟩ := hva.look
 have HS : Hid (SerO w base (.slice A1 e.cache.length c1) L) := hS
 have HT : Hid (Strs w base (.slice A2 e.files.length c2) e.files) := hT
 subst ev
 unfold vE
 have HN4 : Hid (e.files.length ≤ 4) := hn
 have q4 : (e.files.length : Int) ≤ 4 := by omega
 have HSh : Hid (SShort e.cache) := ⟨by have := hc.1; omega, fun x hx => by have := (hc.col.2 x hx).1; omega⟩
 have HKy : Hid (∀ x ∈ e.cache, x.key.size ≤ maxLen) := fun x hx => by have := (hc.col.2 x hx).2.2.2; unfold maxLen; omega
 have HSa : Hid (SShort all) := hsa
 have HKa : Hid (∀ x ∈ all, x.key.size ≤ maxLen) := hka
 obtain ⟨X0, hX0⟩ : ∃ X0, X0 = (w.alloc (.cells #[.int .i64 e.floor, .slice A1 e.cache.length c1, .slice A2 e.files.length c2] 30)).alloc (.cells #[.int .i64 0, .slice none 0 0, .slice none 0 0] 30) := ⟨_, rfl⟩
 have BX : Hid (Below w.heap.size w X0) := by unfold Hid; rw [hX0]; exact below_alloc2 _ _ _
 have KX : Hid (Blk X0 w.heap.size #[.int .i64 e.floor, .slice A1 e.cache.length c1, .slice A2 e.files.length c2] 30) := by unfold Hid; rw [hX0]; exact (Blk.new w _ _).alloc _
 have KR : Hid (Blk X0 (w.heap.size + 1) #[.int .i64 0, .slice none 0 0, .slice none 0 0] 30) := by
  unfold Hid
  rw [hX0]
  have := Blk.new (w.alloc (.cells #[.int .i64 e.floor, .slice A1 e.cache.length c1, .slice A2 e.files.length c2] 30)) #[.int .i64 0, .slice none 0 0, .slice none 0 0] 30
  rw [World.size_alloc] at this
  exact this
 have k0 : _ = some (Value.int .i64 e.floor) := KX.out.cell 0 _ rfl
 have k1 : _ = some (Value.slice A1 e.cache.length c1) := KX.out.cell 1 _ rfl
 have k2 : _ = some (Value.slice A2 e.files.length c2) := KX.out.cell 2 _ rfl
 clear hL hS hT hc hn hbs hst hva hsa hka
 by_cases h0 : e.cache = []
 ·have HE : Hid (flushA e all = e) := by unfold Hid flushA; rw [if_pos h0]
  have hl0 : e.cache.length = 0 := by rw [h0]; rfl
  clear h0
  have SF : Hid (∀ (a b : Obj), EngO ((w.alloc a).alloc b) base (.agg #[.int .i64 e.floor, .slice A1 e.cache.length c1, .slice A2 e.files.length c2]) (flushA e all) ∧ Below base w ((w.alloc a).alloc b)) := fun a b => by
   rw [HE.out]
   exact ⟨⟨_, _, L, rfl, HL.out, HS.out.on (below_alloc2 _ _ _), owns_strs ((strs_owns HT.out).on (below_alloc2 _ _ _))⟩, (below_alloc2 _ _ _).mono HBs.out⟩
  clear KR KX BX HSh HKy
  generalize e.cache.length = nc at *
  subst hl0
  generalize e.floor = f at *
  generalize e.files.length = nf at *
  rw [hX0] at k0 k1 k2
  clear hX0
  go_enter Tryz.func55, Tryz.ntmps55
  go_wp2_with fail
  exact bodyPost_ret (v := .agg #[.int .i64 f, .slice A1 0 c1, .slice A2 nf c2]) (by simp [results, go_sem]) rfl ⟨⟨_, rfl, (SF.out _ _).1⟩, (SF.out _ _).2⟩
 ·have hl1 : 0 < e.cache.length := len_pos h0
  have q5 : (0 : Int) < (e.cache.length : Int) := by omega
  have q6 : ¬ (e.cache.length : Int) = 0 := by omega
  by_cases h4 : e.files.length = 4
  ·have HE : Hid (flushA e all = packA e.floor all) := by unfold Hid flushA; rw [if_neg h0, if_pos h4]
   have c6 := implPacked e.floor all _ X0 w.heap.size (HVa.out.on BX.out) HSa.out HKa.out BX.out.size (ST.out.on BX.out)
   rw [← HE.out] at c6
   clear h0 hl1
   generalize e.floor = f at *
   generalize e.cache.length = nc at *
   generalize e.files.length = nf at *
   subst h4
   rw [hX0] at k0 k1 k2
   go_enter Tryz.func55, Tryz.ntmps55
   go_wp2_with fail
   rw [← hX0]
   clear hX0 k0 k1 k2
   refine c6.mono ?_
   rintro b X8 ⟨⟨u8, rfl, hE8⟩, hb8⟩
   have KR8 : Hid (Blk X8 (w.heap.size + 1) #[.int .i64 0, .slice none 0 0, .slice none 0 0] 30) := KR.out.on hb8 KR.out.lt
   have B8 : Hid (Below base w X8) := (BX.out.trans (hb8.mono BX.out.size)).mono HBs.out
   obtain ⟨vc8, vf8, L8, ev8, hL8, hS8, hT8⟩ := hE8
   unfold vE at ev8
   subst ev8
   generalize hR : w.heap.size + 1 = R at *
   have HRw : Hid (base ≤ R) := by have := HBs.out; unfold Hid; omega
   clear hR
   obtain ⟨⟨r0, g0⟩, ⟨r1, g1⟩, ⟨r2, g2⟩, e0, e1, e2⟩ := res3 (x := .int .i64 (flushA e all).floor) (y := vc8) (z := vf8) KR8.out
   have SF : Hid (EngO (((X8.setCell ⟨R, 0, none⟩ (.int .i64 (flushA e all).floor)).setCell ⟨R, 1, none⟩ vc8).setCell ⟨R, 2, none⟩ vf8) base (.agg #[.int .i64 (flushA e all).floor, vc8, vf8]) (flushA e all)) :=
    EngO.end3 KR8.out rfl hL8 (hS8.mono (Nat.le_trans HBs.out BX.out.size)) (owns_strs ((strs_owns hT8).mono (Nat.le_trans HBs.out BX.out.size)))
   have BF : Hid (Below base w (((X8.setCell ⟨R, 0, none⟩ (.int .i64 (flushA e all).floor)).setCell ⟨R, 1, none⟩ vc8).setCell ⟨R, 2, none⟩ vf8)) := ((B8.out.setCell HRw.out _).setCell HRw.out _).setCell HRw.out _
   obtain ⟨A8, n8, d8, rfl⟩ := hS8.1.shape
   obtain ⟨A9, n9, d9, rfl⟩ := (strs_owns hT8).shape
   clear hL8 hS8 hT8 hb8 c6 B8 KR8
   generalize (flushA e all).floor = f8 at *
   go_wp2_with fail
   exact bodyPost_ret (v := .agg #[.int .i64 f8, .slice A8 n8 d8, .slice A9 n9 d9]) (by simp [results, go_sem, e0, e1, e2]) rfl ⟨⟨_, rfl, SF.out⟩, BF.out⟩
  ·have HE : Hid (flushA e all = ⟨e.floor, [], e.files ++ [fileT e.cache]⟩) := by unfold Hid flushA; rw [if_neg h0, if_neg h4]
   have q7 : ¬ (e.files.length : Int) = 4 := by omega
   have c4 := fun (wx : World) (hx : Below w.heap.size w wx) => implFileText e.cache _ wx w.heap.size (HV.out.on hx) HSh.out HKy.out hx.size (ST.out.on hx)
   generalize hft : fileT e.cache = ft at *
   clear hft h0 hl1
   have HFL : Hid ((stR e.files).length ≤ 2097152) := by unfold Hid; rw [stR_length]; have := HN4.out; omega
   have HT2 : Hid (∀ wx, Below w.heap.size w wx → Owns wx base 9 1 (.slice A2 e.files.length c2) (stR e.files)) := fun wx hx => (strs_owns HT.out).on hx
   have HO5 : Hid (∀ wx A n c, Owns wx base 9 1 (.slice A n c) (stR e.files ++ [[.string ft]]) → Strs wx base (.slice A n c) (e.files ++ [ft])) := fun wx A n c h => by
    have e1 : stR e.files ++ [[.string ft]] = stR (e.files ++ [ft]) := by simp [stR, stC]
    rw [e1] at h
    exact owns_strs h
   generalize hf : e.floor = f at *
   clear hf
   generalize hnc : e.cache.length = nc at *
   clear hnc
   generalize hnf : e.files.length = nf at *
   clear hnf
   go_enter Tryz.func55, Tryz.ntmps55
   rw [hX0] at k0 k1 k2
   go_wp2_with fail
   rw [← hX0]
   clear hX0 k0 k1 k2
   refine wp_region_until (fun w' => w'.cell? ⟨w.heap.size, 1, none⟩ = some (.slice A1 nc c1) ∧ w'.cell? ⟨w.heap.size, 2, none⟩ = some (.slice A2 nf c2)) (fun i => i == 8) 9 (by rfl) (by kernel_rfl) ?_
   have V0 : Hid (Below X0.heap.size X0 X0.drew) := (Below.refl _ _).drew
   generalize X0.drew = Y0 at *
   have HS0 : Hid (∀ wx, Below X0.heap.size X0 wx → wx.cell? ⟨w.heap.size, 1, none⟩ = some (.slice A1 nc c1) ∧ wx.cell? ⟨w.heap.size, 2, none⟩ = some (.slice A2 nf c2)) := fun wx hx => ⟨(KX.out.on hx KX.out.lt).cell 1 _ rfl, (KX.out.on hx KX.out.lt).cell 2 _ rfl⟩
   have HBX : Hid (∀ wx, Below X0.heap.size X0 wx → Below w.heap.size w wx) := fun wx hx => BX.out.trans (hx.mono BX.out.size)
   refine until_take 0 (v := ?_) (by rfl) (by kernel_rfl) (by exact fun _ _ _ h => h) (by rfl) ?_ (HS0.out _ V0.out) ?_
   rotate_left
   ·intro w hSw
    try dsimp only at hSw
    go_simp
    try with_reducible rfl
   try simp only [Act.put, setIfInBounds_toArray, set_cons_zero, set_cons_succ]
   refine until_take 1 (v := ?_) (by rfl) (by kernel_rfl) (by exact fun _ _ _ h => h) (by rfl) ?_ (HS0.out _ V0.out) ?_
   rotate_left
   ·intro w hSw
    try dsimp only at hSw
    go_simp
    try with_reducible rfl
   try simp only [Act.put, setIfInBounds_toArray, set_cons_zero, set_cons_succ]
   refine until_take 2 (v := ?_) (by rfl) (by kernel_rfl) (by exact fun _ _ _ h => h) (by rfl) ?_ (HS0.out _ V0.out) ?_
   rotate_left
   ·intro w hSw
    try dsimp only at hSw
    go_simp
    try with_reducible rfl
   try simp only [Act.put, setIfInBounds_toArray, set_cons_zero, set_cons_succ]
   refine until_take 3 (v := ?_) (by rfl) (by kernel_rfl) (by exact fun _ _ _ h => h) (by rfl) ?_ (HS0.out _ V0.out) ?_
   rotate_left
   ·intro w hSw
    try dsimp only at hSw
    go_simp
    try with_reducible rfl
   try simp only [Act.put, setIfInBounds_toArray, set_cons_zero, set_cons_succ]
   refine until_one 4 (by rfl) (by kernel_rfl) (fun K hK => ?_)
   go_simp
   refine (c4 Y0 (HBX.out _ V0.out)).mono ?_
   rintro b Y1 ⟨rfl, hb1⟩
   have V1 : Hid (Below X0.heap.size X0 Y1) := V0.out.trans (hb1.mono V0.out.size)
   clear hb1 c4
   refine hK.out _ _ (fun _ _ => (HS0.out _ V1.out)) ?_
   clear hK K
   try simp only [Act.put, setIfInBounds_toArray, set_cons_zero, set_cons_succ]
   refine until_one 5 (by rfl) (by kernel_rfl) (fun K hK => ?_)
   go_simp
   have V2 : Hid (Below X0.heap.size X0 (Y1.alloc (.cells #[.string ft] 9))) := V1.out.alloc V1.out.size _
   refine hK.out _ _ (fun _ _ => (HS0.out _ V2.out)) ?_
   clear hK K
   try simp only [Act.put, setIfInBounds_toArray, set_cons_zero, set_cons_succ]
   obtain ⟨A5, n5, c5, w5, r5, hO5, hb5, hk5, hw5⟩ := run_append_row (P := Tryz.prog) Y1 23 23 9 (.string ⟨#[]⟩) 1 16 Tryz.underlying23 infoStr rfl (by omega) base (.slice A2 nf c2) (stR e.files) (HT2.out _ (HBX.out _ V1.out)) [.string ft] rfl (st_cell ft) HFL.out (by omega) (Nat.le_trans HBs.out (HBX.out _ V1.out).size)
   refine until_one 6 (by rfl) (by kernel_rfl) (fun K hK => ?_)
   refine step_append_run (by rfl) (.tmp 19) (.tmp 23) 23 (by rfl) _ _ _ _ (by rfl) (by rfl) r5 ?_
   have T5 : Hid (Strs w5 base (.slice A5 n5 c5) (e.files ++ [ft])) := HO5.out _ _ _ _ hO5
   have hK1 := KX.out.on V1.out KX.out.lt
   have hR1 := KR.out.on V1.out KR.out.lt
   have K5 : Hid (Blk w5 w.heap.size #[.int .i64 f, .slice A1 nc c1, .slice A2 nf c2] 30) := (hk5 _ hK1.lt ((HT2.out _ (HBX.out _ V1.out)).notBlk hK1 (by decide))).trans hK1
   have KR5 : Hid (Blk w5 (w.heap.size + 1) #[.int .i64 0, .slice none 0 0, .slice none 0 0] 30) := (hk5 _ hR1.lt ((HT2.out _ (HBX.out _ V1.out)).notBlk hR1 (by decide))).trans hR1
   have B5 : Hid (Below base w w5) := ((HBX.out _ V1.out).mono HBs.out).trans hb5
   have S5 : Hid (w5.cell? ⟨w.heap.size, 1, none⟩ = some (.slice A1 nc c1) ∧ w5.cell? ⟨w.heap.size, 2, none⟩ = some (.slice A2 nf c2)) := ⟨K5.out.cell 1 _ rfl, K5.out.cell 2 _ rfl⟩
   clear r5 hO5 hb5 hk5 hw5 hK1 hR1 V2
   refine hK.out _ _ (fun _ _ => S5.out) ?_
   clear hK K
   try simp only [Act.put, setIfInBounds_toArray, set_cons_zero, set_cons_succ]
   refine until_pure 7 (v := ?_) (by rfl) (by kernel_rfl) (by exact fun _ _ _ h => h) (by rfl) ?_ ?_
   rotate_left
   ·intro w
    go_simp
    try with_reducible rfl
   try simp only [Act.put, setIfInBounds_toArray, set_cons_zero, set_cons_succ]
   refine until_one 8 (by rfl) (by kernel_rfl) (fun K hK => ?_)
   have s1 : _ = some (Value.slice A2 nf c2) := K5.out.cell 2 _ rfl
   have f1 := K5.out.free 2
   go_simp
   refine hK.out _ _ (fun h => by cases h) ?_
   clear hK K s1 f1
   try simp only [Act.put, setIfInBounds_toArray, set_cons_zero, set_cons_succ]
   refine until_done (by kernel_rfl) ?_ _
   have hkb : KeptBut w.heap.size w5 (w5.setCell ⟨w.heap.size, 2, none⟩ (.slice A5 n5 c5)) := (KeptBut.refl _ _).set 2 _
   have K6 : Hid (Blk (w5.setCell ⟨w.heap.size, 2, none⟩ (.slice A5 n5 c5)) w.heap.size #[.int .i64 f, .slice A1 nc c1, .slice A5 n5 c5] 30) := K5.out.set 2 _
   have KR6 : Hid (Blk (w5.setCell ⟨w.heap.size, 2, none⟩ (.slice A5 n5 c5)) (w.heap.size + 1) #[.int .i64 0, .slice none 0 0, .slice none 0 0] 30) := KR5.out.but hkb (by omega)
   have T6 : Hid (Strs (w5.setCell ⟨w.heap.size, 2, none⟩ (.slice A5 n5 c5)) base (.slice A5 n5 c5) (e.files ++ [ft])) := T5.out.butE K5.out hkb
   have B6 : Hid (Below base w (w5.setCell ⟨w.heap.size, 2, none⟩ (.slice A5 n5 c5))) := B5.out.setCell HBs.out _
   generalize w5.setCell ⟨w.heap.size, 2, none⟩ (.slice A5 n5 c5) = X6 at *
   clear hkb K5 KR5 T5 B5 S5 KX KR HS0 HBX V0 V1 HT2 HO5
   obtain ⟨X7, hX7⟩ : ∃ X7, X7 = X6.setCell ⟨w.heap.size, 1, none⟩ (.slice none 0 0) := ⟨_, rfl⟩
   have hkb : KeptBut w.heap.size X6 X7 := by rw [hX7]; exact (KeptBut.refl _ _).set 1 _
   have m1 : _ = some (Value.slice A1 nc c1) := K6.out.cell 1 _ rfl
   have f1 := K6.out.free 1
   have K7 : Hid (Blk X7 w.heap.size #[.int .i64 f, .slice none 0 0, .slice A5 n5 c5] 30) := by unfold Hid; rw [hX7]; exact K6.out.set 1 _
   have KR7 : Hid (Blk X7 (w.heap.size + 1) #[.int .i64 0, .slice none 0 0, .slice none 0 0] 30) := KR6.out.but hkb (by omega)
   have T7 : Hid (Strs X7 base (.slice A5 n5 c5) (e.files ++ [ft])) := T6.out.butE K6.out hkb
   have B7 : Hid (Below base w X7) := by unfold Hid; rw [hX7]; exact B6.out.setCell HBs.out _
   clear hkb K6 KR6 T6 B6
   have o0 : _ = some (Value.int .i64 f) := K7.out.cell 0 _ rfl
   have o1 : _ = some (Value.slice none 0 0) := K7.out.cell 1 _ rfl
   have o2 : _ = some (Value.slice A5 n5 c5) := K7.out.cell 2 _ rfl
   generalize hR : w.heap.size + 1 = R at *
   have HRw : Hid (base ≤ R) := by have := HBs.out; unfold Hid; omega
   clear hR
   obtain ⟨⟨r0, g0⟩, ⟨r1, g1⟩, ⟨r2, g2⟩, e0, e1, e2⟩ := res3 (x := .int .i64 f) (y := .slice none 0 0) (z := .slice A5 n5 c5) KR7.out
   have SF : Hid (EngO (((X7.setCell ⟨R, 0, none⟩ (.int .i64 f)).setCell ⟨R, 1, none⟩ (.slice none 0 0)).setCell ⟨R, 2, none⟩ (.slice A5 n5 c5)) base (.agg #[.int .i64 f, .slice none 0 0, .slice A5 n5 c5]) (flushA e all)) := by
    unfold Hid
    rw [HE.out]
    exact EngO.end3 (L := []) KR7.out rfl rfl (SerO.nilE _ _) T7.out
   have BF : Hid (Below base w (((X7.setCell ⟨R, 0, none⟩ (.int .i64 f)).setCell ⟨R, 1, none⟩ (.slice none 0 0)).setCell ⟨R, 2, none⟩ (.slice A5 n5 c5))) := ((B7.out.setCell HRw.out _).setCell HRw.out _).setCell HRw.out _
   rw [hX7] at o0 o1 o2 r0 g0 r1 g1 r2 g2 e0 e1 e2 SF BF
   clear hX7 K7 KR7 T7 B7
   go_wp2_with fail
   exact bodyPost_ret (v := .agg #[.int .i64 f, .slice none 0 0, .slice A5 n5 c5]) (by simp [results, go_sem, e0, e1, e2]) rfl ⟨⟨_, rfl, SF.out⟩, BF.out⟩
set_option maxRecDepth 100000 in
set_option maxHeartbeats 4000000 in
theorem implFlushX (e : Eng) (v : Value) (w : World) (B : Nat) (hv : EngV w B v e) (hs : EShort e) (hB : B ≤ w.heap.size) (hst : SumTab w) (a0 a1 a2 : Addr) (he : Errs w a0 a1 a2) :
  Calls Tryz.prog 26 #[v] w fun b w' => (∃ u, b = .returned u ∧ EngO w' w.heap.size u (flushX e)) ∧ Below w.heap.size w w' := by
 have ST : Hid (SumTab w) := hst
 obtain ⟨vc, vf, rfl, hc, hl⟩ := hv
 unfold vE
 obtain ⟨Ac, cc, rfl, _⟩ := hc.look
 obtain ⟨A, cap, rfl, _⟩ := st_look hl
 have HV : Hid (EngV w B (vE e.floor (.slice Ac e.cache.length cc) (.slice A e.files.length cap)) e) := ⟨_, _, rfl, hc, hl⟩
 have HB : Hid (B ≤ w.heap.size) := hB
 have HSh : Hid (EShort e) := hs
 obtain ⟨X0, hX0⟩ : ∃ X0, X0 = (w.alloc (.cells #[.int .i64 e.floor, .slice Ac e.cache.length cc, .slice A e.files.length cap] 30)).alloc (.cells #[.int .i64 0, .slice none 0 0, .slice none 0 0] 30) := ⟨_, rfl⟩
 have BX : Hid (Below w.heap.size w X0) := by unfold Hid; rw [hX0]; exact below_alloc2 _ _ _
 have KX : Hid (Blk X0 w.heap.size #[.int .i64 e.floor, .slice Ac e.cache.length cc, .slice A e.files.length cap] 30) := by unfold Hid; rw [hX0]; exact (Blk.new w _ _).alloc _
 have KR : Hid (Blk X0 (w.heap.size + 1) #[.int .i64 0, .slice none 0 0, .slice none 0 0] 30) := by
  unfold Hid
  rw [hX0]
  have := Blk.new (w.alloc (.cells #[.int .i64 e.floor, .slice Ac e.cache.length cc, .slice A e.files.length cap] 30)) #[.int .i64 0, .slice none 0 0, .slice none 0 0] 30
  rw [World.size_alloc] at this
  exact this
 have ZB : Hid (B ≤ X0.heap.size) := Nat.le_trans hB BX.out.size
 have k0 : _ = some (Value.int .i64 e.floor) := KX.out.cell 0 _ rfl
 have k1 : _ = some (Value.slice Ac e.cache.length cc) := KX.out.cell 1 _ rfl
 have k2 : _ = some (Value.slice A e.files.length cap) := KX.out.cell 2 _ rfl
 have c1 := implContents e _ X0 B (HV.out.on (BX.out.mono hB)) hs ZB.out (hst.on BX.out) a0 a1 a2 (he.on BX.out)
 unfold vE at c1
 by_cases hok : EOk e
 ·rw [decide_eq_true hok] at c1
  have HOk : Hid (EOk e) := hok
  have HPl : Hid (plainX e = plainE e) := by unfold Hid plainX; rw [if_pos hok]
  have HPk : Hid (flushX e = flushA e (plainE e)) := by unfold Hid flushX; rw [if_pos hok]
  have HCk : Hid (∀ x ∈ e.cache, 1 ≤ x.pts.length ∧ x.key.size ≤ 1000) := fun x hx => by
   obtain ⟨j, hj, rfl⟩ := List.getElem_of_mem hx
   have h := hok.1.2.2.1.2 j hj
   have e1 : sAt e.cache j = e.cache[j] := by simp [sAt, List.getD_eq_getElem?_getD, hj]
   rw [e1] at h
   have := h.1.1.2.1
   exact ⟨h.2.1, by omega⟩
  clear hc hl hB hs hok hst he
  go_enter Tryz.func26, Tryz.ntmps26
  go_wp2_with fail
  rw [← hX0]
  clear hX0
  refine c1.mono ?_
  rintro b X1 ⟨⟨u1, L1, rfl, hL1, hS1⟩, hb1⟩
  have B1 : Hid (Below w.heap.size w X1) := BX.out.trans (hb1.mono BX.out.size)
  have K1 : Hid (Blk X1 w.heap.size #[.int .i64 e.floor, .slice Ac e.cache.length cc, .slice A e.files.length cap] 30) := KX.out.on hb1 KX.out.lt
  have KR1 : Hid (Blk X1 (w.heap.size + 1) #[.int .i64 0, .slice none 0 0, .slice none 0 0] 30) := KR.out.on hb1 KR.out.lt
  have m0 := K1.out.cell 0 _ rfl
  have m1 := K1.out.cell 1 _ rfl
  have m2 := K1.out.cell 2 _ rfl
  have S1 : Hid (SerO X1 w.heap.size u1 L1) := hS1.mono BX.out.size
  have HL1 : Hid (L1.map Prod.fst = plainE e) := hL1.trans HPl.out
  have c2 := implCopy e _ X1 B (HV.out.on (B1.out.mono HB.out)) HSh.out HCk.out (Nat.le_trans HB.out B1.out.size)
  unfold vE at c2
  obtain ⟨Au, nu, cu, rfl⟩ := hS1.1.shape
  clear hL1 hS1 hb1 c1 k0 k1 k2 KX KR HPl
  go_wp2_with fail
  refine c2.mono ?_
  rintro b X2 ⟨⟨u2, rfl, hE2⟩, hb2⟩
  obtain ⟨vc2, vf2, L2, ev2, hL2, hS2, hT2⟩ := hE2
  have B2 : Hid (Below w.heap.size w X2) := B1.out.trans (hb2.mono B1.out.size)
  have KR2 : Hid (Blk X2 (w.heap.size + 1) #[.int .i64 0, .slice none 0 0, .slice none 0 0] 30) := KR1.out.on hb2 KR1.out.lt
  have c3 := implFlushed e (plainE e) u2 vc2 vf2 (.slice Au nu cu) L2 X1.heap.size X2 ev2 hL2 hS2 hT2 (by rw [← HL1.out]; exact (S1.out.on hb2).view) ⟨by have := HOk.out.2.2.1; omega, fun x hx => by have := (HOk.out.2.2.col.2 x hx).1; omega⟩ (fun x hx => by have := (HOk.out.2.2.col.2 x hx).2.2.2; unfold maxLen; omega) HOk.out.1.2.2.1 HOk.out.1.2.1 hb2.size (ST.out.on B2.out)
  rw [← HPk.out] at c3
  obtain ⟨A3, n3, c3', rfl⟩ := hS2.1.shape
  obtain ⟨A4, n4, c4', rfl⟩ := (strs_owns hT2).shape
  have HZ1 : Hid (w.heap.size ≤ X1.heap.size ∧ w.heap.size + 1 < X1.heap.size) := ⟨B1.out.size, KR1.out.lt⟩
  unfold vE at ev2
  subst ev2
  clear hL2 hS2 hT2 hb2 c2 m0 m1 m2 K1 KR1 HPk
  go_wp2_with fail
  refine c3.mono ?_
  rintro b X4 ⟨⟨u4, rfl, hE4⟩, hb4⟩
  obtain ⟨vc4, vf4, L4, ev4, hL4, hS4, hT4⟩ := hE4
  have B4 : Hid (Below w.heap.size w X4) := B2.out.trans (hb4.mono HZ1.out.1)
  have KR4 : Hid (Blk X4 (w.heap.size + 1) #[.int .i64 0, .slice none 0 0, .slice none 0 0] 30) := KR2.out.on hb4 HZ1.out.2
  obtain ⟨Ay, ny, cy, rfl⟩ := hS4.1.shape
  obtain ⟨Az, nz, cz, rfl⟩ := (strs_owns hT4).shape
  unfold vE at ev4
  subst ev4
  have HLf : Hid (L4.map Prod.fst = (flushX e).cache) := hL4
  have HSf : Hid (SerO X4 w.heap.size (.slice Ay ny cy) L4) := hS4.mono B1.out.size
  have HTf : Hid (Strs X4 w.heap.size (.slice Az nz cz) (flushX e).files) := owns_strs ((strs_owns hT4).mono B1.out.size)
  generalize hff : (flushX e).floor = ff at *
  have HFf : Hid ((flushX e).floor = ff) := hff
  clear hff hL4 hS4 hT4 hb4 c3 KR2
  generalize hR : w.heap.size + 1 = R at *
  have HRw : Hid (w.heap.size ≤ R) := by unfold Hid; omega
  clear hR
  obtain ⟨⟨r0, g0⟩, ⟨r1, g1⟩, ⟨r2, g2⟩, e0, e1, e2⟩ := res3 (x := .int .i64 ff) (y := .slice Ay ny cy) (z := .slice Az nz cz) KR4.out
  have SF : Hid (EngO (((X4.setCell ⟨R, 0, none⟩ (.int .i64 ff)).setCell ⟨R, 1, none⟩ (.slice Ay ny cy)).setCell ⟨R, 2, none⟩ (.slice Az nz cz)) w.heap.size (.agg #[.int .i64 ff, .slice Ay ny cy, .slice Az nz cz]) (flushX e)) := EngO.end3 KR4.out HFf.out HLf.out HSf.out HTf.out
  have BF : Hid (Below w.heap.size w (((X4.setCell ⟨R, 0, none⟩ (.int .i64 ff)).setCell ⟨R, 1, none⟩ (.slice Ay ny cy)).setCell ⟨R, 2, none⟩ (.slice Az nz cz))) := below_set3 B4.out HRw.out _ _ _
  go_wp2_with fail
  exact bodyPost_ret (v := .agg #[.int .i64 ff, .slice Ay ny cy, .slice Az nz cz]) (by simp [results, go_sem, e0, e1, e2]) rfl ⟨⟨_, rfl, SF.out⟩, BF.out⟩
 ·rw [decide_eq_false hok] at c1
  have HNo : Hid (¬ EOk e) := hok
  clear hc hl hB hs hok hst he
  go_enter Tryz.func26, Tryz.ntmps26
  go_wp2_with fail
  rw [← hX0]
  clear hX0
  refine c1.mono ?_
  rintro b X1 ⟨⟨u1, L1, rfl, hL1, hS1⟩, hb1⟩
  obtain ⟨Au, nu, cu, rfl⟩ := hS1.1.shape
  have B1 : Hid (Below w.heap.size w X1) := BX.out.trans (hb1.mono BX.out.size)
  have KR1 : Hid (Blk X1 (w.heap.size + 1) #[.int .i64 0, .slice none 0 0, .slice none 0 0] 30) := KR.out.on hb1 KR.out.lt
  clear hL1 hS1 hb1 c1 k0 k1 k2 KX KR
  generalize hR : w.heap.size + 1 = R at *
  have HRw : Hid (w.heap.size ≤ R) := by unfold Hid; omega
  clear hR
  have HZe : Hid (flushX e = zeroE) := by unfold Hid flushX; rw [if_neg HNo.out]
  obtain ⟨⟨r0, g0⟩, ⟨r1, g1⟩, ⟨r2, g2⟩, e0, e1, e2⟩ := res3 (x := .int .i64 0) (y := .slice none 0 0) (z := .slice none 0 0) KR1.out
  have SF : Hid (EngO (((X1.setCell ⟨R, 0, none⟩ (.int .i64 0)).setCell ⟨R, 1, none⟩ (.slice none 0 0)).setCell ⟨R, 2, none⟩ (.slice none 0 0)) w.heap.size (.agg #[.int .i64 0, .slice none 0 0, .slice none 0 0]) (flushX e)) := by
   unfold Hid
   rw [HZe.out]
   exact EngO.end3 (L := []) KR1.out rfl rfl (SerO.nilE _ _) (owns_strs (Owns.nil _ _ _ _))
  have BF : Hid (Below w.heap.size w (((X1.setCell ⟨R, 0, none⟩ (.int .i64 0)).setCell ⟨R, 1, none⟩ (.slice none 0 0)).setCell ⟨R, 2, none⟩ (.slice none 0 0))) := below_set3 B1.out HRw.out _ _ _
  go_wp2_with fail
  exact bodyPost_ret (v := .agg #[.int .i64 0, .slice none 0 0, .slice none 0 0]) (by simp [results, go_sem, e0, e1, e2]) rfl ⟨⟨_, rfl, SF.out⟩, BF.out⟩
end Go.Proofs.YtpmgndgkmffcnaaGreatDoor
namespace Go.Proofs.YtpmgndgkmffcnaaGreatDoor
open Go.ChangeShapes Go.WideShapes Go.ChangeAt Go.RowKit Go.PlainAid
set_option linter.unusedVariables false
set_option maxRecDepth 100000 in
set_option maxHeartbeats 8000000 in
theorem specFlushX (e : Eng) (v : Value) (w : World) (B : Nat) (hv : EngV w B v e) (hs : EShort e) (hB : B ≤ w.heap.size) :
  Calls Tryz.prog 25 #[v] w fun b w' => (∃ u, b = .returned u ∧ EngO w' w.heap.size u (flushX e)) ∧ Below w.heap.size w w' := by
 obtain ⟨vc, vf, rfl, hc, hl⟩ := hv
 unfold vE
 obtain ⟨Ac, cc, rfl, _⟩ := hc.look
 obtain ⟨A, cap, rfl, _⟩ := st_look hl
 have HV : Hid (EngV w B (vE e.floor (.slice Ac e.cache.length cc) (.slice A e.files.length cap)) e) := ⟨_, _, rfl, hc, hl⟩
 have HB : Hid (B ≤ w.heap.size) := hB
 have HSh : Hid (EShort e) := hs
 obtain ⟨X0, hX0⟩ : ∃ X0, X0 = (w.alloc (.cells #[.int .i64 e.floor, .slice Ac e.cache.length cc, .slice A e.files.length cap] 30)).alloc (.cells #[.int .i64 0, .slice none 0 0, .slice none 0 0] 30) := ⟨_, rfl⟩
 have BX : Hid (Below w.heap.size w X0) := by unfold Hid; rw [hX0]; exact below_alloc2 _ _ _
 have KX : Hid (Blk X0 w.heap.size #[.int .i64 e.floor, .slice Ac e.cache.length cc, .slice A e.files.length cap] 30) := by unfold Hid; rw [hX0]; exact (Blk.new w _ _).alloc _
 have KR : Hid (Blk X0 (w.heap.size + 1) #[.int .i64 0, .slice none 0 0, .slice none 0 0] 30) := by
  unfold Hid
  rw [hX0]
  have := Blk.new (w.alloc (.cells #[.int .i64 e.floor, .slice Ac e.cache.length cc, .slice A e.files.length cap] 30)) #[.int .i64 0, .slice none 0 0, .slice none 0 0] 30
  rw [World.size_alloc] at this
  exact this
 have ZB : Hid (B ≤ X0.heap.size) := Nat.le_trans hB BX.out.size
 have k0 : _ = some (Value.int .i64 e.floor) := KX.out.cell 0 _ rfl
 have k1 : _ = some (Value.slice Ac e.cache.length cc) := KX.out.cell 1 _ rfl
 have k2 : _ = some (Value.slice A e.files.length cap) := KX.out.cell 2 _ rfl
 have c1 := specEngineOk e _ X0 B (HV.out.on (BX.out.mono hB)) hs ZB.out
 unfold vE at c1
 by_cases hok : EOk e
 ·rw [decide_eq_true hok] at c1
  have HOk : Hid (EOk e) := hok
  clear hc hl hB hs hok
  go_enter Tryz.func25, Tryz.ntmps25
  go_wp2_with fail
  rw [← hX0]
  clear hX0
  refine c1.mono ?_
  rintro b X1 ⟨rfl, hb1⟩
  have B1 : Hid (Below w.heap.size w X1) := BX.out.trans (hb1.mono BX.out.size)
  have K1 : Hid (Blk X1 w.heap.size #[.int .i64 e.floor, .slice Ac e.cache.length cc, .slice A e.files.length cap] 30) := KX.out.on hb1 KX.out.lt
  have KR1 : Hid (Blk X1 (w.heap.size + 1) #[.int .i64 0, .slice none 0 0, .slice none 0 0] 30) := KR.out.on hb1 KR.out.lt
  have m0 := K1.out.cell 0 _ rfl
  have m1 := K1.out.cell 1 _ rfl
  have m2 := K1.out.cell 2 _ rfl
  have c2 := specCopy e _ X1 B (HV.out.on (B1.out.mono HB.out)) HSh.out (Nat.le_trans HB.out B1.out.size)
  unfold vE at c2
  clear hb1 c1 k0 k1 k2 KX KR
  go_wp2_with fail
  refine c2.mono ?_
  rintro b X2 ⟨⟨u2, rfl, hE2⟩, hb2⟩
  obtain ⟨vc2, vf2, L2, ev2, hL2, hS2, hT2⟩ := hE2
  have B2 : Hid (Below w.heap.size w X2) := B1.out.trans (hb2.mono B1.out.size)
  have KR2 : Hid (Blk X2 (w.heap.size + 1) #[.int .i64 0, .slice none 0 0, .slice none 0 0] 30) := KR1.out.on hb2 KR1.out.lt
  have c3 := specFlushIn e u2 vc2 vf2 L2 X1.heap.size X2 ev2 hL2 hS2 hT2 HOk.out.1.2.2.1 HOk.out.1.2.1 HOk.out.2.1 hb2.size
  rw [flush_same HOk.out.1.2.1 (Or.inr HOk.out.1.2.2.1) HOk.out.2.2] at c3
  rw [show flushA e (plainE e) = flushX e by unfold flushX; rw [if_pos HOk.out]] at c3
  obtain ⟨A3, n3, c3', rfl⟩ := hS2.1.shape
  obtain ⟨A4, n4, c4', rfl⟩ := (strs_owns hT2).shape
  have HZ1 : Hid (w.heap.size ≤ X1.heap.size ∧ w.heap.size + 1 < X1.heap.size) := ⟨B1.out.size, KR1.out.lt⟩
  unfold vE at ev2
  subst ev2
  clear hL2 hS2 hT2 hb2 c2 m0 m1 m2 K1 KR1
  go_wp2_with fail
  refine c3.mono ?_
  rintro b X4 ⟨⟨u4, rfl, hE4⟩, hb4⟩
  obtain ⟨vc4, vf4, L4, ev4, hL4, hS4, hT4⟩ := hE4
  have B4 : Hid (Below w.heap.size w X4) := B2.out.trans (hb4.mono HZ1.out.1)
  have KR4 : Hid (Blk X4 (w.heap.size + 1) #[.int .i64 0, .slice none 0 0, .slice none 0 0] 30) := KR2.out.on hb4 HZ1.out.2
  obtain ⟨Ay, ny, cy, rfl⟩ := hS4.1.shape
  obtain ⟨Az, nz, cz, rfl⟩ := (strs_owns hT4).shape
  unfold vE at ev4
  subst ev4
  have HLf : Hid (L4.map Prod.fst = (flushX e).cache) := hL4
  have HSf : Hid (SerO X4 w.heap.size (.slice Ay ny cy) L4) := hS4.mono B1.out.size
  have HTf : Hid (Strs X4 w.heap.size (.slice Az nz cz) (flushX e).files) := owns_strs ((strs_owns hT4).mono B1.out.size)
  generalize hff : (flushX e).floor = ff at *
  have HFf : Hid ((flushX e).floor = ff) := hff
  clear hff hL4 hS4 hT4 hb4 c3 KR2
  generalize hR : w.heap.size + 1 = R at *
  have HRw : Hid (w.heap.size ≤ R) := by unfold Hid; omega
  clear hR
  obtain ⟨⟨r0, g0⟩, ⟨r1, g1⟩, ⟨r2, g2⟩, e0, e1, e2⟩ := res3 (x := .int .i64 ff) (y := .slice Ay ny cy) (z := .slice Az nz cz) KR4.out
  have SF : Hid (EngO (((X4.setCell ⟨R, 0, none⟩ (.int .i64 ff)).setCell ⟨R, 1, none⟩ (.slice Ay ny cy)).setCell ⟨R, 2, none⟩ (.slice Az nz cz)) w.heap.size (.agg #[.int .i64 ff, .slice Ay ny cy, .slice Az nz cz]) (flushX e)) := EngO.end3 KR4.out HFf.out HLf.out HSf.out HTf.out
  have BF : Hid (Below w.heap.size w (((X4.setCell ⟨R, 0, none⟩ (.int .i64 ff)).setCell ⟨R, 1, none⟩ (.slice Ay ny cy)).setCell ⟨R, 2, none⟩ (.slice Az nz cz))) := below_set3 B4.out HRw.out _ _ _
  go_wp2_with fail
  exact bodyPost_ret (v := .agg #[.int .i64 ff, .slice Ay ny cy, .slice Az nz cz]) (by simp [results, go_sem, e0, e1, e2]) rfl ⟨⟨_, rfl, SF.out⟩, BF.out⟩
 ·rw [decide_eq_false hok] at c1
  have HNo : Hid (¬ EOk e) := hok
  clear hc hl hB hs hok
  go_enter Tryz.func25, Tryz.ntmps25
  go_wp2_with fail
  rw [← hX0]
  clear hX0
  refine c1.mono ?_
  rintro b X1 ⟨rfl, hb1⟩
  have B1 : Hid (Below w.heap.size w X1) := BX.out.trans (hb1.mono BX.out.size)
  have KR1 : Hid (Blk X1 (w.heap.size + 1) #[.int .i64 0, .slice none 0 0, .slice none 0 0] 30) := KR.out.on hb1 KR.out.lt
  clear hb1 c1 k0 k1 k2 KX KR
  generalize hR : w.heap.size + 1 = R at *
  have HRw : Hid (w.heap.size ≤ R) := by unfold Hid; omega
  clear hR
  have HZe : Hid (flushX e = zeroE) := by unfold Hid flushX; rw [if_neg HNo.out]
  obtain ⟨⟨r0, g0⟩, ⟨r1, g1⟩, ⟨r2, g2⟩, e0, e1, e2⟩ := res3 (x := .int .i64 0) (y := .slice none 0 0) (z := .slice none 0 0) KR1.out
  have SF : Hid (EngO (((X1.setCell ⟨R, 0, none⟩ (.int .i64 0)).setCell ⟨R, 1, none⟩ (.slice none 0 0)).setCell ⟨R, 2, none⟩ (.slice none 0 0)) w.heap.size (.agg #[.int .i64 0, .slice none 0 0, .slice none 0 0]) (flushX e)) := by
   unfold Hid
   rw [HZe.out]
   exact EngO.end3 (L := []) KR1.out rfl rfl (SerO.nilE _ _) (owns_strs (Owns.nil _ _ _ _))
  have BF : Hid (Below w.heap.size w (((X1.setCell ⟨R, 0, none⟩ (.int .i64 0)).setCell ⟨R, 1, none⟩ (.slice none 0 0)).setCell ⟨R, 2, none⟩ (.slice none 0 0))) := below_set3 B1.out HRw.out _ _ _
  go_wp2_with fail
  exact bodyPost_ret (v := .agg #[.int .i64 0, .slice none 0 0, .slice none 0 0]) (by simp [results, go_sem, e0, e1, e2]) rfl ⟨⟨_, rfl, SF.out⟩, BF.out⟩
end Go.Proofs.YtpmgndgkmffcnaaGreatDoor
