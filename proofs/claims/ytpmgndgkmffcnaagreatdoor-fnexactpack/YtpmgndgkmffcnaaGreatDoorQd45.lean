/- EgS9 EgSA -/
import Derived.Test.YtpmgndgkmffcnaaGreatDoorQd44
import Derived.Test.YtpmgndgkmffcnaaGreatDoorQd36
import Derived.WalkKit
import Derived.ProofKit
import Derived.OpenShut
import Derived.Below
import Derived.WalkSmall
import Derived.BigQuiet
import Derived.Deep.QuietTactic
import Derived.Deep.RegionWith
import Derived.Handy
open List (setIfInBounds_toArray set_cons_zero set_cons_succ)
namespace Go.Proofs.YtpmgndgkmffcnaaGreatDoor
open Go.ChangeShapes Go.WideShapes Go.ChangeAt Go.RowKit Go.PlainAid
set_option linter.unusedVariables false
set_option maxRecDepth 100000 in
set_option maxHeartbeats 8000000 in
theorem specFlushIn (e : Eng) (v vc vf : Value) (L : List (Ser × Value)) (base : Nat) (w : World) (ev : v = vE e.floor vc vf) (hL : L.map Prod.fst = e.cache) (hS : SerO w base vc L) (hT : Strs w base vf e.files) (hc : SOk e.cache) (hn : e.files.length ≤ 4) (hF : ∀ s ∈ e.files, isF s) (hbs : base ≤ w.heap.size) :
  Calls Tryz.prog 53 #[v] w fun b w' => (∃ u, b = .returned u ∧ EngO w' base u (flushS e)) ∧ Below base w w' := by
 have HF : Hid (∀ s ∈ e.files, isF s) := hF
 have HC : Hid (SOk e.cache) := hc
 have HL : Hid (L.map Prod.fst = e.cache) := hL
 have HBs : Hid (base ≤ w.heap.size) := hbs
 have HV : Hid (SerV w w.heap.size vc e.cache) := by unfold Hid; rw [← hL]; exact hS.view
 obtain ⟨A1, c1, rfl, _⟩ := HV.out.look
 obtain ⟨A2, c2, rfl, _⟩ := st_look (strs_owns hT).lies
 have HS : Hid (SerO w base (.slice A1 e.cache.length c1) L) := hS
 have HT : Hid (Strs w base (.slice A2 e.files.length c2) e.files) := hT
 subst ev
 unfold vE
 have HN4 : Hid (e.files.length ≤ 4) := hn
 have q4 : (e.files.length : Int) ≤ 4 := by omega
 have HSh : Hid (SShort e.cache) := ⟨by have := hc.1; omega, fun x hx => by have := (hc.col.2 x hx).1; omega⟩
 have HKy : Hid (∀ x ∈ e.cache, x.key.size ≤ maxLen) := fun x hx => by have := (hc.col.2 x hx).2.2.2; unfold maxLen; omega
 obtain ⟨X0, hX0⟩ : ∃ X0, X0 = (w.alloc (.cells #[.int .i64 e.floor, .slice A1 e.cache.length c1, .slice A2 e.files.length c2] 30)).alloc (.cells #[.int .i64 0, .slice none 0 0, .slice none 0 0] 30) := ⟨_, rfl⟩
 have BX : Hid (Below w.heap.size w X0) := by unfold Hid; rw [hX0]; exact below_alloc2 _ _ _
 have KX : Hid (Blk X0 w.heap.size #[.int .i64 e.floor, .slice A1 e.cache.length c1, .slice A2 e.files.length c2] 30) := by unfold Hid; rw [hX0]; exact (Blk.new w _ _).alloc _
 have KR : Hid (Blk X0 (w.heap.size + 1) #[.int .i64 0, .slice none 0 0, .slice none 0 0] 30) := by
  unfold Hid
  rw [hX0]
  have := Blk.new (w.alloc (.cells #[.int .i64 e.floor, .slice A1 e.cache.length c1, .slice A2 e.files.length c2] 30)) #[.int .i64 0, .slice none 0 0, .slice none 0 0] 30
  rw [World.size_alloc] at this
  exact this
 have k0 : _ = some (Value.int .i64 e.floor) := KX.out.cell 0 _ rfl
 have k1 : _ = some (Value.slice A1 e.cache.length c1) := KX.out.cell 1 _ rfl
 have k2 : _ = some (Value.slice A2 e.files.length c2) := KX.out.cell 2 _ rfl
 clear hL hS hT hc hn hF hbs
 by_cases h0 : e.cache = []
 ·have HE : Hid (flushS e = e) := by unfold Hid flushS awayS; rw [if_pos h0, if_neg (by have := HN4.out; omega)]
  have hl0 : e.cache.length = 0 := by rw [h0]; rfl
  clear h0
  have HFl : Hid (e.floor = e.floor) := rfl
  have SF : Hid (∀ (a b : Obj), EngO ((w.alloc a).alloc b) base (.agg #[.int .i64 e.floor, .slice A1 e.cache.length c1, .slice A2 e.files.length c2]) (flushS e) ∧ Below base w ((w.alloc a).alloc b)) := fun a b => by
   rw [HE.out]
   exact ⟨⟨_, _, L, rfl, HL.out, HS.out.on (below_alloc2 _ _ _), owns_strs ((strs_owns HT.out).on (below_alloc2 _ _ _))⟩, (below_alloc2 _ _ _).mono HBs.out⟩
  clear KR KX BX HSh HKy
  generalize e.cache.length = nc at *
  subst hl0
  generalize e.floor = f at *
  generalize e.files.length = nf at *
  rw [hX0] at k0 k1 k2
  clear hX0
  go_enter Tryz.func53, Tryz.ntmps53
  go_wp2_with fail
  exact bodyPost_ret (v := .agg #[.int .i64 f, .slice A1 0 c1, .slice A2 nf c2]) (by simp [results, go_sem]) rfl ⟨⟨_, rfl, (SF.out _ _).1⟩, (SF.out _ _).2⟩
 ·have HA : Hid (awayS e = ⟨e.floor, [], e.files ++ [fileT e.cache]⟩) := by unfold Hid awayS; rw [if_neg h0]
  have hl1 : 0 < e.cache.length := len_pos h0
  have q5 : (0 : Int) < (e.cache.length : Int) := by omega
  have HAF : Hid (∀ s ∈ e.files ++ [fileT e.cache], isF s) := by
   have h := away_files (Or.inr HC.out) HF.out
   rw [HA.out] at h
   exact h
  have HAz : Hid (∀ s ∈ e.files ++ [fileT e.cache], s.size ≤ 1048576) := fun s hs => by
   obtain ⟨m, hm⟩ := HAF.out s hs
   have := fileT_size m
   rw [hm.2.2] at this
   omega
  have c4 := fun (wx : World) (hx : Below w.heap.size w wx) => specFileText e.cache _ wx w.heap.size (HV.out.on hx) HSh.out HKy.out hx.size
  generalize hft : fileT e.cache = ft at *
  clear hft h0 hl1
  have HFL : Hid ((stR e.files).length ≤ 2097152) := by unfold Hid; rw [stR_length]; have := HN4.out; omega
  have HT2 : Hid (∀ wx, Below w.heap.size w wx → Owns wx base 9 1 (.slice A2 e.files.length c2) (stR e.files)) := fun wx hx => (strs_owns HT.out).on hx
  have HO5 : Hid (∀ wx A n c, Owns wx base 9 1 (.slice A n c) (stR e.files ++ [[.string ft]]) → Strs wx base (.slice A n c) (e.files ++ [ft]) ∧ n = e.files.length + 1) := fun wx A n c h => by
   have e1 : stR e.files ++ [[.string ft]] = stR (e.files ++ [ft]) := by simp [stR, stC]
   rw [e1] at h
   obtain ⟨A', c', e2, _⟩ := st_look h.lies
   refine ⟨owns_strs h, ?_⟩
   cases e2
   simp
  generalize hf : e.floor = f at *
  have HFe : Hid (e.floor = f) := hf
  clear hf
  generalize hnc : e.cache.length = nc at *
  clear hnc
  generalize hnf : e.files.length = nf at *
  have HNf : Hid (e.files.length = nf) := hnf
  clear hnf
  go_enter Tryz.func53, Tryz.ntmps53
  rw [hX0] at k0 k1 k2
  go_wp2_with fail
  rw [← hX0]
  clear hX0 k0 k1 k2
  refine wp_region_until (fun w' => w'.cell? ⟨w.heap.size, 1, none⟩ = some (.slice A1 nc c1) ∧ w'.cell? ⟨w.heap.size, 2, none⟩ = some (.slice A2 nf c2)) (fun i => i == 8) 9 (by rfl) (by kernel_rfl) ?_
  have V0 : Hid (Below X0.heap.size X0 X0.drew) := (Below.refl _ _).drew
  generalize X0.drew = Y0 at *
  have HS0 : Hid (∀ wx, Below X0.heap.size X0 wx → wx.cell? ⟨w.heap.size, 1, none⟩ = some (.slice A1 nc c1) ∧ wx.cell? ⟨w.heap.size, 2, none⟩ = some (.slice A2 nf c2)) := fun wx hx => ⟨(KX.out.on hx KX.out.lt).cell 1 _ rfl, (KX.out.on hx KX.out.lt).cell 2 _ rfl⟩
  have HBX : Hid (∀ wx, Below X0.heap.size X0 wx → Below w.heap.size w wx) := fun wx hx => BX.out.trans (hx.mono BX.out.size)
  refine until_take 0 (v := ?_) (by rfl) (by kernel_rfl) (by exact fun _ _ _ h => h) (by rfl) ?_ (HS0.out _ V0.out) ?_
  rotate_left
  ·intro w hSw
   try dsimp only at hSw
   go_simp
   try with_reducible rfl
  try simp only [Act.put, setIfInBounds_toArray, set_cons_zero, set_cons_succ]
  refine until_take 1 (v := ?_) (by rfl) (by kernel_rfl) (by exact fun _ _ _ h => h) (by rfl) ?_ (HS0.out _ V0.out) ?_
  rotate_left
  ·intro w hSw
   try dsimp only at hSw
   go_simp
   try with_reducible rfl
  try simp only [Act.put, setIfInBounds_toArray, set_cons_zero, set_cons_succ]
  refine until_take 2 (v := ?_) (by rfl) (by kernel_rfl) (by exact fun _ _ _ h => h) (by rfl) ?_ (HS0.out _ V0.out) ?_
  rotate_left
  ·intro w hSw
   try dsimp only at hSw
   go_simp
   try with_reducible rfl
  try simp only [Act.put, setIfInBounds_toArray, set_cons_zero, set_cons_succ]
  refine until_take 3 (v := ?_) (by rfl) (by kernel_rfl) (by exact fun _ _ _ h => h) (by rfl) ?_ (HS0.out _ V0.out) ?_
  rotate_left
  ·intro w hSw
   try dsimp only at hSw
   go_simp
   try with_reducible rfl
  try simp only [Act.put, setIfInBounds_toArray, set_cons_zero, set_cons_succ]
  refine until_one 4 (by rfl) (by kernel_rfl) (fun K hK => ?_)
  go_simp
  refine (c4 Y0 (HBX.out _ V0.out)).mono ?_
  rintro b Y1 ⟨rfl, hb1⟩
  have V1 : Hid (Below X0.heap.size X0 Y1) := V0.out.trans (hb1.mono V0.out.size)
  clear hb1 c4
  refine hK.out _ _ (fun _ _ => (HS0.out _ V1.out)) ?_
  clear hK K
  try simp only [Act.put, setIfInBounds_toArray, set_cons_zero, set_cons_succ]
  refine until_one 5 (by rfl) (by kernel_rfl) (fun K hK => ?_)
  go_simp
  have V2 : Hid (Below X0.heap.size X0 (Y1.alloc (.cells #[.string ft] 9))) := V1.out.alloc V1.out.size _
  refine hK.out _ _ (fun _ _ => (HS0.out _ V2.out)) ?_
  clear hK K
  try simp only [Act.put, setIfInBounds_toArray, set_cons_zero, set_cons_succ]
  obtain ⟨A5, n5, c5, w5, r5, hO5, hb5, hk5, hw5⟩ := run_append_row (P := Tryz.prog) Y1 23 23 9 (.string ⟨#[]⟩) 1 16 Tryz.underlying23 infoStr rfl (by omega) base (.slice A2 nf c2) (stR e.files) (HT2.out _ (HBX.out _ V1.out)) [.string ft] rfl (st_cell ft) HFL.out (by omega) (Nat.le_trans HBs.out (HBX.out _ V1.out).size)
  refine until_one 6 (by rfl) (by kernel_rfl) (fun K hK => ?_)
  refine step_append_run (by rfl) (.tmp 8) (.tmp 12) 23 (by rfl) _ _ _ _ (by rfl) (by rfl) r5 ?_
  obtain ⟨hT5, rfl⟩ := HO5.out _ _ _ _ hO5
  have T5 : Hid (Strs w5 base (.slice A5 (nf + 1) c5) (e.files ++ [ft])) := hT5
  have hK1 := KX.out.on V1.out KX.out.lt
  have hR1 := KR.out.on V1.out KR.out.lt
  have K5 : Hid (Blk w5 w.heap.size #[.int .i64 f, .slice A1 nc c1, .slice A2 nf c2] 30) := (hk5 _ hK1.lt ((HT2.out _ (HBX.out _ V1.out)).notBlk hK1 (by decide))).trans hK1
  have KR5 : Hid (Blk w5 (w.heap.size + 1) #[.int .i64 0, .slice none 0 0, .slice none 0 0] 30) := (hk5 _ hR1.lt ((HT2.out _ (HBX.out _ V1.out)).notBlk hR1 (by decide))).trans hR1
  have B5 : Hid (Below base w w5) := ((HBX.out _ V1.out).mono HBs.out).trans hb5
  have S5 : Hid (w5.cell? ⟨w.heap.size, 1, none⟩ = some (.slice A1 nc c1) ∧ w5.cell? ⟨w.heap.size, 2, none⟩ = some (.slice A2 nf c2)) := ⟨K5.out.cell 1 _ rfl, K5.out.cell 2 _ rfl⟩
  clear r5 hO5 hb5 hk5 hw5 hT5 hK1 hR1 V2
  refine hK.out _ _ (fun _ _ => S5.out) ?_
  clear hK K
  try simp only [Act.put, setIfInBounds_toArray, set_cons_zero, set_cons_succ]
  refine until_pure 7 (v := ?_) (by rfl) (by kernel_rfl) (by exact fun _ _ _ h => h) (by rfl) ?_ ?_
  rotate_left
  ·intro w
   go_simp
   try with_reducible rfl
  try simp only [Act.put, setIfInBounds_toArray, set_cons_zero, set_cons_succ]
  refine until_one 8 (by rfl) (by kernel_rfl) (fun K hK => ?_)
  have s1 : _ = some (Value.slice A2 nf c2) := K5.out.cell 2 _ rfl
  have f1 := K5.out.free 2
  go_simp
  refine hK.out _ _ (fun h => by cases h) ?_
  clear hK K s1 f1
  try simp only [Act.put, setIfInBounds_toArray, set_cons_zero, set_cons_succ]
  refine until_done (by kernel_rfl) ?_ _
  have hkb : KeptBut w.heap.size w5 (w5.setCell ⟨w.heap.size, 2, none⟩ (.slice A5 (nf + 1) c5)) := (KeptBut.refl _ _).set 2 _
  have K6 : Hid (Blk (w5.setCell ⟨w.heap.size, 2, none⟩ (.slice A5 (nf + 1) c5)) w.heap.size #[.int .i64 f, .slice A1 nc c1, .slice A5 (nf + 1) c5] 30) := K5.out.set 2 _
  have KR6 : Hid (Blk (w5.setCell ⟨w.heap.size, 2, none⟩ (.slice A5 (nf + 1) c5)) (w.heap.size + 1) #[.int .i64 0, .slice none 0 0, .slice none 0 0] 30) := KR5.out.but hkb (by omega)
  have T6 : Hid (Strs (w5.setCell ⟨w.heap.size, 2, none⟩ (.slice A5 (nf + 1) c5)) base (.slice A5 (nf + 1) c5) (e.files ++ [ft])) := T5.out.butE K5.out hkb
  have B6 : Hid (Below base w (w5.setCell ⟨w.heap.size, 2, none⟩ (.slice A5 (nf + 1) c5))) := B5.out.setCell HBs.out _
  generalize w5.setCell ⟨w.heap.size, 2, none⟩ (.slice A5 (nf + 1) c5) = X6 at *
  clear hkb K5 KR5 T5 B5 S5 KX KR HS0 HBX V0 V1 HT2 HO5
  obtain ⟨X7, hX7⟩ : ∃ X7, X7 = (X6.alloc (.cells #[] 58)).setCell ⟨w.heap.size, 1, none⟩ (.slice (some ⟨X6.heap.size, 0, none⟩) 0 0) := ⟨_, rfl⟩
  have hkb : KeptBut w.heap.size (X6.alloc (.cells #[] 58)) X7 := by rw [hX7]; exact (KeptBut.refl _ _).set 1 _
  have hK6 := K6.out.alloc (.cells #[] 58)
  have m1 : _ = some (Value.slice A1 nc c1) := hK6.cell 1 _ rfl
  have f1 := hK6.free 1
  have K7 : Hid (Blk X7 w.heap.size #[.int .i64 f, .slice (some ⟨X6.heap.size, 0, none⟩) 0 0, .slice A5 (nf + 1) c5] 30) := by unfold Hid; rw [hX7]; exact hK6.set 1 _
  have KR7 : Hid (Blk X7 (w.heap.size + 1) #[.int .i64 0, .slice none 0 0, .slice none 0 0] 30) := (KR6.out.alloc _).but hkb (by omega)
  have T7 : Hid (Strs X7 base (.slice A5 (nf + 1) c5) (e.files ++ [ft])) := Strs.butE (owns_strs ((strs_owns T6.out).on ((Below.refl _ X6).alloc (Nat.le_refl _) _))) hK6 hkb
  have S7 : Hid (SerO X7 base (.slice (some ⟨X6.heap.size, 0, none⟩) 0 0) []) := (SerO.emptyE X6 base (Nat.le_trans HBs.out B6.out.size)).butE hK6 hkb
  have B7 : Hid (Below base w X7) := by unfold Hid; rw [hX7]; exact (B6.out.alloc (Nat.le_trans HBs.out B6.out.size) _).setCell HBs.out _
  have HX7 : Hid (X6.heap.size < X7.heap.size) := by unfold Hid; rw [hX7]; simp
  clear hkb hK6 K6 KR6 T6 B6
  have o0 : _ = some (Value.int .i64 f) := K7.out.cell 0 _ rfl
  have o1 : _ = some (Value.slice (some ⟨X6.heap.size, 0, none⟩) 0 0) := K7.out.cell 1 _ rfl
  have o2 : _ = some (Value.slice A5 (nf + 1) c5) := K7.out.cell 2 _ rfl
  have HZ7 : Hid (base ≤ X7.heap.size) := Nat.le_trans HBs.out B7.out.size
  generalize hR : w.heap.size + 1 = R at *
  have HRw : Hid (w.heap.size ≤ R) := by unfold Hid; omega
  clear hR
  by_cases h4 : nf = 4
  ·have HE : Hid (flushS e = oneS ⟨f, [], e.files ++ [ft]⟩) := by unfold Hid flushS; rw [HA.out, if_pos (by have := HNf.out; simp; omega)]
   subst h4
   have c6 := specOne ⟨f, [], e.files ++ [ft]⟩ _ _ _ [] base X7 rfl rfl S7.out T7.out ⟨by simp, fun x hx => by cases hx⟩ (by have := HNf.out; simp; omega) HAz.out HAF.out HZ7.out
   unfold vE at c6
   dsimp only at c6
   rw [hX7] at o0 o1 o2 c6
   go_wp2_with fail
   refine c6.mono ?_
   rintro b X8 ⟨⟨u8, rfl, hE8⟩, hb8⟩
   rw [← hX7] at hb8
   have KR8 : Hid (Blk X8 R #[.int .i64 0, .slice none 0 0, .slice none 0 0] 30) := KR7.out.on hb8 KR7.out.lt
   have B8 : Hid (Below base w X8) := B7.out.trans (hb8.mono HZ7.out)
   obtain ⟨vc8, vf8, L8, ev8, hL8, hS8, hT8⟩ := hE8
   unfold vE at ev8
   subst ev8
   obtain ⟨⟨r0, g0⟩, ⟨r1, g1⟩, ⟨r2, g2⟩, e0, e1, e2⟩ := res3 (x := .int .i64 (oneS ⟨f, [], e.files ++ [ft]⟩).floor) (y := vc8) (z := vf8) KR8.out
   have SF : Hid (EngO (((X8.setCell ⟨R, 0, none⟩ (.int .i64 (oneS ⟨f, [], e.files ++ [ft]⟩).floor)).setCell ⟨R, 1, none⟩ vc8).setCell ⟨R, 2, none⟩ vf8) base (.agg #[.int .i64 (oneS ⟨f, [], e.files ++ [ft]⟩).floor, vc8, vf8]) (flushS e)) := by
    unfold Hid
    rw [HE.out]
    exact EngO.end3 KR8.out rfl hL8 hS8 hT8
   have BF : Hid (Below base w (((X8.setCell ⟨R, 0, none⟩ (.int .i64 (oneS ⟨f, [], e.files ++ [ft]⟩).floor)).setCell ⟨R, 1, none⟩ vc8).setCell ⟨R, 2, none⟩ vf8)) := ((B8.out.setCell (Nat.le_trans HBs.out HRw.out) _).setCell (Nat.le_trans HBs.out HRw.out) _).setCell (Nat.le_trans HBs.out HRw.out) _
   obtain ⟨A8, n8, d8, rfl⟩ := hS8.1.shape
   obtain ⟨A9, n9, d9, rfl⟩ := (strs_owns hT8).shape
   clear hL8 hS8 hT8 hb8 c6 o0 o1 o2 m1 f1 hX7 B8 KR8
   generalize (oneS ⟨f, [], e.files ++ [ft]⟩).floor = f8 at *
   go_wp2_with fail
   exact bodyPost_ret (v := .agg #[.int .i64 f8, .slice A8 n8 d8, .slice A9 n9 d9]) (by simp [results, go_sem, e0, e1, e2]) rfl ⟨⟨_, rfl, SF.out⟩, BF.out⟩
  ·have HE : Hid (flushS e = ⟨f, [], e.files ++ [ft]⟩) := by unfold Hid flushS; rw [HA.out, if_neg (by have := HNf.out; have := HN4.out; simp; omega)]
   have q6 : ((nf + 1 : Nat) : Int) ≤ 4 := by have := HN4.out; omega
   obtain ⟨⟨r0, g0⟩, ⟨r1, g1⟩, ⟨r2, g2⟩, e0, e1, e2⟩ := res3 (x := .int .i64 f) (y := .slice (some ⟨X6.heap.size, 0, none⟩) 0 0) (z := .slice A5 (nf + 1) c5) KR7.out
   have SF : Hid (EngO (((X7.setCell ⟨R, 0, none⟩ (.int .i64 f)).setCell ⟨R, 1, none⟩ (.slice (some ⟨X6.heap.size, 0, none⟩) 0 0)).setCell ⟨R, 2, none⟩ (.slice A5 (nf + 1) c5)) base (.agg #[.int .i64 f, .slice (some ⟨X6.heap.size, 0, none⟩) 0 0, .slice A5 (nf + 1) c5]) (flushS e)) := by
    unfold Hid
    rw [HE.out]
    exact EngO.end3 KR7.out rfl rfl S7.out T7.out
   have BF : Hid (Below base w (((X7.setCell ⟨R, 0, none⟩ (.int .i64 f)).setCell ⟨R, 1, none⟩ (.slice (some ⟨X6.heap.size, 0, none⟩) 0 0)).setCell ⟨R, 2, none⟩ (.slice A5 (nf + 1) c5))) := ((B7.out.setCell (Nat.le_trans HBs.out HRw.out) _).setCell (Nat.le_trans HBs.out HRw.out) _).setCell (Nat.le_trans HBs.out HRw.out) _
   rw [hX7] at o0 o1 o2 r0 g0 r1 g1 r2 g2 e0 e1 e2 SF BF
   clear hX7 K7 KR7 S7 T7 B7
   generalize nf + 1 = n5 at *
   go_wp2_with fail
   exact bodyPost_ret (v := .agg #[.int .i64 f, .slice (some ⟨X6.heap.size, 0, none⟩) 0 0, .slice A5 n5 c5]) (by simp [results, go_sem, e0, e1, e2]) rfl ⟨⟨_, rfl, SF.out⟩, BF.out⟩
end Go.Proofs.YtpmgndgkmffcnaaGreatDoor
namespace Go.Proofs.YtpmgndgkmffcnaaGreatDoor
open Go.ChangeShapes Go.WideShapes Go.ChangeAt Go.RowKit Go.PlainAid
set_option linter.unusedVariables false
theorem flush_cache (e : Eng) : (flushS e).cache = [] := by
 unfold flushS
 by_cases h : 4 < (awayS e).files.length
 ·rw [if_pos h]; exact away_cache e
 ·rw [if_neg h]; exact away_cache e
theorem one_isF {e : Eng} (hp : SOk (plainE e)) : ∀ s ∈ (oneS e).files, isF s := fun s hs => by
 unfold oneS at hs
 dsimp only at hs
 rw [one_files hp] at hs
 by_cases h : plainE e = []
 ·rw [if_pos h] at hs; cases hs
 ·rw [if_neg h] at hs
  rw [List.mem_singleton.1 hs]
  exact ⟨_, len_pos h, hp, rfl⟩
theorem flush_isF {e : Eng} (h : EOk e) : ∀ s ∈ (flushS e).files, isF s := by
 unfold flushS
 by_cases h4 : 4 < (awayS e).files.length
 ·rw [if_pos h4]
  exact one_isF (by rw [away_plain (Or.inr h.1.2.2.1)]; exact h.2.2)
 ·rw [if_neg h4]
  exact away_files (Or.inr h.1.2.2.1) h.2.1
theorem flush_few {e : Eng} : (flushS e).files.length ≤ 4 := by
 unfold flushS
 by_cases h4 : 4 < (awayS e).files.length
 ·rw [if_pos h4]
  unfold oneS
  dsimp only
  split <;> simp
 ·rw [if_neg h4]
  omega
theorem isF_small {s : ByteArray} (h : isF s) : s.size ≤ 1048576 := by
 obtain ⟨m, hm⟩ := h
 have := fileT_size m
 rw [hm.2.2] at this
 omega
set_option maxRecDepth 100000 in
set_option maxHeartbeats 8000000 in
theorem specPackX (e : Eng) (v : Value) (w : World) (B : Nat) (hv : EngV w B v e) (hs : EShort e) (hB : B ≤ w.heap.size) :
  Calls Tryz.prog 28 #[v] w fun b w' => (∃ u, b = .returned u ∧ EngO w' w.heap.size u (packX e)) ∧ Below w.heap.size w w' := by
 obtain ⟨vc, vf, rfl, hc, hl⟩ := hv
 unfold vE
 obtain ⟨Ac, cc, rfl, _⟩ := hc.look
 obtain ⟨A, cap, rfl, _⟩ := st_look hl
 have HV : Hid (EngV w B (vE e.floor (.slice Ac e.cache.length cc) (.slice A e.files.length cap)) e) := ⟨_, _, rfl, hc, hl⟩
 have HB : Hid (B ≤ w.heap.size) := hB
 have HSh : Hid (EShort e) := hs
 obtain ⟨X0, hX0⟩ : ∃ X0, X0 = (w.alloc (.cells #[.int .i64 e.floor, .slice Ac e.cache.length cc, .slice A e.files.length cap] 30)).alloc (.cells #[.int .i64 0, .slice none 0 0, .slice none 0 0] 30) := ⟨_, rfl⟩
 have BX : Hid (Below w.heap.size w X0) := by unfold Hid; rw [hX0]; exact below_alloc2 _ _ _
 have KX : Hid (Blk X0 w.heap.size #[.int .i64 e.floor, .slice Ac e.cache.length cc, .slice A e.files.length cap] 30) := by unfold Hid; rw [hX0]; exact (Blk.new w _ _).alloc _
 have KR : Hid (Blk X0 (w.heap.size + 1) #[.int .i64 0, .slice none 0 0, .slice none 0 0] 30) := by
  unfold Hid
  rw [hX0]
  have := Blk.new (w.alloc (.cells #[.int .i64 e.floor, .slice Ac e.cache.length cc, .slice A e.files.length cap] 30)) #[.int .i64 0, .slice none 0 0, .slice none 0 0] 30
  rw [World.size_alloc] at this
  exact this
 have ZB : Hid (B ≤ X0.heap.size) := Nat.le_trans hB BX.out.size
 have k0 : _ = some (Value.int .i64 e.floor) := KX.out.cell 0 _ rfl
 have k1 : _ = some (Value.slice Ac e.cache.length cc) := KX.out.cell 1 _ rfl
 have k2 : _ = some (Value.slice A e.files.length cap) := KX.out.cell 2 _ rfl
 have c1 := specEngineOk e _ X0 B (HV.out.on (BX.out.mono hB)) hs ZB.out
 unfold vE at c1
 by_cases hok : EOk e
 ·rw [decide_eq_true hok] at c1
  have HOk : Hid (EOk e) := hok
  clear hc hl hB hs hok
  go_enter Tryz.func28, Tryz.ntmps28
  go_wp2_with fail
  rw [← hX0]
  clear hX0
  refine c1.mono ?_
  rintro b X1 ⟨rfl, hb1⟩
  have B1 : Hid (Below w.heap.size w X1) := BX.out.trans (hb1.mono BX.out.size)
  have K1 : Hid (Blk X1 w.heap.size #[.int .i64 e.floor, .slice Ac e.cache.length cc, .slice A e.files.length cap] 30) := KX.out.on hb1 KX.out.lt
  have KR1 : Hid (Blk X1 (w.heap.size + 1) #[.int .i64 0, .slice none 0 0, .slice none 0 0] 30) := KR.out.on hb1 KR.out.lt
  have m0 := K1.out.cell 0 _ rfl
  have m1 := K1.out.cell 1 _ rfl
  have m2 := K1.out.cell 2 _ rfl
  have c2 := specCopy e _ X1 B (HV.out.on (B1.out.mono HB.out)) HSh.out (Nat.le_trans HB.out B1.out.size)
  unfold vE at c2
  clear hb1 c1 k0 k1 k2 KX KR
  go_wp2_with fail
  refine c2.mono ?_
  rintro b X2 ⟨⟨u2, rfl, hE2⟩, hb2⟩
  obtain ⟨vc2, vf2, L2, ev2, hL2, hS2, hT2⟩ := hE2
  have B2 : Hid (Below w.heap.size w X2) := B1.out.trans (hb2.mono B1.out.size)
  have KR2 : Hid (Blk X2 (w.heap.size + 1) #[.int .i64 0, .slice none 0 0, .slice none 0 0] 30) := KR1.out.on hb2 KR1.out.lt
  have c3 := specFlushIn e u2 vc2 vf2 L2 X1.heap.size X2 ev2 hL2 hS2 hT2 HOk.out.1.2.2.1 HOk.out.1.2.1 HOk.out.2.1 hb2.size
  obtain ⟨A3, n3, c3', rfl⟩ := hS2.1.shape
  obtain ⟨A4, n4, c4', rfl⟩ := (strs_owns hT2).shape
  have HZ1 : Hid (w.heap.size ≤ X1.heap.size ∧ w.heap.size + 1 < X1.heap.size) := ⟨B1.out.size, KR1.out.lt⟩
  unfold vE at ev2
  subst ev2
  clear hL2 hS2 hT2 hb2 c2 m0 m1 m2 K1 KR1
  go_wp2_with fail
  refine c3.mono ?_
  rintro b X3 ⟨⟨u3, rfl, hE3⟩, hb3⟩
  obtain ⟨vc3, vf3, L3, ev3, hL3, hS3, hT3⟩ := hE3
  have B3 : Hid (Below w.heap.size w X3) := B2.out.trans (hb3.mono HZ1.out.1)
  have KR3 : Hid (Blk X3 (w.heap.size + 1) #[.int .i64 0, .slice none 0 0, .slice none 0 0] 30) := KR2.out.on hb3 HZ1.out.2
  have HZ3 : Hid (X2.heap.size ≤ X3.heap.size) := hb3.size
  have c4 := specOne (flushS e) u3 vc3 vf3 L3 w.heap.size X3 ev3 hL3 (hS3.mono HZ1.out.1) (owns_strs ((strs_owns hT3).mono HZ1.out.1)) (by rw [flush_cache]; exact ⟨by simp, fun x hx => by cases hx⟩) (Nat.le_trans flush_few (by omega)) (fun s hs => isF_small (flush_isF HOk.out s hs)) (flush_isF HOk.out) B3.out.size
  obtain ⟨A5, n5, c5', rfl⟩ := hS3.1.shape
  obtain ⟨A6, n6, c6', rfl⟩ := (strs_owns hT3).shape
  unfold vE at ev3
  subst ev3
  clear hL3 hS3 hT3 hb3 c3
  generalize (flushS e).floor = f3 at *
  go_wp2_with fail
  refine c4.mono ?_
  rintro b X4 ⟨⟨u4, rfl, hE4⟩, hb4⟩
  rw [pack_same HOk.out.1.2.1 (Or.inr HOk.out.1.2.2.1) HOk.out.2.2] at hE4
  rw [show packA e.floor (plainE e) = packX e by unfold packX; rw [if_pos HOk.out]] at hE4
  obtain ⟨vc4, vf4, L4, ev4, hL4, hS4, hT4⟩ := hE4
  have B4 : Hid (Below w.heap.size w X4) := B3.out.trans (hb4.mono B3.out.size)
  have KR4 : Hid (Blk X4 (w.heap.size + 1) #[.int .i64 0, .slice none 0 0, .slice none 0 0] 30) := KR3.out.on hb4 KR3.out.lt
  obtain ⟨Ay, ny, cy, rfl⟩ := hS4.1.shape
  obtain ⟨Az, nz, cz, rfl⟩ := (strs_owns hT4).shape
  unfold vE at ev4
  subst ev4
  have HLf : Hid (L4.map Prod.fst = (packX e).cache) := hL4
  have HSf : Hid (SerO X4 w.heap.size (.slice Ay ny cy) L4) := hS4
  have HTf : Hid (Strs X4 w.heap.size (.slice Az nz cz) (packX e).files) := hT4
  generalize hff : (packX e).floor = ff at *
  have HFf : Hid ((packX e).floor = ff) := hff
  clear hff hL4 hS4 hT4 hb4 c4 KR2 KR3
  generalize hR : w.heap.size + 1 = R at *
  have HRw : Hid (w.heap.size ≤ R) := by unfold Hid; omega
  clear hR
  obtain ⟨⟨r0, g0⟩, ⟨r1, g1⟩, ⟨r2, g2⟩, e0, e1, e2⟩ := res3 (x := .int .i64 ff) (y := .slice Ay ny cy) (z := .slice Az nz cz) KR4.out
  have SF : Hid (EngO (((X4.setCell ⟨R, 0, none⟩ (.int .i64 ff)).setCell ⟨R, 1, none⟩ (.slice Ay ny cy)).setCell ⟨R, 2, none⟩ (.slice Az nz cz)) w.heap.size (.agg #[.int .i64 ff, .slice Ay ny cy, .slice Az nz cz]) (packX e)) := EngO.end3 KR4.out HFf.out HLf.out HSf.out HTf.out
  have BF : Hid (Below w.heap.size w (((X4.setCell ⟨R, 0, none⟩ (.int .i64 ff)).setCell ⟨R, 1, none⟩ (.slice Ay ny cy)).setCell ⟨R, 2, none⟩ (.slice Az nz cz))) := below_set3 B4.out HRw.out _ _ _
  go_wp2_with fail
  exact bodyPost_ret (v := .agg #[.int .i64 ff, .slice Ay ny cy, .slice Az nz cz]) (by simp [results, go_sem, e0, e1, e2]) rfl ⟨⟨_, rfl, SF.out⟩, BF.out⟩
 ·rw [decide_eq_false hok] at c1
  have HNo : Hid (¬ EOk e) := hok
  clear hc hl hB hs hok
  go_enter Tryz.func28, Tryz.ntmps28
  go_wp2_with fail
  rw [← hX0]
  clear hX0
  refine c1.mono ?_
  rintro b X1 ⟨rfl, hb1⟩
  have B1 : Hid (Below w.heap.size w X1) := BX.out.trans (hb1.mono BX.out.size)
  have KR1 : Hid (Blk X1 (w.heap.size + 1) #[.int .i64 0, .slice none 0 0, .slice none 0 0] 30) := KR.out.on hb1 KR.out.lt
  clear hb1 c1 k0 k1 k2 KX KR
  generalize hR : w.heap.size + 1 = R at *
  have HRw : Hid (w.heap.size ≤ R) := by unfold Hid; omega
  clear hR
  have HZe : Hid (packX e = zeroE) := by unfold Hid packX; rw [if_neg HNo.out]
  obtain ⟨⟨r0, g0⟩, ⟨r1, g1⟩, ⟨r2, g2⟩, e0, e1, e2⟩ := res3 (x := .int .i64 0) (y := .slice none 0 0) (z := .slice none 0 0) KR1.out
  have SF : Hid (EngO (((X1.setCell ⟨R, 0, none⟩ (.int .i64 0)).setCell ⟨R, 1, none⟩ (.slice none 0 0)).setCell ⟨R, 2, none⟩ (.slice none 0 0)) w.heap.size (.agg #[.int .i64 0, .slice none 0 0, .slice none 0 0]) (packX e)) := by
   unfold Hid
   rw [HZe.out]
   exact EngO.end3 (L := []) KR1.out rfl rfl (SerO.nilE _ _) (owns_strs (Owns.nil _ _ _ _))
  have BF : Hid (Below w.heap.size w (((X1.setCell ⟨R, 0, none⟩ (.int .i64 0)).setCell ⟨R, 1, none⟩ (.slice none 0 0)).setCell ⟨R, 2, none⟩ (.slice none 0 0))) := below_set3 B1.out HRw.out _ _ _
  go_wp2_with fail
  exact bodyPost_ret (v := .agg #[.int .i64 0, .slice none 0 0, .slice none 0 0]) (by simp [results, go_sem, e0, e1, e2]) rfl ⟨⟨_, rfl, SF.out⟩, BF.out⟩
end Go.Proofs.YtpmgndgkmffcnaaGreatDoor
