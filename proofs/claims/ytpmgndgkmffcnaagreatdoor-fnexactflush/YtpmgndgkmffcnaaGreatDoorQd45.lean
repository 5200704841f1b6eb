/- EgS9 EgSA EgI9 -/
import Derived.Test.YtpmgndgkmffcnaaGreatDoorQd44
import Derived.Test.YtpmgndgkmffcnaaGreatDoorQd36
import Derived.WalkKit
import Derived.ProofKit
import Derived.OpenShut
import Derived.Below
import Derived.WalkSmall
import Derived.BigQuiet
import Derived.Deep.QuietTactic
import Derived.Deep.RegionWith
import Derived.Handy
import Derived.Test.YtpmgndgkmffcnaaGreatDoorQd42
import Derived.Test.YtpmgndgkmffcnaaGreatDoorQd9
import Derived.Test.YtpmgndgkmffcnaaGreatDoorQd43
import Derived.Test.YtpmgndgkmffcnaaGreatDoorQd29
open List (setIfInBounds_toArray set_cons_zero set_cons_succ)
namespace Go.Proofs.YtpmgndgkmffcnaaGreatDoor
open Go.ChangeShapes Go.WideShapes Go.ChangeAt Go.RowKit Go.PlainAid
set_option linter.unusedVariables false
set_option maxRecDepth 100000 in
set_option maxHeartbeats 8000000 in
theorem specFlushIn (e : Eng) (v vc vf : Value) (L : List (Ser × Value)) (base : Nat) (w : World) (ev : v = vE e.floor vc vf) (hL : L.map Prod.fst = e.cache) (hS : SerO w base vc L) (hT : Strs w base vf e.files) (hc : SOk e.cache) (hn : e.files.length ≤ 4) (hF : ∀ s ∈ e.files, isF s) (hbs : base ≤ w.heap.size) :
  Calls Tryz.prog 53 #[v] w fun b w' => (∃ u, b = .returned u ∧ EngO w' base u (flushS e)) ∧ Below base w w' := by
 have HF : Hid (∀ s ∈ e.files, isF s) := hF
 have HC : Hid (SOk e.cache) := hc
 have HL : Hid (L.map Prod.fst = e.cache) := hL
 have HBs : Hid (base ≤ w.heap.size) := hbs
 have HV : Hid (SerV w w.heap.size vc e.cache) := by unfold Hid; rw [← hL]; exact hS.view
 obtain ⟨A1, c1, rfl, _⟩ := HV.out.look
 obtain ⟨A2, c2, rfl, _⟩ := st_look (strs_owns hT).lies
 have HS : Hid (SerO w base (.slice A1 e.cache.length c1) L) := hS
 have HT : Hid (Strs w base (.slice A2 e.files.length c2) e.files) := hT
 subst ev
 unfold vE
 have HN4 : Hid (e.files.length ≤ 4) := hn
 have q4 : (e.files.length : Int) ≤ 4 := by omega
 have HSh : Hid (SShort e.cache) := ⟨by have := hc.1; omega, fun x hx => by have := (hc.col.2 x hx).1; omega⟩
 have HKy : Hid (∀ x ∈ e.cache, x.key.size ≤ maxLen) := fun x hx => by have := (hc.col.2 x hx).2.2.2; unfold maxLen; omega
 obtain ⟨X0, hX0⟩ : ∃ X0, X0 = (w.alloc (.cells #[.int .i64 e.floor, .slice A1 e.cache.length c1, .slice A2 e.files.length c2] 30)).alloc (.cells #[.int .i64 0, .slice none 0 0, .slice none 0 0] 30) := ⟨_, rfl⟩
 have BX : Hid (Below w.heap.size w X0) := by unfold Hid; rw [hX0]; exact below_alloc2 _ _ _
 have KX : Hid (Blk X0 w.heap.size #[.int .i64 e.floor, .slice A1 e.cache.length c1, .slice A2 e.files.length c2] 30) := by unfold Hid; rw [hX0]; exact (Blk.new w _ _).alloc _
 have KR : Hid (Blk X0 (w.heap.size + 1) #[.int .i64 0, .slice none 0 0, .slice none 0 0] 30) := by
  unfold Hid
  rw [hX0]
  have := Blk.new (w.alloc (.cells #[.int .i64 e.floor, .slice A1 e.cache.length c1, .slice A2 e.files.length c2] 30)) #[.int .i64 0, .slice none 0 0, .slice none 0 0] 30
  rw [World.size_alloc] at this
  exact this
 have k0 : _ = some (Value.int .i64 e.floor) := KX.out.cell 0 _ rfl
 have k1 : _ = some (Value.slice A1 e.cache.length c1) := KX.out.cell 1 _ rfl
 have k2 : _ = some (Value.slice A2 e.files.length c2) := KX.out.cell 2 _ rfl
 clear hL hS hT hc hn hF hbs
 by_cases h0 : e.cache = []
 ·have HE : Hid (flushS e = e) := by unfold Hid flushS awayS; rw [if_pos h0, if_neg (by have := HN4.out; omega)]
  have hl0 : e.cache.length = 0 := by rw [h0]; rfl
  clear h0
  have HFl : Hid (e.floor = e.floor) := rfl
  have SF : Hid (∀ (a b : Obj), EngO ((w.alloc a).alloc b) base (.agg #[.int .i64 e.floor, .slice A1 e.cache.length c1, .slice A2 e.files.length c2]) (flushS e) ∧ Below base w ((w.alloc a).alloc b)) := fun a b => by
   rw [HE.out]
   exact ⟨⟨_, _, L, rfl, HL.out, HS.out.on (below_alloc2 _ _ _), owns_strs ((strs_owns HT.out).on (below_alloc2 _ _ _))⟩, (below_alloc2 _ _ _).mono HBs.out⟩
  clear KR KX BX HSh HKy
  generalize e.cache.length = nc at *
  subst hl0
  generalize e.floor = f at *
  generalize e.files.length = nf at *
  rw [hX0] at k0 k1 k2
  clear hX0
  go_enter Tryz.func53, Tryz.ntmps53
  go_wp2_with fail
  exact bodyPost_ret (v := .agg #[.int .i64 f, .slice A1 0 c1, .slice A2 nf c2]) (by simp [results, go_sem]) rfl ⟨⟨_, rfl, (SF.out _ _).1⟩, (SF.out _ _).2⟩
 ·have HA : Hid (awayS e = ⟨e.floor, [], e.files ++ [fileT e.cache]⟩) := by unfold Hid awayS; rw [if_neg h0]
  have hl1 : 0 < e.cache.length := len_pos h0
  have q5 : (0 : Int) < (e.cache.length : Int) := by omega
  have HAF : Hid (∀ s ∈ e.files ++ [fileT e.cache], isF s) := by
   have h := away_files (Or.inr HC.out) HF.out
   rw [HA.out] at h
   exact h
  have HAz : Hid (∀ s ∈ e.files ++ [fileT e.cache], s.size ≤ 1048576) := fun s hs => by
   obtain ⟨m, hm⟩ := HAF.out s hs
   have := fileT_size m
   rw [hm.2.2] at this
   omega
  have c4 := fun (wx : World) (hx : Below w.heap.size w wx) => specFileText e.cache _ wx w.heap.size (HV.out.on hx) HSh.out HKy.out hx.size
  generalize hft : fileT e.cache = ft at *
  clear hft h0 hl1
  have HFL : Hid ((stR e.files).length ≤ 2097152) := by unfold Hid; rw [stR_length]; have := HN4.out; omega
  have HT2 : Hid (∀ wx, Below w.heap.size w wx → Owns wx base 9 1 (.slice A2 e.files.length c2) (stR e.files)) := fun wx hx => (strs_owns HT.out).on hx
  have HO5 : Hid (∀ wx A n c, Owns wx base 9 1 (.slice A n c) (stR e.files ++ [[.string ft]]) → Strs wx base (.slice A n c) (e.files ++ [ft]) ∧ n = e.files.length + 1) := fun wx A n c h => by
   have e1 : stR e.files ++ [[.string ft]] = stR (e.files ++ [ft]) := by simp [stR, stC]
   rw [e1] at h
   obtain ⟨A', c', e2, _⟩ := st_look h.lies
   refine ⟨owns_strs h, ?_⟩
   cases e2
   simp
  generalize hf : e.floor = f at *
  have HFe : Hid (e.floor = f) := hf
  clear hf
  generalize hnc : e.cache.length = nc at *
  clear hnc
  generalize hnf : e.files.length = nf at *
  have HNf : Hid (e.files.length = nf) := hnf
  clear hnf
  go_enter Tryz.func53, Tryz.ntmps53
  rw [hX0] at k0 k1 k2
  go_wp2_with fail
  rw [← hX0]
  clear hX0 k0 k1 k2
  refine wp_region_until (fun w' => w'.cell? ⟨w.heap.size, 1, none⟩ = some (.slice A1 nc c1) ∧ w'.cell? ⟨w.heap.size, 2, none⟩ = some (.slice A2 nf c2)) (fun i => i == 8) 9 (by rfl) (by kernel_rfl) ?_
  have V0 : Hid (Below X0.heap.size X0 X0.drew) := (Below.refl _ _).drew
  generalize X0.drew = Y0 at *
  have HS0 : Hid (∀ wx, Below X0.heap.size X0 wx → wx.cell? ⟨w.heap.size, 1, none⟩ = some (.slice A1 nc c1) ∧ wx.cell? ⟨w.heap.size, 2, none⟩ = some (.slice A2 nf c2)) := fun wx hx => ⟨(KX.out.on hx KX.out.lt).cell 1 _ rfl, (KX.out.on hx KX.out.lt).cell 2 _ rfl⟩
  have HBX : Hid (∀ wx, Below X0.heap.size X0 wx → Below w.heap.size w wx) := fun wx hx => BX.out.trans (hx.mono BX.out.size)
  refine until_take 0 (v := ?_) (by rfl) (by kernel_rfl) (by exact fun _ _ _ h => h) (by rfl) ?_ (HS0.out _ V0.out) ?_
  rotate_left
  ·intro w hSw
   try dsimp only at hSw
   go_simp
   try with_reducible rfl
  try simp only [Act.put, setIfInBounds_toArray, set_cons_zero, set_cons_succ]
  refine until_take 1 (v := ?_) (by rfl) (by kernel_rfl) (by exact fun _ _ _ h => h) (by rfl) ?_ (HS0.out _ V0.out) ?_
  rotate_left
  ·intro w hSw
   try dsimp only at hSw
   go_simp
   try with_reducible rfl
  try simp only [Act.put, setIfInBounds_toArray, set_cons_zero, set_cons_succ]
  refine until_take 2 (v := ?_) (by rfl) (by kernel_rfl) (by exact fun _ _ _ h => h) (by rfl) ?_ (HS0.out _ V0.out) ?_
  rotate_left
  ·intro w hSw
   try dsimp only at hSw
   go_simp
   try with_reducible rfl
  try simp only [Act.put, setIfInBounds_toArray, set_cons_zero, set_cons_succ]
  refine until_take 3 (v := ?_) (by rfl) (by kernel_rfl) (by exact fun _ _ _ h => h) (by rfl) ?_ (HS0.out _ V0.out) ?_
  rotate_left
  ·intro w hSw
   try dsimp only at hSw
   go_simp
   try with_reducible rfl
  try simp only [Act.put, setIfInBounds_toArray, set_cons_zero, set_cons_succ]
  refine until_one 4 (by rfl) (by kernel_rfl) (fun K hK => ?_)
  go_simp
  refine (c4 Y0 (HBX.out _ V0.out)).mono ?_
  rintro b Y1 ⟨rfl, hb1⟩
  have V1 : Hid (Below X0.heap.size X0 Y1) := V0.out.trans (hb1.mono V0.out.size)
  clear hb1 c4
  refine hK.out _ _ (fun _ _ => (HS0.out _ V1.out)) ?_
  clear hK K
  try simp only [Act.put, setIfInBounds_toArray, set_cons_zero, set_cons_succ]
  refine until_one 5 (by rfl) (by kernel_rfl) (fun K hK => ?_)
  go_simp
  have V2 : Hid (Below X0.heap.size X0 (Y1.alloc (.cells #[.string ft] 9))) := V1.out.alloc V1.out.size _
  refine hK.out _ _ (fun _ _ => (HS0.out _ V2.out)) ?_
  clear hK K
  try simp only [Act.put, setIfInBounds_toArray, set_cons_zero, set_cons_succ]
  obtain ⟨A5, n5, c5, w5, r5, hO5, hb5, hk5, hw5⟩ := run_append_row (P := Tryz.prog) Y1 23 23 9 (.string ⟨#[]⟩) 1 16 Tryz.underlying23 infoStr rfl (by omega) base (.slice A2 nf c2) (stR e.files) (HT2.out _ (HBX.out _ V1.out)) [.string ft] rfl (st_cell ft) HFL.out (by omega) (Nat.le_trans HBs.out (HBX.out _ V1.out).size)
  refine until_one 6 (by rfl) (by kernel_rfl) (fun K hK => ?_)
  refine step_append_run (by rfl) (.tmp 8) (.tmp 12) 23 (by rfl) _ _ _ _ (by rfl) (by rfl) r5 ?_
  obtain ⟨hT5, rfl⟩ := HO5.out _ _ _ _ hO5
  have T5 : Hid (Strs w5 base (.slice A5 (nf + 1) c5) (e.files ++ [ft])) := hT5
  have hK1 := KX.out.on V1.out KX.out.lt
  have hR1 := KR.out.on V1.out KR.out.lt
  have K5 : Hid (Blk w5 w.heap.size #[.int .i64 f, .slice A1 nc c1, .slice A2 nf c2] 30) := (hk5 _ hK1.lt ((HT2.out _ (HBX.out _ V1.out)).notBlk hK1 (by decide))).trans hK1
  have KR5 : Hid (Blk w5 (w.heap.size + 1) #[.int .i64 0, .slice none 0 0, .slice none 0 0] 30) := (hk5 _ hR1.lt ((HT2.out _ (HBX.out _ V1.out)).notBlk hR1 (by decide))).trans hR1
  have B5 : Hid (Below base w w5) := ((HBX.out _ V1.out).mono HBs.out).trans hb5
  have S5 : Hid (w5.cell? ⟨w.heap.size, 1, none⟩ = some (.slice A1 nc c1) ∧ w5.cell? ⟨w.heap.size, 2, none⟩ = some (.slice A2 nf c2)) := ⟨K5.out.cell 1 _ rfl, K5.out.cell 2 _ rfl⟩
  clear r5 hO5 hb5 hk5 hw5 hT5 hK1 hR1 V2
  refine hK.out _ _ (fun _ _ => S5.out) ?_
  clear hK K
  try simp only [Act.put, setIfInBounds_toArray, set_cons_zero, set_cons_succ]
  refine until_pure 7 (v := ?_) (by rfl) (by kernel_rfl) (by exact fun _ _ _ h => h) (by rfl) ?_ ?_
  rotate_left
  ·intro w
   go_simp
   try with_reducible rfl
  try simp only [Act.put, setIfInBounds_toArray, set_cons_zero, set_cons_succ]
  refine until_one 8 (by rfl) (by kernel_rfl) (fun K hK => ?_)
  have s1 : _ = some (Value.slice A2 nf c2) := K5.out.cell 2 _ rfl
  have f1 := K5.out.free 2
  go_simp
  refine hK.out _ _ (fun h => by cases h) ?_
  clear hK K s1 f1
  try simp only [Act.put, setIfInBounds_toArray, set_cons_zero, set_cons_succ]
  refine until_done (by kernel_rfl) ?_ _
  have hkb : KeptBut w.heap.size w5 (w5.setCell ⟨w.heap.size, 2, none⟩ (.slice A5 (nf + 1) c5)) := (KeptBut.refl _ _).set 2 _
  have K6 : Hid (Blk (w5.setCell ⟨w.heap.size, 2, none⟩ (.slice A5 (nf + 1) c5)) w.heap.size #[.int .i64 f, .slice A1 nc c1, .slice A5 (nf + 1) c5] 30) := K5.out.set 2 _
  have KR6 : Hid (Blk (w5.setCell ⟨w.heap.size, 2, none⟩ (.slice A5 (nf + 1) c5)) (w.heap.size + 1) #[.int .i64 0, .slice none 0 0, .slice none 0 0] 30) := KR5.out.but hkb (by omega)
  have T6 : Hid (Strs (w5.setCell ⟨w.heap.size, 2, none⟩ (.slice A5 (nf + 1) c5)) base (.slice A5 (nf + 1) c5) (e.files ++ [ft])) := T5.out.butE K5.out hkb
  have B6 : Hid (Below base w (w5.setCell ⟨w.heap.size, 2, none⟩ (.slice A5 (nf + 1) c5))) := B5.out.setCell HBs.out _
  generalize w5.setCell ⟨w.heap.size, 2, none⟩ (.slice A5 (nf + 1) c5) = X6 at *
  clear hkb K5 KR5 T5 B5 S5 KX KR HS0 HBX V0 V1 HT2 HO5
  obtain ⟨X7, hX7⟩ : ∃ X7, X7 = (X6.alloc (.cells #[] 58)).setCell ⟨w.heap.size, 1, none⟩ (.slice (some ⟨X6.heap.size, 0, none⟩) 0 0) := ⟨_, rfl⟩
  have hkb : KeptBut w.heap.size (X6.alloc (.cells #[] 58)) X7 := by rw [hX7]; exact (KeptBut.refl _ _).set 1 _
  have hK6 := K6.out.alloc (.cells #[] 58)
  have m1 : _ = some (Value.slice A1 nc c1) := hK6.cell 1 _ rfl
  have f1 := hK6.free 1
  have K7 : Hid (Blk X7 w.heap.size #[.int .i64 f, .slice (some ⟨X6.heap.size, 0, none⟩) 0 0, .slice A5 (nf + 1) c5] 30) := by unfold Hid; rw [hX7]; exact hK6.set 1 _
  have KR7 : Hid (Blk X7 (w.heap.size + 1) #[.int .i64 0, .slice none 0 0, .slice none 0 0] 30) := (KR6.out.alloc _).but hkb (by omega)
  have T7 : Hid (Strs X7 base (.slice A5 (nf + 1) c5) (e.files ++ [ft])) := Strs.butE (owns_strs ((strs_owns T6.out).on ((Below.refl _ X6).alloc (Nat.le_refl _) _))) hK6 hkb
  have S7 : Hid (SerO X7 base (.slice (some ⟨X6.heap.size, 0, none⟩) 0 0) []) := (SerO.emptyE X6 base (Nat.le_trans HBs.out B6.out.size)).butE hK6 hkb
  have B7 : Hid (Below base w X7) := by unfold Hid; rw [hX7]; exact (B6.out.alloc (Nat.le_trans HBs.out B6.out.size) _).setCell HBs.out _
  have HX7 : Hid (X6.heap.size < X7.heap.size) := by unfold Hid; rw [hX7]; simp
  clear hkb hK6 K6 KR6 T6 B6
  have o0 : _ = some (Value.int .i64 f) := K7.out.cell 0 _ rfl
  have o1 : _ = some (Value.slice (some ⟨X6.heap.size, 0, none⟩) 0 0) := K7.out.cell 1 _ rfl
  have o2 : _ = some (Value.slice A5 (nf + 1) c5) := K7.out.cell 2 _ rfl
  have HZ7 : Hid (base ≤ X7.heap.size) := Nat.le_trans HBs.out B7.out.size
  generalize hR : w.heap.size + 1 = R at *
  have HRw : Hid (w.heap.size ≤ R) := by unfold Hid; omega
  clear hR
  by_cases h4 : nf = 4
  ·have HE : Hid (flushS e = oneS ⟨f, [], e.files ++ [ft]⟩) := by unfold Hid flushS; rw [HA.out, if_pos (by have := HNf.out; simp; omega)]
   subst h4
   have c6 := specOne ⟨f, [], e.files ++ [ft]⟩ _ _ _ [] base X7 rfl rfl S7.out T7.out ⟨by simp, fun x hx => by cases hx⟩ (by have := HNf.out; simp; omega) HAz.out HAF.out HZ7.out
   unfold vE at c6
   dsimp only at c6
   rw [hX7] at o0 o1 o2 c6
   go_wp2_with fail
   refine c6.mono ?_
   rintro b X8 ⟨⟨u8, rfl, hE8⟩, hb8⟩
   rw [← hX7] at hb8
   have KR8 : Hid (Blk X8 R #[.int .i64 0, .slice none 0 0, .slice none 0 0] 30) := KR7.out.on hb8 KR7.out.lt
   have B8 : Hid (Below base w X8) := B7.out.trans (hb8.mono HZ7.out)
   obtain ⟨vc8, vf8, L8, ev8, hL8, hS8, hT8⟩ := hE8
   unfold vE at ev8
   subst ev8
   obtain ⟨⟨r0, g0⟩, ⟨r1, g1⟩, ⟨r2, g2⟩, e0, e1, e2⟩ := res3 (x := .int .i64 (oneS ⟨f, [], e.files ++ [ft]⟩).floor) (y := vc8) (z := vf8) KR8.out
   have SF : Hid (EngO (((X8.setCell ⟨R, 0, none⟩ (.int .i64 (oneS ⟨f, [], e.files ++ [ft]⟩).floor)).setCell ⟨R, 1, none⟩ vc8).setCell ⟨R, 2, none⟩ vf8) base (.agg #[.int .i64 (oneS ⟨f, [], e.files ++ [ft]⟩).floor, vc8, vf8]) (flushS e)) := by
    unfold Hid
    rw [HE.out]
    exact EngO.end3 KR8.out rfl hL8 hS8 hT8
   have BF : Hid (Below base w (((X8.setCell ⟨R, 0, none⟩ (.int .i64 (oneS ⟨f, [], e.files ++ [ft]⟩).floor)).setCell ⟨R, 1, none⟩ vc8).setCell ⟨R, 2, none⟩ vf8)) := ((B8.out.setCell (Nat.le_trans HBs.out HRw.out) _).setCell (Nat.le_trans HBs.out HRw.out) _).setCell (Nat.le_trans HBs.out HRw.out) _
   obtain ⟨A8, n8, d8, rfl⟩ := hS8.1.shape
   obtain ⟨A9, n9, d9, rfl⟩ := (strs_owns hT8).shape
   clear hL8 hS8 hT8 hb8 c6 o0 o1 o2 m1 f1 hX7 B8 KR8
   generalize (oneS ⟨f, [], e.files ++ [ft]⟩).floor = f8 at *
   go_wp2_with fail
   exact bodyPost_ret (v := .agg #[.int .i64 f8, .slice A8 n8 d8, .slice A9 n9 d9]) (by simp [results, go_sem, e0, e1, e2]) rfl ⟨⟨_, rfl, SF.out⟩, BF.out⟩
  ·have HE : Hid (flushS e = ⟨f, [], e.files ++ [ft]⟩) := by unfold Hid flushS; rw [HA.out, if_neg (by have := HNf.out; have := HN4.out; simp; omega)]
   have q6 : ((nf + 1 : Nat) : Int) ≤ 4 := by have := HN4.out; omega
   obtain ⟨⟨r0, g0⟩, ⟨r1, g1⟩, ⟨r2, g2⟩, e0, e1, e2⟩ := res3 (x := .int .i64 f) (y := .slice (some ⟨X6.heap.size, 0, none⟩) 0 0) (z := .slice A5 (nf + 1) c5) KR7.out
   have SF : Hid (EngO (((X7.setCell ⟨R, 0, none⟩ (.int .i64 f)).setCell ⟨R, 1, none⟩ (.slice (some ⟨X6.heap.size, 0, none⟩) 0 0)).setCell ⟨R, 2, none⟩ (.slice A5 (nf + 1) c5)) base (.agg #[.int .i64 f, .slice (some ⟨X6.heap.size, 0, none⟩) 0 0, .slice A5 (nf + 1) c5]) (flushS e)) := by
    unfold Hid
    rw [HE.out]
    exact EngO.end3 KR7.out rfl rfl S7.out T7.out
   have BF : Hid (Below base w (((X7.setCell ⟨R, 0, none⟩ (.int .i64 f)).setCell ⟨R, 1, none⟩ (.slice (some ⟨X6.heap.size, 0, none⟩) 0 0)).setCell ⟨R, 2, none⟩ (.slice A5 (nf + 1) c5))) := ((B7.out.setCell (Nat.le_trans HBs.out HRw.out) _).setCell (Nat.le_trans HBs.out HRw.out) _).setCell (Nat.le_trans HBs.out HRw.out) _
   rw [hX7] at o0 o1 o2 r0 g0 r1 g1 r2 g2 e0 e1 e2 SF BF
   clear hX7 K7 KR7 S7 T7 B7
   generalize nf + 1 = n5 at *
   go_wp2_with fail
   exact bodyPost_ret (v := .agg #[.int .i64 f, .slice (some ⟨X6.heap.size, 0, none⟩) 0 0, .slice A5 n5 c5]) (by simp [results, go_sem, e0, e1, e2]) rfl ⟨⟨_, rfl, SF.out⟩, BF.out⟩
end Go.Proofs.YtpmgndgkmffcnaaGreatDoor
namespace Go.Proofs.YtpmgndgkmffcnaaGreatDoor
open Go.ChangeShapes Go.WideShapes Go.ChangeAt Go.RowKit Go.PlainAid
set_option linter.unusedVariables false
theorem flush_cache (e : Eng) : (flushS e).cache = [] := by
 unfold flushS
 by_cases h : 4 < (awayS e).files.length
 ·rw [if_pos h]; exact away_cache e
 ·rw [if_neg h]; exact away_cache e
theorem one_isF {e : Eng} (hp : SOk (plainE e)) : ∀ s ∈ (oneS e).files, isF s := fun s hs => by
 unfold oneS at hs
 dsimp only at hs
 rw [one_files hp] at hs
 by_cases h : plainE e = []
 ·rw [if_pos h] at hs; cases hs
 ·rw [if_neg h] at hs
  rw [List.mem_singleton.1 hs]
  exact ⟨_, len_pos h, hp, rfl⟩
theorem flush_isF {e : Eng} (h : EOk e) : ∀ s ∈ (flushS e).files, isF s := by
 unfold flushS
 by_cases h4 : 4 < (awayS e).files.length
 ·rw [if_pos h4]
  exact one_isF (by rw [away_plain (Or.inr h.1.2.2.1)]; exact h.2.2)
 ·rw [if_neg h4]
  exact away_files (Or.inr h.1.2.2.1) h.2.1
theorem flush_few {e : Eng} : (flushS e).files.length ≤ 4 := by
 unfold flushS
 by_cases h4 : 4 < (awayS e).files.length
 ·rw [if_pos h4]
  unfold oneS
  dsimp only
  split <;> simp
 ·rw [if_neg h4]
  omega
end Go.Proofs.YtpmgndgkmffcnaaGreatDoor
namespace Go.Proofs.YtpmgndgkmffcnaaGreatDoor
open Go.ChangeShapes Go.WideShapes Go.ChangeAt Go.RowKit Go.PlainAid
set_option linter.unusedVariables false
theorem Strs.one (w : World) (base : Nat) (s : ByteArray) (hb : base ≤ w.heap.size) : Strs (w.alloc (.cells #[.string s] 9)) base (.slice (some ⟨w.heap.size, 0, none⟩) 1 1) [s] :=
 owns_strs ⟨fun r hr => by simp [stR, stC] at hr; rw [hr]; rfl, World.ownsRow_lit w #[.string s] 1 hb (by unfold maxLen; omega) (by simp)⟩
set_option maxRecDepth 100000 in
set_option maxHeartbeats 4000000 in
theorem implPacked (f : Int) (l : List Ser) (v : Value) (w : World) (B : Nat) (hv : SerV w B v l) (hn : SShort l) (hk : ∀ x ∈ l, x.key.size ≤ maxLen) (hB : B ≤ w.heap.size) (hst : SumTab w) :
  Calls Tryz.prog 59 #[.int .i64 f, v] w fun b w' => (∃ u, b = .returned u ∧ EngO w' w.heap.size u (packA f l)) ∧ Below w.heap.size w w' := by
 obtain ⟨A, c, rfl, _⟩ := hv.look
 obtain ⟨X0, hX0⟩ : ∃ X0, X0 = (w.alloc (.cells #[.int .i64 0, .slice none 0 0, .slice none 0 0] 30)).alloc (.cells #[.int .i64 f, .slice none 0 0, .slice none 0 0] 30) := ⟨_, rfl⟩
 have BX : Hid (Below w.heap.size w X0) := by unfold Hid; rw [hX0]; exact below_alloc2 _ _ _
 have KR : Hid (Blk X0 w.heap.size #[.int .i64 0, .slice none 0 0, .slice none 0 0] 30) := by unfold Hid; rw [hX0]; exact (Blk.new w _ _).alloc _
 have KP : Hid (Blk X0 (w.heap.size + 1) #[.int .i64 f, .slice none 0 0, .slice none 0 0] 30) := by
  unfold Hid
  rw [hX0]
  have := Blk.new (w.alloc (.cells #[.int .i64 0, .slice none 0 0, .slice none 0 0] 30)) #[.int .i64 f, .slice none 0 0, .slice none 0 0] 30
  rw [World.size_alloc] at this
  exact this
 have k0 : _ = some (Value.int .i64 f) := KP.out.cell 0 _ rfl
 have k1 : _ = some (Value.slice none 0 0) := KP.out.cell 1 _ rfl
 have k2 : _ = some (Value.slice none 0 0) := KP.out.cell 2 _ rfl
 by_cases h0 : l = []
 ·have HE : Hid (packA f l = ⟨f, [], []⟩) := by unfold Hid packA; rw [if_pos h0]
  have hl0 : l.length = 0 := by rw [h0]; rfl
  clear h0
  have SF : Hid (∀ (a b : Obj), EngO ((w.alloc a).alloc b) w.heap.size (.agg #[.int .i64 f, .slice none 0 0, .slice none 0 0]) (packA f l) ∧ Below w.heap.size w ((w.alloc a).alloc b)) := fun a b => by
   rw [HE.out]
   exact ⟨⟨_, _, [], rfl, rfl, SerO.nilE _ _, owns_strs (Owns.nil _ _ _ _)⟩, below_alloc2 _ _ _⟩
  rw [hX0] at k0 k1 k2
  clear hX0 KR KP BX hv hn hk hB hst
  generalize l.length = n at *
  subst hl0
  go_enter Tryz.func59, Tryz.ntmps59
  go_wp2_with fail
  exact bodyPost_ret (v := .agg #[.int .i64 f, .slice none 0 0, .slice none 0 0]) (by simp [results, go_sem]) rfl ⟨⟨_, rfl, (SF.out _ _).1⟩, (SF.out _ _).2⟩
 ·have HE : Hid (packA f l = ⟨f, [], [fileT l]⟩) := by unfold Hid packA; rw [if_neg h0]
  have q5 : (0 : Int) < (l.length : Int) := by have := len_pos h0; omega
  have c1 := implFileText l _ X0 B (hv.on (BX.out.mono hB)) hn hk (Nat.le_trans hB BX.out.size) (hst.on BX.out)
  clear h0 hv hn hk hB hst
  generalize fileT l = ft at *
  generalize l.length = n at *
  rw [hX0] at k0 k1 k2
  go_enter Tryz.func59, Tryz.ntmps59
  go_wp2_with fail
  rw [← hX0]
  clear hX0
  refine c1.mono ?_
  rintro b X1 ⟨rfl, hb1⟩
  have B1 : Hid (Below w.heap.size w X1) := BX.out.trans (hb1.mono BX.out.size)
  have KR1 : Hid (Blk X1 w.heap.size #[.int .i64 0, .slice none 0 0, .slice none 0 0] 30) := KR.out.on hb1 KR.out.lt
  have KP1 : Hid (Blk X1 (w.heap.size + 1) #[.int .i64 f, .slice none 0 0, .slice none 0 0] 30) := KP.out.on hb1 KP.out.lt
  clear hb1 c1 k0 k1 k2 KR KP BX
  generalize hP : w.heap.size + 1 = P at *
  have HP : Hid (w.heap.size + 1 = P) := hP
  clear hP
  obtain ⟨X2, hX2⟩ : ∃ X2, X2 = (X1.alloc (.cells #[.string ft] 9)).setCell ⟨P, 2, none⟩ (.slice (some ⟨X1.heap.size, 0, none⟩) 1 1) := ⟨_, rfl⟩
  have hkb : KeptBut P (X1.alloc (.cells #[.string ft] 9)) X2 := by rw [hX2]; exact (KeptBut.refl _ _).set 2 _
  have hKA := KP1.out.alloc (.cells #[.string ft] 9)
  have m2 : _ = some (Value.slice none 0 0) := hKA.cell 2 _ rfl
  have f2 := hKA.free 2
  have KP2 : Hid (Blk X2 P #[.int .i64 f, .slice none 0 0, .slice (some ⟨X1.heap.size, 0, none⟩) 1 1] 30) := by unfold Hid; rw [hX2]; exact hKA.set 2 _
  have KR2 : Hid (Blk X2 w.heap.size #[.int .i64 0, .slice none 0 0, .slice none 0 0] 30) := (KR1.out.alloc _).but hkb (by have := HP.out; omega)
  have T2 : Hid (Strs X2 w.heap.size (.slice (some ⟨X1.heap.size, 0, none⟩) 1 1) [ft]) := (Strs.one X1 w.heap.size ft B1.out.size).butE hKA hkb
  have B2 : Hid (Below w.heap.size w X2) := by unfold Hid; rw [hX2]; exact (B1.out.alloc B1.out.size _).setCell (by have := HP.out; show w.heap.size ≤ P; omega) _
  have o0 : _ = some (Value.int .i64 f) := KP2.out.cell 0 _ rfl
  have o1 : _ = some (Value.slice none 0 0) := KP2.out.cell 1 _ rfl
  have o2 : _ = some (Value.slice (some ⟨X1.heap.size, 0, none⟩) 1 1) := KP2.out.cell 2 _ rfl
  obtain ⟨⟨r0, g0⟩, ⟨r1, g1⟩, ⟨r2, g2⟩, e0, e1, e2⟩ := res3 (x := .int .i64 f) (y := .slice none 0 0) (z := .slice (some ⟨X1.heap.size, 0, none⟩) 1 1) KR2.out
  have SF : Hid (EngO (((X2.setCell ⟨w.heap.size, 0, none⟩ (.int .i64 f)).setCell ⟨w.heap.size, 1, none⟩ (.slice none 0 0)).setCell ⟨w.heap.size, 2, none⟩ (.slice (some ⟨X1.heap.size, 0, none⟩) 1 1)) w.heap.size (.agg #[.int .i64 f, .slice none 0 0, .slice (some ⟨X1.heap.size, 0, none⟩) 1 1]) (packA f l)) := by
   unfold Hid
   rw [HE.out]
   exact EngO.end3 (L := []) KR2.out rfl rfl (SerO.nilE _ _) T2.out
  have BF : Hid (Below w.heap.size w (((X2.setCell ⟨w.heap.size, 0, none⟩ (.int .i64 f)).setCell ⟨w.heap.size, 1, none⟩ (.slice none 0 0)).setCell ⟨w.heap.size, 2, none⟩ (.slice (some ⟨X1.heap.size, 0, none⟩) 1 1))) := below_set3 B2.out (Nat.le_refl _) _ _ _
  rw [hX2] at o0 o1 o2 r0 g0 r1 g1 r2 g2 e0 e1 e2 SF BF
  clear hX2 hkb hKA KP2 KR2 T2 B2 KP1 KR1
  go_wp2_with fail
  exact bodyPost_ret (v := .agg #[.int .i64 f, .slice none 0 0, .slice (some ⟨X1.heap.size, 0, none⟩) 1 1]) (by simp [results, go_sem, e0, e1, e2]) rfl ⟨⟨_, rfl, SF.out⟩, BF.out⟩
end Go.Proofs.YtpmgndgkmffcnaaGreatDoor
