/- EgS9K EgSD PtCopy PtEqv -/
import Derived.Test.YtikknmoeefipmaaGreatDoorQp21
import Derived.Test.YtikknmoeefipmaaGreatDoorQp20
import Derived.WalkKit
import Derived.ProofKit
import Derived.OpenShut
import Derived.Below
import Derived.WalkSmall
import Derived.BigQuiet
import Derived.Deep.QuietTactic
import Derived.Deep.RegionWith
import Derived.Handy
import Derived.Test.YtikknmoeefipmaaGreatDoorQp15
import Derived.Test.YtikknmoeefipmaaGreatDoorQp5
import Derived.Test.YtikknmoeefipmaaGreatDoorQp4
import Derived.Test.YtikknmoeefipmaaGreatDoorQp1
import Derived.Laws.CopyOwn
import Derived.Test.YtikknmoeefipmaaGreatDoorRows
import Derived.Test.YtikknmoeefipmaaGreatDoorQp2
import Derived.Laws.StructEq
open List (setIfInBounds_toArray set_cons_zero set_cons_succ)
namespace Go.Proofs.YtikknmoeefipmaaGreatDoor
open Go.ChangeShapes Go.WideShapes Go.ChangeAt Go.RowKit Go.PlainAid
set_option linter.unusedVariables false
def Bo (base : Nat) (w w' : World) : Prop := Below base w w' ∧ ∀ g cs t, t ≠ 9 → Blk w g cs t → Blk w' g cs t
theorem Bo.of {base : Nat} {w w' : World} (h : Below w.heap.size w w') (hb : base ≤ w.heap.size) : Bo base w w' := ⟨h.mono hb, fun g cs t _ hk => hk.on h hk.lt⟩
theorem Bo.setCell {base g i : Nat} {w w' : World} (h : Bo base w w') (hb : base ≤ w.heap.size) (hg : w.heap.size ≤ g) (x : Value) : Bo base w (w'.setCell ⟨g, i, none⟩ x) :=
 ⟨h.1.setCell (Nat.le_trans hb hg) x, fun g0 cs t ht hk => (h.2 g0 cs t ht hk).other (by have := hk.lt; omega) i x⟩
theorem Bo.alloc {base : Nat} {w w' : World} (h : Bo base w w') (hb : base ≤ w'.heap.size) (o : Obj) : Bo base w (w'.alloc o) := ⟨h.1.alloc hb o, fun g cs t ht hk => (h.2 g cs t ht hk).alloc o⟩
theorem Bo.next {base : Nat} {w w' w'' : World} (h : Bo base w w') (hb : Below w'.heap.size w' w'') (hz : base ≤ w'.heap.size) : Bo base w w'' := ⟨h.1.trans (hb.mono hz), fun g cs t ht hk => (h.2 g cs t ht hk).on hb (h.2 g cs t ht hk).lt⟩
set_option maxRecDepth 100000 in
set_option maxHeartbeats 8000000 in
theorem specFlushInK (e : Eng) (v vc vf : Value) (L : List (Ser × Value)) (base : Nat) (w : World) (ev : v = vE e.floor vc vf) (hL : L.map Prod.fst = e.cache) (hS : SerO w base vc L) (hT : Strs w base vf e.files) (hc : SOk e.cache) (hn : e.files.length ≤ 4) (hF : ∀ s ∈ e.files, isF s) (hbs : base ≤ w.heap.size) :
  Calls Tryz.prog 86 #[v] w fun b w' => (∃ u, b = .returned u ∧ EngO w' base u (flushS e)) ∧ Bo base w w' := by
 have HF : Hid (∀ s ∈ e.files, isF s) := hF
 have HC : Hid (SOk e.cache) := hc
 have HL : Hid (L.map Prod.fst = e.cache) := hL
 have HBs : Hid (base ≤ w.heap.size) := hbs
 have HV : Hid (SerV w w.heap.size vc e.cache) := by unfold Hid; rw [← hL]; exact hS.view
 obtain ⟨A1, c1, rfl, _⟩ := HV.out.look
 obtain ⟨A2, c2, rfl, _⟩ := st_look (strs_owns hT).lies
 have HS : Hid (SerO w base (.slice A1 e.cache.length c1) L) := hS
 have HT : Hid (Strs w base (.slice A2 e.files.length c2) e.files) := hT
 subst ev
 unfold vE
 have HN4 : Hid (e.files.length ≤ 4) := hn
 have q4 : (e.files.length : Int) ≤ 4 := by omega
 have HSh : Hid (SShort e.cache) := ⟨by have := hc.1; omega, fun x hx => by have := (hc.col.2 x hx).1; omega⟩
 have HKy : Hid (∀ x ∈ e.cache, x.key.size ≤ maxLen) := fun x hx => by have := (hc.col.2 x hx).2.2.2; unfold maxLen; omega
 obtain ⟨X0, hX0⟩ : ∃ X0, X0 = (w.alloc (.cells #[.int .i64 e.floor, .slice A1 e.cache.length c1, .slice A2 e.files.length c2] 35)).alloc (.cells #[.int .i64 0, .slice none 0 0, .slice none 0 0] 35) := ⟨_, rfl⟩
 have BX : Hid (Below w.heap.size w X0) := by unfold Hid; rw [hX0]; exact below_alloc2 _ _ _
 have KX : Hid (Blk X0 w.heap.size #[.int .i64 e.floor, .slice A1 e.cache.length c1, .slice A2 e.files.length c2] 35) := by unfold Hid; rw [hX0]; exact (Blk.new w _ _).alloc _
 have KR : Hid (Blk X0 (w.heap.size + 1) #[.int .i64 0, .slice none 0 0, .slice none 0 0] 35) := by
  unfold Hid
  rw [hX0]
  have := Blk.new (w.alloc (.cells #[.int .i64 e.floor, .slice A1 e.cache.length c1, .slice A2 e.files.length c2] 35)) #[.int .i64 0, .slice none 0 0, .slice none 0 0] 35
  rw [World.size_alloc] at this
  exact this
 have k0 : _ = some (Value.int .i64 e.floor) := KX.out.cell 0 _ rfl
 have k1 : _ = some (Value.slice A1 e.cache.length c1) := KX.out.cell 1 _ rfl
 have k2 : _ = some (Value.slice A2 e.files.length c2) := KX.out.cell 2 _ rfl
 clear hL hS hT hc hn hF hbs
 by_cases h0 : e.cache = []
 ·have HE : Hid (flushS e = e) := by unfold Hid flushS awayS; rw [if_pos h0, if_neg (by have := HN4.out; omega)]
  have hl0 : e.cache.length = 0 := by rw [h0]; rfl
  clear h0
  have HFl : Hid (e.floor = e.floor) := rfl
  have SF : Hid (∀ (a b : Obj), EngO ((w.alloc a).alloc b) base (.agg #[.int .i64 e.floor, .slice A1 e.cache.length c1, .slice A2 e.files.length c2]) (flushS e) ∧ Bo base w ((w.alloc a).alloc b)) := fun a b => by
   rw [HE.out]
   exact ⟨⟨_, _, L, rfl, HL.out, HS.out.on (below_alloc2 _ _ _), owns_strs ((strs_owns HT.out).on (below_alloc2 _ _ _))⟩, Bo.of (below_alloc2 _ _ _) HBs.out⟩
  clear KR KX BX HSh HKy
  generalize e.cache.length = nc at *
  subst hl0
  generalize e.floor = f at *
  generalize e.files.length = nf at *
  rw [hX0] at k0 k1 k2
  clear hX0
  go_enter Tryz.func86, Tryz.ntmps86
  go_wp2_with fail
  exact bodyPost_ret (v := .agg #[.int .i64 f, .slice A1 0 c1, .slice A2 nf c2]) (by simp [results, go_sem]) rfl ⟨⟨_, rfl, (SF.out _ _).1⟩, (SF.out _ _).2⟩
 ·have HA : Hid (awayS e = ⟨e.floor, [], e.files ++ [fileT e.cache]⟩) := by unfold Hid awayS; rw [if_neg h0]
  have hl1 : 0 < e.cache.length := len_pos h0
  have q5 : (0 : Int) < (e.cache.length : Int) := by omega
  have HAF : Hid (∀ s ∈ e.files ++ [fileT e.cache], isF s) := by
   have h := away_files (Or.inr HC.out) HF.out
   rw [HA.out] at h
   exact h
  have HAz : Hid (∀ s ∈ e.files ++ [fileT e.cache], s.size ≤ 1048576) := fun s hs => by
   obtain ⟨m, hm⟩ := HAF.out s hs
   have := fileT_size m
   rw [hm.2.2] at this
   omega
  have c4 := fun (wx : World) (hx : Below w.heap.size w wx) => specFileText e.cache _ wx w.heap.size (HV.out.on hx) HSh.out HKy.out hx.size
  generalize hft : fileT e.cache = ft at *
  clear hft h0 hl1
  have HFL : Hid ((stR e.files).length ≤ 2097152) := by unfold Hid; rw [stR_length]; have := HN4.out; omega
  have HT2 : Hid (∀ wx, Below w.heap.size w wx → Owns wx base 9 1 (.slice A2 e.files.length c2) (stR e.files)) := fun wx hx => (strs_owns HT.out).on hx
  have HO5 : Hid (∀ wx A n c, Owns wx base 9 1 (.slice A n c) (stR e.files ++ [[.string ft]]) → Strs wx base (.slice A n c) (e.files ++ [ft]) ∧ n = e.files.length + 1) := fun wx A n c h => by
   have e1 : stR e.files ++ [[.string ft]] = stR (e.files ++ [ft]) := by simp [stR, stC]
   rw [e1] at h
   obtain ⟨A', c', e2, _⟩ := st_look h.lies
   refine ⟨owns_strs h, ?_⟩
   cases e2
   simp
  generalize hf : e.floor = f at *
  have HFe : Hid (e.floor = f) := hf
  clear hf
  generalize hnc : e.cache.length = nc at *
  clear hnc
  generalize hnf : e.files.length = nf at *
  have HNf : Hid (e.files.length = nf) := hnf
  clear hnf
  go_enter Tryz.func86, Tryz.ntmps86
  rw [hX0] at k0 k1 k2
  go_wp2_with fail
  rw [← hX0]
  clear hX0 k0 k1 k2
  refine wp_region_until (fun w' => w'.cell? ⟨w.heap.size, 1, none⟩ = some (.slice A1 nc c1) ∧ w'.cell? ⟨w.heap.size, 2, none⟩ = some (.slice A2 nf c2)) (fun i => i == 8) 9 (by rfl) (by kernel_rfl) ?_
  have V0 : Hid (Below X0.heap.size X0 X0.drew) := (Below.refl _ _).drew
  generalize X0.drew = Y0 at *
  have HS0 : Hid (∀ wx, Below X0.heap.size X0 wx → wx.cell? ⟨w.heap.size, 1, none⟩ = some (.slice A1 nc c1) ∧ wx.cell? ⟨w.heap.size, 2, none⟩ = some (.slice A2 nf c2)) := fun wx hx => ⟨(KX.out.on hx KX.out.lt).cell 1 _ rfl, (KX.out.on hx KX.out.lt).cell 2 _ rfl⟩
  have HBX : Hid (∀ wx, Below X0.heap.size X0 wx → Below w.heap.size w wx) := fun wx hx => BX.out.trans (hx.mono BX.out.size)
  refine until_take 0 (v := ?_) (by rfl) (by kernel_rfl) (by exact fun _ _ _ h => h) (by rfl) ?_ (HS0.out _ V0.out) ?_; rotate_left; focus (intro w hSw; (try dsimp only at hSw); go_simp; try with_reducible rfl)
  try simp only [Act.put, zQ1, zQ2, zQ3]
  refine until_take 1 (v := ?_) (by rfl) (by kernel_rfl) (by exact fun _ _ _ h => h) (by rfl) ?_ (HS0.out _ V0.out) ?_; rotate_left; focus (intro w hSw; (try dsimp only at hSw); go_simp; try with_reducible rfl)
  try simp only [Act.put, zQ1, zQ2, zQ3]
  refine until_take 2 (v := ?_) (by rfl) (by kernel_rfl) (by exact fun _ _ _ h => h) (by rfl) ?_ (HS0.out _ V0.out) ?_; rotate_left; focus (intro w hSw; (try dsimp only at hSw); go_simp; try with_reducible rfl)
  try simp only [Act.put, zQ1, zQ2, zQ3]
  refine until_take 3 (v := ?_) (by rfl) (by kernel_rfl) (by exact fun _ _ _ h => h) (by rfl) ?_ (HS0.out _ V0.out) ?_; rotate_left; focus (intro w hSw; (try dsimp only at hSw); go_simp; try with_reducible rfl)
  try simp only [Act.put, zQ1, zQ2, zQ3]
  refine uNe 4 (fun K hK => ?_)
  go_simp
  refine (c4 Y0 (HBX.out _ V0.out)).mono ?_
  rintro b Y1 ⟨rfl, hb1⟩
  have V1 : Hid (Below X0.heap.size X0 Y1) := V0.out.trans (hb1.mono V0.out.size)
  clear hb1 c4
  refine hK.out _ _ (fun _ _ => (HS0.out _ V1.out)) ?_
  clear hK K
  try simp only [Act.put, zQ1, zQ2, zQ3]
  refine uNe 5 (fun K hK => ?_)
  go_simp
  have V2 : Hid (Below X0.heap.size X0 (Y1.alloc (.cells #[.string ft] 9))) := V1.out.alloc V1.out.size _
  refine hK.out _ _ (fun _ _ => (HS0.out _ V2.out)) ?_
  clear hK K
  try simp only [Act.put, zQ1, zQ2, zQ3]
  obtain ⟨A5, n5, c5, w5, r5, hO5, hb5, hk5, hw5⟩ := run_append_row (P := Tryz.prog) Y1 24 24 9 (.string ⟨#[]⟩) 1 16 Tryz.underlying24 infoStr rfl (by omega) base (.slice A2 nf c2) (stR e.files) (HT2.out _ (HBX.out _ V1.out)) [.string ft] rfl (st_cell ft) HFL.out (by omega) (Nat.le_trans HBs.out (HBX.out _ V1.out).size)
  refine uNe 6 (fun K hK => ?_)
  refine step_append_run (by rfl) (.tmp 8) (.tmp 12) 24 (by rfl) _ _ _ _ (by rfl) (by rfl) r5 ?_
  obtain ⟨hT5, rfl⟩ := HO5.out _ _ _ _ hO5
  have T5 : Hid (Strs w5 base (.slice A5 (nf + 1) c5) (e.files ++ [ft])) := hT5
  have hK1 := KX.out.on V1.out KX.out.lt
  have hR1 := KR.out.on V1.out KR.out.lt
  have K5 : Hid (Blk w5 w.heap.size #[.int .i64 f, .slice A1 nc c1, .slice A2 nf c2] 35) := (hk5 _ hK1.lt ((HT2.out _ (HBX.out _ V1.out)).notBlk hK1 (by decide))).trans hK1
  have KR5 : Hid (Blk w5 (w.heap.size + 1) #[.int .i64 0, .slice none 0 0, .slice none 0 0] 35) := (hk5 _ hR1.lt ((HT2.out _ (HBX.out _ V1.out)).notBlk hR1 (by decide))).trans hR1
  have B5 : Hid (Bo base w w5) := ⟨((HBX.out _ V1.out).mono HBs.out).trans hb5, fun g cs t ht hk => (hk5 g (hk.on (HBX.out _ V1.out) hk.lt).lt ((HT2.out _ (HBX.out _ V1.out)).notBlk (hk.on (HBX.out _ V1.out) hk.lt) (fun e => ht e.symm))).trans (hk.on (HBX.out _ V1.out) hk.lt)⟩
  have S5 : Hid (w5.cell? ⟨w.heap.size, 1, none⟩ = some (.slice A1 nc c1) ∧ w5.cell? ⟨w.heap.size, 2, none⟩ = some (.slice A2 nf c2)) := ⟨K5.out.cell 1 _ rfl, K5.out.cell 2 _ rfl⟩
  clear r5 hO5 hb5 hk5 hw5 hT5 hK1 hR1 V2
  refine hK.out _ _ (fun _ _ => S5.out) ?_
  clear hK K
  try simp only [Act.put, zQ1, zQ2, zQ3]
  refine pUr 7 (v := ?_) ?_ ?_; rotate_left; focus (intro w; go_simp; try with_reducible rfl)
  try simp only [Act.put, zQ1, zQ2, zQ3]
  refine uNe 8 (fun K hK => ?_)
  have s1 : _ = some (Value.slice A2 nf c2) := K5.out.cell 2 _ rfl
  have f1 := K5.out.free 2
  go_simp
  refine hK.out _ _ (fun h => by cases h) ?_
  clear hK K s1 f1
  try simp only [Act.put, zQ1, zQ2, zQ3]
  refine until_done (by kernel_rfl) ?_ _
  have hkb : KeptBut w.heap.size w5 (w5.setCell ⟨w.heap.size, 2, none⟩ (.slice A5 (nf + 1) c5)) := (KeptBut.refl _ _).set 2 _
  have K6 : Hid (Blk (w5.setCell ⟨w.heap.size, 2, none⟩ (.slice A5 (nf + 1) c5)) w.heap.size #[.int .i64 f, .slice A1 nc c1, .slice A5 (nf + 1) c5] 35) := K5.out.set 2 _
  have KR6 : Hid (Blk (w5.setCell ⟨w.heap.size, 2, none⟩ (.slice A5 (nf + 1) c5)) (w.heap.size + 1) #[.int .i64 0, .slice none 0 0, .slice none 0 0] 35) := KR5.out.but hkb (by omega)
  have T6 : Hid (Strs (w5.setCell ⟨w.heap.size, 2, none⟩ (.slice A5 (nf + 1) c5)) base (.slice A5 (nf + 1) c5) (e.files ++ [ft])) := T5.out.butE K5.out hkb
  have B6 : Hid (Bo base w (w5.setCell ⟨w.heap.size, 2, none⟩ (.slice A5 (nf + 1) c5))) := B5.out.setCell HBs.out (Nat.le_refl _) _
  generalize w5.setCell ⟨w.heap.size, 2, none⟩ (.slice A5 (nf + 1) c5) = X6 at *
  clear hkb K5 KR5 T5 B5 S5 KX KR HS0 HBX V0 V1 HT2 HO5
  obtain ⟨X7, hX7⟩ : ∃ X7, X7 = (X6.alloc (.cells #[] 98)).setCell ⟨w.heap.size, 1, none⟩ (.slice (some ⟨X6.heap.size, 0, none⟩) 0 0) := ⟨_, rfl⟩
  have hkb : KeptBut w.heap.size (X6.alloc (.cells #[] 98)) X7 := by rw [hX7]; exact (KeptBut.refl _ _).set 1 _
  have hK6 := K6.out.alloc (.cells #[] 98)
  have m1 : _ = some (Value.slice A1 nc c1) := hK6.cell 1 _ rfl
  have f1 := hK6.free 1
  have K7 : Hid (Blk X7 w.heap.size #[.int .i64 f, .slice (some ⟨X6.heap.size, 0, none⟩) 0 0, .slice A5 (nf + 1) c5] 35) := by unfold Hid; rw [hX7]; exact hK6.set 1 _
  have KR7 : Hid (Blk X7 (w.heap.size + 1) #[.int .i64 0, .slice none 0 0, .slice none 0 0] 35) := (KR6.out.alloc _).but hkb (by omega)
  have T7 : Hid (Strs X7 base (.slice A5 (nf + 1) c5) (e.files ++ [ft])) := Strs.butE (owns_strs ((strs_owns T6.out).on ((Below.refl _ X6).alloc (Nat.le_refl _) _))) hK6 hkb
  have S7 : Hid (SerO X7 base (.slice (some ⟨X6.heap.size, 0, none⟩) 0 0) []) := (SerO.emptyE X6 base (Nat.le_trans HBs.out B6.out.1.size)).butE hK6 hkb
  have B7 : Hid (Bo base w X7) := by unfold Hid; rw [hX7]; exact (B6.out.alloc (Nat.le_trans HBs.out B6.out.1.size) _).setCell HBs.out (Nat.le_refl _) _
  have HX7 : Hid (X6.heap.size < X7.heap.size) := by unfold Hid; rw [hX7]; simp
  clear hkb hK6 K6 KR6 T6 B6
  have o0 : _ = some (Value.int .i64 f) := K7.out.cell 0 _ rfl
  have o1 : _ = some (Value.slice (some ⟨X6.heap.size, 0, none⟩) 0 0) := K7.out.cell 1 _ rfl
  have o2 : _ = some (Value.slice A5 (nf + 1) c5) := K7.out.cell 2 _ rfl
  have HZ7 : Hid (base ≤ X7.heap.size) := Nat.le_trans HBs.out B7.out.1.size
  generalize hR : w.heap.size + 1 = R at *
  have HRw : Hid (w.heap.size ≤ R) := by unfold Hid; omega
  clear hR
  by_cases h4 : nf = 4
  ·have HE : Hid (flushS e = oneS ⟨f, [], e.files ++ [ft]⟩) := by unfold Hid flushS; rw [HA.out, if_pos (by have := HNf.out; simp; omega)]
   subst h4
   have c6 := specOne ⟨f, [], e.files ++ [ft]⟩ _ _ _ [] base X7 rfl rfl S7.out T7.out ⟨by simp, fun x hx => by cases hx⟩ (by have := HNf.out; simp; omega) HAz.out HAF.out HZ7.out
   unfold vE at c6
   dsimp only at c6
   rw [hX7] at o0 o1 o2 c6
   go_wp2_with fail
   refine c6.mono ?_
   rintro b X8 ⟨⟨u8, rfl, hE8⟩, hb8⟩
   rw [← hX7] at hb8
   have KR8 : Hid (Blk X8 R #[.int .i64 0, .slice none 0 0, .slice none 0 0] 35) := KR7.out.on hb8 KR7.out.lt
   have B8 : Hid (Bo base w X8) := B7.out.next hb8 HZ7.out
   obtain ⟨vc8, vf8, L8, ev8, hL8, hS8, hT8⟩ := hE8
   unfold vE at ev8
   subst ev8
   obtain ⟨⟨r0, g0⟩, ⟨r1, g1⟩, ⟨r2, g2⟩, e0, e1, e2⟩ := res3 (x := .int .i64 (oneS ⟨f, [], e.files ++ [ft]⟩).floor) (y := vc8) (z := vf8) KR8.out
   have SF : Hid (EngO (((X8.setCell ⟨R, 0, none⟩ (.int .i64 (oneS ⟨f, [], e.files ++ [ft]⟩).floor)).setCell ⟨R, 1, none⟩ vc8).setCell ⟨R, 2, none⟩ vf8) base (.agg #[.int .i64 (oneS ⟨f, [], e.files ++ [ft]⟩).floor, vc8, vf8]) (flushS e)) := by
    unfold Hid
    rw [HE.out]
    exact EngO.end3 KR8.out rfl hL8 hS8 hT8
   have BF : Hid (Bo base w (((X8.setCell ⟨R, 0, none⟩ (.int .i64 (oneS ⟨f, [], e.files ++ [ft]⟩).floor)).setCell ⟨R, 1, none⟩ vc8).setCell ⟨R, 2, none⟩ vf8)) := ((B8.out.setCell HBs.out HRw.out _).setCell HBs.out HRw.out _).setCell HBs.out HRw.out _
   obtain ⟨A8, n8, d8, rfl⟩ := hS8.1.shape
   obtain ⟨A9, n9, d9, rfl⟩ := (strs_owns hT8).shape
   clear hL8 hS8 hT8 hb8 c6 o0 o1 o2 m1 f1 hX7 B8 KR8
   generalize (oneS ⟨f, [], e.files ++ [ft]⟩).floor = f8 at *
   go_wp2_with fail
   exact bodyPost_ret (v := .agg #[.int .i64 f8, .slice A8 n8 d8, .slice A9 n9 d9]) (by simp [results, go_sem, e0, e1, e2]) rfl ⟨⟨_, rfl, SF.out⟩, BF.out⟩
  ·have HE : Hid (flushS e = ⟨f, [], e.files ++ [ft]⟩) := by unfold Hid flushS; rw [HA.out, if_neg (by have := HNf.out; have := HN4.out; simp; omega)]
   have q6 : ((nf + 1 : Nat) : Int) ≤ 4 := by have := HN4.out; omega
   obtain ⟨⟨r0, g0⟩, ⟨r1, g1⟩, ⟨r2, g2⟩, e0, e1, e2⟩ := res3 (x := .int .i64 f) (y := .slice (some ⟨X6.heap.size, 0, none⟩) 0 0) (z := .slice A5 (nf + 1) c5) KR7.out
   have SF : Hid (EngO (((X7.setCell ⟨R, 0, none⟩ (.int .i64 f)).setCell ⟨R, 1, none⟩ (.slice (some ⟨X6.heap.size, 0, none⟩) 0 0)).setCell ⟨R, 2, none⟩ (.slice A5 (nf + 1) c5)) base (.agg #[.int .i64 f, .slice (some ⟨X6.heap.size, 0, none⟩) 0 0, .slice A5 (nf + 1) c5]) (flushS e)) := by
    unfold Hid
    rw [HE.out]
    exact EngO.end3 KR7.out rfl rfl S7.out T7.out
   have BF : Hid (Bo base w (((X7.setCell ⟨R, 0, none⟩ (.int .i64 f)).setCell ⟨R, 1, none⟩ (.slice (some ⟨X6.heap.size, 0, none⟩) 0 0)).setCell ⟨R, 2, none⟩ (.slice A5 (nf + 1) c5))) := ((B7.out.setCell HBs.out HRw.out _).setCell HBs.out HRw.out _).setCell HBs.out HRw.out _
   rw [hX7] at o0 o1 o2 r0 g0 r1 g1 r2 g2 e0 e1 e2 SF BF
   clear hX7 K7 KR7 S7 T7 B7
   generalize nf + 1 = n5 at *
   go_wp2_with fail
   exact bodyPost_ret (v := .agg #[.int .i64 f, .slice (some ⟨X6.heap.size, 0, none⟩) 0 0, .slice A5 n5 c5]) (by simp [results, go_sem, e0, e1, e2]) rfl ⟨⟨_, rfl, SF.out⟩, BF.out⟩
end Go.Proofs.YtikknmoeefipmaaGreatDoor
namespace Go.Proofs.YtikknmoeefipmaaGreatDoor
open Go.ChangeShapes Go.WideShapes Go.ChangeAt Go.RowKit Go.PlainAid
set_option linter.unusedVariables false
theorem isF_small' {s : ByteArray} (h : isF s) : s.size ≤ 1048576 := by
 obtain ⟨m, hm⟩ := h
 have := fileT_size m
 rw [hm.2.2] at this
 omega
theorem cnt_small {l : List Ser} (h1 : l.length ≤ 5) (h2 : ∀ x ∈ l, x.pts.length ≤ 60) : cntS l ≤ 100000 := by
 have : ∀ (m : List Ser), (∀ x ∈ m, x.pts.length ≤ 60) → cntS m ≤ 60 * m.length := by
  intro m
  induction m with
  | nil => intro _; simp [cntS]
  | cons x m ih =>
   intro h
   have h3 := ih (fun y hy => h y (by simp [hy]))
   have h4 := h x (by simp)
   unfold cntS at h3 ⊢
   rw [List.map_cons, List.sum_cons, List.length_cons]
   omega
 have := this l h2
 omega
theorem intoR_len {l : List Ser} {k : ByteArray} {p : List Pnt} : (intoR l k p).length ≤ l.length + 1 := by
 have h := congrArg List.length (into_keys k p l)
 rw [List.length_map] at h
 have := insK_len k (l.map Ser.key)
 rw [List.length_map] at this
 omega
theorem into_col {e : Eng} {k : ByteArray} {p : List Pnt} (he : EOk e) (hp : PutOk k p) : COk (intoR e.cache k p) := by
 obtain ⟨h1, _, h3⟩ := (SOk_iff _).1 he.1.2.2.1
 obtain ⟨p1, p2, p3⟩ := (POk_iff _).1 hp.2.1
 refine ⟨Nat.le_trans intoR_len (by omega), fun x hx => ?_⟩
 rcases mem_into hx with h | h | ⟨y, hy, h⟩
 ·exact (he.1.2.2.1.col).2 x h
 ·rw [h]
  exact ⟨by show p.length ≤ 200; omega, p2, p3, by have := hp.1.2.1; show k.size ≤ 1000; omega⟩
 ·rw [h]
  obtain ⟨y1, y2, y3⟩ := (POk_iff _).1 (h3 y hy).2.2
  refine ⟨?_, rising_mrg p y.pts y2, fun q hq => ?_, by have := hp.1.2.1; show k.size ≤ 1000; omega⟩
  ·show (mrg y.pts p).length ≤ 200
   have := mrg_length p y.pts
   omega
  ·rcases (mem_mrg q p y.pts p2).1 hq with h4 | ⟨h4, _⟩
   ·exact p3 q h4
   ·exact y3 q h4
set_option maxRecDepth 100000 in
set_option maxHeartbeats 8000000 in
theorem specPutIn (e : Eng) (key : ByteArray) (p : List Pnt) (v vp vc vf : Value) (L : List (Ser × Value)) (base B : Nat) (w : World) (ev : v = vE e.floor vc vf) (hL : L.map Prod.fst = e.cache) (hS : SerO w base vc L) (hT : Strs w base vf e.files) (he : EOk e) (hk : key.size ≤ maxLen) (hp : Lies w B 2 vp (ptR p)) (hn : p.length ≤ 1048576) (hB : B ≤ w.heap.size) (hbs : base ≤ w.heap.size) :
  Calls Tryz.prog 45 #[v, .string key, vp] w fun b w' => (∃ u, b = .returned (.tuple #[u, .int .i64 (putA e key p).2]) ∧ EngO w' base u (putA e key p).1) ∧ Below base w w' := by
 subst ev
 have HOk : Hid (EOk e) := he
 have HL : Hid (L.map Prod.fst = e.cache) := hL
 have HS : Hid (SerO w base vc L) := hS
 have HT : Hid (Strs w base vf e.files) := hT
 have HBs : Hid (base ≤ w.heap.size) := hbs
 have HB : Hid (B ≤ w.heap.size) := hB
 have HP : Hid (Lies w B 2 vp (ptR p)) := hp
 obtain ⟨A3, n3, c3, rfl⟩ := hS.1.shape
 obtain ⟨A4, n4, c4, rfl⟩ := (strs_owns hT).shape
 obtain ⟨Ap, cp, rfl, _⟩ := pt_look hp
 unfold vE
 obtain ⟨f, hf⟩ : ∃ f, e.floor = f := ⟨_, rfl⟩
 have HFe : Hid (e.floor = f) := hf
 rw [hf]
 clear hf
 obtain ⟨X0, hX0⟩ : ∃ X0, X0 = (w.alloc (.cells #[.int .i64 f, .slice A3 n3 c3, .slice A4 n4 c4] 35)).alloc (.cells #[.int .i64 0, .slice none 0 0, .slice none 0 0] 35) := ⟨_, rfl⟩
 have BX : Hid (Below w.heap.size w X0) := by unfold Hid; rw [hX0]; exact below_alloc2 _ _ _
 have KX : Hid (Blk X0 w.heap.size #[.int .i64 f, .slice A3 n3 c3, .slice A4 n4 c4] 35) := by unfold Hid; rw [hX0]; exact (Blk.new w _ _).alloc _
 have KR0 : Hid (Blk X0 (w.heap.size + 1) #[.int .i64 0, .slice none 0 0, .slice none 0 0] 35) := by
  unfold Hid
  rw [hX0]
  have := Blk.new (w.alloc (.cells #[.int .i64 f, .slice A3 n3 c3, .slice A4 n4 c4] 35)) #[.int .i64 0, .slice none 0 0, .slice none 0 0] 35
  rw [World.size_alloc] at this
  exact this
 have cK := fun wx => specKey key wx hk
 have cP := specPointsOk p (.slice Ap p.length cp) X0 B (HP.out.on (BX.out.mono hB)) hn (Nat.le_trans hB BX.out.size)
 have HNP : Hid (p.length ≤ 1048576) := hn
 clear hL hS hT hbs hB hp he hk
 have qn : (p.length : Int) ≤ 1048576 := by omega
 generalize hpl : p.length = pl at *
 have HPl : Hid (p.length = pl) := hpl
 clear hpl hn
 go_enter Tryz.func45, Tryz.ntmps45
 go_wp2_with fail
 rw [← hX0]
 clear hX0
 generalize hR : w.heap.size + 1 = R at *
 have HR : Hid (w.heap.size + 1 = R) := hR
 have HRw : Hid (w.heap.size ≤ R) := by unfold Hid; omega
 clear hR
 refine (cK X0).mono ?_
 rintro b w' ⟨rfl, rfl⟩
 have SX : Hid (SerO X0 base (.slice A3 n3 c3) L) := HS.out.on BX.out
 have TX : Hid (Strs X0 base (.slice A4 n4 c4) e.files) := owns_strs ((strs_owns HT.out).on BX.out)
 by_cases h1 : KOk key
 ·rw [decide_eq_true h1]
  go_wp2_with fail
  refine cP.mono ?_
  rintro b X1 ⟨rfl, hlk⟩
  have hb1 := hlk.below
  have B1 : Hid (Below w.heap.size w X1) := BX.out.trans (hb1.mono BX.out.size)
  have KA1 : Hid (Blk X1 w.heap.size #[.int .i64 f, .slice A3 n3 c3, .slice A4 n4 c4] 35) := KX.out.on hb1 KX.out.lt
  have KR1 : Hid (Blk X1 R #[.int .i64 0, .slice none 0 0, .slice none 0 0] 35) := KR0.out.on hb1 KR0.out.lt
  have S1 : Hid (SerO X1 base (.slice A3 n3 c3) L) := SX.out.on hb1
  have T1 : Hid (Strs X1 base (.slice A4 n4 c4) e.files) := owns_strs ((strs_owns TX.out).on hb1)
  clear hlk hb1 cP cK KX KR0 SX TX
  rcases Classical.em (¬ POk p) with h2 | h2
  ·have HPA : Hid (putA e key p = (e, 1)) := by unfold Hid putA; rw [if_pos (fun h => h2 h.2.1)]
   rw [decide_eq_false h2]
   clear h1 h2
   have k0 := KA1.out.cell 0 _ rfl
   have k1 := KA1.out.cell 1 _ rfl
   have k2 := KA1.out.cell 2 _ rfl
   obtain ⟨⟨r0, g0⟩, ⟨r1, g1⟩, ⟨r2, g2⟩, e0, e1, e2⟩ := res3 (x := .int .i64 f) (y := .slice A3 n3 c3) (z := .slice A4 n4 c4) KR1.out
   have SF : Hid (EngO ((((X1).setCell ⟨R, 0, none⟩ (.int .i64 f)).setCell ⟨R, 1, none⟩ (.slice A3 n3 c3)).setCell ⟨R, 2, none⟩ (.slice A4 n4 c4)) base (.agg #[.int .i64 f, .slice A3 n3 c3, .slice A4 n4 c4]) e) := EngO.end3 KR1.out HFe.out HL.out S1.out T1.out
   have BF : Hid (Below base w ((((X1).setCell ⟨R, 0, none⟩ (.int .i64 f)).setCell ⟨R, 1, none⟩ (.slice A3 n3 c3)).setCell ⟨R, 2, none⟩ (.slice A4 n4 c4))) := (below_set3 B1.out HRw.out _ _ _).mono HBs.out
   go_wp2_with fail
   exact bodyPost_ret (v := .tuple #[.agg #[.int .i64 f, .slice A3 n3 c3, .slice A4 n4 c4], .int .i64 1]) (by simp [results, go_sem, e0, e1, e2]) rfl ⟨⟨_, by rw [HPA.out], by rw [HPA.out]; exact SF.out⟩, BF.out⟩
  replace h2 : POk p := Classical.byContradiction h2
  rw [decide_eq_true h2]
  by_cases h3 : pl = 0
  ·have HPA : Hid (putA e key p = (e, 1)) := by unfold Hid putA; rw [if_pos (fun h => h.2.2 (List.eq_nil_of_length_eq_zero (by rw [HPl.out]; exact h3)))]
   subst h3
   clear h1 h2
   have k0 := KA1.out.cell 0 _ rfl
   have k1 := KA1.out.cell 1 _ rfl
   have k2 := KA1.out.cell 2 _ rfl
   obtain ⟨⟨r0, g0⟩, ⟨r1, g1⟩, ⟨r2, g2⟩, e0, e1, e2⟩ := res3 (x := .int .i64 f) (y := .slice A3 n3 c3) (z := .slice A4 n4 c4) KR1.out
   have SF : Hid (EngO ((((X1).setCell ⟨R, 0, none⟩ (.int .i64 f)).setCell ⟨R, 1, none⟩ (.slice A3 n3 c3)).setCell ⟨R, 2, none⟩ (.slice A4 n4 c4)) base (.agg #[.int .i64 f, .slice A3 n3 c3, .slice A4 n4 c4]) e) := EngO.end3 KR1.out HFe.out HL.out S1.out T1.out
   have BF : Hid (Below base w ((((X1).setCell ⟨R, 0, none⟩ (.int .i64 f)).setCell ⟨R, 1, none⟩ (.slice A3 n3 c3)).setCell ⟨R, 2, none⟩ (.slice A4 n4 c4))) := (below_set3 B1.out HRw.out _ _ _).mono HBs.out
   go_wp2_with fail
   exact bodyPost_ret (v := .tuple #[.agg #[.int .i64 f, .slice A3 n3 c3, .slice A4 n4 c4], .int .i64 1]) (by simp [results, go_sem, e0, e1, e2]) rfl ⟨⟨_, by rw [HPA.out], by rw [HPA.out]; exact SF.out⟩, BF.out⟩
  have HPO : Hid (PutOk key p) := ⟨h1, h2, fun h => h3 (by rw [← HPl.out, h]; rfl)⟩
  have d3 : ((pl : Int) == 0) = false := by simp; omega
  have q3 : (0 : Int) < (pl : Int) := by omega
  have q3n : 0 < pl := by omega
  obtain ⟨Ap', cp', ep, hlk⟩ := pt_look (HP.out.on (B1.out.mono HB.out))
  rw [HPl.out] at ep hlk
  cases ep
  obtain ⟨gp, op, rfl, hgp, ht0, _⟩ := hlk 0 (by omega)
  rw [Nat.zero_mul, Nat.add_zero] at ht0
  have HT0 : Hid (tAt p 0 = (p.getD 0 default).t) := rfl
  generalize htt : (p.getD 0 default).t = t0 at *
  have S0 : Hid (X1.drew.cell? ⟨gp, op, none⟩ = some (.int .i64 t0) ∧ X1.drew.cell? ⟨w.heap.size, 0, none⟩ = some (.int .i64 f)) := ⟨ht0, KA1.out.cell 0 _ rfl⟩
  have hbd : Below X1.heap.size X1 X1.drew := (Below.refl _ _).drew
  clear h1 h2 h3 hlk hgp ht0 htt
  go_wp2_with fail
  refine wp_region_until (fun w' => w'.cell? ⟨gp, op, none⟩ = some (.int .i64 t0) ∧ w'.cell? ⟨w.heap.size, 0, none⟩ = some (.int .i64 f)) (fun _ => false) 7 (by rfl) (by kernel_rfl) ?_
  refine tKe 0 (v := ?_) S0.out ?_ ?_; rotate_left; focus (intro w hSw; (try dsimp only at hSw); go_simp; try with_reducible rfl)
  try simp only [Act.put, zQ1, zQ2, zQ3]
  refine tKe 1 (v := ?_) S0.out ?_ ?_; rotate_left; focus (intro w hSw; (try dsimp only at hSw); go_simp; try with_reducible rfl)
  try simp only [Act.put, zQ1, zQ2, zQ3]
  refine tKe 2 (v := ?_) S0.out ?_ ?_; rotate_left; focus (intro w hSw; (try dsimp only at hSw); go_simp; try with_reducible rfl)
  try simp only [Act.put, zQ1, zQ2, zQ3]
  refine tKe 3 (v := ?_) S0.out ?_ ?_; rotate_left; focus (intro w hSw; (try dsimp only at hSw); go_simp; try with_reducible rfl)
  try simp only [Act.put, zQ1, zQ2, zQ3]
  refine tKe 4 (v := ?_) S0.out ?_ ?_; rotate_left; focus (intro w hSw; (try dsimp only at hSw); go_simp; try with_reducible rfl)
  try simp only [Act.put, zQ1, zQ2, zQ3]
  refine tKe 5 (v := ?_) S0.out ?_ ?_; rotate_left; focus (intro w hSw; (try dsimp only at hSw); go_simp; try with_reducible rfl)
  try simp only [Act.put, zQ1, zQ2, zQ3]
  refine tKe 6 (v := ?_) S0.out ?_ ?_; rotate_left; focus (intro w hSw; (try dsimp only at hSw); go_simp; try with_reducible rfl)
  try simp only [Act.put, zQ1, zQ2, zQ3]
  refine until_done (by kernel_rfl) ?_ _
  generalize X1.drew = X2 at *
  have B2 : Hid (Below w.heap.size w X2) := B1.out.trans (hbd.mono B1.out.size)
  have KA2 : Hid (Blk X2 w.heap.size #[.int .i64 f, .slice A3 n3 c3, .slice A4 n4 c4] 35) := KA1.out.on hbd KA1.out.lt
  have KR2 : Hid (Blk X2 R #[.int .i64 0, .slice none 0 0, .slice none 0 0] 35) := KR1.out.on hbd KR1.out.lt
  have S2 : Hid (SerO X2 base (.slice A3 n3 c3) L) := S1.out.on hbd
  have T2 : Hid (Strs X2 base (.slice A4 n4 c4) e.files) := owns_strs ((strs_owns T1.out).on hbd)
  clear hbd S0 KA1 KR1 S1 T1
  by_cases h4 : t0 < f
  ·have HPA : Hid (putA e key p = (e, 2)) := by unfold Hid putA; rw [if_neg (fun h => h HPO.out), if_pos (by rw [HT0.out, HFe.out]; exact h4)]
   have k0 := KA2.out.cell 0 _ rfl
   have k1 := KA2.out.cell 1 _ rfl
   have k2 := KA2.out.cell 2 _ rfl
   obtain ⟨⟨r0, g0⟩, ⟨r1, g1⟩, ⟨r2, g2⟩, e0, e1, e2⟩ := res3 (x := .int .i64 f) (y := .slice A3 n3 c3) (z := .slice A4 n4 c4) KR2.out
   have SF : Hid (EngO ((((X2).setCell ⟨R, 0, none⟩ (.int .i64 f)).setCell ⟨R, 1, none⟩ (.slice A3 n3 c3)).setCell ⟨R, 2, none⟩ (.slice A4 n4 c4)) base (.agg #[.int .i64 f, .slice A3 n3 c3, .slice A4 n4 c4]) e) := EngO.end3 KR2.out HFe.out HL.out S2.out T2.out
   have BF : Hid (Below base w ((((X2).setCell ⟨R, 0, none⟩ (.int .i64 f)).setCell ⟨R, 1, none⟩ (.slice A3 n3 c3)).setCell ⟨R, 2, none⟩ (.slice A4 n4 c4))) := (below_set3 B2.out HRw.out _ _ _).mono HBs.out
   go_wp2_with fail
   exact bodyPost_ret (v := .tuple #[.agg #[.int .i64 f, .slice A3 n3 c3, .slice A4 n4 c4], .int .i64 2]) (by simp [results, go_sem, e0, e1, e2]) rfl ⟨⟨_, by rw [HPA.out], by rw [HPA.out]; exact SF.out⟩, BF.out⟩
  have d4 : decide (t0 < f) = false := decide_eq_false h4
  have HFl : Hid (e.floor ≤ tAt p 0) := by unfold Hid; rw [HT0.out, HFe.out]; omega
  obtain ⟨X, hXX⟩ : ∃ X, X2.heap.size = X := ⟨_, rfl⟩
  obtain ⟨X3, hX3⟩ : ∃ X3, X3 = X2.alloc (.cells #[.int .i64 f, .slice A3 n3 c3, .slice A4 n4 c4] 35) := ⟨_, rfl⟩
  have b3 : Hid (Below X2.heap.size X2 X3) := by unfold Hid; rw [hX3]; exact (Below.refl _ _).alloc (Nat.le_refl _) _
  have B3 : Hid (Below w.heap.size w X3) := B2.out.trans (b3.out.mono B2.out.size)
  have KA3 : Hid (Blk X3 w.heap.size #[.int .i64 f, .slice A3 n3 c3, .slice A4 n4 c4] 35) := KA2.out.on b3.out KA2.out.lt
  have KR3 : Hid (Blk X3 R #[.int .i64 0, .slice none 0 0, .slice none 0 0] 35) := KR2.out.on b3.out KR2.out.lt
  have KB3 : Hid (Blk X3 X #[.int .i64 f, .slice A3 n3 c3, .slice A4 n4 c4] 35) := by unfold Hid; rw [hX3, ← hXX]; exact Blk.new X2 _ _
  have S3 : Hid (SerO X3 base (.slice A3 n3 c3) L) := S2.out.on b3.out
  have T3 : Hid (Strs X3 base (.slice A4 n4 c4) e.files) := owns_strs ((strs_owns T2.out).on b3.out)
  have HXw : Hid (w.heap.size ≤ X ∧ w.heap.size + 1 < X ∧ R < X) := by have h1 := KR2.out.lt; have h2 := HR.out; unfold Hid; omega
  have hso := HOk.out.1.2.2.1
  have hsi := (SOk_iff _).1 hso
  have c5 := specInto L (.slice A3 n3 c3) (.slice (some ⟨gp, op, none⟩) pl cp) key p base B X3 S3.out (HP.out.on (B3.out.mono HB.out)) (Nat.le_trans HB.out B3.out.size) (Nat.le_trans HBs.out B3.out.size) (by have h := congrArg List.length HL.out; rw [List.length_map] at h; have := hsi.1; omega) (fun q hq => by have := (hso.col).2 q.1 (by rw [← HL.out]; exact List.mem_map.2 ⟨q, hq, rfl⟩); exact this.1) (by have := ((POk_iff _).1 HPO.out.2.1).1; omega) (by rw [HL.out]; exact hsi.2.1)
  rw [HL.out] at c5
  clear hso hsi b3
  have k0 := KA2.out.cell 0 _ rfl
  have k1 := KA2.out.cell 1 _ rfl
  have k2 := KA2.out.cell 2 _ rfl
  have m1 := KA3.out.cell 1 _ rfl
  rw [hX3] at m1
  go_wp2_with fail
  rw [← hX3]
  try rw [hXX]
  clear hX3 hXX k0 k1 k2 m1
  refine c5.mono ?_
  rintro b X4 ⟨⟨u4, M, rfl, hM, hS4⟩, hb4⟩
  obtain ⟨A5, n5, c5', rfl⟩ := hS4.1.shape
  have HM : Hid (M.map Prod.fst = intoR e.cache key p) := hM
  have S4 : Hid (SerO X4 base (.slice A5 n5 c5') M) := hS4
  have B4 : Hid (Below w.heap.size w X4) := B3.out.trans (hb4.mono B3.out.size)
  have KA4 : Hid (Blk X4 w.heap.size #[.int .i64 f, .slice A3 n3 c3, .slice A4 n4 c4] 35) := KA3.out.on hb4 KA3.out.lt
  have KR4 : Hid (Blk X4 R #[.int .i64 0, .slice none 0 0, .slice none 0 0] 35) := KR3.out.on hb4 KR3.out.lt
  have KB4 : Hid (Blk X4 X #[.int .i64 f, .slice A3 n3 c3, .slice A4 n4 c4] 35) := KB3.out.on hb4 KB3.out.lt
  have SL4 : Hid (SerO X4 base (.slice A3 n3 c3) L) := S3.out.on hb4
  have T4 : Hid (Strs X4 base (.slice A4 n4 c4) e.files) := owns_strs ((strs_owns T3.out).on hb4)
  clear hM hS4 hb4 c5 KA3 KR3 KB3 S3 T3 KA2 KR2 S2 T2
  obtain ⟨X5, hX5⟩ : ∃ X5, X5 = X4.setCell ⟨X, 1, none⟩ (.slice A5 n5 c5') := ⟨_, rfl⟩
  have s1 : _ = some (Value.slice A3 n3 c3) := KB4.out.cell 1 _ rfl
  have f1 := KB4.out.free 1
  have kb : Hid (KeptBut X X4 X5) := by unfold Hid; rw [hX5]; exact (KeptBut.refl X X4).set 1 _
  have KB5 : Hid (Blk X5 X #[.int .i64 f, .slice A5 n5 c5', .slice A4 n4 c4] 35) := by unfold Hid; rw [hX5]; exact KB4.out.set 1 _
  have KA5 : Hid (Blk X5 w.heap.size #[.int .i64 f, .slice A3 n3 c3, .slice A4 n4 c4] 35) := kb.out.blk KA4.out (by have := HXw.out; omega)
  have KR5 : Hid (Blk X5 R #[.int .i64 0, .slice none 0 0, .slice none 0 0] 35) := kb.out.blk KR4.out (by have := HXw.out; omega)
  have S5 : Hid (SerO X5 base (.slice A5 n5 c5') M) := S4.out.butE KB4.out kb.out
  have SL5 : Hid (SerO X5 base (.slice A3 n3 c3) L) := SL4.out.butE KB4.out kb.out
  have T5 : Hid (Strs X5 base (.slice A4 n4 c4) e.files) := T4.out.butE KB4.out kb.out
  have B5 : Hid (Below w.heap.size w X5) := B4.out.trans (kb.out.1.mono HXw.out.1)
  have HCo : Hid (COk (intoE e key p).cache) := into_col HOk.out HPO.out
  have HLok : Hid (LOk (lays (intoE e key p))) := lays_ok (by have := HOk.out.1.2.1; show e.files.length ≤ 9; omega) HCo.out HOk.out.2.1
  have HCol : Hid (∀ l ∈ lays (intoE e key p), COk l) := lays_col HCo.out HOk.out.2.1
  have HShp : Hid (SShort (plainE (intoE e key p))) := plainE_short HLok.out
  have HPl2 : Hid (plainE (intoE e key p) = plainR (lays (intoE e key p)) f) := by unfold Hid plainE; rw [show (intoE e key p).floor = f from HFe.out]
  have c6 := specLayers (intoE e key p) (.agg #[.int .i64 f, .slice A5 n5 c5', .slice A4 n4 c4]) X5 X5.heap.size ⟨_, _, by unfold vE; rw [show (intoE e key p).floor = f from HFe.out], by rw [show (intoE e key p).cache = intoR e.cache key p from rfl, ← HM.out]; exact S5.out.view, (strs_owns T5.out).lies⟩ (by have := HOk.out.1.2.1; show e.files.length ≤ 10; omega) (fun s hs => isF_small' (HOk.out.2.1 s hs)) (Nat.le_refl _)
  have j0 := KB5.out.cell 0 _ rfl
  have j1 := KB5.out.cell 1 _ rfl
  have j2 := KB5.out.cell 2 _ rfl
  rw [hX5] at j0 j1 j2
  go_wp2_with fail
  rw [← hX5]
  clear hX5 s1 f1 j0 j1 j2 kb KA4 KR4 KB4 S4 SL4 T4
  refine c6.mono ?_
  rintro b X6 ⟨⟨u6, ok, rfl, hA⟩, hb6⟩
  obtain ⟨rfl, hLv⟩ : ok = true ∧ LayV X6 X6.heap.size u6 (lays (intoE e key p)) := by
   rcases hA with ⟨h1, _, h2⟩ | ⟨_, s, hsm, hsn⟩
   ·exact ⟨h1, h2⟩
   ·exact absurd (HOk.out.2.1 s hsm) hsn
  have B6 : Hid (Below w.heap.size w X6) := B5.out.trans (hb6.mono B5.out.size)
  have D6 : Hid (Below X5.heap.size X5 X6) := hb6
  have m0 := (KA5.out.on hb6 KA5.out.lt).cell 0 _ rfl
  have c7 := specPlainL (lays (intoE e key p)) f u6 X6 X6.heap.size hLv HLok.out (Nat.le_refl _)
  obtain ⟨Au, cu, rfl, _⟩ := hLv.look
  clear hA hb6 c6 hLv
  go_wp2_with fail
  refine c7.mono ?_
  rintro b X7 ⟨⟨u7, L7, rfl, hL7, hS7⟩, hb7⟩
  have D7 : Hid (Below X5.heap.size X5 X7) := D6.out.trans (hb7.mono D6.out.size)
  have c8 := specSeriesOk (plainE (intoE e key p)) u7 X7 X7.heap.size (by rw [HPl2.out, ← hL7]; exact hS7.view) HShp.out (by rw [HPl2.out]; exact plain_keys HCol.out) (Nat.le_refl _)
  obtain ⟨A7, n7, c7', rfl⟩ := hS7.1.shape
  clear hL7 hS7 hb7 c7 m0
  go_wp2_with fail
  refine c8.mono ?_
  rintro b X8 ⟨rfl, hlk8⟩
  have hb8 := hlk8.below
  have D8 : Hid (Below X5.heap.size X5 X8) := D7.out.trans (hb8.mono D7.out.size)
  have B8 : Hid (Below w.heap.size w X8) := B5.out.trans (D8.out.mono B5.out.size)
  have KA8 : Hid (Blk X8 w.heap.size #[.int .i64 f, .slice A3 n3 c3, .slice A4 n4 c4] 35) := KA5.out.on D8.out KA5.out.lt
  have KR8 : Hid (Blk X8 R #[.int .i64 0, .slice none 0 0, .slice none 0 0] 35) := KR5.out.on D8.out KR5.out.lt
  have KB8 : Hid (Blk X8 X #[.int .i64 f, .slice A5 n5 c5', .slice A4 n4 c4] 35) := KB5.out.on D8.out KB5.out.lt
  have S8 : Hid (SerO X8 base (.slice A5 n5 c5') M) := S5.out.on D8.out
  have SL8 : Hid (SerO X8 base (.slice A3 n3 c3) L) := SL5.out.on D8.out
  have T8 : Hid (Strs X8 base (.slice A4 n4 c4) e.files) := owns_strs ((strs_owns T5.out).on D8.out)
  clear hlk8 hb8 c8 KA5 KR5 KB5 S5 SL5 T5 D6 D7 D8
  rcases Classical.em (¬ SOk (plainE (intoE e key p))) with h5 | h5
  ·have HPA : Hid (putA e key p = (e, 3)) := by unfold Hid putA; rw [if_neg (fun h => h HPO.out), if_neg (by have := HFl.out; omega), if_pos h5]
   rw [decide_eq_false h5]
   clear h5
   have k0 := KA8.out.cell 0 _ rfl
   have k1 := KA8.out.cell 1 _ rfl
   have k2 := KA8.out.cell 2 _ rfl
   obtain ⟨⟨r0, g0⟩, ⟨r1, g1⟩, ⟨r2, g2⟩, e0, e1, e2⟩ := res3 (x := .int .i64 f) (y := .slice A3 n3 c3) (z := .slice A4 n4 c4) KR8.out
   have SF : Hid (EngO ((((X8).setCell ⟨R, 0, none⟩ (.int .i64 f)).setCell ⟨R, 1, none⟩ (.slice A3 n3 c3)).setCell ⟨R, 2, none⟩ (.slice A4 n4 c4)) base (.agg #[.int .i64 f, .slice A3 n3 c3, .slice A4 n4 c4]) e) := EngO.end3 KR8.out HFe.out HL.out SL8.out T8.out
   have BF : Hid (Below base w ((((X8).setCell ⟨R, 0, none⟩ (.int .i64 f)).setCell ⟨R, 1, none⟩ (.slice A3 n3 c3)).setCell ⟨R, 2, none⟩ (.slice A4 n4 c4))) := (below_set3 B8.out HRw.out _ _ _).mono HBs.out
   go_wp2_with fail
   exact bodyPost_ret (v := .tuple #[.agg #[.int .i64 f, .slice A3 n3 c3, .slice A4 n4 c4], .int .i64 3]) (by simp [results, go_sem, e0, e1, e2]) rfl ⟨⟨_, by rw [HPA.out], by rw [HPA.out]; exact SF.out⟩, BF.out⟩
  replace h5 : SOk (plainE (intoE e key p)) := Classical.byContradiction h5
  rw [decide_eq_true h5]
  have H5 : Hid (SOk (plainE (intoE e key p))) := h5
  have HIo : Hid (SOk (intoR e.cache key p)) := into_ok HOk.out HPO.out HFl.out h5
  have HE6 : Hid (putA e key p = if 40 < cntS (intoR e.cache key p) then (flushA (intoE e key p) (plainE (intoE e key p)), 0) else (intoE e key p, 0)) := by
   unfold Hid putA
   rw [if_neg (fun h => h HPO.out), if_neg (by have := HFl.out; omega), if_neg (fun h => h H5.out)]
  clear h5
  have hio := (SOk_iff _).1 HIo.out
  have c9 := specCount (intoR e.cache key p) (.slice A5 n5 c5') X8 X8.heap.size (by rw [← HM.out]; exact S8.out.view) (by have := hio.1; omega) (fun x hx => by have := ((POk_iff _).1 (hio.2.2 x hx).2.2).1; omega)
  have HCn : Hid (cntS (intoR e.cache key p) ≤ 100000) := cnt_small hio.1 (fun x hx => ((POk_iff _).1 (hio.2.2 x hx).2.2).1)
  have j1 := KB8.out.cell 1 _ rfl
  clear hio
  generalize hcn : cntS (intoR e.cache key p) = cn at *
  go_wp2_with fail
  refine c9.mono ?_
  rintro b w' hc9
  obtain ⟨rfl, rfl⟩ := hc9
  have j0 := KB8.out.cell 0 _ rfl
  have j2 := KB8.out.cell 2 _ rfl
  have qc : (cn : Int) ≤ 100000 := by have := HCn.out; omega
  clear c9 hcn
  by_cases h6 : 40 < cn
  ·have q6 : (40 : Int) < (cn : Int) := by omega
   have HPA : Hid (putA e key p = (flushS (intoE e key p), 0)) := by
    unfold Hid
    rw [HE6.out, if_pos h6, flush_same (e := intoE e key p) (by have := HOk.out.1.2.1; exact this) (Or.inr HIo.out) H5.out]
   clear h6
   have cF := specFlushInK (intoE e key p) (.agg #[.int .i64 f, .slice A5 n5 c5', .slice A4 n4 c4]) (.slice A5 n5 c5') (.slice A4 n4 c4) M base X8 (by unfold vE; rw [show (intoE e key p).floor = f from HFe.out]) HM.out S8.out T8.out HIo.out (by have := HOk.out.1.2.1; exact this) HOk.out.2.1 (Nat.le_trans HBs.out B8.out.size)
   go_wp2_with fail
   refine cF.mono ?_
   rintro b X9 ⟨⟨u9, rfl, hE9⟩, hb9⟩
   obtain ⟨vc9, vf9, L9, ev9, hL9, hS9, hT9⟩ := hE9
   obtain ⟨A9, n9, c9', rfl⟩ := hS9.1.shape
   obtain ⟨Ab, nb, cb, rfl⟩ := (strs_owns hT9).shape
   unfold vE at ev9
   obtain ⟨f9, hf9⟩ : ∃ f9, (flushS (intoE e key p)).floor = f9 := ⟨_, rfl⟩
   rw [hf9] at ev9
   subst ev9
   have HF9 : Hid ((flushS (intoE e key p)).floor = f9) := hf9
   have HL9 : Hid (L9.map Prod.fst = (flushS (intoE e key p)).cache) := hL9
   have S9 : Hid (SerO X9 base (.slice A9 n9 c9') L9) := hS9
   have T9 : Hid (Strs X9 base (.slice Ab nb cb) (flushS (intoE e key p)).files) := hT9
   have KR9 : Hid (Blk X9 R #[.int .i64 0, .slice none 0 0, .slice none 0 0] 35) := hb9.2 _ _ _ (by decide) KR8.out
   have B9 : Hid (Below base w X9) := (B8.out.mono HBs.out).trans hb9.1
   clear hf9 hL9 hS9 hT9 j0 j1 j2 cF
   obtain ⟨⟨r0, g0⟩, ⟨r1, g1⟩, ⟨r2, g2⟩, e0, e1, e2⟩ := res3 (x := .int .i64 f9) (y := .slice A9 n9 c9') (z := .slice Ab nb cb) KR9.out
   have SF : Hid (EngO ((((X9).setCell ⟨R, 0, none⟩ (.int .i64 f9)).setCell ⟨R, 1, none⟩ (.slice A9 n9 c9')).setCell ⟨R, 2, none⟩ (.slice Ab nb cb)) base (.agg #[.int .i64 f9, .slice A9 n9 c9', .slice Ab nb cb]) (flushS (intoE e key p))) := EngO.end3 KR9.out HF9.out HL9.out S9.out T9.out
   have BF : Hid (Below base w ((((X9).setCell ⟨R, 0, none⟩ (.int .i64 f9)).setCell ⟨R, 1, none⟩ (.slice A9 n9 c9')).setCell ⟨R, 2, none⟩ (.slice Ab nb cb))) := ((B9.out.setCell (Nat.le_trans HBs.out HRw.out) _).setCell (Nat.le_trans HBs.out HRw.out) _).setCell (Nat.le_trans HBs.out HRw.out) _
   go_wp2_with fail
   exact bodyPost_ret (v := .tuple #[.agg #[.int .i64 f9, .slice A9 n9 c9', .slice Ab nb cb], .int .i64 0]) (by simp [results, go_sem, e0, e1, e2]) rfl ⟨⟨_, by rw [HPA.out], by rw [HPA.out]; exact SF.out⟩, BF.out⟩
  ·have d6 : decide ((40 : Int) < (cn : Int)) = false := decide_eq_false (by omega)
   have d7 : decide (40 < cn) = false := decide_eq_false h6
   have HPA : Hid (putA e key p = (intoE e key p, 0)) := by
    unfold Hid
    rw [HE6.out, if_neg h6]
   clear h6
   obtain ⟨⟨r0, g0⟩, ⟨r1, g1⟩, ⟨r2, g2⟩, e0, e1, e2⟩ := res3 (x := .int .i64 f) (y := .slice A5 n5 c5') (z := .slice A4 n4 c4) KR8.out
   have SF : Hid (EngO ((((X8).setCell ⟨R, 0, none⟩ (.int .i64 f)).setCell ⟨R, 1, none⟩ (.slice A5 n5 c5')).setCell ⟨R, 2, none⟩ (.slice A4 n4 c4)) base (.agg #[.int .i64 f, .slice A5 n5 c5', .slice A4 n4 c4]) (intoE e key p)) := EngO.end3 KR8.out HFe.out HM.out S8.out T8.out
   have BF : Hid (Below base w ((((X8).setCell ⟨R, 0, none⟩ (.int .i64 f)).setCell ⟨R, 1, none⟩ (.slice A5 n5 c5')).setCell ⟨R, 2, none⟩ (.slice A4 n4 c4))) := (below_set3 B8.out HRw.out _ _ _).mono HBs.out
   go_wp2_with fail
   exact bodyPost_ret (v := .tuple #[.agg #[.int .i64 f, .slice A5 n5 c5', .slice A4 n4 c4], .int .i64 0]) (by simp [results, go_sem, e0, e1, e2]) rfl ⟨⟨_, by rw [HPA.out], by rw [HPA.out]; exact SF.out⟩, BF.out⟩
 ·have HPA : Hid (putA e key p = (e, 1)) := by unfold Hid putA; rw [if_pos (fun h => h1 h.1)]
  rw [decide_eq_false h1]
  clear h1 cP cK
  have k0 := KX.out.cell 0 _ rfl
  have k1 := KX.out.cell 1 _ rfl
  have k2 := KX.out.cell 2 _ rfl
  obtain ⟨⟨r0, g0⟩, ⟨r1, g1⟩, ⟨r2, g2⟩, e0, e1, e2⟩ := res3 (x := .int .i64 f) (y := .slice A3 n3 c3) (z := .slice A4 n4 c4) KR0.out
  have SF : Hid (EngO ((((X0).setCell ⟨R, 0, none⟩ (.int .i64 f)).setCell ⟨R, 1, none⟩ (.slice A3 n3 c3)).setCell ⟨R, 2, none⟩ (.slice A4 n4 c4)) base (.agg #[.int .i64 f, .slice A3 n3 c3, .slice A4 n4 c4]) e) := EngO.end3 KR0.out HFe.out HL.out SX.out TX.out
  have BF : Hid (Below base w ((((X0).setCell ⟨R, 0, none⟩ (.int .i64 f)).setCell ⟨R, 1, none⟩ (.slice A3 n3 c3)).setCell ⟨R, 2, none⟩ (.slice A4 n4 c4))) := (below_set3 BX.out HRw.out _ _ _).mono HBs.out
  go_wp2_with fail
  exact bodyPost_ret (v := .tuple #[.agg #[.int .i64 f, .slice A3 n3 c3, .slice A4 n4 c4], .int .i64 1]) (by simp [results, go_sem, e0, e1, e2]) rfl ⟨⟨_, by rw [HPA.out], by rw [HPA.out]; exact SF.out⟩, BF.out⟩
end Go.Proofs.YtikknmoeefipmaaGreatDoor
namespace Go.Proofs.YtikknmoeefipmaaGreatDoor
open Go.RowKit Go.PlainAid
theorem run_copy_rows {P : Program} (w : World) (dT sT ty elem : TypeId) (g o dLen dCap : Nat) (a : Addr) (sLen sCap : Nat) (cur : Array Value) (t : TypeId) (cs : List Value) (sz : Nat)
  (hu : P.underlying dT = some (.slice elem)) (hs : (P.info? elem).map (·.size) = some sz)
  (hg : w.heap[g]? = some (.cells cur t (0, 0))) (hn : cs.length = Nat.min sLen dLen * sz)
  (hsrc : ∀ j v, cs[j]? = some v → w.cell? (a.add j) = some v) (hfit : o + cs.length ≤ cur.size) (h1 : ∀ v ∈ cs, v.oneCell' = true) :
  (Builtin.copy_ #[dT, sT] ty #[.slice (some ⟨g, o, none⟩) dLen dCap, .slice (some a) sLen sCap]).run P w =
   .ok (goInt (Nat.min sLen dLen)) (w.setRow g (cur.toList.take o ++ cs ++ cur.toList.drop (o + cs.length)).toArray) := by
 have hl := run_loadCells_list (P := P) w a cs hsrc
 have hst := run_storeCells_at P g o t cs 0 cur w hg (by simpa using hfit) h1
 cases hq : P.info? elem with
 | none => simp [hq] at hs
 | some i =>
  have hi : i.size = sz := by simpa [hq] using hs
  simp [Builtin.copy_, run_underlying hu, Builtin.lenOf, Builtin.firstCells, sizeOf, typeInfo, hq, hi, ← hn, hl, hst]
theorem run_copy_no {P : Program} (w : World) (dT sT ty elem : TypeId) (d a : Option Addr) (dLen dCap sCap : Nat) (sz : Nat) (hu : P.underlying dT = some (.slice elem)) (hs : (P.info? elem).map (·.size) = some sz) :
  (Builtin.copy_ #[dT, sT] ty #[.slice d dLen dCap, .slice a 0 sCap]).run P w = .ok (goInt 0) w := by
 cases hq : P.info? elem with
 | none => simp [hq] at hs
 | some i =>
  have hl : ∀ (x : Addr), (loadCells x 0).run P w = .ok #[] w := fun x => by simpa using run_loadCells_list (P := P) w x [] (by simp)
  have hm : Nat.min 0 dLen = 0 := Nat.zero_min _
  cases d <;> cases a <;> simp [Builtin.copy_, run_underlying hu, Builtin.lenOf, Builtin.firstCells, sizeOf, typeInfo, hq, hm, storeCells, hl]
theorem run_copy_own {P : Program} (w : World) (dT sT ty e : TypeId) (sz : Nat) (hu : P.underlying dT = some (.slice e)) (hs : (P.info? e).map (·.size) = some sz)
  (base g cap : Nat) (rows : List (List Value)) (hown : Owns w base e sz (.slice (some ⟨g, 0, none⟩) rows.length cap) rows)
  (k : Nat) (dp : Option Addr) (dLen dCap : Nat) (hdl : dLen = rows.length - k) (hdp : k < rows.length → dp = some ⟨g, k * sz, none⟩)
  (more : List (List Value)) (u : Value) (B : Nat) (hl : Lies w B sz u more) (h1 : ∀ r ∈ more, ∀ y ∈ r, y.oneCell' = true) (hfit : k + more.length ≤ rows.length) :
  ∃ w', (Builtin.copy_ #[dT, sT] ty #[.slice dp dLen dCap, u]).run P w = .ok (.int .i64 (more.length : Int)) w' ∧ Owns w' base e sz (.slice (some ⟨g, 0, none⟩) rows.length cap) (rows.take k ++ more ++ rows.drop (k + more.length)) ∧ Below base w w' ∧ (∀ b, b ≠ g → w'.heap[b]? = w.heap[b]?) := by
 obtain ⟨A, c, rfl, hz, hms, hm⟩ := hl
 by_cases h0 : more.length = 0
 ·have hnil : more = [] := List.eq_nil_of_length_eq_zero h0
  subst hnil
  refine ⟨w, run_copy_no (P := P) w dT sT ty e dp A dLen dCap c sz hu hs, ?_, Below.refl _ _, fun _ _ => rfl⟩
  simpa using hown
 ·rcases hm with hm | ⟨gs, off, rfl, hgs, hc⟩
  ·exact absurd hm h0
  have hkl : k < rows.length := by omega
  have hdp' := hdp hkl
  subst hdp'
  obtain ⟨hrs, hlen, hor⟩ := hown
  rcases hor with ⟨e1, _⟩ | ⟨g', cap', cur, e1, hbg, hg, hnc, hcm, hcs, htake⟩
  ·cases e1
  ·cases e1
   have hfl : more.flatten.length = more.length * sz := flat_length sz more hms
   have hmin : Nat.min more.length dLen = more.length := Nat.min_eq_left (by omega)
   have hsz1 : (k + more.length) * sz ≤ rows.length * sz := Nat.mul_le_mul_right sz hfit
   have hsz2 : rows.length * sz ≤ cap * sz := Nat.mul_le_mul_right sz hnc
   have hadd : (k + more.length) * sz = k * sz + more.length * sz := Nat.add_mul _ _ _
   have hrun := run_copy_rows (P := P) w dT sT ty e g (k * sz) dLen dCap ⟨gs, off, none⟩ more.length c cur e more.flatten sz hu hs hg (by rw [hmin, hfl]) (fun j v hj => by
    have e2 : (⟨gs, off, none⟩ : Addr).add j = ⟨gs, off + j, none⟩ := by cases j <;> simp [Addr.add]
    rw [e2]
    exact hc j v hj) (by omega) (fun y hy => by
    obtain ⟨r, hr, hyr⟩ := List.mem_flatten.1 hy
    exact h1 r hr y hyr)
   rw [hmin] at hrun
   refine ⟨_, hrun, ?_, below_setRow (Below.refl _ _) hbg _, fun b hb => setRow_other w g b _ hb⟩
   have hft : rows.flatten = (rows.take k).flatten ++ (rows.drop k).flatten := by rw [← List.flatten_append, List.take_append_drop]
   have hl1 : (rows.take k).flatten.length = k * sz := by rw [flat_length sz _ (fun r hr => hrs r (List.mem_of_mem_take hr)), List.length_take, Nat.min_eq_left (by omega)]
   have hl2 : (rows.take (k + more.length)).flatten.length = (k + more.length) * sz := by rw [flat_length sz _ (fun r hr => hrs r (List.mem_of_mem_take hr)), List.length_take, Nat.min_eq_left (by omega)]
   have hft2 : rows.flatten = (rows.take (k + more.length)).flatten ++ (rows.drop (k + more.length)).flatten := by rw [← List.flatten_append, List.take_append_drop]
   have hall : ∀ r ∈ rows.take k ++ more ++ rows.drop (k + more.length), r.length = sz := by
    intro r hr
    rcases List.mem_append.1 hr with hr | hr
    ·rcases List.mem_append.1 hr with hr | hr
     ·exact hrs r (List.mem_of_mem_take hr)
     ·exact hms r hr
    ·exact hrs r (List.mem_of_mem_drop hr)
   have hnl : (rows.take k ++ more ++ rows.drop (k + more.length)).length = rows.length := by
    simp only [List.length_append, List.length_take, List.length_drop]
    omega
   have hcl : cur.toList.length = cap * sz := by rw [Array.length_toList]; exact hcs
   have hf1 : (rows.take k).flatten = cur.toList.take (k * sz) := by
    have : (rows.take k).flatten = rows.flatten.take (k * sz) := by rw [hft]; exact (List.take_left' hl1).symm
    rw [this, ← htake, List.take_take]
    congr 1
    omega
   have hf2 : (rows.drop (k + more.length)).flatten = (cur.toList.drop ((k + more.length) * sz)).take (rows.length * sz - (k + more.length) * sz) := by
    have : (rows.drop (k + more.length)).flatten = rows.flatten.drop ((k + more.length) * sz) := by rw [hft2]; exact (List.drop_left' hl2).symm
    rw [this, ← htake, List.drop_take]
   refine ⟨hall, ?_, .inr ⟨g, cap, _, by rw [hnl], hbg, setRow_heap w g cur _ e _ hg, by rw [hnl]; exact hnc, hcm, ?_, ?_⟩⟩
   ·rw [flat_length sz _ hall]
   ·rw [List.size_toArray]
    simp only [List.length_append, List.length_take, List.length_drop, hfl, hcl]
    omega
   ·rw [hnl, List.toList_toArray, List.flatten_append, List.flatten_append, hf1, hf2, hfl, ← hadd]
    rw [List.take_append]
    have e3 : (List.take (k * sz) cur.toList ++ more.flatten).length = (k + more.length) * sz := by
     simp only [List.length_append, List.length_take, hfl, hcl]
     omega
    rw [e3, List.take_of_length_le (by omega)]
end Go.Proofs.YtikknmoeefipmaaGreatDoor
namespace Go.Proofs.YtikknmoeefipmaaGreatDoor
open Go.ChangeShapes Go.WideShapes Go.ChangeAt Go.RowKit Go.PlainAid
set_option linter.unusedVariables false
theorem elem_pts : Tryz.prog.elem 48 = 90 := by kernel_rfl
theorem size_pt : (Tryz.prog.info? 90).map (·.size) = some 2 := by kernel_rfl
set_option maxRecDepth 100000 in
theorem cut_from {w : World} {B n c : Nat} {A : Option Addr} {rows : List (List Value)} (h : Lies w B 2 (.slice A n c) rows) (k : Nat) (hk : k ≤ rows.length) : ∃ A' c', (∀ wx, (Instr.sliceAt 48 (.slice A n c) (some (.int .i64 (k : Int))) none none).run Tryz.prog wx = .ok (.slice A' (n - k) c') wx) ∧ Lies w B 2 (.slice A' (n - k) c') (rows.drop k) ∧ (c ≠ k → A' = A.map (·.add (k * 2))) := by
 have hr := h.room
 have hu : Tryz.prog.underlying 48 = some (.slice (Tryz.prog.elem 48)) := by rw [elem_pts]; exact Tryz.underlying48
 have hz := size_pt
 cases hq : Tryz.prog.info? 90 with
 | none => rw [hq] at hz; simp at hz
 | some i =>
  rw [hq] at hz
  have hi : i.size = 2 := by simpa using hz
  have hrun : ∀ wx, (Instr.sliceAt 48 (.slice A n c) (some (.int .i64 (k : Int))) none none).run Tryz.prog wx = .ok (.slice (if c = k then A else A.map (·.add (k * 2))) (n - k) (c - k)) wx := fun wx => by
   rw [run_sliceAt_slice wx 48 _ _ _ _ hu, run_slice_l wx 48 A n c hu .i64 (k : Int) (by omega) (by omega), elem_pts]
   simp [sizeOf, typeInfo, hq, hi, sliced]
  refine ⟨_, _, hrun, ?_, fun hne => if_neg hne⟩
  by_cases hck : c = k
  ·rw [if_pos hck]
   have h0 : rows.drop k = [] := List.drop_eq_nil_of_le (by omega)
   rw [h0]
   refine ⟨A, c - k, by simp; omega, ⟨fun e => by omega, by simp⟩, fun r hr => (by cases hr), .inl rfl⟩
  ·rw [if_neg hck]
   match A, h with
   | none, h =>
    obtain ⟨A', c', e, hz, hs, hh⟩ := h
    cases e
    have := hz.1 rfl
    rcases hh with hh | ⟨g, off, e, _⟩
    ·have hk0 : k = 0 := by omega
     subst hk0
     simp only [Option.map_none, List.drop_zero, Nat.sub_zero]
     exact ⟨none, c, rfl, hz, hs, .inl hh⟩
    ·cases e
   | some ad, h =>
    obtain ⟨b, off, spot⟩ := ad
    by_cases hl0 : rows.length = k
    ·have h0 : rows.drop k = [] := List.drop_eq_nil_of_le (by omega)
     rw [h0]
     refine ⟨_, c - k, by rw [show n - k = 0 by omega]; rfl, ⟨fun e => (by cases e), by simp⟩, fun r hr => (by cases hr), .inl rfl⟩
    ·have hspot : spot = none := by
      obtain ⟨A', c', e, hz, hs, hh⟩ := h
      cases e
      rcases hh with hh | ⟨g, off, e, _⟩
      ·omega
      ·cases e; rfl
     subst hspot
     have e1 : (⟨b, off, none⟩ : Addr).add (k * 2) = ⟨b, off + k * 2, none⟩ := by
      generalize k * 2 = j
      cases j <;> simp [Addr.add]
     have := h.behind k hk
     simp only [Option.map_some, e1]
     exact this
theorem cut_to (A : Option Addr) (n c k : Nat) (hk : k ≤ c) (wx : World) : (Instr.sliceAt 48 (.slice A n c) none (some (.int .i64 (k : Int))) none).run Tryz.prog wx = .ok (.slice A k c) wx := by
 have hu : Tryz.prog.underlying 48 = some (.slice (Tryz.prog.elem 48)) := by rw [elem_pts]; exact Tryz.underlying48
 have hz := size_pt
 cases hq : Tryz.prog.info? 90 with
 | none => rw [hq] at hz; simp at hz
 | some i =>
  rw [run_sliceAt_slice wx 48 _ _ _ _ hu, run_slice_h wx 48 A n c hu .i64 (k : Int) (by omega) (by omega), elem_pts]
  have e : A.map (·.add (0 * i.size)) = A := by
   cases A <;> simp [Addr.add]
  simp [sizeOf, typeInfo, hq, sliced]
  intro _
  simpa using e
def sliceLen : Value → Nat
 | .slice _ n _ => n
 | _ => 0
end Go.Proofs.YtikknmoeefipmaaGreatDoor
