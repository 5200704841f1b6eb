/- EgIA -/
import Derived.Test.YtpmgndgkmffcnaaGreatDoorQd45
import Derived.Test.YtpmgndgkmffcnaaGreatDoorQd43
import Derived.Test.YtpmgndgkmffcnaaGreatDoorQd38
import Derived.Test.YtpmgndgkmffcnaaGreatDoorQd24
import Derived.Test.YtpmgndgkmffcnaaGreatDoorQd7
import Derived.Test.YtpmgndgkmffcnaaGreatDoorQd30
import Derived.WalkKit
import Derived.ProofKit
import Derived.OpenShut
import Derived.Below
import Derived.WalkSmall
import Derived.BigQuiet
import Derived.Deep.QuietTactic
import Derived.Deep.RegionWith
import Derived.Handy
open List (setIfInBounds_toArray set_cons_zero set_cons_succ)
namespace Go.Proofs.YtpmgndgkmffcnaaGreatDoor
open Go.ChangeShapes Go.WideShapes Go.ChangeAt Go.RowKit Go.PlainAid
set_option linter.unusedVariables false
theorem clonePts (l : List Pnt) (v : Value) (w : World) (B : Nat) (hv : Lies w B 2 v (ptR l)) (hl : l.length ≤ 1048576) (h1 : 1 ≤ l.length) :
  Calls Tryz.prog 79 #[v] w fun e w' => (∃ u, e = .returned u ∧ Owns w' w.heap.size 56 2 u (ptR l)) ∧ Below w.heap.size w w' := by
 obtain ⟨i0, hi, hz0, hz1, hz2⟩ := info_parts Tryz.infoPt
 obtain ⟨A, cap, rfl, hz, hms, hm⟩ := hv
 rcases hm with h0 | ⟨g, off, rfl, hg, hc⟩
 ·rw [ptR_length] at h0
  omega
 ·refine (AnyE.slices_Clone Tryz.cloneP i0 _ 2 16 hi hz0 hz1 hz2 rfl (by omega) Tryz.sizeOf56 g off (ptR l).length cap (ptR l).flatten w (flat_length 2 _ hms) (by rw [ptR_length]; unfold maxLen; omega) (by rw [ptR_length]; omega) hc ?_).mono ?_
  ·intro y hy
   obtain ⟨r, hr, hyr⟩ := List.mem_flatten.1 hy
   exact pt_one l r hr y hyr
  ·rintro e w' ⟨u, rfl, hO, _, hb⟩
   exact ⟨⟨u, rfl, hms, hO⟩, hb⟩
set_option maxRecDepth 100000 in
set_option maxHeartbeats 16000000 in
theorem implCopy (e : Eng) (v : Value) (w : World) (B : Nat) (hv : EngV w B v e) (hs : EShort e) (hok : ∀ x ∈ e.cache, 1 ≤ x.pts.length ∧ x.key.size ≤ 1000) (hB : B ≤ w.heap.size) :
  Calls Tryz.prog 56 #[v] w fun b w' => (∃ u, b = .returned u ∧ EngO w' w.heap.size u e) ∧ Below w.heap.size w w' := by
 obtain ⟨vc, vf, rfl, hc, hl⟩ := hv
 unfold vE
 obtain ⟨Ac, cc, rfl, _⟩ := hc.look
 obtain ⟨A, cap, rfl, _⟩ := st_look hl
 have HC : Hid (SerV w B (.slice Ac e.cache.length cc) e.cache) := hc
 have HLs : Hid (Lies w B 1 (.slice A e.files.length cap) (stR e.files)) := hl
 have HB : Hid (B ≤ w.heap.size) := hB
 have HSh : Hid (SShort e.cache) := hs.1
 obtain ⟨X0, hX0⟩ : ∃ X0, X0 = (w.alloc (.cells #[.int .i64 e.floor, .slice Ac e.cache.length cc, .slice A e.files.length cap] 30)).alloc (.cells #[.int .i64 0, .slice none 0 0, .slice none 0 0] 30) := ⟨_, rfl⟩
 have BX : Hid (Below w.heap.size w X0) := by unfold Hid; rw [hX0]; exact below_alloc2 _ _ _
 have KX : Hid (Blk X0 w.heap.size #[.int .i64 e.floor, .slice Ac e.cache.length cc, .slice A e.files.length cap] 30) := by unfold Hid; rw [hX0]; exact (Blk.new w _ _).alloc _
 have KR : Hid (Blk X0 (w.heap.size + 1) #[.int .i64 0, .slice none 0 0, .slice none 0 0] 30) := by
  unfold Hid
  rw [hX0]
  have := Blk.new (w.alloc (.cells #[.int .i64 e.floor, .slice Ac e.cache.length cc, .slice A e.files.length cap] 30)) #[.int .i64 0, .slice none 0 0, .slice none 0 0] 30
  rw [World.size_alloc] at this
  exact this
 have hZ : X0.heap.size = w.heap.size + 1 + 1 := by rw [hX0]; simp
 obtain ⟨X1, hX1⟩ : ∃ X1, X1 = X0.alloc (.cells #[.int .i64 e.floor, .slice none 0 0, .slice none 0 0] 30) := ⟨_, rfl⟩
 have KP : Hid (Blk X1 X0.heap.size #[.int .i64 e.floor, .slice none 0 0, .slice none 0 0] 30) := by unfold Hid; rw [hX1]; exact Blk.new X0 _ _
 have BP : Hid (Below X0.heap.size X0 X1) := by unfold Hid; rw [hX1]; exact (Below.refl _ _).alloc (Nat.le_refl _) _
 have HL : Hid (∀ wx, Below w.heap.size w wx → ∀ j, j < e.cache.length → ∃ g off u, Ac = some ⟨g, off, none⟩ ∧ g < B ∧ wx.cell? ⟨g, off + j * 2, none⟩ = some (.string (e.cache.getD j default).key) ∧ wx.cell? ⟨g, off + j * 2 + 1, none⟩ = some u ∧ Lies wx B 2 u (ptR (e.cache.getD j default).pts)) := fun wx hx => by
  obtain ⟨A', c', e', h⟩ := (HC.out.on (hx.mono HB.out)).look
  cases e'
  exact h
 have HFi : Hid (∀ wx, Below w.heap.size w wx → ∀ j, j < e.files.length → ∃ g off, A = some ⟨g, off, none⟩ ∧ g < B ∧ wx.cell? ⟨g, off + j, none⟩ = some (.string (e.files.getD j default))) := fun wx hx => by
  obtain ⟨A', c', e', h⟩ := st_look (HLs.out.on (hx.mono HB.out))
  cases e'
  exact h
 have HTk : Hid (∀ i, i < e.cache.length → e.cache.take (i + 1) = e.cache.take i ++ [e.cache.getD i default]) := fun i hi => take_getD _ i hi
 have HTn : Hid (∀ i, i = e.cache.length → e.cache.take i = e.cache) := fun i hi => by rw [hi, List.take_length]
 have HFk : Hid (∀ i, i < e.files.length → e.files.take (i + 1) = e.files.take i ++ [e.files.getD i default]) := fun i hi => take_getD _ i hi
 have HFn : Hid (∀ i, i = e.files.length → e.files.take i = e.files) := fun i hi => by rw [hi, List.take_length]
 have HFl : Hid (∀ i, i ≤ e.files.length → (stR (e.files.take i)).length ≤ 2097152) := fun i hi => by rw [stR_length, List.length_take]; have := hs.2.2.1; omega
 have HPt : Hid (∀ i, i < e.cache.length → (e.cache.getD i default).pts.length ≤ 1048576 ∧ 1 ≤ (e.cache.getD i default).pts.length ∧ (e.cache.getD i default).key.size ≤ 281474976710656) := fun i hi => ⟨hs.1.2 _ (getD_mem _ i hi), (hok _ (getD_mem _ i hi)).1, by have := (hok _ (getD_mem _ i hi)).2; omega⟩
 have HFz : Hid (∀ i, i < e.files.length → (e.files.getD i default).size ≤ 281474976710656) := fun i hi => by have := hs.2.2.2 _ (getD_mem _ i hi); omega
 have q1 : (e.cache.length : Int) ≤ 1048576 := by have := hs.1.1; omega
 have q2 : (e.files.length : Int) ≤ 1048576 := by have := hs.2.2.1; omega
 have k0 : _ = some (Value.int .i64 e.floor) := KX.out.cell 0 _ rfl
 have m1 : _ = some (Value.slice Ac e.cache.length cc) := (KX.out.on BP.out KX.out.lt).cell 1 _ rfl
 clear hc hl hB hs hok
 generalize hf : e.floor = f at *
 have HFe : Hid (e.floor = f) := hf
 clear hf
 generalize hnc : e.cache.length = nc at *
 have HNc : Hid (e.cache.length = nc) := hnc
 clear hnc
 generalize hnf : e.files.length = nf at *
 clear hnf
 have q0 : 0 ≤ nc := Nat.zero_le _
 have q00 : 0 ≤ nf := Nat.zero_le _
 rw [hX1] at m1
 rw [hX0] at k0 m1
 go_enter Tryz.func56, Tryz.ntmps56
 go_wp2_with fail
 rw [← hX0, ← hX1]
 clear hX0 hX1 k0 m1
 generalize w.heap.size + 1 + 1 = p0 at *
 subst hZ
 go_loopw [14] (fun v14 wr => ∃ (i : Nat) (L : List (Ser × Value)) (A1 : Option Addr) (n1 c1 : Nat), i ≤ nc ∧ v14 = .int .i64 (i : Int) ∧ L.map Prod.fst = e.cache.take i ∧ Blk wr X0.heap.size #[.int .i64 f, .slice A1 n1 c1, .slice none 0 0] 30 ∧ SerO wr X0.heap.size (.slice A1 n1 c1) L ∧ Below X0.heap.size X0 wr) (fun i _ => nc - (intOf i).toNat)
 case atStart => exact ⟨0, [], none, 0, 0, q0, rfl, rfl, KP.out, SerO.nilE _ _, BP.out⟩
 case round =>
  obtain ⟨i, L, A1, n1, c1, hi, rfl, hL, hK, hS, hb⟩ := hrel
  have HLm : Hid (L.map Prod.fst = e.cache.take i) := hL
  have K3 : Hid (Blk wr X0.heap.size #[.int .i64 f, .slice A1 n1 c1, .slice none 0 0] 30) := hK
  have HS : Hid (SerO wr X0.heap.size (.slice A1 n1 c1) L) := hS
  have HBr : Hid (Below X0.heap.size X0 wr) := hb
  have BW : Hid (Below w.heap.size w wr) := BX.out.trans (hb.mono BX.out.size)
  have KXr : Hid (Blk wr w.heap.size #[.int .i64 f, .slice Ac nc cc, .slice A nf cap] 30) := KX.out.on hb KX.out.lt
  clear hL hK hS hb
  by_cases hlt : i < nc
  ·have q4 : (i : Int) < (nc : Int) := by omega
   have HTi : Hid (e.cache.take (i + 1) = e.cache.take i ++ [e.cache.getD i default]) := HTk.out i hlt
   have HPl := HPt.out i hlt
   obtain ⟨g, off, u, rfl, hg, e1, e2, hu⟩ := HL.out wr BW.out i hlt
   generalize e.cache.getD i default = sx at *
   obtain ⟨key, pts⟩ := sx
   obtain ⟨Au, cu, rfl, _⟩ := pt_look hu
   have HU : Hid (Lies wr B 2 (.slice Au pts.length cu) (ptR pts)) := hu
   have HLn : Hid ((srR L).length ≤ 2097152) := by
    have h1 := congrArg List.length HLm.out
    rw [List.length_map, List.length_take] at h1
    unfold Hid
    rw [srR_length]
    omega
   have HZ : Hid (X0.heap.size ≤ wr.heap.size) := HBr.out.size
   have cS := fun (wx : World) => clone key wx HPl.2.2
   have cP := fun (wx : World) (hx : Below wr.heap.size wr wx) => clonePts pts (.slice Au pts.length cu) wx B (HU.out.on (hx.mono (Nat.le_trans HB.out BW.out.size))) HPl.1 HPl.2.1
   clear hu hg HPl
   generalize pts.length = pl at *
   go_wp2_with fail
   obtain ⟨wq, hwq⟩ : ∃ wq, wq = wr.alloc (.cells #[.string key, .slice Au pl cu] 58) := ⟨_, rfl⟩
   have KQ : Hid (Blk wq wr.heap.size #[.string key, .slice Au pl cu] 58) := by unfold Hid; rw [hwq]; exact Blk.new wr _ _
   have VQ : Hid (Below wr.heap.size wr wq) := by unfold Hid; rw [hwq]; exact (Below.refl _ _).alloc (Nat.le_refl _) _
   rw [← hwq]
   clear hwq e1 e2
   refine wp_region_until (fun w' => w'.cell? ⟨X0.heap.size, 1, none⟩ = some (.slice A1 n1 c1) ∧ w'.cell? ⟨wr.heap.size, 0, none⟩ = some (.string key) ∧ w'.cell? ⟨wr.heap.size, 1, none⟩ = some (.slice Au pl cu)) (fun i => i == 12) 13 (by rfl) (by kernel_rfl) ?_
   have V0 : Hid (Below wq.heap.size wq wq.drew) := (Below.refl _ _).drew
   generalize wq.drew = Y0 at *
   have HS0 : Hid (∀ wx, Below wq.heap.size wq wx → wx.cell? ⟨X0.heap.size, 1, none⟩ = some (.slice A1 n1 c1) ∧ wx.cell? ⟨wr.heap.size, 0, none⟩ = some (.string key) ∧ wx.cell? ⟨wr.heap.size, 1, none⟩ = some (.slice Au pl cu)) := fun wx hx =>
    ⟨((K3.out.on VQ.out K3.out.lt).on hx (K3.out.on VQ.out K3.out.lt).lt).cell 1 _ rfl, (KQ.out.on hx KQ.out.lt).cell 0 _ rfl, (KQ.out.on hx KQ.out.lt).cell 1 _ rfl⟩
   have HWr : Hid (∀ wx, Below wq.heap.size wq wx → Below wr.heap.size wr wx) := fun wx hx => VQ.out.trans (hx.mono VQ.out.size)
   refine until_take 0 (v := ?_) (by rfl) (by kernel_rfl) (by exact fun _ _ _ h => h) (by rfl) ?_ (HS0.out _ V0.out) ?_
   rotate_left
   ·intro w hSw
    try dsimp only at hSw
    go_simp
    try with_reducible rfl
   try simp only [Act.put, setIfInBounds_toArray, set_cons_zero, set_cons_succ]
   refine until_take 1 (v := ?_) (by rfl) (by kernel_rfl) (by exact fun _ _ _ h => h) (by rfl) ?_ (HS0.out _ V0.out) ?_
   rotate_left
   ·intro w hSw
    try dsimp only at hSw
    go_simp
    try with_reducible rfl
   try simp only [Act.put, setIfInBounds_toArray, set_cons_zero, set_cons_succ]
   refine until_take 2 (v := ?_) (by rfl) (by kernel_rfl) (by exact fun _ _ _ h => h) (by rfl) ?_ (HS0.out _ V0.out) ?_
   rotate_left
   ·intro w hSw
    try dsimp only at hSw
    go_simp
    try with_reducible rfl
   try simp only [Act.put, setIfInBounds_toArray, set_cons_zero, set_cons_succ]
   refine until_take 3 (v := ?_) (by rfl) (by kernel_rfl) (by exact fun _ _ _ h => h) (by rfl) ?_ (HS0.out _ V0.out) ?_
   rotate_left
   ·intro w hSw
    try dsimp only at hSw
    go_simp
    try with_reducible rfl
   try simp only [Act.put, setIfInBounds_toArray, set_cons_zero, set_cons_succ]
   refine until_take 5 (v := ?_) (by rfl) (by kernel_rfl) (by exact fun _ _ _ h => h) (by rfl) ?_ (HS0.out _ V0.out) ?_
   rotate_left
   ·intro w hSw
    try dsimp only at hSw
    go_simp
    try with_reducible rfl
   try simp only [Act.put, setIfInBounds_toArray, set_cons_zero, set_cons_succ]
   refine until_take 6 (v := ?_) (by rfl) (by kernel_rfl) (by exact fun _ _ _ h => h) (by rfl) ?_ (HS0.out _ V0.out) ?_
   rotate_left
   ·intro w hSw
    try dsimp only at hSw
    go_simp
    try with_reducible rfl
   try simp only [Act.put, setIfInBounds_toArray, set_cons_zero, set_cons_succ]
   refine until_one 4 (by rfl) (by kernel_rfl) (fun K hK => ?_)
   go_simp
   refine (cS Y0).mono ?_
   rintro b Y1 ⟨rfl, hb1⟩
   have V1 : Hid (Below wq.heap.size wq Y1) := V0.out.trans (hb1.mono V0.out.size)
   clear hb1
   refine hK.out _ _ (fun _ _ => (HS0.out _ V1.out)) ?_
   clear hK K
   try simp only [Act.put, setIfInBounds_toArray, set_cons_zero, set_cons_succ]
   refine until_one 7 (by rfl) (by kernel_rfl) (fun K hK => ?_)
   go_simp
   refine (cP Y1 (HWr.out _ V1.out)).mono ?_
   rintro b Y2 ⟨⟨u2, rfl, hO2⟩, hb2⟩
   obtain ⟨Ap, mp, cp, rfl⟩ := hO2.shape
   have V2 : Hid (Below wq.heap.size wq Y2) := V1.out.trans (hb2.mono V1.out.size)
   have OP : Hid (Owns Y2 wr.heap.size 56 2 (.slice Ap mp cp) (ptR pts)) := hO2.mono (HWr.out _ V1.out).size
   clear hb2 hO2
   refine hK.out _ _ (fun _ _ => (HS0.out _ V2.out)) ?_
   clear hK K
   try simp only [Act.put, setIfInBounds_toArray, set_cons_zero, set_cons_succ]
   refine until_pure 8 (v := ?_) (by rfl) (by kernel_rfl) (by exact fun _ _ _ h => h) (by rfl) ?_ ?_
   rotate_left
   ·intro w
    go_simp
    try with_reducible rfl
   try simp only [Act.put, setIfInBounds_toArray, set_cons_zero, set_cons_succ]
   refine until_one 9 (by rfl) (by kernel_rfl) (fun K hK => ?_)
   go_simp
   have V3 : Hid (Below wq.heap.size wq (Y2.alloc (.cells #[.string key, .slice Ap mp cp] 58))) := V2.out.alloc V2.out.size _
   refine hK.out _ _ (fun _ _ => (HS0.out _ V3.out)) ?_
   clear hK K
   try simp only [Act.put, setIfInBounds_toArray, set_cons_zero, set_cons_succ]
   have W2 : Hid (Below wr.heap.size wr Y2) := HWr.out _ V2.out
   have Z2 : X0.heap.size ≤ Y2.heap.size := Nat.le_trans HZ.out W2.out.size
   obtain ⟨A7, n7, c7, w5, r5, hO5, hb5, hk5, hw5⟩ := run_append_row (P := Tryz.prog) Y2 28 28 58 (.agg #[.string ⟨#[]⟩, .slice none 0 0]) 2 40 Tryz.underlying28 Tryz.infoSr rfl (by omega) X0.heap.size (.slice A1 n1 c1) (srR L) (HS.out.1.on W2.out) [.string key, .slice Ap mp cp] rfl (sr_cells key rfl) HLn.out (by omega) Z2
   refine until_one 10 (by rfl) (by kernel_rfl) (fun K hK => ?_)
   refine step_append_run (by rfl) (.tmp 19) (.tmp 27) 28 (by rfl) _ _ _ _ (by rfl) (by rfl) r5 ?_
   have hS2 := HS.out.on W2.out
   have hne5 : ∀ (v : Value) (b : Nat) (e : TypeId) (sz : Nat) (r : List (List Value)), Owns Y2 b e sz v r → e ≠ 58 → Owns w5 b e sz v r := fun v b e sz r ho hne => ho.kept fun gg hg hv => hk5 gg hg (fun hu => ho.apartT hS2.1 hne gg hv hu)
   have AP : ∀ q ∈ L, Apart q.2 (.slice Ap mp cp) := fun q hq gg h1 h2 => by
    have := ((HS.out.2.1 q hq).lt gg h1).2
    have := (OP.out.lt gg h2).1
    omega
   have S5 : Hid (SerO w5 X0.heap.size (.slice A7 n7 c7) (L ++ [(⟨key, pts⟩, .slice Ap mp cp)])) := SerO.snoc (w1 := Y2) (v := .slice A1 n1 c1) hO5 (fun q hq => hne5 _ _ _ _ _ (hS2.2.1 q hq) (by decide)) hS2.2.2 (hne5 _ _ _ _ _ (OP.out.mono HZ.out) (by decide)) AP
   have hK2 := K3.out.on W2.out K3.out.lt
   have K5 : Hid (Blk w5 X0.heap.size #[.int .i64 f, .slice A1 n1 c1, .slice none 0 0] 30) := (hk5 _ hK2.lt (hS2.1.notBlk hK2 (by decide))).trans hK2
   have hQ2 := KQ.out.on V2.out KQ.out.lt
   have hQn : (Value.slice A1 n1 c1).ownBlock ≠ some wr.heap.size := fun h => by have := (HS.out.1.lt _ h).2; omega
   have KQ5 : Hid (Blk w5 wr.heap.size #[.string key, .slice Au pl cu] 58) := (hk5 _ hQ2.lt hQn).trans hQ2
   have B5 : Hid (Below X0.heap.size X0 w5) := (HBr.out.trans (W2.out.mono HZ.out)).trans hb5
   have HL5 : Hid ((L ++ [((⟨key, pts⟩ : Ser), Value.slice Ap mp cp)]).map Prod.fst = e.cache.take (i + 1)) := by unfold Hid; rw [HTi.out, List.map_append, HLm.out]; rfl
   have S20 : Hid (w5.cell? ⟨X0.heap.size, 1, none⟩ = some (.slice A1 n1 c1) ∧ w5.cell? ⟨wr.heap.size, 0, none⟩ = some (.string key) ∧ w5.cell? ⟨wr.heap.size, 1, none⟩ = some (.slice Au pl cu)) := ⟨K5.out.cell 1 _ rfl, KQ5.out.cell 0 _ rfl, KQ5.out.cell 1 _ rfl⟩
   clear r5 hO5 hb5 hk5 hw5 hS2 hne5 AP hK2 Z2 V3 hQ2 hQn
   refine hK.out _ _ (fun _ _ => S20.out) ?_
   clear hK K
   try simp only [Act.put, setIfInBounds_toArray, set_cons_zero, set_cons_succ]
   refine until_pure 11 (v := ?_) (by rfl) (by kernel_rfl) (by exact fun _ _ _ h => h) (by rfl) ?_ ?_
   rotate_left
   ·intro w
    go_simp
    try with_reducible rfl
   try simp only [Act.put, setIfInBounds_toArray, set_cons_zero, set_cons_succ]
   refine until_one 12 (by rfl) (by kernel_rfl) (fun K hK => ?_)
   have s1 : _ = some (Value.slice A1 n1 c1) := K5.out.cell 1 _ rfl
   have f1 := K5.out.free 1
   go_simp
   refine hK.out _ _ (fun h => by cases h) ?_
   clear hK K s1 f1
   try simp only [Act.put, setIfInBounds_toArray, set_cons_zero, set_cons_succ]
   refine until_done (by kernel_rfl) ?_ _
   try go_wp2_with fail
   go_roundw
   case rel => exact ⟨i + 1, _, A7, n7, c7, by omega, by go_num, HL5.out, K5.out.set 1 _, S5.out.butE K5.out ((KeptBut.refl X0.heap.size _).set 1 _), B5.out.setCell (Nat.le_refl _) _⟩
   case measure => simp [intOf]; omega
  ·obtain rfl : i = nc := by omega
   have HE : Hid (L.map Prod.fst = e.cache) := HLm.out.trans (HTn.out i rfl)
   have x2 : _ = some (Value.slice A nf cap) := KXr.out.cell 2 _ rfl
   go_wp2_with fail
   clear x2
   go_loopw [34] (fun v34 wr => ∃ (j : Nat) (A2 : Option Addr) (n2 c2 : Nat), j ≤ nf ∧ v34 = .int .i64 (j : Int) ∧ Blk wr X0.heap.size #[.int .i64 f, .slice A1 n1 c1, .slice A2 n2 c2] 30 ∧ SerO wr X0.heap.size (.slice A1 n1 c1) L ∧ Owns wr X0.heap.size 9 1 (.slice A2 n2 c2) (stR (e.files.take j)) ∧ Below X0.heap.size X0 wr) (fun j _ => nf - (intOf j).toNat)
   case atStart => exact ⟨0, none, 0, 0, q00, rfl, K3.out, HS.out, Owns.nil _ _ _ _, HBr.out⟩
   case round =>
    obtain ⟨j, A2, n2, c2, hj, rfl, hK, hS, hO, hb⟩ := hrel
    have K4 : Hid (Blk wr X0.heap.size #[.int .i64 f, .slice A1 n1 c1, .slice A2 n2 c2] 30) := hK
    have S4 : Hid (SerO wr X0.heap.size (.slice A1 n1 c1) L) := hS
    have O4 : Hid (Owns wr X0.heap.size 9 1 (.slice A2 n2 c2) (stR (e.files.take j))) := hO
    have B4 : Hid (Below X0.heap.size X0 wr) := hb
    have BW4 : Hid (Below w.heap.size w wr) := BX.out.trans (hb.mono BX.out.size)
    clear hK hS hO hb
    by_cases hlt2 : j < nf
    ·have q5 : (j : Int) < (nf : Int) := by omega
     have HFt : Hid (e.files.take (j + 1) = e.files.take j ++ [e.files.getD j default]) := HFk.out j hlt2
     have hz5 := HFz.out j hlt2
     have HL4 : Hid ((stR (e.files.take j)).length ≤ 2097152) := HFl.out j hj
     obtain ⟨g2, off2, rfl, hg2, e1⟩ := HFi.out wr BW4.out j hlt2
     generalize e.files.getD j default = sx at *
     have cS := fun (wx : World) => clone sx wx hz5
     have HZ4 : Hid (X0.heap.size ≤ wr.heap.size) := B4.out.size
     have HO5 : Hid (∀ wx A n c, Owns wx X0.heap.size 9 1 (.slice A n c) (stR (e.files.take j) ++ [[.string sx]]) → Owns wx X0.heap.size 9 1 (.slice A n c) (stR (e.files.take (j + 1)))) := fun wx A n c h => by
      have e1 : stR (e.files.take j) ++ [[.string sx]] = stR (e.files.take (j + 1)) := by rw [HFt.out]; simp [stR, stC]
      rw [← e1]
      exact h
     clear hz5 hg2
     go_wp2_with fail
     clear e1
     refine wp_region_until (fun w' => w'.cell? ⟨X0.heap.size, 2, none⟩ = some (.slice A2 n2 c2)) (fun i => i == 7) 8 (by rfl) (by kernel_rfl) ?_
     have V0 : Hid (Below wr.heap.size wr wr.drew) := (Below.refl _ _).drew
     generalize wr.drew = Y0 at *
     have HS0 : Hid (∀ wx, Below wr.heap.size wr wx → wx.cell? ⟨X0.heap.size, 2, none⟩ = some (.slice A2 n2 c2)) := fun wx hx => (K4.out.on hx K4.out.lt).cell 2 _ rfl
     refine until_take 0 (v := ?_) (by rfl) (by kernel_rfl) (by exact fun _ _ _ h => h) (by rfl) ?_ (HS0.out _ V0.out) ?_
     rotate_left
     ·intro w hSw
      try dsimp only at hSw
      go_simp
      try with_reducible rfl
     try simp only [Act.put, setIfInBounds_toArray, set_cons_zero, set_cons_succ]
     refine until_take 1 (v := ?_) (by rfl) (by kernel_rfl) (by exact fun _ _ _ h => h) (by rfl) ?_ (HS0.out _ V0.out) ?_
     rotate_left
     ·intro w hSw
      try dsimp only at hSw
      go_simp
      try with_reducible rfl
     try simp only [Act.put, setIfInBounds_toArray, set_cons_zero, set_cons_succ]
     refine until_take 2 (v := ?_) (by rfl) (by kernel_rfl) (by exact fun _ _ _ h => h) (by rfl) ?_ (HS0.out _ V0.out) ?_
     rotate_left
     ·intro w hSw
      try dsimp only at hSw
      go_simp
      try with_reducible rfl
     try simp only [Act.put, setIfInBounds_toArray, set_cons_zero, set_cons_succ]
     refine until_one 3 (by rfl) (by kernel_rfl) (fun K hK => ?_)
     go_simp
     refine (cS Y0).mono ?_
     rintro b Y1 ⟨rfl, hb1⟩
     have V1 : Hid (Below wr.heap.size wr Y1) := V0.out.trans (hb1.mono V0.out.size)
     clear hb1
     refine hK.out _ _ (fun _ _ => (HS0.out _ V1.out)) ?_
     clear hK K
     try simp only [Act.put, setIfInBounds_toArray, set_cons_zero, set_cons_succ]
     refine until_one 4 (by rfl) (by kernel_rfl) (fun K hK => ?_)
     go_simp
     have V2 : Hid (Below wr.heap.size wr (Y1.alloc (.cells #[.string sx] 9))) := V1.out.alloc V1.out.size _
     refine hK.out _ _ (fun _ _ => (HS0.out _ V2.out)) ?_
     clear hK K
     try simp only [Act.put, setIfInBounds_toArray, set_cons_zero, set_cons_succ]
     obtain ⟨A7, n7, c7, w5, r5, hO5, hb5, hk5, hw5⟩ := run_append_row (P := Tryz.prog) Y1 23 23 9 (.string ⟨#[]⟩) 1 16 Tryz.underlying23 infoStr rfl (by omega) X0.heap.size (.slice A2 n2 c2) (stR (e.files.take j)) (O4.out.on V1.out) [.string sx] rfl (st_cell sx) HL4.out (by omega) (Nat.le_trans HZ4.out V1.out.size)
     refine until_one 5 (by rfl) (by kernel_rfl) (fun K hK => ?_)
     refine step_append_run (by rfl) (.tmp 39) (.tmp 42) 23 (by rfl) _ _ _ _ (by rfl) (by rfl) r5 ?_
     have hO2 := O4.out.on V1.out
     have hne5 : ∀ (v : Value) (b : Nat) (e : TypeId) (sz : Nat) (r : List (List Value)), Owns Y1 b e sz v r → e ≠ 9 → Owns w5 b e sz v r := fun v b e sz r ho hne => ho.kept fun gg hg hv => hk5 gg hg (fun hu => ho.apartT hO2 hne gg hv hu)
     have hS2 := S4.out.on V1.out
     have S5 : Hid (SerO w5 X0.heap.size (.slice A1 n1 c1) L) := ⟨hne5 _ _ _ _ _ hS2.1 (by decide), fun q hq => hne5 _ _ _ _ _ (hS2.2.1 q hq) (by decide), hS2.2.2⟩
     have hK2 := K4.out.on V1.out K4.out.lt
     have K5 : Hid (Blk w5 X0.heap.size #[.int .i64 f, .slice A1 n1 c1, .slice A2 n2 c2] 30) := (hk5 _ hK2.lt (hO2.notBlk hK2 (by decide))).trans hK2
     have O5 : Hid (Owns w5 X0.heap.size 9 1 (.slice A7 n7 c7) (stR (e.files.take (j + 1)))) := HO5.out _ _ _ _ hO5
     have B5 : Hid (Below X0.heap.size X0 w5) := (B4.out.trans (V1.out.mono HZ4.out)).trans hb5
     have S20 : Hid (w5.cell? ⟨X0.heap.size, 2, none⟩ = some (.slice A2 n2 c2)) := K5.out.cell 2 _ rfl
     clear r5 hO5 hb5 hk5 hw5 hS2 hne5 hK2 hO2 V2
     refine hK.out _ _ (fun _ _ => S20.out) ?_
     clear hK K
     try simp only [Act.put, setIfInBounds_toArray, set_cons_zero, set_cons_succ]
     refine until_pure 6 (v := ?_) (by rfl) (by kernel_rfl) (by exact fun _ _ _ h => h) (by rfl) ?_ ?_
     rotate_left
     ·intro w
      go_simp
      try with_reducible rfl
     try simp only [Act.put, setIfInBounds_toArray, set_cons_zero, set_cons_succ]
     refine until_one 7 (by rfl) (by kernel_rfl) (fun K hK => ?_)
     have s1 : _ = some (Value.slice A2 n2 c2) := K5.out.cell 2 _ rfl
     have f1 := K5.out.free 2
     go_simp
     refine hK.out _ _ (fun h => by cases h) ?_
     clear hK K s1 f1
     try simp only [Act.put, setIfInBounds_toArray, set_cons_zero, set_cons_succ]
     refine until_done (by kernel_rfl) ?_ _
     try go_wp2_with fail
     go_roundw
     case rel => exact ⟨j + 1, A7, n7, c7, by omega, by go_num, K5.out.set 2 _, S5.out.butE K5.out ((KeptBut.refl X0.heap.size _).set 2 _), ((KeptBut.refl X0.heap.size _).set 2 _).owns O5.out (O5.out.notBlk K5.out (by decide)), B5.out.setCell (Nat.le_refl _) _⟩
     case measure => simp [intOf]; omega
    ·obtain rfl : j = nf := by omega
     have HT5 : Hid (Strs wr X0.heap.size (.slice A2 n2 c2) e.files) := by
      unfold Hid
      have h := O4.out
      rw [HFn.out j rfl] at h
      exact owns_strs h
     have KRr : Hid (Blk wr (w.heap.size + 1) #[.int .i64 0, .slice none 0 0, .slice none 0 0] 30) := KR.out.on B4.out KR.out.lt
     have y0 : _ = some (Value.int .i64 f) := K4.out.cell 0 _ rfl
     have y1 : _ = some (Value.slice A1 n1 c1) := K4.out.cell 1 _ rfl
     have y2 : _ = some (Value.slice A2 n2 c2) := K4.out.cell 2 _ rfl
     generalize hR : w.heap.size + 1 = R at *
     have HRw : Hid (w.heap.size ≤ R) := by unfold Hid; omega
     clear hR
     obtain ⟨⟨r0, g0⟩, ⟨r1, g1⟩, ⟨r2, g2⟩, e0, e1, e2⟩ := res3 (x := .int .i64 f) (y := .slice A1 n1 c1) (z := .slice A2 n2 c2) KRr.out
     have SF : Hid (EngO (((wr.setCell ⟨R, 0, none⟩ (.int .i64 f)).setCell ⟨R, 1, none⟩ (.slice A1 n1 c1)).setCell ⟨R, 2, none⟩ (.slice A2 n2 c2)) w.heap.size (.agg #[.int .i64 f, .slice A1 n1 c1, .slice A2 n2 c2]) e) := EngO.end3 KRr.out HFe.out HE.out (S4.out.mono BX.out.size) (owns_strs ((strs_owns HT5.out).mono BX.out.size))
     have BF : Hid (Below w.heap.size w (((wr.setCell ⟨R, 0, none⟩ (.int .i64 f)).setCell ⟨R, 1, none⟩ (.slice A1 n1 c1)).setCell ⟨R, 2, none⟩ (.slice A2 n2 c2))) := below_set3 BW4.out HRw.out _ _ _
     go_wp2_with fail
     exact bodyPost_ret (v := .agg #[.int .i64 f, .slice A1 n1 c1, .slice A2 n2 c2]) (by simp [results, go_sem, e0, e1, e2]) rfl ⟨⟨_, rfl, SF.out⟩, BF.out⟩
end Go.Proofs.YtpmgndgkmffcnaaGreatDoor
