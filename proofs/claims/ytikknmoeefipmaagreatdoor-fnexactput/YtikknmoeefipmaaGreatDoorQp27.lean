/- EgI9 EgIA EgIB -/
import Derived.Test.YtikknmoeefipmaaGreatDoorQp26
import Derived.Test.YtikknmoeefipmaaGreatDoorQp5
import Derived.WalkKit
import Derived.ProofKit
import Derived.OpenShut
import Derived.Below
import Derived.WalkSmall
import Derived.BigQuiet
import Derived.Deep.QuietTactic
import Derived.Deep.RegionWith
import Derived.Handy
import Derived.Test.YtikknmoeefipmaaGreatDoorQp20
import Derived.Test.YtikknmoeefipmaaGreatDoorQp16
import Derived.Test.YtikknmoeefipmaaGreatDoorQp21
import Derived.Test.YtikknmoeefipmaaGreatDoorQp23
import Derived.Test.YtikknmoeefipmaaGreatDoorQp13
import Derived.Test.YtikknmoeefipmaaGreatDoorQp4
open List (setIfInBounds_toArray set_cons_zero set_cons_succ)
namespace Go.Proofs.YtikknmoeefipmaaGreatDoor
open Go.ChangeShapes Go.WideShapes Go.ChangeAt Go.RowKit Go.PlainAid
set_option linter.unusedVariables false
theorem Strs.one (w : World) (base : Nat) (s : ByteArray) (hb : base ≤ w.heap.size) : Strs (w.alloc (.cells #[.string s] 9)) base (.slice (some ⟨w.heap.size, 0, none⟩) 1 1) [s] :=
 owns_strs ⟨fun r hr => by simp [stR, stC] at hr; rw [hr]; rfl, World.ownsRow_lit w #[.string s] 1 hb (by unfold maxLen; omega) (by simp)⟩
set_option maxRecDepth 100000 in
set_option maxHeartbeats 4000000 in
theorem implPacked (f : Int) (l : List Ser) (v : Value) (w : World) (B : Nat) (hv : SerV w B v l) (hn : SShort l) (hk : ∀ x ∈ l, x.key.size ≤ maxLen) (hB : B ≤ w.heap.size) (hst : SumTab w) :
  Calls Tryz.prog 93 #[.int .i64 f, v] w fun b w' => (∃ u, b = .returned u ∧ EngO w' w.heap.size u (packA f l)) ∧ Below w.heap.size w w' := by
 obtain ⟨A, c, rfl, _⟩ := hv.look
 obtain ⟨X0, hX0⟩ : ∃ X0, X0 = (w.alloc (.cells #[.int .i64 0, .slice none 0 0, .slice none 0 0] 35)).alloc (.cells #[.int .i64 f, .slice none 0 0, .slice none 0 0] 35) := ⟨_, rfl⟩
 have BX : Hid (Below w.heap.size w X0) := by unfold Hid; rw [hX0]; exact below_alloc2 _ _ _
 have KR : Hid (Blk X0 w.heap.size #[.int .i64 0, .slice none 0 0, .slice none 0 0] 35) := by unfold Hid; rw [hX0]; exact (Blk.new w _ _).alloc _
 have KP : Hid (Blk X0 (w.heap.size + 1) #[.int .i64 f, .slice none 0 0, .slice none 0 0] 35) := by
  unfold Hid
  rw [hX0]
  have := Blk.new (w.alloc (.cells #[.int .i64 0, .slice none 0 0, .slice none 0 0] 35)) #[.int .i64 f, .slice none 0 0, .slice none 0 0] 35
  rw [World.size_alloc] at this
  exact this
 have k0 : _ = some (Value.int .i64 f) := KP.out.cell 0 _ rfl
 have k1 : _ = some (Value.slice none 0 0) := KP.out.cell 1 _ rfl
 have k2 : _ = some (Value.slice none 0 0) := KP.out.cell 2 _ rfl
 by_cases h0 : l = []
 ·have HE : Hid (packA f l = ⟨f, [], []⟩) := by unfold Hid packA; rw [if_pos h0]
  have hl0 : l.length = 0 := by rw [h0]; rfl
  clear h0
  have SF : Hid (∀ (a b : Obj), EngO ((w.alloc a).alloc b) w.heap.size (.agg #[.int .i64 f, .slice none 0 0, .slice none 0 0]) (packA f l) ∧ Below w.heap.size w ((w.alloc a).alloc b)) := fun a b => by
   rw [HE.out]
   exact ⟨⟨_, _, [], rfl, rfl, SerO.nilE _ _, owns_strs (Owns.nil _ _ _ _)⟩, below_alloc2 _ _ _⟩
  rw [hX0] at k0 k1 k2
  clear hX0 KR KP BX hv hn hk hB hst
  generalize l.length = n at *
  subst hl0
  go_enter Tryz.func93, Tryz.ntmps93
  go_wp2_with fail
  exact bodyPost_ret (v := .agg #[.int .i64 f, .slice none 0 0, .slice none 0 0]) (by simp [results, go_sem]) rfl ⟨⟨_, rfl, (SF.out _ _).1⟩, (SF.out _ _).2⟩
 ·have HE : Hid (packA f l = ⟨f, [], [fileT l]⟩) := by unfold Hid packA; rw [if_neg h0]
  have q5 : (0 : Int) < (l.length : Int) := by have := len_pos h0; omega
  have c1 := implFileText l _ X0 B (hv.on (BX.out.mono hB)) hn hk (Nat.le_trans hB BX.out.size) (hst.on BX.out)
  clear h0 hv hn hk hB hst
  generalize fileT l = ft at *
  generalize l.length = n at *
  rw [hX0] at k0 k1 k2
  go_enter Tryz.func93, Tryz.ntmps93
  go_wp2_with fail
  rw [← hX0]
  clear hX0
  refine c1.mono ?_
  rintro b X1 ⟨rfl, hb1⟩
  have B1 : Hid (Below w.heap.size w X1) := BX.out.trans (hb1.mono BX.out.size)
  have KR1 : Hid (Blk X1 w.heap.size #[.int .i64 0, .slice none 0 0, .slice none 0 0] 35) := KR.out.on hb1 KR.out.lt
  have KP1 : Hid (Blk X1 (w.heap.size + 1) #[.int .i64 f, .slice none 0 0, .slice none 0 0] 35) := KP.out.on hb1 KP.out.lt
  clear hb1 c1 k0 k1 k2 KR KP BX
  generalize hP : w.heap.size + 1 = P at *
  have HP : Hid (w.heap.size + 1 = P) := hP
  clear hP
  obtain ⟨X2, hX2⟩ : ∃ X2, X2 = (X1.alloc (.cells #[.string ft] 9)).setCell ⟨P, 2, none⟩ (.slice (some ⟨X1.heap.size, 0, none⟩) 1 1) := ⟨_, rfl⟩
  have hkb : KeptBut P (X1.alloc (.cells #[.string ft] 9)) X2 := by rw [hX2]; exact (KeptBut.refl _ _).set 2 _
  have hKA := KP1.out.alloc (.cells #[.string ft] 9)
  have m2 : _ = some (Value.slice none 0 0) := hKA.cell 2 _ rfl
  have f2 := hKA.free 2
  have KP2 : Hid (Blk X2 P #[.int .i64 f, .slice none 0 0, .slice (some ⟨X1.heap.size, 0, none⟩) 1 1] 35) := by unfold Hid; rw [hX2]; exact hKA.set 2 _
  have KR2 : Hid (Blk X2 w.heap.size #[.int .i64 0, .slice none 0 0, .slice none 0 0] 35) := (KR1.out.alloc _).but hkb (by have := HP.out; omega)
  have T2 : Hid (Strs X2 w.heap.size (.slice (some ⟨X1.heap.size, 0, none⟩) 1 1) [ft]) := (Strs.one X1 w.heap.size ft B1.out.size).butE hKA hkb
  have B2 : Hid (Below w.heap.size w X2) := by unfold Hid; rw [hX2]; exact (B1.out.alloc B1.out.size _).setCell (by have := HP.out; show w.heap.size ≤ P; omega) _
  have o0 : _ = some (Value.int .i64 f) := KP2.out.cell 0 _ rfl
  have o1 : _ = some (Value.slice none 0 0) := KP2.out.cell 1 _ rfl
  have o2 : _ = some (Value.slice (some ⟨X1.heap.size, 0, none⟩) 1 1) := KP2.out.cell 2 _ rfl
  obtain ⟨⟨r0, g0⟩, ⟨r1, g1⟩, ⟨r2, g2⟩, e0, e1, e2⟩ := res3 (x := .int .i64 f) (y := .slice none 0 0) (z := .slice (some ⟨X1.heap.size, 0, none⟩) 1 1) KR2.out
  have SF : Hid (EngO (((X2.setCell ⟨w.heap.size, 0, none⟩ (.int .i64 f)).setCell ⟨w.heap.size, 1, none⟩ (.slice none 0 0)).setCell ⟨w.heap.size, 2, none⟩ (.slice (some ⟨X1.heap.size, 0, none⟩) 1 1)) w.heap.size (.agg #[.int .i64 f, .slice none 0 0, .slice (some ⟨X1.heap.size, 0, none⟩) 1 1]) (packA f l)) := by
   unfold Hid
   rw [HE.out]
   exact EngO.end3 (L := []) KR2.out rfl rfl (SerO.nilE _ _) T2.out
  have BF : Hid (Below w.heap.size w (((X2.setCell ⟨w.heap.size, 0, none⟩ (.int .i64 f)).setCell ⟨w.heap.size, 1, none⟩ (.slice none 0 0)).setCell ⟨w.heap.size, 2, none⟩ (.slice (some ⟨X1.heap.size, 0, none⟩) 1 1))) := below_set3 B2.out (Nat.le_refl _) _ _ _
  rw [hX2] at o0 o1 o2 r0 g0 r1 g1 r2 g2 e0 e1 e2 SF BF
  clear hX2 hkb hKA KP2 KR2 T2 B2 KP1 KR1
  go_wp2_with fail
  exact bodyPost_ret (v := .agg #[.int .i64 f, .slice none 0 0, .slice (some ⟨X1.heap.size, 0, none⟩) 1 1]) (by simp [results, go_sem, e0, e1, e2]) rfl ⟨⟨_, rfl, SF.out⟩, BF.out⟩
end Go.Proofs.YtikknmoeefipmaaGreatDoor
namespace Go.Proofs.YtikknmoeefipmaaGreatDoor
open Go.ChangeShapes Go.WideShapes Go.ChangeAt Go.RowKit Go.PlainAid
set_option linter.unusedVariables false
theorem clonePts (l : List Pnt) (v : Value) (w : World) (B : Nat) (hv : Lies w B 2 v (ptR l)) (hl : l.length ≤ 1048576) (h1 : 1 ≤ l.length) :
  Calls Tryz.prog 90 #[v] w fun e w' => (∃ u, e = .returned u ∧ Owns w' w.heap.size 90 2 u (ptR l)) ∧ Below w.heap.size w w' := by
 obtain ⟨i0, hi, hz0, hz1, hz2⟩ := info_parts Tryz.infoPt
 obtain ⟨A, cap, rfl, hz, hms, hm⟩ := hv
 rcases hm with h0 | ⟨g, off, rfl, hg, hc⟩
 ·rw [ptR_length] at h0
  omega
 ·refine (AnyE.slices_Clone Tryz.cloneP i0 _ 2 16 hi hz0 hz1 hz2 rfl (by omega) Tryz.sizeOf90 g off (ptR l).length cap (ptR l).flatten w (flat_length 2 _ hms) (by rw [ptR_length]; unfold maxLen; omega) (by rw [ptR_length]; omega) hc ?_).mono ?_
  ·intro y hy
   obtain ⟨r, hr, hyr⟩ := List.mem_flatten.1 hy
   exact pt_one l r hr y hyr
  ·rintro e w' ⟨u, rfl, hO, _, hb⟩
   exact ⟨⟨u, rfl, hms, hO⟩, hb⟩
set_option maxRecDepth 100000 in
set_option maxHeartbeats 16000000 in
theorem implCopy (e : Eng) (v : Value) (w : World) (B : Nat) (hv : EngV w B v e) (hs : EShort e) (hok : ∀ x ∈ e.cache, 1 ≤ x.pts.length ∧ x.key.size ≤ 1000) (hB : B ≤ w.heap.size) :
  Calls Tryz.prog 51 #[v] w fun b w' => (∃ u, b = .returned u ∧ EngO w' w.heap.size u e) ∧ Below w.heap.size w w' := by
 obtain ⟨vc, vf, rfl, hc, hl⟩ := hv
 unfold vE
 obtain ⟨Ac, cc, rfl, _⟩ := hc.look
 obtain ⟨A, cap, rfl, _⟩ := st_look hl
 have HC : Hid (SerV w B (.slice Ac e.cache.length cc) e.cache) := hc
 have HLs : Hid (Lies w B 1 (.slice A e.files.length cap) (stR e.files)) := hl
 have HB : Hid (B ≤ w.heap.size) := hB
 have HSh : Hid (SShort e.cache) := hs.1
 obtain ⟨X0, hX0⟩ : ∃ X0, X0 = (w.alloc (.cells #[.int .i64 e.floor, .slice Ac e.cache.length cc, .slice A e.files.length cap] 35)).alloc (.cells #[.int .i64 0, .slice none 0 0, .slice none 0 0] 35) := ⟨_, rfl⟩
 have BX : Hid (Below w.heap.size w X0) := by unfold Hid; rw [hX0]; exact below_alloc2 _ _ _
 have KX : Hid (Blk X0 w.heap.size #[.int .i64 e.floor, .slice Ac e.cache.length cc, .slice A e.files.length cap] 35) := by unfold Hid; rw [hX0]; exact (Blk.new w _ _).alloc _
 have KR : Hid (Blk X0 (w.heap.size + 1) #[.int .i64 0, .slice none 0 0, .slice none 0 0] 35) := by
  unfold Hid
  rw [hX0]
  have := Blk.new (w.alloc (.cells #[.int .i64 e.floor, .slice Ac e.cache.length cc, .slice A e.files.length cap] 35)) #[.int .i64 0, .slice none 0 0, .slice none 0 0] 35
  rw [World.size_alloc] at this
  exact this
 have hZ : X0.heap.size = w.heap.size + 1 + 1 := by rw [hX0]; simp
 obtain ⟨X1, hX1⟩ : ∃ X1, X1 = X0.alloc (.cells #[.int .i64 e.floor, .slice none 0 0, .slice none 0 0] 35) := ⟨_, rfl⟩
 have KP : Hid (Blk X1 X0.heap.size #[.int .i64 e.floor, .slice none 0 0, .slice none 0 0] 35) := by unfold Hid; rw [hX1]; exact Blk.new X0 _ _
 have BP : Hid (Below X0.heap.size X0 X1) := by unfold Hid; rw [hX1]; exact (Below.refl _ _).alloc (Nat.le_refl _) _
 have HL : Hid (∀ wx, Below w.heap.size w wx → ∀ j, j < e.cache.length → ∃ g off u, Ac = some ⟨g, off, none⟩ ∧ g < B ∧ wx.cell? ⟨g, off + j * 2, none⟩ = some (.string (e.cache.getD j default).key) ∧ wx.cell? ⟨g, off + j * 2 + 1, none⟩ = some u ∧ Lies wx B 2 u (ptR (e.cache.getD j default).pts)) := fun wx hx => by
  obtain ⟨A', c', e', h⟩ := (HC.out.on (hx.mono HB.out)).look
  cases e'
  exact h
 have HFi : Hid (∀ wx, Below w.heap.size w wx → ∀ j, j < e.files.length → ∃ g off, A = some ⟨g, off, none⟩ ∧ g < B ∧ wx.cell? ⟨g, off + j, none⟩ = some (.string (e.files.getD j default))) := fun wx hx => by
  obtain ⟨A', c', e', h⟩ := st_look (HLs.out.on (hx.mono HB.out))
  cases e'
  exact h
 have HTk : Hid (∀ i, i < e.cache.length → e.cache.take (i + 1) = e.cache.take i ++ [e.cache.getD i default]) := fun i hi => take_getD _ i hi
 have HTn : Hid (∀ i, i = e.cache.length → e.cache.take i = e.cache) := fun i hi => by rw [hi, List.take_length]
 have HFk : Hid (∀ i, i < e.files.length → e.files.take (i + 1) = e.files.take i ++ [e.files.getD i default]) := fun i hi => take_getD _ i hi
 have HFn : Hid (∀ i, i = e.files.length → e.files.take i = e.files) := fun i hi => by rw [hi, List.take_length]
 have HFl : Hid (∀ i, i ≤ e.files.length → (stR (e.files.take i)).length ≤ 2097152) := fun i hi => by rw [stR_length, List.length_take]; have := hs.2.2.1; omega
 have HPt : Hid (∀ i, i < e.cache.length → (e.cache.getD i default).pts.length ≤ 1048576 ∧ 1 ≤ (e.cache.getD i default).pts.length ∧ (e.cache.getD i default).key.size ≤ 281474976710656) := fun i hi => ⟨hs.1.2 _ (getD_mem _ i hi), (hok _ (getD_mem _ i hi)).1, by have := (hok _ (getD_mem _ i hi)).2; omega⟩
 have HFz : Hid (∀ i, i < e.files.length → (e.files.getD i default).size ≤ 281474976710656) := fun i hi => by have := hs.2.2.2 _ (getD_mem _ i hi); omega
 have q1 : (e.cache.length : Int) ≤ 1048576 := by have := hs.1.1; omega
 have q2 : (e.files.length : Int) ≤ 1048576 := by have := hs.2.2.1; omega
 have k0 : _ = some (Value.int .i64 e.floor) := KX.out.cell 0 _ rfl
 have m1 : _ = some (Value.slice Ac e.cache.length cc) := (KX.out.on BP.out KX.out.lt).cell 1 _ rfl
 clear hc hl hB hs hok
 generalize hf : e.floor = f at *
 have HFe : Hid (e.floor = f) := hf
 clear hf
 generalize hnc : e.cache.length = nc at *
 have HNc : Hid (e.cache.length = nc) := hnc
 clear hnc
 generalize hnf : e.files.length = nf at *
 clear hnf
 have q0 : 0 ≤ nc := Nat.zero_le _
 have q00 : 0 ≤ nf := Nat.zero_le _
 rw [hX1] at m1
 rw [hX0] at k0 m1
 go_enter Tryz.func51, Tryz.ntmps51
 go_wp2_with fail
 rw [← hX0, ← hX1]
 clear hX0 hX1 k0 m1
 generalize w.heap.size + 1 + 1 = p0 at *
 subst hZ
 go_loopw [14] (fun v14 wr => ∃ (i : Nat) (L : List (Ser × Value)) (A1 : Option Addr) (n1 c1 : Nat), i ≤ nc ∧ v14 = .int .i64 (i : Int) ∧ L.map Prod.fst = e.cache.take i ∧ Blk wr X0.heap.size #[.int .i64 f, .slice A1 n1 c1, .slice none 0 0] 35 ∧ SerO wr X0.heap.size (.slice A1 n1 c1) L ∧ Below X0.heap.size X0 wr) (fun i _ => nc - (intOf i).toNat)
 case atStart => exact ⟨0, [], none, 0, 0, q0, rfl, rfl, KP.out, SerO.nilE _ _, BP.out⟩
 case round =>
  obtain ⟨i, L, A1, n1, c1, hi, rfl, hL, hK, hS, hb⟩ := hrel
  have HLm : Hid (L.map Prod.fst = e.cache.take i) := hL
  have K3 : Hid (Blk wr X0.heap.size #[.int .i64 f, .slice A1 n1 c1, .slice none 0 0] 35) := hK
  have HS : Hid (SerO wr X0.heap.size (.slice A1 n1 c1) L) := hS
  have HBr : Hid (Below X0.heap.size X0 wr) := hb
  have BW : Hid (Below w.heap.size w wr) := BX.out.trans (hb.mono BX.out.size)
  have KXr : Hid (Blk wr w.heap.size #[.int .i64 f, .slice Ac nc cc, .slice A nf cap] 35) := KX.out.on hb KX.out.lt
  clear hL hK hS hb
  by_cases hlt : i < nc
  ·have q4 : (i : Int) < (nc : Int) := by omega
   have HTi : Hid (e.cache.take (i + 1) = e.cache.take i ++ [e.cache.getD i default]) := HTk.out i hlt
   have HPl := HPt.out i hlt
   obtain ⟨g, off, u, rfl, hg, e1, e2, hu⟩ := HL.out wr BW.out i hlt
   generalize e.cache.getD i default = sx at *
   obtain ⟨key, pts⟩ := sx
   obtain ⟨Au, cu, rfl, _⟩ := pt_look hu
   have HU : Hid (Lies wr B 2 (.slice Au pts.length cu) (ptR pts)) := hu
   have HLn : Hid ((srR L).length ≤ 2097152) := by
    have h1 := congrArg List.length HLm.out
    rw [List.length_map, List.length_take] at h1
    unfold Hid
    rw [srR_length]
    omega
   have HZ : Hid (X0.heap.size ≤ wr.heap.size) := HBr.out.size
   have cS := fun (wx : World) => clone key wx HPl.2.2
   have cP := fun (wx : World) (hx : Below wr.heap.size wr wx) => clonePts pts (.slice Au pts.length cu) wx B (HU.out.on (hx.mono (Nat.le_trans HB.out BW.out.size))) HPl.1 HPl.2.1
   clear hu hg HPl
   generalize pts.length = pl at *
   go_wp2_with fail
   obtain ⟨wq, hwq⟩ : ∃ wq, wq = wr.alloc (.cells #[.string key, .slice Au pl cu] 98) := ⟨_, rfl⟩
   have KQ : Hid (Blk wq wr.heap.size #[.string key, .slice Au pl cu] 98) := by unfold Hid; rw [hwq]; exact Blk.new wr _ _
   have VQ : Hid (Below wr.heap.size wr wq) := by unfold Hid; rw [hwq]; exact (Below.refl _ _).alloc (Nat.le_refl _) _
   rw [← hwq]
   clear hwq e1 e2
   refine wp_region_until (fun w' => w'.cell? ⟨X0.heap.size, 1, none⟩ = some (.slice A1 n1 c1) ∧ w'.cell? ⟨wr.heap.size, 0, none⟩ = some (.string key) ∧ w'.cell? ⟨wr.heap.size, 1, none⟩ = some (.slice Au pl cu)) (fun i => i == 12) 13 (by rfl) (by kernel_rfl) ?_
   have V0 : Hid (Below wq.heap.size wq wq.drew) := (Below.refl _ _).drew
   generalize wq.drew = Y0 at *
   have HS0 : Hid (∀ wx, Below wq.heap.size wq wx → wx.cell? ⟨X0.heap.size, 1, none⟩ = some (.slice A1 n1 c1) ∧ wx.cell? ⟨wr.heap.size, 0, none⟩ = some (.string key) ∧ wx.cell? ⟨wr.heap.size, 1, none⟩ = some (.slice Au pl cu)) := fun wx hx =>
    ⟨((K3.out.on VQ.out K3.out.lt).on hx (K3.out.on VQ.out K3.out.lt).lt).cell 1 _ rfl, (KQ.out.on hx KQ.out.lt).cell 0 _ rfl, (KQ.out.on hx KQ.out.lt).cell 1 _ rfl⟩
   have HWr : Hid (∀ wx, Below wq.heap.size wq wx → Below wr.heap.size wr wx) := fun wx hx => VQ.out.trans (hx.mono VQ.out.size)
   refine until_take 0 (v := ?_) (by rfl) (by kernel_rfl) (by exact fun _ _ _ h => h) (by rfl) ?_ (HS0.out _ V0.out) ?_; rotate_left; focus (intro w hSw; (try dsimp only at hSw); go_simp; try with_reducible rfl)
   try simp only [Act.put, zQ1, zQ2, zQ3]
   refine until_take 1 (v := ?_) (by rfl) (by kernel_rfl) (by exact fun _ _ _ h => h) (by rfl) ?_ (HS0.out _ V0.out) ?_; rotate_left; focus (intro w hSw; (try dsimp only at hSw); go_simp; try with_reducible rfl)
   try simp only [Act.put, zQ1, zQ2, zQ3]
   refine until_take 2 (v := ?_) (by rfl) (by kernel_rfl) (by exact fun _ _ _ h => h) (by rfl) ?_ (HS0.out _ V0.out) ?_; rotate_left; focus (intro w hSw; (try dsimp only at hSw); go_simp; try with_reducible rfl)
   try simp only [Act.put, zQ1, zQ2, zQ3]
   refine until_take 3 (v := ?_) (by rfl) (by kernel_rfl) (by exact fun _ _ _ h => h) (by rfl) ?_ (HS0.out _ V0.out) ?_; rotate_left; focus (intro w hSw; (try dsimp only at hSw); go_simp; try with_reducible rfl)
   try simp only [Act.put, zQ1, zQ2, zQ3]
   refine until_take 5 (v := ?_) (by rfl) (by kernel_rfl) (by exact fun _ _ _ h => h) (by rfl) ?_ (HS0.out _ V0.out) ?_; rotate_left; focus (intro w hSw; (try dsimp only at hSw); go_simp; try with_reducible rfl)
   try simp only [Act.put, zQ1, zQ2, zQ3]
   refine until_take 6 (v := ?_) (by rfl) (by kernel_rfl) (by exact fun _ _ _ h => h) (by rfl) ?_ (HS0.out _ V0.out) ?_; rotate_left; focus (intro w hSw; (try dsimp only at hSw); go_simp; try with_reducible rfl)
   try simp only [Act.put, zQ1, zQ2, zQ3]
   refine uNe 4 (fun K hK => ?_)
   go_simp
   refine (cS Y0).mono ?_
   rintro b Y1 ⟨rfl, hb1⟩
   have V1 : Hid (Below wq.heap.size wq Y1) := V0.out.trans (hb1.mono V0.out.size)
   clear hb1
   refine hK.out _ _ (fun _ _ => (HS0.out _ V1.out)) ?_
   clear hK K
   try simp only [Act.put, zQ1, zQ2, zQ3]
   refine uNe 7 (fun K hK => ?_)
   go_simp
   refine (cP Y1 (HWr.out _ V1.out)).mono ?_
   rintro b Y2 ⟨⟨u2, rfl, hO2⟩, hb2⟩
   obtain ⟨Ap, mp, cp, rfl⟩ := hO2.shape
   have V2 : Hid (Below wq.heap.size wq Y2) := V1.out.trans (hb2.mono V1.out.size)
   have OP : Hid (Owns Y2 wr.heap.size 90 2 (.slice Ap mp cp) (ptR pts)) := hO2.mono (HWr.out _ V1.out).size
   clear hb2 hO2
   refine hK.out _ _ (fun _ _ => (HS0.out _ V2.out)) ?_
   clear hK K
   try simp only [Act.put, zQ1, zQ2, zQ3]
   refine pUr 8 (v := ?_) ?_ ?_; rotate_left; focus (intro w; go_simp; try with_reducible rfl)
   try simp only [Act.put, zQ1, zQ2, zQ3]
   refine uNe 9 (fun K hK => ?_)
   go_simp
   have V3 : Hid (Below wq.heap.size wq (Y2.alloc (.cells #[.string key, .slice Ap mp cp] 98))) := V2.out.alloc V2.out.size _
   refine hK.out _ _ (fun _ _ => (HS0.out _ V3.out)) ?_
   clear hK K
   try simp only [Act.put, zQ1, zQ2, zQ3]
   have W2 : Hid (Below wr.heap.size wr Y2) := HWr.out _ V2.out
   have Z2 : X0.heap.size ≤ Y2.heap.size := Nat.le_trans HZ.out W2.out.size
   obtain ⟨A7, n7, c7, w5, r5, hO5, hb5, hk5, hw5⟩ := run_append_row (P := Tryz.prog) Y2 33 33 98 (.agg #[.string ⟨#[]⟩, .slice none 0 0]) 2 40 Tryz.underlying33 Tryz.infoSr rfl (by omega) X0.heap.size (.slice A1 n1 c1) (srR L) (HS.out.1.on W2.out) [.string key, .slice Ap mp cp] rfl (sr_cells key rfl) HLn.out (by omega) Z2
   refine uNe 10 (fun K hK => ?_)
   refine step_append_run (by rfl) (.tmp 19) (.tmp 27) 33 (by rfl) _ _ _ _ (by rfl) (by rfl) r5 ?_
   have hS2 := HS.out.on W2.out
   have hne5 : ∀ (v : Value) (b : Nat) (e : TypeId) (sz : Nat) (r : List (List Value)), Owns Y2 b e sz v r → e ≠ 98 → Owns w5 b e sz v r := fun v b e sz r ho hne => ho.kept fun gg hg hv => hk5 gg hg (fun hu => ho.apartT hS2.1 hne gg hv hu)
   have AP : ∀ q ∈ L, Apart q.2 (.slice Ap mp cp) := fun q hq gg h1 h2 => by
    have := ((HS.out.2.1 q hq).lt gg h1).2
    have := (OP.out.lt gg h2).1
    omega
   have S5 : Hid (SerO w5 X0.heap.size (.slice A7 n7 c7) (L ++ [(⟨key, pts⟩, .slice Ap mp cp)])) := SerO.snoc (w1 := Y2) (v := .slice A1 n1 c1) hO5 (fun q hq => hne5 _ _ _ _ _ (hS2.2.1 q hq) (by decide)) hS2.2.2 (hne5 _ _ _ _ _ (OP.out.mono HZ.out) (by decide)) AP
   have hK2 := K3.out.on W2.out K3.out.lt
   have K5 : Hid (Blk w5 X0.heap.size #[.int .i64 f, .slice A1 n1 c1, .slice none 0 0] 35) := (hk5 _ hK2.lt (hS2.1.notBlk hK2 (by decide))).trans hK2
   have hQ2 := KQ.out.on V2.out KQ.out.lt
   have hQn : (Value.slice A1 n1 c1).ownBlock ≠ some wr.heap.size := fun h => by have := (HS.out.1.lt _ h).2; omega
   have KQ5 : Hid (Blk w5 wr.heap.size #[.string key, .slice Au pl cu] 98) := (hk5 _ hQ2.lt hQn).trans hQ2
   have B5 : Hid (Below X0.heap.size X0 w5) := (HBr.out.trans (W2.out.mono HZ.out)).trans hb5
   have HL5 : Hid ((L ++ [((⟨key, pts⟩ : Ser), Value.slice Ap mp cp)]).map Prod.fst = e.cache.take (i + 1)) := by unfold Hid; rw [HTi.out, List.map_append, HLm.out]; rfl
   have S20 : Hid (w5.cell? ⟨X0.heap.size, 1, none⟩ = some (.slice A1 n1 c1) ∧ w5.cell? ⟨wr.heap.size, 0, none⟩ = some (.string key) ∧ w5.cell? ⟨wr.heap.size, 1, none⟩ = some (.slice Au pl cu)) := ⟨K5.out.cell 1 _ rfl, KQ5.out.cell 0 _ rfl, KQ5.out.cell 1 _ rfl⟩
   clear r5 hO5 hb5 hk5 hw5 hS2 hne5 AP hK2 Z2 V3 hQ2 hQn
   refine hK.out _ _ (fun _ _ => S20.out) ?_
   clear hK K
   try simp only [Act.put, zQ1, zQ2, zQ3]
   refine pUr 11 (v := ?_) ?_ ?_; rotate_left; focus (intro w; go_simp; try with_reducible rfl)
   try simp only [Act.put, zQ1, zQ2, zQ3]
   refine uNe 12 (fun K hK => ?_)
   have s1 : _ = some (Value.slice A1 n1 c1) := K5.out.cell 1 _ rfl
   have f1 := K5.out.free 1
   go_simp
   refine hK.out _ _ (fun h => by cases h) ?_
   clear hK K s1 f1
   try simp only [Act.put, zQ1, zQ2, zQ3]
   refine until_done (by kernel_rfl) ?_ _
   try go_wp2_with fail
   go_roundw
   case rel => exact ⟨i + 1, _, A7, n7, c7, by omega, by go_num, HL5.out, K5.out.set 1 _, S5.out.butE K5.out ((KeptBut.refl X0.heap.size _).set 1 _), B5.out.setCell (Nat.le_refl _) _⟩
   case measure => simp [intOf]; omega
  ·obtain rfl : i = nc := by omega
   have HE : Hid (L.map Prod.fst = e.cache) := HLm.out.trans (HTn.out i rfl)
   have x2 : _ = some (Value.slice A nf cap) := KXr.out.cell 2 _ rfl
   go_wp2_with fail
   clear x2
   go_loopw [34] (fun v34 wr => ∃ (j : Nat) (A2 : Option Addr) (n2 c2 : Nat), j ≤ nf ∧ v34 = .int .i64 (j : Int) ∧ Blk wr X0.heap.size #[.int .i64 f, .slice A1 n1 c1, .slice A2 n2 c2] 35 ∧ SerO wr X0.heap.size (.slice A1 n1 c1) L ∧ Owns wr X0.heap.size 9 1 (.slice A2 n2 c2) (stR (e.files.take j)) ∧ Below X0.heap.size X0 wr) (fun j _ => nf - (intOf j).toNat)
   case atStart => exact ⟨0, none, 0, 0, q00, rfl, K3.out, HS.out, Owns.nil _ _ _ _, HBr.out⟩
   case round =>
    obtain ⟨j, A2, n2, c2, hj, rfl, hK, hS, hO, hb⟩ := hrel
    have K4 : Hid (Blk wr X0.heap.size #[.int .i64 f, .slice A1 n1 c1, .slice A2 n2 c2] 35) := hK
    have S4 : Hid (SerO wr X0.heap.size (.slice A1 n1 c1) L) := hS
    have O4 : Hid (Owns wr X0.heap.size 9 1 (.slice A2 n2 c2) (stR (e.files.take j))) := hO
    have B4 : Hid (Below X0.heap.size X0 wr) := hb
    have BW4 : Hid (Below w.heap.size w wr) := BX.out.trans (hb.mono BX.out.size)
    clear hK hS hO hb
    by_cases hlt2 : j < nf
    ·have q5 : (j : Int) < (nf : Int) := by omega
     have HFt : Hid (e.files.take (j + 1) = e.files.take j ++ [e.files.getD j default]) := HFk.out j hlt2
     have hz5 := HFz.out j hlt2
     have HL4 : Hid ((stR (e.files.take j)).length ≤ 2097152) := HFl.out j hj
     obtain ⟨g2, off2, rfl, hg2, e1⟩ := HFi.out wr BW4.out j hlt2
     generalize e.files.getD j default = sx at *
     have cS := fun (wx : World) => clone sx wx hz5
     have HZ4 : Hid (X0.heap.size ≤ wr.heap.size) := B4.out.size
     have HO5 : Hid (∀ wx A n c, Owns wx X0.heap.size 9 1 (.slice A n c) (stR (e.files.take j) ++ [[.string sx]]) → Owns wx X0.heap.size 9 1 (.slice A n c) (stR (e.files.take (j + 1)))) := fun wx A n c h => by
      have e1 : stR (e.files.take j) ++ [[.string sx]] = stR (e.files.take (j + 1)) := by rw [HFt.out]; simp [stR, stC]
      rw [← e1]
      exact h
     clear hz5 hg2
     go_wp2_with fail
     clear e1
     refine wp_region_until (fun w' => w'.cell? ⟨X0.heap.size, 2, none⟩ = some (.slice A2 n2 c2)) (fun i => i == 7) 8 (by rfl) (by kernel_rfl) ?_
     have V0 : Hid (Below wr.heap.size wr wr.drew) := (Below.refl _ _).drew
     generalize wr.drew = Y0 at *
     have HS0 : Hid (∀ wx, Below wr.heap.size wr wx → wx.cell? ⟨X0.heap.size, 2, none⟩ = some (.slice A2 n2 c2)) := fun wx hx => (K4.out.on hx K4.out.lt).cell 2 _ rfl
     refine until_take 0 (v := ?_) (by rfl) (by kernel_rfl) (by exact fun _ _ _ h => h) (by rfl) ?_ (HS0.out _ V0.out) ?_; rotate_left; focus (intro w hSw; (try dsimp only at hSw); go_simp; try with_reducible rfl)
     try simp only [Act.put, zQ1, zQ2, zQ3]
     refine until_take 1 (v := ?_) (by rfl) (by kernel_rfl) (by exact fun _ _ _ h => h) (by rfl) ?_ (HS0.out _ V0.out) ?_; rotate_left; focus (intro w hSw; (try dsimp only at hSw); go_simp; try with_reducible rfl)
     try simp only [Act.put, zQ1, zQ2, zQ3]
     refine until_take 2 (v := ?_) (by rfl) (by kernel_rfl) (by exact fun _ _ _ h => h) (by rfl) ?_ (HS0.out _ V0.out) ?_; rotate_left; focus (intro w hSw; (try dsimp only at hSw); go_simp; try with_reducible rfl)
     try simp only [Act.put, zQ1, zQ2, zQ3]
     refine uNe 3 (fun K hK => ?_)
     go_simp
     refine (cS Y0).mono ?_
     rintro b Y1 ⟨rfl, hb1⟩
     have V1 : Hid (Below wr.heap.size wr Y1) := V0.out.trans (hb1.mono V0.out.size)
     clear hb1
     refine hK.out _ _ (fun _ _ => (HS0.out _ V1.out)) ?_
     clear hK K
     try simp only [Act.put, zQ1, zQ2, zQ3]
     refine uNe 4 (fun K hK => ?_)
     go_simp
     have V2 : Hid (Below wr.heap.size wr (Y1.alloc (.cells #[.string sx] 9))) := V1.out.alloc V1.out.size _
     refine hK.out _ _ (fun _ _ => (HS0.out _ V2.out)) ?_
     clear hK K
     try simp only [Act.put, zQ1, zQ2, zQ3]
     obtain ⟨A7, n7, c7, w5, r5, hO5, hb5, hk5, hw5⟩ := run_append_row (P := Tryz.prog) Y1 24 24 9 (.string ⟨#[]⟩) 1 16 Tryz.underlying24 infoStr rfl (by omega) X0.heap.size (.slice A2 n2 c2) (stR (e.files.take j)) (O4.out.on V1.out) [.string sx] rfl (st_cell sx) HL4.out (by omega) (Nat.le_trans HZ4.out V1.out.size)
     refine uNe 5 (fun K hK => ?_)
     refine step_append_run (by rfl) (.tmp 39) (.tmp 42) 24 (by rfl) _ _ _ _ (by rfl) (by rfl) r5 ?_
     have hO2 := O4.out.on V1.out
     have hne5 : ∀ (v : Value) (b : Nat) (e : TypeId) (sz : Nat) (r : List (List Value)), Owns Y1 b e sz v r → e ≠ 9 → Owns w5 b e sz v r := fun v b e sz r ho hne => ho.kept fun gg hg hv => hk5 gg hg (fun hu => ho.apartT hO2 hne gg hv hu)
     have hS2 := S4.out.on V1.out
     have S5 : Hid (SerO w5 X0.heap.size (.slice A1 n1 c1) L) := ⟨hne5 _ _ _ _ _ hS2.1 (by decide), fun q hq => hne5 _ _ _ _ _ (hS2.2.1 q hq) (by decide), hS2.2.2⟩
     have hK2 := K4.out.on V1.out K4.out.lt
     have K5 : Hid (Blk w5 X0.heap.size #[.int .i64 f, .slice A1 n1 c1, .slice A2 n2 c2] 35) := (hk5 _ hK2.lt (hO2.notBlk hK2 (by decide))).trans hK2
     have O5 : Hid (Owns w5 X0.heap.size 9 1 (.slice A7 n7 c7) (stR (e.files.take (j + 1)))) := HO5.out _ _ _ _ hO5
     have B5 : Hid (Below X0.heap.size X0 w5) := (B4.out.trans (V1.out.mono HZ4.out)).trans hb5
     have S20 : Hid (w5.cell? ⟨X0.heap.size, 2, none⟩ = some (.slice A2 n2 c2)) := K5.out.cell 2 _ rfl
     clear r5 hO5 hb5 hk5 hw5 hS2 hne5 hK2 hO2 V2
     refine hK.out _ _ (fun _ _ => S20.out) ?_
     clear hK K
     try simp only [Act.put, zQ1, zQ2, zQ3]
     refine pUr 6 (v := ?_) ?_ ?_; rotate_left; focus (intro w; go_simp; try with_reducible rfl)
     try simp only [Act.put, zQ1, zQ2, zQ3]
     refine uNe 7 (fun K hK => ?_)
     have s1 : _ = some (Value.slice A2 n2 c2) := K5.out.cell 2 _ rfl
     have f1 := K5.out.free 2
     go_simp
     refine hK.out _ _ (fun h => by cases h) ?_
     clear hK K s1 f1
     try simp only [Act.put, zQ1, zQ2, zQ3]
     refine until_done (by kernel_rfl) ?_ _
     try go_wp2_with fail
     go_roundw
     case rel => exact ⟨j + 1, A7, n7, c7, by omega, by go_num, K5.out.set 2 _, S5.out.butE K5.out ((KeptBut.refl X0.heap.size _).set 2 _), ((KeptBut.refl X0.heap.size _).set 2 _).owns O5.out (O5.out.notBlk K5.out (by decide)), B5.out.setCell (Nat.le_refl _) _⟩
     case measure => simp [intOf]; omega
    ·obtain rfl : j = nf := by omega
     have HT5 : Hid (Strs wr X0.heap.size (.slice A2 n2 c2) e.files) := by
      unfold Hid
      have h := O4.out
      rw [HFn.out j rfl] at h
      exact owns_strs h
     have KRr : Hid (Blk wr (w.heap.size + 1) #[.int .i64 0, .slice none 0 0, .slice none 0 0] 35) := KR.out.on B4.out KR.out.lt
     have y0 : _ = some (Value.int .i64 f) := K4.out.cell 0 _ rfl
     have y1 : _ = some (Value.slice A1 n1 c1) := K4.out.cell 1 _ rfl
     have y2 : _ = some (Value.slice A2 n2 c2) := K4.out.cell 2 _ rfl
     generalize hR : w.heap.size + 1 = R at *
     have HRw : Hid (w.heap.size ≤ R) := by unfold Hid; omega
     clear hR
     obtain ⟨⟨r0, g0⟩, ⟨r1, g1⟩, ⟨r2, g2⟩, e0, e1, e2⟩ := res3 (x := .int .i64 f) (y := .slice A1 n1 c1) (z := .slice A2 n2 c2) KRr.out
     have SF : Hid (EngO (((wr.setCell ⟨R, 0, none⟩ (.int .i64 f)).setCell ⟨R, 1, none⟩ (.slice A1 n1 c1)).setCell ⟨R, 2, none⟩ (.slice A2 n2 c2)) w.heap.size (.agg #[.int .i64 f, .slice A1 n1 c1, .slice A2 n2 c2]) e) := EngO.end3 KRr.out HFe.out HE.out (S4.out.mono BX.out.size) (owns_strs ((strs_owns HT5.out).mono BX.out.size))
     have BF : Hid (Below w.heap.size w (((wr.setCell ⟨R, 0, none⟩ (.int .i64 f)).setCell ⟨R, 1, none⟩ (.slice A1 n1 c1)).setCell ⟨R, 2, none⟩ (.slice A2 n2 c2))) := below_set3 BW4.out HRw.out _ _ _
     go_wp2_with fail
     exact bodyPost_ret (v := .agg #[.int .i64 f, .slice A1 n1 c1, .slice A2 n2 c2]) (by simp [results, go_sem, e0, e1, e2]) rfl ⟨⟨_, rfl, SF.out⟩, BF.out⟩
end Go.Proofs.YtikknmoeefipmaaGreatDoor
namespace Go.Proofs.YtikknmoeefipmaaGreatDoor
open Go.ChangeShapes Go.WideShapes Go.ChangeAt Go.RowKit Go.PlainAid
set_option linter.unusedVariables false
set_option maxRecDepth 100000 in
set_option maxHeartbeats 8000000 in
theorem implFlushed (e : Eng) (all : List Ser) (v vc vf va : Value) (L : List (Ser × Value)) (base : Nat) (w : World) (ev : v = vE e.floor vc vf) (hL : L.map Prod.fst = e.cache) (hS : SerO w base vc L) (hT : Strs w base vf e.files) (hva : SerV w w.heap.size va all) (hsa : SShort all) (hka : ∀ x ∈ all, x.key.size ≤ maxLen) (hc : SOk e.cache) (hn : e.files.length ≤ 4) (hbs : base ≤ w.heap.size) (hst : SumTab w) :
  Calls Tryz.prog 57 #[v, va] w fun b w' => (∃ u, b = .returned u ∧ EngO w' base u (flushA e all)) ∧ Below base w w' := by
 have HC : Hid (SOk e.cache) := hc
 have HL : Hid (L.map Prod.fst = e.cache) := hL
 have HBs : Hid (base ≤ w.heap.size) := hbs
 have ST : Hid (SumTab w) := hst
 have HVa : Hid (SerV w w.heap.size va all) := hva
 have HV : Hid (SerV w w.heap.size vc e.cache) := by unfold Hid; rw [← hL]; exact hS.view
 obtain ⟨A1, c1, rfl, _⟩ := HV.out.look
 obtain ⟨A2, c2, rfl, _⟩ := st_look (strs_owns hT).lies
 obtain ⟨Aa, ca, rfl, _⟩ := hva.look
 have HS : Hid (SerO w base (.slice A1 e.cache.length c1) L) := hS
 have HT : Hid (Strs w base (.slice A2 e.files.length c2) e.files) := hT
 subst ev
 unfold vE
 have HN4 : Hid (e.files.length ≤ 4) := hn
 have q4 : (e.files.length : Int) ≤ 4 := by omega
 have HSh : Hid (SShort e.cache) := ⟨by have := hc.1; omega, fun x hx => by have := (hc.col.2 x hx).1; omega⟩
 have HKy : Hid (∀ x ∈ e.cache, x.key.size ≤ maxLen) := fun x hx => by have := (hc.col.2 x hx).2.2.2; unfold maxLen; omega
 have HSa : Hid (SShort all) := hsa
 have HKa : Hid (∀ x ∈ all, x.key.size ≤ maxLen) := hka
 obtain ⟨X0, hX0⟩ : ∃ X0, X0 = (w.alloc (.cells #[.int .i64 e.floor, .slice A1 e.cache.length c1, .slice A2 e.files.length c2] 35)).alloc (.cells #[.int .i64 0, .slice none 0 0, .slice none 0 0] 35) := ⟨_, rfl⟩
 have BX : Hid (Below w.heap.size w X0) := by unfold Hid; rw [hX0]; exact below_alloc2 _ _ _
 have KX : Hid (Blk X0 w.heap.size #[.int .i64 e.floor, .slice A1 e.cache.length c1, .slice A2 e.files.length c2] 35) := by unfold Hid; rw [hX0]; exact (Blk.new w _ _).alloc _
 have KR : Hid (Blk X0 (w.heap.size + 1) #[.int .i64 0, .slice none 0 0, .slice none 0 0] 35) := by
  unfold Hid
  rw [hX0]
  have := Blk.new (w.alloc (.cells #[.int .i64 e.floor, .slice A1 e.cache.length c1, .slice A2 e.files.length c2] 35)) #[.int .i64 0, .slice none 0 0, .slice none 0 0] 35
  rw [World.size_alloc] at this
  exact this
 have k0 : _ = some (Value.int .i64 e.floor) := KX.out.cell 0 _ rfl
 have k1 : _ = some (Value.slice A1 e.cache.length c1) := KX.out.cell 1 _ rfl
 have k2 : _ = some (Value.slice A2 e.files.length c2) := KX.out.cell 2 _ rfl
 clear hL hS hT hc hn hbs hst hva hsa hka
 by_cases h0 : e.cache = []
 ·have HE : Hid (flushA e all = e) := by unfold Hid flushA; rw [if_pos h0]
  have hl0 : e.cache.length = 0 := by rw [h0]; rfl
  clear h0
  have SF : Hid (∀ (a b : Obj), EngO ((w.alloc a).alloc b) base (.agg #[.int .i64 e.floor, .slice A1 e.cache.length c1, .slice A2 e.files.length c2]) (flushA e all) ∧ Below base w ((w.alloc a).alloc b)) := fun a b => by
   rw [HE.out]
   exact ⟨⟨_, _, L, rfl, HL.out, HS.out.on (below_alloc2 _ _ _), owns_strs ((strs_owns HT.out).on (below_alloc2 _ _ _))⟩, (below_alloc2 _ _ _).mono HBs.out⟩
  clear KR KX BX HSh HKy
  generalize e.cache.length = nc at *
  subst hl0
  generalize e.floor = f at *
  generalize e.files.length = nf at *
  rw [hX0] at k0 k1 k2
  clear hX0
  go_enter Tryz.func57, Tryz.ntmps57
  go_wp2_with fail
  exact bodyPost_ret (v := .agg #[.int .i64 f, .slice A1 0 c1, .slice A2 nf c2]) (by simp [results, go_sem]) rfl ⟨⟨_, rfl, (SF.out _ _).1⟩, (SF.out _ _).2⟩
 ·have hl1 : 0 < e.cache.length := len_pos h0
  have q5 : (0 : Int) < (e.cache.length : Int) := by omega
  have q6 : ¬ (e.cache.length : Int) = 0 := by omega
  by_cases h4 : e.files.length = 4
  ·have HE : Hid (flushA e all = packA e.floor all) := by unfold Hid flushA; rw [if_neg h0, if_pos h4]
   have c6 := implPacked e.floor all _ X0 w.heap.size (HVa.out.on BX.out) HSa.out HKa.out BX.out.size (ST.out.on BX.out)
   rw [← HE.out] at c6
   clear h0 hl1
   generalize e.floor = f at *
   generalize e.cache.length = nc at *
   generalize e.files.length = nf at *
   subst h4
   rw [hX0] at k0 k1 k2
   go_enter Tryz.func57, Tryz.ntmps57
   go_wp2_with fail
   rw [← hX0]
   clear hX0 k0 k1 k2
   refine c6.mono ?_
   rintro b X8 ⟨⟨u8, rfl, hE8⟩, hb8⟩
   have KR8 : Hid (Blk X8 (w.heap.size + 1) #[.int .i64 0, .slice none 0 0, .slice none 0 0] 35) := KR.out.on hb8 KR.out.lt
   have B8 : Hid (Below base w X8) := (BX.out.trans (hb8.mono BX.out.size)).mono HBs.out
   obtain ⟨vc8, vf8, L8, ev8, hL8, hS8, hT8⟩ := hE8
   unfold vE at ev8
   subst ev8
   generalize hR : w.heap.size + 1 = R at *
   have HRw : Hid (base ≤ R) := by have := HBs.out; unfold Hid; omega
   clear hR
   obtain ⟨⟨r0, g0⟩, ⟨r1, g1⟩, ⟨r2, g2⟩, e0, e1, e2⟩ := res3 (x := .int .i64 (flushA e all).floor) (y := vc8) (z := vf8) KR8.out
   have SF : Hid (EngO (((X8.setCell ⟨R, 0, none⟩ (.int .i64 (flushA e all).floor)).setCell ⟨R, 1, none⟩ vc8).setCell ⟨R, 2, none⟩ vf8) base (.agg #[.int .i64 (flushA e all).floor, vc8, vf8]) (flushA e all)) :=
    EngO.end3 KR8.out rfl hL8 (hS8.mono (Nat.le_trans HBs.out BX.out.size)) (owns_strs ((strs_owns hT8).mono (Nat.le_trans HBs.out BX.out.size)))
   have BF : Hid (Below base w (((X8.setCell ⟨R, 0, none⟩ (.int .i64 (flushA e all).floor)).setCell ⟨R, 1, none⟩ vc8).setCell ⟨R, 2, none⟩ vf8)) := ((B8.out.setCell HRw.out _).setCell HRw.out _).setCell HRw.out _
   obtain ⟨A8, n8, d8, rfl⟩ := hS8.1.shape
   obtain ⟨A9, n9, d9, rfl⟩ := (strs_owns hT8).shape
   clear hL8 hS8 hT8 hb8 c6 B8 KR8
   generalize (flushA e all).floor = f8 at *
   go_wp2_with fail
   exact bodyPost_ret (v := .agg #[.int .i64 f8, .slice A8 n8 d8, .slice A9 n9 d9]) (by simp [results, go_sem, e0, e1, e2]) rfl ⟨⟨_, rfl, SF.out⟩, BF.out⟩
  ·have HE : Hid (flushA e all = ⟨e.floor, [], e.files ++ [fileT e.cache]⟩) := by unfold Hid flushA; rw [if_neg h0, if_neg h4]
   have q7 : ¬ (e.files.length : Int) = 4 := by omega
   have c4 := fun (wx : World) (hx : Below w.heap.size w wx) => implFileText e.cache _ wx w.heap.size (HV.out.on hx) HSh.out HKy.out hx.size (ST.out.on hx)
   generalize hft : fileT e.cache = ft at *
   clear hft h0 hl1
   have HFL : Hid ((stR e.files).length ≤ 2097152) := by unfold Hid; rw [stR_length]; have := HN4.out; omega
   have HT2 : Hid (∀ wx, Below w.heap.size w wx → Owns wx base 9 1 (.slice A2 e.files.length c2) (stR e.files)) := fun wx hx => (strs_owns HT.out).on hx
   have HO5 : Hid (∀ wx A n c, Owns wx base 9 1 (.slice A n c) (stR e.files ++ [[.string ft]]) → Strs wx base (.slice A n c) (e.files ++ [ft])) := fun wx A n c h => by
    have e1 : stR e.files ++ [[.string ft]] = stR (e.files ++ [ft]) := by simp [stR, stC]
    rw [e1] at h
    exact owns_strs h
   generalize hf : e.floor = f at *
   clear hf
   generalize hnc : e.cache.length = nc at *
   clear hnc
   generalize hnf : e.files.length = nf at *
   clear hnf
   go_enter Tryz.func57, Tryz.ntmps57
   rw [hX0] at k0 k1 k2
   go_wp2_with fail
   rw [← hX0]
   clear hX0 k0 k1 k2
   refine wp_region_until (fun w' => w'.cell? ⟨w.heap.size, 1, none⟩ = some (.slice A1 nc c1) ∧ w'.cell? ⟨w.heap.size, 2, none⟩ = some (.slice A2 nf c2)) (fun i => i == 8) 9 (by rfl) (by kernel_rfl) ?_
   have V0 : Hid (Below X0.heap.size X0 X0.drew) := (Below.refl _ _).drew
   generalize X0.drew = Y0 at *
   have HS0 : Hid (∀ wx, Below X0.heap.size X0 wx → wx.cell? ⟨w.heap.size, 1, none⟩ = some (.slice A1 nc c1) ∧ wx.cell? ⟨w.heap.size, 2, none⟩ = some (.slice A2 nf c2)) := fun wx hx => ⟨(KX.out.on hx KX.out.lt).cell 1 _ rfl, (KX.out.on hx KX.out.lt).cell 2 _ rfl⟩
   have HBX : Hid (∀ wx, Below X0.heap.size X0 wx → Below w.heap.size w wx) := fun wx hx => BX.out.trans (hx.mono BX.out.size)
   refine until_take 0 (v := ?_) (by rfl) (by kernel_rfl) (by exact fun _ _ _ h => h) (by rfl) ?_ (HS0.out _ V0.out) ?_; rotate_left; focus (intro w hSw; (try dsimp only at hSw); go_simp; try with_reducible rfl)
   try simp only [Act.put, zQ1, zQ2, zQ3]
   refine until_take 1 (v := ?_) (by rfl) (by kernel_rfl) (by exact fun _ _ _ h => h) (by rfl) ?_ (HS0.out _ V0.out) ?_; rotate_left; focus (intro w hSw; (try dsimp only at hSw); go_simp; try with_reducible rfl)
   try simp only [Act.put, zQ1, zQ2, zQ3]
   refine until_take 2 (v := ?_) (by rfl) (by kernel_rfl) (by exact fun _ _ _ h => h) (by rfl) ?_ (HS0.out _ V0.out) ?_; rotate_left; focus (intro w hSw; (try dsimp only at hSw); go_simp; try with_reducible rfl)
   try simp only [Act.put, zQ1, zQ2, zQ3]
   refine until_take 3 (v := ?_) (by rfl) (by kernel_rfl) (by exact fun _ _ _ h => h) (by rfl) ?_ (HS0.out _ V0.out) ?_; rotate_left; focus (intro w hSw; (try dsimp only at hSw); go_simp; try with_reducible rfl)
   try simp only [Act.put, zQ1, zQ2, zQ3]
   refine uNe 4 (fun K hK => ?_)
   go_simp
   refine (c4 Y0 (HBX.out _ V0.out)).mono ?_
   rintro b Y1 ⟨rfl, hb1⟩
   have V1 : Hid (Below X0.heap.size X0 Y1) := V0.out.trans (hb1.mono V0.out.size)
   clear hb1 c4
   refine hK.out _ _ (fun _ _ => (HS0.out _ V1.out)) ?_
   clear hK K
   try simp only [Act.put, zQ1, zQ2, zQ3]
   refine uNe 5 (fun K hK => ?_)
   go_simp
   have V2 : Hid (Below X0.heap.size X0 (Y1.alloc (.cells #[.string ft] 9))) := V1.out.alloc V1.out.size _
   refine hK.out _ _ (fun _ _ => (HS0.out _ V2.out)) ?_
   clear hK K
   try simp only [Act.put, zQ1, zQ2, zQ3]
   obtain ⟨A5, n5, c5, w5, r5, hO5, hb5, hk5, hw5⟩ := run_append_row (P := Tryz.prog) Y1 24 24 9 (.string ⟨#[]⟩) 1 16 Tryz.underlying24 infoStr rfl (by omega) base (.slice A2 nf c2) (stR e.files) (HT2.out _ (HBX.out _ V1.out)) [.string ft] rfl (st_cell ft) HFL.out (by omega) (Nat.le_trans HBs.out (HBX.out _ V1.out).size)
   refine uNe 6 (fun K hK => ?_)
   refine step_append_run (by rfl) (.tmp 19) (.tmp 23) 24 (by rfl) _ _ _ _ (by rfl) (by rfl) r5 ?_
   have T5 : Hid (Strs w5 base (.slice A5 n5 c5) (e.files ++ [ft])) := HO5.out _ _ _ _ hO5
   have hK1 := KX.out.on V1.out KX.out.lt
   have hR1 := KR.out.on V1.out KR.out.lt
   have K5 : Hid (Blk w5 w.heap.size #[.int .i64 f, .slice A1 nc c1, .slice A2 nf c2] 35) := (hk5 _ hK1.lt ((HT2.out _ (HBX.out _ V1.out)).notBlk hK1 (by decide))).trans hK1
   have KR5 : Hid (Blk w5 (w.heap.size + 1) #[.int .i64 0, .slice none 0 0, .slice none 0 0] 35) := (hk5 _ hR1.lt ((HT2.out _ (HBX.out _ V1.out)).notBlk hR1 (by decide))).trans hR1
   have B5 : Hid (Below base w w5) := ((HBX.out _ V1.out).mono HBs.out).trans hb5
   have S5 : Hid (w5.cell? ⟨w.heap.size, 1, none⟩ = some (.slice A1 nc c1) ∧ w5.cell? ⟨w.heap.size, 2, none⟩ = some (.slice A2 nf c2)) := ⟨K5.out.cell 1 _ rfl, K5.out.cell 2 _ rfl⟩
   clear r5 hO5 hb5 hk5 hw5 hK1 hR1 V2
   refine hK.out _ _ (fun _ _ => S5.out) ?_
   clear hK K
   try simp only [Act.put, zQ1, zQ2, zQ3]
   refine pUr 7 (v := ?_) ?_ ?_; rotate_left; focus (intro w; go_simp; try with_reducible rfl)
   try simp only [Act.put, zQ1, zQ2, zQ3]
   refine uNe 8 (fun K hK => ?_)
   have s1 : _ = some (Value.slice A2 nf c2) := K5.out.cell 2 _ rfl
   have f1 := K5.out.free 2
   go_simp
   refine hK.out _ _ (fun h => by cases h) ?_
   clear hK K s1 f1
   try simp only [Act.put, zQ1, zQ2, zQ3]
   refine until_done (by kernel_rfl) ?_ _
   have hkb : KeptBut w.heap.size w5 (w5.setCell ⟨w.heap.size, 2, none⟩ (.slice A5 n5 c5)) := (KeptBut.refl _ _).set 2 _
   have K6 : Hid (Blk (w5.setCell ⟨w.heap.size, 2, none⟩ (.slice A5 n5 c5)) w.heap.size #[.int .i64 f, .slice A1 nc c1, .slice A5 n5 c5] 35) := K5.out.set 2 _
   have KR6 : Hid (Blk (w5.setCell ⟨w.heap.size, 2, none⟩ (.slice A5 n5 c5)) (w.heap.size + 1) #[.int .i64 0, .slice none 0 0, .slice none 0 0] 35) := KR5.out.but hkb (by omega)
   have T6 : Hid (Strs (w5.setCell ⟨w.heap.size, 2, none⟩ (.slice A5 n5 c5)) base (.slice A5 n5 c5) (e.files ++ [ft])) := T5.out.butE K5.out hkb
   have B6 : Hid (Below base w (w5.setCell ⟨w.heap.size, 2, none⟩ (.slice A5 n5 c5))) := B5.out.setCell HBs.out _
   generalize w5.setCell ⟨w.heap.size, 2, none⟩ (.slice A5 n5 c5) = X6 at *
   clear hkb K5 KR5 T5 B5 S5 KX KR HS0 HBX V0 V1 HT2 HO5
   obtain ⟨X7, hX7⟩ : ∃ X7, X7 = X6.setCell ⟨w.heap.size, 1, none⟩ (.slice none 0 0) := ⟨_, rfl⟩
   have hkb : KeptBut w.heap.size X6 X7 := by rw [hX7]; exact (KeptBut.refl _ _).set 1 _
   have m1 : _ = some (Value.slice A1 nc c1) := K6.out.cell 1 _ rfl
   have f1 := K6.out.free 1
   have K7 : Hid (Blk X7 w.heap.size #[.int .i64 f, .slice none 0 0, .slice A5 n5 c5] 35) := by unfold Hid; rw [hX7]; exact K6.out.set 1 _
   have KR7 : Hid (Blk X7 (w.heap.size + 1) #[.int .i64 0, .slice none 0 0, .slice none 0 0] 35) := KR6.out.but hkb (by omega)
   have T7 : Hid (Strs X7 base (.slice A5 n5 c5) (e.files ++ [ft])) := T6.out.butE K6.out hkb
   have B7 : Hid (Below base w X7) := by unfold Hid; rw [hX7]; exact B6.out.setCell HBs.out _
   clear hkb K6 KR6 T6 B6
   have o0 : _ = some (Value.int .i64 f) := K7.out.cell 0 _ rfl
   have o1 : _ = some (Value.slice none 0 0) := K7.out.cell 1 _ rfl
   have o2 : _ = some (Value.slice A5 n5 c5) := K7.out.cell 2 _ rfl
   generalize hR : w.heap.size + 1 = R at *
   have HRw : Hid (base ≤ R) := by have := HBs.out; unfold Hid; omega
   clear hR
   obtain ⟨⟨r0, g0⟩, ⟨r1, g1⟩, ⟨r2, g2⟩, e0, e1, e2⟩ := res3 (x := .int .i64 f) (y := .slice none 0 0) (z := .slice A5 n5 c5) KR7.out
   have SF : Hid (EngO (((X7.setCell ⟨R, 0, none⟩ (.int .i64 f)).setCell ⟨R, 1, none⟩ (.slice none 0 0)).setCell ⟨R, 2, none⟩ (.slice A5 n5 c5)) base (.agg #[.int .i64 f, .slice none 0 0, .slice A5 n5 c5]) (flushA e all)) := by
    unfold Hid
    rw [HE.out]
    exact EngO.end3 (L := []) KR7.out rfl rfl (SerO.nilE _ _) T7.out
   have BF : Hid (Below base w (((X7.setCell ⟨R, 0, none⟩ (.int .i64 f)).setCell ⟨R, 1, none⟩ (.slice none 0 0)).setCell ⟨R, 2, none⟩ (.slice A5 n5 c5))) := ((B7.out.setCell HRw.out _).setCell HRw.out _).setCell HRw.out _
   rw [hX7] at o0 o1 o2 r0 g0 r1 g1 r2 g2 e0 e1 e2 SF BF
   clear hX7 K7 KR7 T7 B7
   go_wp2_with fail
   exact bodyPost_ret (v := .agg #[.int .i64 f, .slice none 0 0, .slice A5 n5 c5]) (by simp [results, go_sem, e0, e1, e2]) rfl ⟨⟨_, rfl, SF.out⟩, BF.out⟩
end Go.Proofs.YtikknmoeefipmaaGreatDoor
