/- LawFlush -/
import Derived.Test.YtpmgndgkmffcnaaGreatDoorQd47
import Derived.Test.YtpmgndgkmffcnaaGreatDoorQd50
import Derived.Test.YtpmgndgkmffcnaaGreatDoorQd7
import Derived.WalkKit
import Derived.ProofKit
import Derived.OpenShut
import Derived.Below
import Derived.WalkSmall
import Derived.BigQuiet
import Derived.Deep.QuietTactic
import Derived.Deep.RegionWith
import Derived.Handy
open List (setIfInBounds_toArray set_cons_zero set_cons_succ)
namespace Go.Proofs.YtpmgndgkmffcnaaGreatDoor
open Go.ChangeShapes Go.WideShapes Go.ChangeAt Go.RowKit Go.PlainAid
set_option linter.unusedVariables false
theorem flushX_few (e : Eng) : (flushX e).cache = [] ∧ (flushX e).files.length ≤ 4 ∧ ∀ s ∈ (flushX e).files, s.size ≤ 5004 := by
 unfold flushX
 by_cases h : EOk e
 ·rw [if_pos h, ← flush_same h.1.2.1 (Or.inr h.1.2.2.1) h.2.2]
  refine ⟨flush_cache e, flush_few, fun s hs => ?_⟩
  obtain ⟨m, hm⟩ := flush_isF h s hs
  have := fileT_size m
  rw [hm.2.2] at this
  exact this
 ·rw [if_neg h]
  exact ⟨rfl, by simp [zeroE], fun s hs => by simp [zeroE] at hs⟩
set_option maxRecDepth 100000 in
set_option maxHeartbeats 16000000 in
theorem law_fnExactFlush (e : Eng) (v : Value) (w : World) (hv : EngV w w.heap.size v e) (hf : EFits e) (hst : SumTab w) (a0 a1 a2 : Addr) (he : Errs w a0 a1 a2) :
  Calls Tryz.prog 6 #[v] w fun b w' => b = .returned (.bool true) ∧ Below w.heap.size w w' := by
 obtain ⟨vc, vf, rfl, hc, hl⟩ := hv
 unfold vE
 obtain ⟨Ac, cc, rfl, _⟩ := hc.look
 obtain ⟨A, cap, rfl, _⟩ := st_look hl
 have HV : Hid (EngV w w.heap.size (vE e.floor (.slice Ac e.cache.length cc) (.slice A e.files.length cap)) e) := ⟨_, _, rfl, hc, hl⟩
 have ST : Hid (SumTab w) := hst
 have ER : Hid (Errs w a0 a1 a2) := he
 obtain ⟨X0, hX0⟩ : ∃ X0, X0 = w.alloc (.cells #[.int .i64 e.floor, .slice Ac e.cache.length cc, .slice A e.files.length cap] 25) := ⟨_, rfl⟩
 have BX : Hid (Below w.heap.size w X0) := by unfold Hid; rw [hX0]; exact (Below.refl _ w).alloc (Nat.le_refl _) _
 have KX : Hid (Blk X0 w.heap.size #[.int .i64 e.floor, .slice Ac e.cache.length cc, .slice A e.files.length cap] 25) := by unfold Hid; rw [hX0]; exact Blk.new w _ _
 have cz := szEngine e _ 1048576 X0 w.heap.size (HV.out.on BX.out) hf (by omega) (by omega) BX.out.size
 unfold vE at cz
 have k0 := KX.out.cell 0 _ rfl
 have k1 := KX.out.cell 1 _ rfl
 have k2 := KX.out.cell 2 _ rfl
 clear hc hl hf hst he
 generalize hfl : e.floor = f at *
 have HFl : Hid (e.floor = f) := hfl
 clear hfl
 generalize e.cache.length = nc at *
 generalize e.files.length = nf at *
 go_enter Tryz.func6, Tryz.ntmps6
 go_wp2_with fail
 rw [← hX0]
 clear hX0
 refine cz.mono ?_
 rintro b X1 ⟨r, rfl, HR, hb1⟩
 have B1 : Hid (Below w.heap.size w X1) := BX.out.trans (hb1.mono BX.out.size)
 have K1 : Hid (Blk X1 w.heap.size #[.int .i64 f, .slice Ac nc cc, .slice A nf cap] 25) := KX.out.on hb1 KX.out.lt
 clear hb1 cz k0 k1 k2
 rcases HR.out with rfl | ⟨hr0, hr1⟩
 ·go_wp2_with fail
  go_ret
  exact ⟨rfl, B1.out⟩
 have hq : decide (r < 0) = false := decide_eq_false (by omega)
 have HWt : Hid (wtE e ≤ 1048576) := by unfold Hid; omega
 have HSh : Hid (EShort e) := EFits.short HWt.out (Nat.le_refl _)
 have k0 := K1.out.cell 0 _ rfl
 have k1 := K1.out.cell 1 _ rfl
 have k2 := K1.out.cell 2 _ rfl
 have c1 := toEngine e _ X1 w.heap.size (HV.out.on B1.out) HSh.out B1.out.size
 unfold vE at c1
 clear hr1
 go_wp2_with fail
 refine c1.mono ?_
 rintro b X2 ⟨⟨u2, rfl, hE2⟩, hb2⟩
 have c2 := specFlushX e u2 X2 X2.heap.size hE2.view HSh.out (Nat.le_refl _)
 have B2 : Hid (Below w.heap.size w X2) := B1.out.trans (hb2.mono B1.out.size)
 have K2 : Hid (Blk X2 w.heap.size #[.int .i64 f, .slice Ac nc cc, .slice A nf cap] 25) := K1.out.on hb2 K1.out.lt
 obtain ⟨vc2, vf2, L2, ev2, _⟩ := hE2
 unfold vE at ev2
 subst ev2
 clear hb2 c1 k0 k1 k2 K1 KX
 have HPc : Hid (((flushX e)).cache = []) := (flushX_few e).1
 have HPf : Hid (((flushX e)).files.length ≤ 1000) := Nat.le_trans (flushX_few e).2.1 (by omega)
 have HPw : Hid (wtE (flushX e) ≤ 1048576) := few_wt (flushX_few e)
 have HPs : Hid (EShort (flushX e)) := EFits.short HPw.out (Nat.le_refl _)
 go_wp2_with fail
 refine c2.mono ?_
 rintro b X3a ⟨⟨u3, rfl, hS3⟩, hb3⟩
 have W3a : Hid (EngO X3a X2.heap.size u3 (flushX e)) := hS3
 obtain ⟨vc3, vf3, L3, ev3, _, hS3', hT3'⟩ := hS3
 obtain ⟨Aw, nw, cw, rfl⟩ := hS3'.1.shape
 obtain ⟨Av, nv, cv, rfl⟩ := (strs_owns hT3').shape
 unfold vE at ev3
 subst ev3
 generalize hgw : ((flushX e)).floor = gw at *
 clear hgw hS3' hT3'
 have B3a : Hid (Below w.heap.size w X3a) := B2.out.trans (hb3.mono B2.out.size)
 have K3a : Hid (Blk X3a w.heap.size #[.int .i64 f, .slice Ac nc cc, .slice A nf cap] 25) := K2.out.on hb3 K2.out.lt
 clear hb3 c2 K2
 obtain ⟨X3, hX3⟩ : ∃ X3, X3 = X3a.alloc (.cells #[.int .i64 gw, .slice Aw nw cw, .slice Av nv cv] 30) := ⟨_, rfl⟩
 have hb3 : Below X3a.heap.size X3a X3 := by rw [hX3]; exact (Below.refl _ _).alloc (Nat.le_refl _) _
 have KW : Hid (Blk X3 X3a.heap.size #[.int .i64 gw, .slice Aw nw cw, .slice Av nv cv] 30) := by unfold Hid; rw [hX3]; exact Blk.new X3a _ _
 have W3 : Hid (EngO X3 X2.heap.size (.agg #[.int .i64 gw, .slice Aw nw cw, .slice Av nv cv]) (flushX e)) := W3a.out.on hb3
 have B3 : Hid (Below w.heap.size w X3) := B3a.out.trans (hb3.mono B3a.out.size)
 have K3 : Hid (Blk X3 w.heap.size #[.int .i64 f, .slice Ac nc cc, .slice A nf cap] 25) := K3a.out.on hb3 K3a.out.lt
 clear hb3 K3a B3a W3a
 have k0 := K3.out.cell 0 _ rfl
 have k1 := K3.out.cell 1 _ rfl
 have k2 := K3.out.cell 2 _ rfl
 have c1 := toEngine e _ X3 w.heap.size (HV.out.on B3.out) HSh.out B3.out.size
 unfold vE at c1
 rw [hX3] at k0 k1 k2
 go_wp2_with fail
 rw [← hX3]
 clear hX3
 refine c1.mono ?_
 rintro b X4 ⟨⟨u4, rfl, hE4⟩, hb4⟩
 have C4 : Hid (Below X3.heap.size X3 X4) := hb4
 have HE4 : Hid (EngO X4 X3.heap.size u4 e) := hE4
 obtain ⟨vc4, vf4, L4, ev4, hL4, hS4, hT4⟩ := hE4
 obtain ⟨Ax, nx, cx, rfl⟩ := hS4.1.shape
 obtain ⟨Ay, ny, cy, rfl⟩ := (strs_owns hT4).shape
 unfold vE at ev4
 subst ev4
 have HFe := HFl.out
 rw [HFe] at HE4 ⊢
 have HL4 : Hid (L4.map Prod.fst = e.cache) := hL4
 have S4 : Hid (SerO X4 X3.heap.size (.slice Ax nx cx) L4) := hS4
 have T4 : Hid (Strs X4 X3.heap.size (.slice Ay ny cy) e.files) := hT4
 clear hb4 c1 k0 k1 k2 HFe hL4 hS4 hT4
 obtain ⟨X5, hX5⟩ : ∃ X5, X5 = X4.alloc (.cells #[.int .i64 f, .slice Ax nx cx, .slice Ay ny cy] 30) := ⟨_, rfl⟩
 have KB : Hid (Blk X5 X4.heap.size #[.int .i64 f, .slice Ax nx cx, .slice Ay ny cy] 30) := by unfold Hid; rw [hX5]; exact Blk.new X4 _ _
 have C5 : Hid (Below X3.heap.size X3 X5) := by unfold Hid; rw [hX5]; exact C4.out.alloc C4.out.size _
 have D5 : Hid (Below X4.heap.size X4 X5) := by unfold Hid; rw [hX5]; exact (Below.refl _ X4).alloc (Nat.le_refl _) _
 have B5 : Hid (Below w.heap.size w X5) := B3.out.trans (C5.out.mono B3.out.size)
 have E5 : Hid (EngO X5 X3.heap.size (.agg #[.int .i64 f, .slice Ax nx cx, .slice Ay ny cy]) e) := HE4.out.on D5.out
 have c2 := implFlushX e _ X5 X5.heap.size E5.out.view HSh.out (Nat.le_refl _) (ST.out.on B5.out) a0 a1 a2 (ER.out.on B5.out)
 have kb0 := KB.out.cell 0 _ rfl
 have kb1 := KB.out.cell 1 _ rfl
 have kb2 := KB.out.cell 2 _ rfl
 rw [hX5] at kb0 kb1 kb2
 go_wp2_with fail
 rw [← hX5]
 clear hX5 kb0 kb1 kb2
 refine c2.mono ?_
 rintro b X6a ⟨⟨u6, rfl, hS6⟩, hb6⟩
 have G6a : Hid (EngO X6a X5.heap.size u6 (flushX e)) := hS6
 obtain ⟨vc6, vf6, L6, ev6, hL6, hSg, hTg⟩ := hS6
 obtain ⟨A6, n6, c6, rfl⟩ := hSg.1.shape
 obtain ⟨A7, n7, c7, rfl⟩ := (strs_owns hTg).shape
 have HL6 : Hid (L6.map Prod.fst = ((flushX e)).cache) := hL6
 have SG6a : Hid (SerO X6a X5.heap.size (.slice A6 n6 c6) L6) := hSg
 have TG6a : Hid (Strs X6a X5.heap.size (.slice A7 n7 c7) ((flushX e)).files) := hTg
 unfold vE at ev6
 subst ev6
 clear hL6 hSg hTg
 generalize hgf : ((flushX e)).floor = gf at *
 have HGf : Hid (((flushX e)).floor = gf) := hgf
 clear hgf
 obtain ⟨X6, hX6⟩ : ∃ X6, X6 = X6a.alloc (.cells #[.int .i64 gf, .slice A6 n6 c6, .slice A7 n7 c7] 30) := ⟨_, rfl⟩
 have hbn : Below X6a.heap.size X6a X6 := by rw [hX6]; exact (Below.refl _ _).alloc (Nat.le_refl _) _
 have KG6 : Hid (Blk X6 X6a.heap.size #[.int .i64 gf, .slice A6 n6 c6, .slice A7 n7 c7] 30) := by unfold Hid; rw [hX6]; exact Blk.new X6a _ _
 have HG : Hid (X5.heap.size ≤ X6a.heap.size) := hb6.size
 have D6 : Hid (Below X5.heap.size X5 X6) := hb6.trans (hbn.mono hb6.size)
 have C6 : Hid (Below X3.heap.size X3 X6) := C5.out.trans (D6.out.mono C5.out.size)
 have G6 : Hid (EngO X6 X5.heap.size (.agg #[.int .i64 gf, .slice A6 n6 c6, .slice A7 n7 c7]) (flushX e)) := G6a.out.on hbn
 have SG6 : Hid (SerO X6 X5.heap.size (.slice A6 n6 c6) L6) := SG6a.out.on hbn
 have TG6 : Hid (Strs X6 X5.heap.size (.slice A7 n7 c7) ((flushX e)).files) := TG6a.out.on hbn
 clear hb6 hbn c2 G6a SG6a TG6a
 have HFew : Hid (L6.length ≤ 5 ∧ (∀ q ∈ L6, q.1.pts.length ≤ 60) ∧ ((flushX e)).files.length ≤ 1000 ∧ wtE (flushX e) ≤ 1048576) := by
  have h1 := HL6.out
  rw [HPc.out] at h1
  obtain rfl : L6 = [] := List.map_eq_nil_iff.1 h1
  exact ⟨by simp, fun q hq => (by cases hq), HPf.out, HPw.out⟩
 have KW6 : Hid (Blk X6 X3a.heap.size #[.int .i64 gw, .slice Aw nw cw, .slice Av nv cv] 30) := KW.out.on C6.out KW.out.lt
 have h0 := KW6.out.cell 0 _ rfl
 have h1 := KW6.out.cell 1 _ rfl
 have h2 := KW6.out.cell 2 _ rfl
 have j0 := KG6.out.cell 0 _ rfl
 have j1 := KG6.out.cell 1 _ rfl
 have j2 := KG6.out.cell 2 _ rfl
 rw [hX6] at h0 h1 h2 j0 j1 j2
 have ce := eqEngine ((flushX e)) _ _ X5.heap.size X2.heap.size X6 G6.out (W3.out.on C6.out) HPs.out
 go_wp2_with fail
 rw [← hX6]
 clear hX6 h0 h1 h2 j0 j1 j2
 refine ce.mono ?_
 rintro b X7 ⟨rfl, he7⟩
 have C7 : Hid (Below X3.heap.size X3 X7) := C6.out.trans (he7.mono C6.out.size)
 have D7 : Hid (Below X5.heap.size X5 X7) := D6.out.trans (he7.mono D6.out.size)
 have SG7 : Hid (SerO X7 X5.heap.size (.slice A6 n6 c6) L6) := SG6.out.on he7
 have TG7 : Hid (Strs X7 X5.heap.size (.slice A7 n7 c7) ((flushX e)).files) := TG6.out.on he7
 have KG7 : Hid (Blk X7 X6a.heap.size #[.int .i64 gf, .slice A6 n6 c6, .slice A7 n7 c7] 30) := KG6.out.on he7 KG6.out.lt
 clear he7 ce
 go_wp2_with fail
 refine wp_region_until (fun w' => (w'.cell? ⟨X4.heap.size, 0, none⟩ = some (.int .i64 f) ∧ w'.cell? ⟨X4.heap.size, 1, none⟩ = some (.slice Ax nx cx) ∧ w'.cell? ⟨X4.heap.size, 2, none⟩ = some (.slice Ay ny cy)) ∧ w'.cell? ⟨w.heap.size, 0, none⟩ = some (.int .i64 f) ∧ w'.cell? ⟨w.heap.size, 1, none⟩ = some (.slice Ac nc cc) ∧ w'.cell? ⟨w.heap.size, 2, none⟩ = some (.slice A nf cap)) (fun _ => false) 5 (by rfl) (by kernel_rfl) ?_
 have hbd : Below X7.heap.size X7 X7.drew := (Below.refl _ _).drew
 generalize X7.drew = XD at *
 have CD : Hid (Below X3.heap.size X3 XD) := C7.out.trans (hbd.mono C7.out.size)
 have FD : Hid (Below X7.heap.size X7 XD) := hbd
 have DD : Hid (Below X5.heap.size X5 XD) := D7.out.trans (hbd.mono D7.out.size)
 have BD : Hid (Below w.heap.size w XD) := B3.out.trans (CD.out.mono B3.out.size)
 have KBa : Hid (Blk XD X4.heap.size #[.int .i64 f, .slice Ax nx cx, .slice Ay ny cy] 30) := KB.out.on DD.out KB.out.lt
 have KAa : Hid (Blk XD w.heap.size #[.int .i64 f, .slice Ac nc cc, .slice A nf cap] 25) := K3.out.on CD.out K3.out.lt
 have S0 : Hid ((fun w' => (w'.cell? ⟨X4.heap.size, 0, none⟩ = some (.int .i64 f) ∧ w'.cell? ⟨X4.heap.size, 1, none⟩ = some (.slice Ax nx cx) ∧ w'.cell? ⟨X4.heap.size, 2, none⟩ = some (.slice Ay ny cy)) ∧ w'.cell? ⟨w.heap.size, 0, none⟩ = some (.int .i64 f) ∧ w'.cell? ⟨w.heap.size, 1, none⟩ = some (.slice Ac nc cc) ∧ w'.cell? ⟨w.heap.size, 2, none⟩ = some (.slice A nf cap)) XD) := ⟨⟨KBa.out.cell 0 _ rfl, KBa.out.cell 1 _ rfl, KBa.out.cell 2 _ rfl⟩, KAa.out.cell 0 _ rfl, KAa.out.cell 1 _ rfl, KAa.out.cell 2 _ rfl⟩
 have ct := toEngine e _ XD w.heap.size (HV.out.on BD.out) HSh.out BD.out.size
 unfold vE at ct
 clear hbd
 refine until_take 0 (v := ?_) (by rfl) (by kernel_rfl) (by exact fun _ _ _ h => h) (by rfl) ?_ S0.out ?_
 rotate_left
 ·intro w hSw
  try dsimp only at hSw
  go_simp
  try with_reducible rfl
 try simp only [Act.put, setIfInBounds_toArray, set_cons_zero, set_cons_succ]
 refine until_take 1 (v := ?_) (by rfl) (by kernel_rfl) (by exact fun _ _ _ h => h) (by rfl) ?_ S0.out ?_
 rotate_left
 ·intro w hSw
  try dsimp only at hSw
  go_simp
  try with_reducible rfl
 try simp only [Act.put, setIfInBounds_toArray, set_cons_zero, set_cons_succ]
 refine until_one 2 (by rfl) (by kernel_rfl) (fun K hK => ?_)
 go_simp
 refine ct.mono ?_
 rintro b X7m ⟨⟨u7m, rfl, hE7m⟩, hb7m⟩
 have C7m : Hid (Below X3.heap.size X3 X7m) := CD.out.trans (hb7m.mono CD.out.size)
 have D7m : Hid (Below X5.heap.size X5 X7m) := DD.out.trans (hb7m.mono DD.out.size)
 have F7m : Hid (Below X7.heap.size X7 X7m) := FD.out.trans (hb7m.mono FD.out.size)
 have KBb : Hid (Blk X7m X4.heap.size #[.int .i64 f, .slice Ax nx cx, .slice Ay ny cy] 30) := KB.out.on D7m.out KB.out.lt
 have KAb : Hid (Blk X7m w.heap.size #[.int .i64 f, .slice Ac nc cc, .slice A nf cap] 25) := K3.out.on C7m.out K3.out.lt
 have cq := eqEngine e (.agg #[.int .i64 f, .slice Ax nx cx, .slice Ay ny cy]) u7m X3.heap.size XD.heap.size X7m (E5.out.on D7m.out) hE7m HSh.out
 clear hb7m ct S0 KBa KAa
 obtain ⟨vc7m, vf7m, L7m, ev7m, _⟩ := hE7m
 unfold vE at ev7m
 subst ev7m
 go_wp2_with fail
 refine hK.out _ _ (fun _ _ => ⟨⟨KBb.out.cell 0 _ rfl, KBb.out.cell 1 _ rfl, KBb.out.cell 2 _ rfl⟩, KAb.out.cell 0 _ rfl, KAb.out.cell 1 _ rfl, KAb.out.cell 2 _ rfl⟩) ?_
 clear hK K
 try simp only [Act.put, setIfInBounds_toArray, set_cons_zero, set_cons_succ]
 refine until_one 3 (by rfl) (by kernel_rfl) (fun K hK => ?_)
 go_simp
 refine cq.mono ?_
 rintro b X8 ⟨rfl, hb8⟩
 have C8 : Hid (Below X3.heap.size X3 X8) := C7m.out.trans (hb8.mono C7m.out.size)
 have D8 : Hid (Below X5.heap.size X5 X8) := D7m.out.trans (hb8.mono D7m.out.size)
 have F8 : Hid (Below X7.heap.size X7 X8) := F7m.out.trans (hb8.mono F7m.out.size)
 have KBc : Hid (Blk X8 X4.heap.size #[.int .i64 f, .slice Ax nx cx, .slice Ay ny cy] 30) := KB.out.on D8.out KB.out.lt
 have KAc : Hid (Blk X8 w.heap.size #[.int .i64 f, .slice Ac nc cc, .slice A nf cap] 25) := K3.out.on C8.out K3.out.lt
 clear hb8 cq KBb KAb
 go_wp2_with fail
 refine hK.out _ _ (fun _ _ => ⟨⟨KBc.out.cell 0 _ rfl, KBc.out.cell 1 _ rfl, KBc.out.cell 2 _ rfl⟩, KAc.out.cell 0 _ rfl, KAc.out.cell 1 _ rfl, KAc.out.cell 2 _ rfl⟩) ?_
 clear hK K
 try simp only [Act.put, setIfInBounds_toArray, set_cons_zero, set_cons_succ]
 refine until_pure 4 (v := ?_) (by rfl) (by kernel_rfl) (by exact fun _ _ _ h => h) (by rfl) ?_ ?_
 rotate_left
 ·intro w
  go_simp
  try with_reducible rfl
 try simp only [Act.put, setIfInBounds_toArray, set_cons_zero, set_cons_succ]
 refine until_done (by kernel_rfl) ?_ _
 clear KBc KAc C7m D7m CD DD BD FD F7m
 have SG8 : Hid (SerO X8 X5.heap.size (.slice A6 n6 c6) L6) := SG7.out.on F8.out
 have TG8 : Hid (Strs X8 X5.heap.size (.slice A7 n7 c7) ((flushX e)).files) := TG7.out.on F8.out
 have KG8 : Hid (Blk X8 X6a.heap.size #[.int .i64 gf, .slice A6 n6 c6, .slice A7 n7 c7] 30) := KG7.out.on F8.out KG7.out.lt
 have KB8 : Hid (Blk X8 X4.heap.size #[.int .i64 f, .slice Ax nx cx, .slice Ay ny cy] 30) := KB.out.on D8.out KB.out.lt
 have kb0 := KB8.out.cell 0 _ rfl
 have kb1 := KB8.out.cell 1 _ rfl
 have kb2 := KB8.out.cell 2 _ rfl
 have D48 : Hid (Below X4.heap.size X4 X8) := D5.out.trans (D8.out.mono D5.out.size)
 have cm := markEngine e (.agg #[.int .i64 f, .slice Ax nx cx, .slice Ay ny cy]) (.slice Ax nx cx) (.slice Ay ny cy) L4 X3.heap.size 1 X8 (by rw [HFl.out]; rfl) HL4.out (S4.out.on D48.out) (T4.out.on D48.out) (by omega) (by omega) HWt.out C8.out.size
 have HNb : Hid (∀ b, X5.heap.size ≤ b → NotE (.slice Ax nx cx) (.slice Ay ny cy) L4 b) := fun b hb => by
  have hz := KB.out.lt
  refine ⟨fun h => ?_, fun j hj h => ?_, fun h => ?_⟩
  ·have := (S4.out.1.lt b h).2; omega
  ·have := ((S4.out.2.1 _ (getD_mem L4 j hj)).lt b h).2; omega
  ·have := ((strs_owns T4.out).lt b h).2; omega
 generalize hkx : kAt 1 L4 L4.length + e.files.length = kx at *
 have dkx : decide ((kx : Int) < 0) = false := decide_eq_false (by omega)
 clear hkx
 go_wp2_with fail
 refine cm.mono ?_
 rintro b X9 ⟨rfl, _, hb9, hk9⟩
 have C9 : Hid (Below X3.heap.size X3 X9) := C8.out.trans hb9
 have HZ9 : Hid (X8.heap.size ≤ X9.heap.size) := hb9.size
 have SG9 : Hid (SerO X9 X5.heap.size (.slice A6 n6 c6) L6) := ⟨SG8.out.1.kept fun g hg hv => hk9 g hg (HNb.out g (SG8.out.1.lt g hv).1), fun p hp => (SG8.out.2.1 p hp).kept fun g hg hv => hk9 g hg (HNb.out g ((SG8.out.2.1 p hp).lt g hv).1), SG8.out.2.2⟩
 have TG9 : Hid (Strs X9 X5.heap.size (.slice A7 n7 c7) ((flushX e)).files) := owns_strs ((strs_owns TG8.out).kept fun g hg hv => hk9 g hg (HNb.out g ((strs_owns TG8.out).lt g hv).1))
 have KG9 : Hid (Blk X9 X6a.heap.size #[.int .i64 gf, .slice A6 n6 c6, .slice A7 n7 c7] 30) := (hk9 _ KG8.out.lt (HNb.out _ HG.out)).trans KG8.out
 have G9 : Hid (EngO X9 X5.heap.size (.agg #[.int .i64 gf, .slice A6 n6 c6, .slice A7 n7 c7]) (flushX e)) := ⟨_, _, L6, by rw [HGf.out]; rfl, HL6.out, SG9.out, TG9.out⟩
 clear hb9 hk9 cm kb0 kb1 kb2 KB8 D48
 have KW9 : Hid (Blk X9 X3a.heap.size #[.int .i64 gw, .slice Aw nw cw, .slice Av nv cv] 30) := KW.out.on C9.out KW.out.lt
 have h0 := KW9.out.cell 0 _ rfl
 have h1 := KW9.out.cell 1 _ rfl
 have h2 := KW9.out.cell 2 _ rfl
 have j0 := KG9.out.cell 0 _ rfl
 have j1 := KG9.out.cell 1 _ rfl
 have j2 := KG9.out.cell 2 _ rfl
 have ce := eqEngine ((flushX e)) _ _ X5.heap.size X2.heap.size X9 G9.out (W3.out.on C9.out) HPs.out
 go_wp2_with fail
 refine ce.mono ?_
 rintro b X10 ⟨rfl, he10⟩
 have C10 : Hid (Below X3.heap.size X3 X10) := C9.out.trans (he10.mono C9.out.size)
 have HZ : Hid (X8.heap.size ≤ X10.heap.size) := Nat.le_trans HZ9.out he10.size
 have SG10 : Hid (SerO X10 X5.heap.size (.slice A6 n6 c6) L6) := SG9.out.on he10
 have TG10 : Hid (Strs X10 X5.heap.size (.slice A7 n7 c7) ((flushX e)).files) := TG9.out.on he10
 have KG10 : Hid (Blk X10 X6a.heap.size #[.int .i64 gf, .slice A6 n6 c6, .slice A7 n7 c7] 30) := KG9.out.on he10 KG9.out.lt
 clear he10 ce h0 h1 h2 j0 j1 j2
 have cm := markEngine (flushX e) (.agg #[.int .i64 gf, .slice A6 n6 c6, .slice A7 n7 c7]) (.slice A6 n6 c6) (.slice A7 n7 c7) L6 X5.heap.size 1 X10 (by rw [HGf.out]; rfl) HL6.out SG10.out TG10.out (by omega) (by omega) HFew.out.2.2.2 (Nat.le_trans D8.out.size HZ.out)
 have cH := fun wx (h : EMk wx X5.heap.size 1 (.agg #[.int .i64 gf, .slice A6 n6 c6, .slice A7 n7 c7]) L6 ((flushX e)).files.length) => heldEngine (.agg #[.int .i64 gf, .slice A6 n6 c6, .slice A7 n7 c7]) L6 X5.heap.size 1 ((flushX e)).files.length wx h HFew.out.1 HFew.out.2.1 (by omega) (by omega) HFew.out.2.2.1
 have HNg : Hid (NotE (.slice A6 n6 c6) (.slice A7 n7 c7) L6 X6a.heap.size) := ⟨SG10.out.1.notBlk KG10.out (by decide), fun j hj => (SG10.out.2.1 _ (getD_mem L6 j hj)).notBlk KG10.out (by decide), (strs_owns TG10.out).notBlk KG10.out (by decide)⟩
 generalize hkk : kAt 1 L6 L6.length + ((flushX e)).files.length = kk at *
 have dk : decide ((kk : Int) < 0) = false := decide_eq_false (by omega)
 clear hkk SG10 TG10
 have j0 := KG10.out.cell 0 _ rfl
 have j1 := KG10.out.cell 1 _ rfl
 have j2 := KG10.out.cell 2 _ rfl
 go_wp2_with fail
 refine cm.mono ?_
 rintro b X11 ⟨rfl, hM, hb11, hk11⟩
 have M11 : Hid (EMk X11 X5.heap.size 1 (.agg #[.int .i64 gf, .slice A6 n6 c6, .slice A7 n7 c7]) L6 ((flushX e)).files.length) := hM
 have C11 : Hid (Below X3.heap.size X3 X11) := C10.out.trans (hb11.mono C5.out.size)
 have KG11 : Hid (Blk X11 X6a.heap.size #[.int .i64 gf, .slice A6 n6 c6, .slice A7 n7 c7] 30) := (hk11 _ KG10.out.lt HNg.out).trans KG10.out
 clear hb11 hk11 cm hM j0 j1 j2
 have j0 := KG11.out.cell 0 _ rfl
 have j1 := KG11.out.cell 1 _ rfl
 have j2 := KG11.out.cell 2 _ rfl
 go_wp2_with fail
 refine (cH _ M11.out).mono ?_
 rintro b X12 ⟨rfl, hb12⟩
 have C12 : Hid (Below X3.heap.size X3 X12) := C11.out.trans (hb12.mono C11.out.size)
 have M12 := M11.out.on hb12
 have KG12 : Hid (Blk X12 X6a.heap.size #[.int .i64 gf, .slice A6 n6 c6, .slice A7 n7 c7] 30) := KG11.out.on hb12 KG11.out.lt
 clear hb12 j0 j1 j2
 have KA : Hid (Blk X12 w.heap.size #[.int .i64 f, .slice Ac nc cc, .slice A nf cap] 25) := K3.out.on C12.out K3.out.lt
 have B12 : Hid (Below w.heap.size w X12) := B3.out.trans (C12.out.mono B3.out.size)
 have k0 := KA.out.cell 0 _ rfl
 have k1 := KA.out.cell 1 _ rfl
 have k2 := KA.out.cell 2 _ rfl
 have c1 := toEngine e _ X12 w.heap.size (HV.out.on B12.out) HSh.out B12.out.size
 unfold vE at c1
 go_wp2_with fail
 refine c1.mono ?_
 rintro b X13 ⟨⟨u13, rfl, hE13⟩, hb13⟩
 have C13 : Hid (Below X3.heap.size X3 X13) := C12.out.trans (hb13.mono C12.out.size)
 have B13 : Hid (Below w.heap.size w X13) := B3.out.trans (C13.out.mono B3.out.size)
 have M13 := M12.on hb13
 have KG13 : Hid (Blk X13 X6a.heap.size #[.int .i64 gf, .slice A6 n6 c6, .slice A7 n7 c7] 30) := KG12.out.on hb13 KG12.out.lt
 have c2 := implFlushX e u13 X13 X13.heap.size hE13.view HSh.out (Nat.le_refl _) (ST.out.on B13.out) a0 a1 a2 (ER.out.on B13.out)
 obtain ⟨vc13, vf13, L13, ev13, _⟩ := hE13
 unfold vE at ev13
 subst ev13
 clear hb13 c1 k0 k1 k2 KA M12
 go_wp2_with fail
 refine c2.mono ?_
 rintro b X14a ⟨⟨u14, rfl, hS14⟩, hb14⟩
 have E14a : Hid (EngO X14a X13.heap.size u14 (flushX e)) := hS14
 obtain ⟨vc14, vf14, L14, ev14, _, hS14', hT14'⟩ := hS14
 obtain ⟨Ap, np, cp, rfl⟩ := hS14'.1.shape
 obtain ⟨Aq, nq, cq, rfl⟩ := (strs_owns hT14').shape
 unfold vE at ev14
 subst ev14
 generalize hg14 : ((flushX e)).floor = gh at *
 clear hg14 hS14' hT14'
 obtain ⟨X14, hX14⟩ : ∃ X14, X14 = X14a.alloc (.cells #[.int .i64 gh, .slice Ap np cp, .slice Aq nq cq] 30) := ⟨_, rfl⟩
 have hbn : Below X14a.heap.size X14a X14 := by rw [hX14]; exact (Below.refl _ _).alloc (Nat.le_refl _) _
 have KH : Hid (Blk X14 X14a.heap.size #[.int .i64 gh, .slice Ap np cp, .slice Aq nq cq] 30) := by unfold Hid; rw [hX14]; exact Blk.new X14a _ _
 have hb14' : Below X13.heap.size X13 X14 := hb14.trans (hbn.mono hb14.size)
 have C14 : Hid (Below X3.heap.size X3 X14) := C13.out.trans (hb14'.mono C13.out.size)
 have M14 := M13.on hb14'
 have KG14 : Hid (Blk X14 X6a.heap.size #[.int .i64 gf, .slice A6 n6 c6, .slice A7 n7 c7] 30) := KG13.out.on hb14' KG13.out.lt
 have E14 : Hid (EngO X14 X13.heap.size (.agg #[.int .i64 gh, .slice Ap np cp, .slice Aq nq cq]) (flushX e)) := E14a.out.on hbn
 have ce := eqEngine (flushX e) _ _ X13.heap.size X2.heap.size X14 E14.out (W3.out.on C14.out) HPs.out
 clear hb14 hbn hb14' c2 M13 E14a
 have KW14 : Hid (Blk X14 X3a.heap.size #[.int .i64 gw, .slice Aw nw cw, .slice Av nv cv] 30) := KW.out.on C14.out KW.out.lt
 have h0 := KW14.out.cell 0 _ rfl
 have h1 := KW14.out.cell 1 _ rfl
 have h2 := KW14.out.cell 2 _ rfl
 have j0 := KH.out.cell 0 _ rfl
 have j1 := KH.out.cell 1 _ rfl
 have j2 := KH.out.cell 2 _ rfl
 rw [hX14] at h0 h1 h2 j0 j1 j2
 go_wp2_with fail
 rw [← hX14]
 clear hX14 h0 h1 h2 j0 j1 j2
 refine ce.mono ?_
 rintro b X15 ⟨rfl, hb15⟩
 have C15 : Hid (Below X3.heap.size X3 X15) := C14.out.trans (hb15.mono C14.out.size)
 have M15 := M14.on hb15
 have KG15 : Hid (Blk X15 X6a.heap.size #[.int .i64 gf, .slice A6 n6 c6, .slice A7 n7 c7] 30) := KG14.out.on hb15 KG14.out.lt
 clear hb15 ce M14
 have j0 := KG15.out.cell 0 _ rfl
 have j1 := KG15.out.cell 1 _ rfl
 have j2 := KG15.out.cell 2 _ rfl
 go_wp2_with fail
 refine (cH _ M15).mono ?_
 rintro b X16 ⟨rfl, hb16⟩
 have B16 : Hid (Below w.heap.size w X16) := B3.out.trans ((C15.out.trans (hb16.mono C15.out.size)).mono B3.out.size)
 clear hb16 cH M15
 go_wp2_with fail
 go_ret
 exact ⟨rfl, B16.out⟩
end Go.Proofs.YtpmgndgkmffcnaaGreatDoor
