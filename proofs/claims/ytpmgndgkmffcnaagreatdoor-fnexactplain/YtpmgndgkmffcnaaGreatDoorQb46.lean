/-
  Contracts of spec.Plain and spec.Query. · The walk of FnExactPlain.
-/
import Derived.Test.YtpmgndgkmffcnaaGreatDoorQb35
import Derived.WalkKit
import Derived.ProofKit
import Derived.OpenShut
import Derived.Below
import Derived.WalkSmall
import Derived.BigQuiet
import Derived.Deep.QuietTactic
import Derived.Deep.RegionWith
import Derived.Handy
import Derived.Test.YtpmgndgkmffcnaaGreatDoorQb42
import Derived.Test.YtpmgndgkmffcnaaGreatDoorQb45
import Derived.Test.YtpmgndgkmffcnaaGreatDoorQb7
namespace Go.Proofs.YtpmgndgkmffcnaaGreatDoor
open Go.ChangeShapes Go.WideShapes Go.ChangeAt Go.RowKit Go.PlainAid
set_option linter.unusedVariables false

set_option maxHeartbeats 4000000 in
theorem specPlainX (e : Eng) (v : Value) (w : World) (B : Nat) (hv : EngV w B v e) (hs : EShort e) (hB : B ≤ w.heap.size) :
    Calls Tryz.prog 20 #[v] w fun b w' => (∃ u L, b = .returned u ∧ L.map Prod.fst = plainX e ∧ SerO w' w.heap.size u L) ∧ Below w.heap.size w w' := by
  obtain ⟨vc, vf, rfl, hc, hl⟩ := hv
  unfold vE
  obtain ⟨Ac, cc, rfl, _⟩ := hc.look
  obtain ⟨A, cap, rfl, _⟩ := st_look hl
  have HV : Hid (EngV w B (vE e.floor (.slice Ac e.cache.length cc) (.slice A e.files.length cap)) e) := ⟨_, _, rfl, hc, hl⟩
  have HC : Hid (SerV w B (.slice Ac e.cache.length cc) e.cache) := hc
  have HB : Hid (B ≤ w.heap.size) := hB
  have HSh : Hid (EShort e) := hs
  obtain ⟨X0, hX0⟩ : ∃ X0, X0 = w.alloc (.cells #[.int .i64 e.floor, .slice Ac e.cache.length cc, .slice A e.files.length cap] 30) := ⟨_, rfl⟩
  have BX : Hid (Below w.heap.size w X0) := by unfold Hid; rw [hX0]; exact (Below.refl _ w).alloc (Nat.le_refl _) _
  have KX : Hid (Blk X0 w.heap.size #[.int .i64 e.floor, .slice Ac e.cache.length cc, .slice A e.files.length cap] 30) := by unfold Hid; rw [hX0]; exact Blk.new w _ _
  have ZB : Hid (B ≤ X0.heap.size) := Nat.le_trans hB BX.out.size
  by_cases hok : EOk e
  · have c1 := specEngineOk e _ X0 B (HV.out.on (BX.out.mono hB)) hs ZB.out
    rw [decide_eq_true hok] at c1
    unfold vE at c1
    have k0 := KX.out.cell 0 _ rfl
    have k1 := KX.out.cell 1 _ rfl
    have k2 := KX.out.cell 2 _ rfl
    have HOk : Hid (EOk e) := hok
    clear hc hl hB hs hok
    go_enter Tryz.func20, Tryz.ntmps20
    go_wp2_with fail
    rw [← hX0]
    clear hX0
    refine c1.mono ?_
    rintro b X1 ⟨rfl, hb1⟩
    have K1 := KX.out.on hb1 KX.out.lt
    have HK1 : Hid (Blk X1 w.heap.size #[.int .i64 e.floor, .slice Ac e.cache.length cc, .slice A e.files.length cap] 30) := K1
    have m0 := K1.cell 0 _ rfl
    have m1 := K1.cell 1 _ rfl
    have m2 := K1.cell 2 _ rfl
    have B1 : Hid (Below w.heap.size w X1) := BX.out.trans (hb1.mono BX.out.size)
    have c4 := specLayers e _ X1 B (HV.out.on (B1.out.mono HB.out)) (by have := HOk.out.1.2.1; omega) HSh.out.2.2.2 (Nat.le_trans HB.out B1.out.size)
    unfold vE at c4
    clear hb1 c1 K1 k0 k1 k2
    go_wp2_with fail
    refine c4.mono ?_
    rintro b X3 ⟨⟨u, ok, rfl, hA⟩, hb3⟩
    have K3 := HK1.out.on hb3 HK1.out.lt
    have p0 := K3.cell 0 _ rfl
    have B3 : Hid (Below w.heap.size w X3) := B1.out.trans (hb3.mono B1.out.size)
    obtain ⟨rfl, hF, hLv⟩ : ok = true ∧ (∀ s ∈ e.files, isF s) ∧ LayV X3 X3.heap.size u (lays e) := by
      rcases hA with h | ⟨_, s, hsm, hsn⟩
      · exact h
      · exact absurd (HOk.out.2.1 s hsm) hsn
    have HLok : Hid (LOk (lays e)) := lays_ok (by have := HOk.out.1.2.1; omega) HOk.out.1.2.2.1.col hF
    clear hA hb3 c4 m0 m1 m2 K3
    have c5 := specPlainL (lays e) e.floor u X3 X3.heap.size hLv HLok.out (Nat.le_refl _)
    obtain ⟨Au, cu, rfl, _⟩ := hLv.look
    clear hF hLv
    go_wp2_with fail
    refine c5.mono ?_
    rintro b X4 ⟨⟨u4, L, rfl, hL, hS⟩, hb4⟩
    have B4 : Hid (Below w.heap.size w X4) := B3.out.trans (hb4.mono B3.out.size)
    have S4 : Hid (SerO X4 w.heap.size u4 L) := hS.mono B3.out.size
    have HL : Hid (L.map Prod.fst = plainX e) := by unfold Hid plainX; rw [if_pos HOk.out, hL]; rfl
    clear hL hS hb4 c5
    go_wp2_with fail
    go_ret
    exact ⟨⟨_, L, rfl, HL.out, S4.out⟩, B4.out⟩
  · have c1 := specEngineOk e _ X0 B (HV.out.on (BX.out.mono hB)) hs ZB.out
    rw [decide_eq_false hok] at c1
    unfold vE at c1
    have k0 := KX.out.cell 0 _ rfl
    have k1 := KX.out.cell 1 _ rfl
    have k2 := KX.out.cell 2 _ rfl
    have HNo : Hid (¬ EOk e) := hok
    clear hc hl hB hs hok
    go_enter Tryz.func20, Tryz.ntmps20
    go_wp2_with fail
    rw [← hX0]
    clear hX0
    refine c1.mono ?_
    rintro b X1 ⟨rfl, hb1⟩
    have B1 : Hid (Below w.heap.size w X1) := BX.out.trans (hb1.mono BX.out.size)
    clear hb1 c1 k0 k1 k2
    go_wp2_with fail
    go_ret
    exact ⟨⟨_, [], rfl, by unfold plainX; rw [if_neg HNo.out]; rfl, ⟨Owns.empty X1 w.heap.size 58 2 B1.out.size, fun p hp => (by cases hp), List.Pairwise.nil⟩⟩, B1.out.alloc B1.out.size _⟩
set_option maxHeartbeats 4000000 in
theorem specQueryX (e : Eng) (key : ByteArray) (x y : Int) (v : Value) (w : World) (B : Nat) (hv : EngV w B v e) (hs : EShort e) (hB : B ≤ w.heap.size) :
    Calls Tryz.prog 14 #[v, .string key, .int .i64 x, .int .i64 y] w fun b w' => (∃ u, b = .returned u ∧ Owns w' w.heap.size 56 2 u (ptR (queryX e key x y))) ∧ Below w.heap.size w w' := by
  obtain ⟨vc, vf, rfl, hc, hl⟩ := hv
  unfold vE
  obtain ⟨Ac, cc, rfl, _⟩ := hc.look
  obtain ⟨A, cap, rfl, _⟩ := st_look hl
  have HV : Hid (EngV w B (vE e.floor (.slice Ac e.cache.length cc) (.slice A e.files.length cap)) e) := ⟨_, _, rfl, hc, hl⟩
  have HC : Hid (SerV w B (.slice Ac e.cache.length cc) e.cache) := hc
  have HB : Hid (B ≤ w.heap.size) := hB
  have HSh : Hid (EShort e) := hs
  obtain ⟨X0, hX0⟩ : ∃ X0, X0 = w.alloc (.cells #[.int .i64 e.floor, .slice Ac e.cache.length cc, .slice A e.files.length cap] 30) := ⟨_, rfl⟩
  have BX : Hid (Below w.heap.size w X0) := by unfold Hid; rw [hX0]; exact (Below.refl _ w).alloc (Nat.le_refl _) _
  have KX : Hid (Blk X0 w.heap.size #[.int .i64 e.floor, .slice Ac e.cache.length cc, .slice A e.files.length cap] 30) := by unfold Hid; rw [hX0]; exact Blk.new w _ _
  have ZB : Hid (B ≤ X0.heap.size) := Nat.le_trans hB BX.out.size
  by_cases hok : EOk e
  · have c1 := specEngineOk e _ X0 B (HV.out.on (BX.out.mono hB)) hs ZB.out
    rw [decide_eq_true hok] at c1
    unfold vE at c1
    have k0 := KX.out.cell 0 _ rfl
    have k1 := KX.out.cell 1 _ rfl
    have k2 := KX.out.cell 2 _ rfl
    have HOk : Hid (EOk e) := hok
    clear hc hl hB hs hok
    go_enter Tryz.func14, Tryz.ntmps14
    go_wp2_with fail
    rw [← hX0]
    clear hX0
    refine c1.mono ?_
    rintro b X1 ⟨rfl, hb1⟩
    have K1 := KX.out.on hb1 KX.out.lt
    have HK1 : Hid (Blk X1 w.heap.size #[.int .i64 e.floor, .slice Ac e.cache.length cc, .slice A e.files.length cap] 30) := K1
    have m0 := K1.cell 0 _ rfl
    have m1 := K1.cell 1 _ rfl
    have m2 := K1.cell 2 _ rfl
    have B1 : Hid (Below w.heap.size w X1) := BX.out.trans (hb1.mono BX.out.size)
    have c4 := specLayers e _ X1 B (HV.out.on (B1.out.mono HB.out)) (by have := HOk.out.1.2.1; omega) HSh.out.2.2.2 (Nat.le_trans HB.out B1.out.size)
    unfold vE at c4
    clear hb1 c1 K1 k0 k1 k2
    go_wp2_with fail
    refine c4.mono ?_
    rintro b X3 ⟨⟨u, ok, rfl, hA⟩, hb3⟩
    have K3 := HK1.out.on hb3 HK1.out.lt
    have p0 := K3.cell 0 _ rfl
    have B3 : Hid (Below w.heap.size w X3) := B1.out.trans (hb3.mono B1.out.size)
    obtain ⟨rfl, hF, hLv⟩ : ok = true ∧ (∀ s ∈ e.files, isF s) ∧ LayV X3 X3.heap.size u (lays e) := by
      rcases hA with h | ⟨_, s, hsm, hsn⟩
      · exact h
      · exact absurd (HOk.out.2.1 s hsm) hsn
    have HLok : Hid (LOk (lays e)) := lays_ok (by have := HOk.out.1.2.1; omega) HOk.out.1.2.2.1.col hF
    clear hA hb3 c4 m0 m1 m2 K3
    have c5 := specHas (lays e) e.floor key u X3 X3.heap.size hLv HLok.out.1 (Nat.le_refl _)
    rw [HLok.out.filter] at c5
    obtain ⟨Au, cu, rfl, _⟩ := hLv.look
    clear hF hLv
    go_wp2_with fail
    refine c5.mono ?_
    rintro b X4 ⟨⟨u4, rfl, hO⟩, hb4⟩
    have B4 : Hid (Below w.heap.size w X4) := B3.out.trans (hb4.mono B3.out.size)
    have c6 := specSliceL (has (lays e) e.floor key) x y u4 X4 X4.heap.size hO.lies (by have := HLok.out.has_len e.floor key; omega) (Nat.le_refl _)
    obtain ⟨A4, n4, c4, rfl⟩ := hO.shape
    clear hO hb4 c5
    go_wp2_with fail
    refine c6.mono ?_
    rintro b X5 ⟨⟨u5, rfl, hO⟩, hb5⟩
    have B5 : Hid (Below w.heap.size w X5) := B4.out.trans (hb5.mono B4.out.size)
    have O5 : Hid (Owns X5 w.heap.size 56 2 u5 (ptR (queryX e key x y))) := by unfold Hid queryX; rw [if_pos HOk.out]; exact hO.mono B4.out.size
    clear hO hb5 c6
    go_wp2_with fail
    go_ret
    exact ⟨⟨_, rfl, O5.out⟩, B5.out⟩
  · have c1 := specEngineOk e _ X0 B (HV.out.on (BX.out.mono hB)) hs ZB.out
    rw [decide_eq_false hok] at c1
    unfold vE at c1
    have k0 := KX.out.cell 0 _ rfl
    have k1 := KX.out.cell 1 _ rfl
    have k2 := KX.out.cell 2 _ rfl
    have HNo : Hid (¬ EOk e) := hok
    clear hc hl hB hs hok
    go_enter Tryz.func14, Tryz.ntmps14
    go_wp2_with fail
    rw [← hX0]
    clear hX0
    refine c1.mono ?_
    rintro b X1 ⟨rfl, hb1⟩
    have B1 : Hid (Below w.heap.size w X1) := BX.out.trans (hb1.mono BX.out.size)
    clear hb1 c1 k0 k1 k2
    go_wp2_with fail
    go_ret
    refine ⟨⟨_, rfl, ?_⟩, B1.out.alloc B1.out.size _⟩
    unfold queryX
    rw [if_neg HNo.out]
    exact Owns.empty X1 w.heap.size 56 2 B1.out.size
end Go.Proofs.YtpmgndgkmffcnaaGreatDoor

namespace Go.Proofs.YtpmgndgkmffcnaaGreatDoor
open Go.ChangeShapes Go.WideShapes Go.ChangeAt Go.RowKit Go.PlainAid
set_option linter.unusedVariables false

set_option maxHeartbeats 8000000 in
theorem law_fnExactPlain (e : Eng) (v : Value) (w : World) (hv : EngV w w.heap.size v e) (hf : EFits e) (hst : SumTab w) (a0 a1 a2 : Addr) (he : Errs w a0 a1 a2) :
    Calls Tryz.prog 5 #[v] w fun b w' => b = .returned (.bool true) ∧ Below w.heap.size w w' := by
  obtain ⟨vc, vf, rfl, hc, hl⟩ := hv
  unfold vE
  obtain ⟨Ac, cc, rfl, _⟩ := hc.look
  obtain ⟨A, cap, rfl, _⟩ := st_look hl
  have HV : Hid (EngV w w.heap.size (vE e.floor (.slice Ac e.cache.length cc) (.slice A e.files.length cap)) e) := ⟨_, _, rfl, hc, hl⟩
  have ST : Hid (SumTab w) := hst
  have ER : Hid (Errs w a0 a1 a2) := he
  obtain ⟨X0, hX0⟩ : ∃ X0, X0 = w.alloc (.cells #[.int .i64 e.floor, .slice Ac e.cache.length cc, .slice A e.files.length cap] 25) := ⟨_, rfl⟩
  have BX : Hid (Below w.heap.size w X0) := by unfold Hid; rw [hX0]; exact (Below.refl _ w).alloc (Nat.le_refl _) _
  have KX : Hid (Blk X0 w.heap.size #[.int .i64 e.floor, .slice Ac e.cache.length cc, .slice A e.files.length cap] 25) := by unfold Hid; rw [hX0]; exact Blk.new w _ _
  have cz := szEngine e _ 1048576 X0 w.heap.size (HV.out.on BX.out) hf (by omega) (by omega) BX.out.size
  unfold vE at cz
  have k0 := KX.out.cell 0 _ rfl
  have k1 := KX.out.cell 1 _ rfl
  have k2 := KX.out.cell 2 _ rfl
  clear hc hl hf hst he
  generalize hfl : e.floor = f at *
  have HFl : Hid (e.floor = f) := hfl
  clear hfl
  generalize e.cache.length = nc at *
  generalize e.files.length = nf at *
  go_enter Tryz.func5, Tryz.ntmps5
  go_wp2_with fail
  rw [← hX0]
  clear hX0
  refine cz.mono ?_
  rintro b X1 ⟨r, rfl, HR, hb1⟩
  have B1 : Hid (Below w.heap.size w X1) := BX.out.trans (hb1.mono BX.out.size)
  have K1 : Hid (Blk X1 w.heap.size #[.int .i64 f, .slice Ac nc cc, .slice A nf cap] 25) := KX.out.on hb1 KX.out.lt
  clear hb1 cz k0 k1 k2
  rcases HR.out with rfl | ⟨hr0, hr1⟩
  · go_wp2_with fail
    go_ret
    exact ⟨rfl, B1.out⟩
  have hq : decide (r < 0) = false := decide_eq_false (by omega)
  have HWt : Hid (wtE e ≤ 1048576) := by unfold Hid; omega
  have HSh : Hid (EShort e) := EFits.short HWt.out (Nat.le_refl _)
  have k0 := K1.out.cell 0 _ rfl
  have k1 := K1.out.cell 1 _ rfl
  have k2 := K1.out.cell 2 _ rfl
  have c1 := toEngine e _ X1 w.heap.size (HV.out.on B1.out) HSh.out B1.out.size
  unfold vE at c1
  clear hr1
  go_wp2_with fail
  refine c1.mono ?_
  rintro b X2 ⟨⟨u2, rfl, hE2⟩, hb2⟩
  have c2 := specPlainX e u2 X2 X2.heap.size hE2.view HSh.out (Nat.le_refl _)
  have B2 : Hid (Below w.heap.size w X2) := B1.out.trans (hb2.mono B1.out.size)
  have K2 : Hid (Blk X2 w.heap.size #[.int .i64 f, .slice Ac nc cc, .slice A nf cap] 25) := K1.out.on hb2 K1.out.lt
  obtain ⟨vc2, vf2, L2, ev2, _⟩ := hE2
  unfold vE at ev2
  subst ev2
  clear hb2 c1 k0 k1 k2 K1 KX
  go_wp2_with fail
  refine c2.mono ?_
  rintro b X3 ⟨⟨u3, L3, rfl, hL3, hS3⟩, hb3⟩
  have W3 : Hid (SerV X3 X3.heap.size u3 (plainX e)) := by unfold Hid; rw [← hL3]; exact hS3.view
  obtain ⟨A3, n3, c3, rfl⟩ := hS3.1.shape
  have B3 : Hid (Below w.heap.size w X3) := B2.out.trans (hb3.mono B2.out.size)
  have K3 : Hid (Blk X3 w.heap.size #[.int .i64 f, .slice Ac nc cc, .slice A nf cap] 25) := K2.out.on hb3 K2.out.lt
  clear hb3 c2 K2
  have k0 := K3.out.cell 0 _ rfl
  have k1 := K3.out.cell 1 _ rfl
  have k2 := K3.out.cell 2 _ rfl
  have c1 := toEngine e _ X3 w.heap.size (HV.out.on B3.out) HSh.out B3.out.size
  unfold vE at c1
  go_wp2_with fail
  refine c1.mono ?_
  rintro b X4 ⟨⟨u4, rfl, hE4⟩, hb4⟩
  have C4 : Hid (Below X3.heap.size X3 X4) := hb4
  have HE4 : Hid (EngO X4 X3.heap.size u4 e) := hE4
  obtain ⟨vc4, vf4, L4, ev4, hL4, hS4, hT4⟩ := hE4
  obtain ⟨Ax, nx, cx, rfl⟩ := hS4.1.shape
  obtain ⟨Ay, ny, cy, rfl⟩ := (strs_owns hT4).shape
  unfold vE at ev4
  subst ev4
  have HFe := HFl.out
  rw [HFe] at HE4 ⊢
  have HL4 : Hid (L4.map Prod.fst = e.cache) := hL4
  have S4 : Hid (SerO X4 X3.heap.size (.slice Ax nx cx) L4) := hS4
  have T4 : Hid (Strs X4 X3.heap.size (.slice Ay ny cy) e.files) := hT4
  clear hb4 c1 k0 k1 k2 HFe hL4 hS4 hT4
  obtain ⟨X5, hX5⟩ : ∃ X5, X5 = X4.alloc (.cells #[.int .i64 f, .slice Ax nx cx, .slice Ay ny cy] 30) := ⟨_, rfl⟩
  have KB : Hid (Blk X5 X4.heap.size #[.int .i64 f, .slice Ax nx cx, .slice Ay ny cy] 30) := by unfold Hid; rw [hX5]; exact Blk.new X4 _ _
  have C5 : Hid (Below X3.heap.size X3 X5) := by unfold Hid; rw [hX5]; exact C4.out.alloc C4.out.size _
  have D5 : Hid (Below X4.heap.size X4 X5) := by unfold Hid; rw [hX5]; exact (Below.refl _ X4).alloc (Nat.le_refl _) _
  have B5 : Hid (Below w.heap.size w X5) := B3.out.trans (C5.out.mono B3.out.size)
  have E5 : Hid (EngO X5 X3.heap.size (.agg #[.int .i64 f, .slice Ax nx cx, .slice Ay ny cy]) e) := HE4.out.on D5.out
  have c2 := implPlainX e _ X5 X5.heap.size E5.out.view HSh.out (Nat.le_refl _) (ST.out.on B5.out) a0 a1 a2 (ER.out.on B5.out)
  have kb0 := KB.out.cell 0 _ rfl
  have kb1 := KB.out.cell 1 _ rfl
  have kb2 := KB.out.cell 2 _ rfl
  rw [hX5] at kb0 kb1 kb2
  go_wp2_with fail
  rw [← hX5]
  clear hX5 kb0 kb1 kb2
  refine c2.mono ?_
  rintro b X6 ⟨⟨u6, L6, rfl, hL6, hS6⟩, hb6⟩
  have G6 : Hid (SerO X6 X5.heap.size u6 L6) := hS6
  have HL6 : Hid (L6.map Prod.fst = plainX e) := hL6
  obtain ⟨A6, n6, c6, rfl⟩ := hS6.1.shape
  clear hL6 hS6
  have C6 : Hid (Below X3.heap.size X3 X6) := C5.out.trans (hb6.mono C5.out.size)
  have D6 : Hid (Below X5.heap.size X5 X6) := hb6
  clear hb6 c2
  have HPs : Hid (SShort (plainX e)) := ⟨by have := (plainX_few e).1; omega, fun x hx => by have := (plainX_few e).2 x hx; omega⟩
  have HFew : Hid (L6.length ≤ 5 ∧ ∀ q ∈ L6, q.1.pts.length ≤ 60) := by
    have h1 := congrArg List.length HL6.out
    rw [List.length_map] at h1
    refine ⟨by rw [h1]; exact (plainX_few e).1, fun q hq => (plainX_few e).2 q.1 ?_⟩
    rw [← HL6.out]
    exact List.mem_map_of_mem hq
  have ce := eqSeriesS (plainX e) (.slice A6 n6 c6) (.slice A3 n3 c3) X6 X6.heap.size (by rw [← HL6.out]; exact G6.out.view) ((W3.out.on C6.out).mono C6.out.size) HPs.out (Nat.le_refl _)
  go_wp2_with fail
  refine ce.mono ?_
  rintro b X7 ⟨rfl, he7⟩
  have C7 : Hid (Below X3.heap.size X3 X7) := C6.out.trans (he7.mono C6.out.size)
  have D7 : Hid (Below X5.heap.size X5 X7) := D6.out.trans (he7.mono D6.out.size)
  have G7 : Hid (SerO X7 X5.heap.size (.slice A6 n6 c6) L6) := G6.out.on he7
  clear he7 ce
  go_wp2_with fail
  refine wp_region_until (fun w' => (w'.cell? ⟨X4.heap.size, 0, none⟩ = some (.int .i64 f) ∧ w'.cell? ⟨X4.heap.size, 1, none⟩ = some (.slice Ax nx cx) ∧ w'.cell? ⟨X4.heap.size, 2, none⟩ = some (.slice Ay ny cy)) ∧ w'.cell? ⟨w.heap.size, 0, none⟩ = some (.int .i64 f) ∧ w'.cell? ⟨w.heap.size, 1, none⟩ = some (.slice Ac nc cc) ∧ w'.cell? ⟨w.heap.size, 2, none⟩ = some (.slice A nf cap)) (fun _ => false) 5 (by rfl) (by kernel_rfl) ?_
  have hbd : Below X7.heap.size X7 X7.drew := (Below.refl _ _).drew
  generalize X7.drew = XD at *
  have CD : Hid (Below X3.heap.size X3 XD) := C7.out.trans (hbd.mono C7.out.size)
  have FD : Hid (Below X7.heap.size X7 XD) := hbd
  have DD : Hid (Below X5.heap.size X5 XD) := D7.out.trans (hbd.mono D7.out.size)
  have BD : Hid (Below w.heap.size w XD) := B3.out.trans (CD.out.mono B3.out.size)
  have KBa : Hid (Blk XD X4.heap.size #[.int .i64 f, .slice Ax nx cx, .slice Ay ny cy] 30) := KB.out.on DD.out KB.out.lt
  have KAa : Hid (Blk XD w.heap.size #[.int .i64 f, .slice Ac nc cc, .slice A nf cap] 25) := K3.out.on CD.out K3.out.lt
  have S0 : Hid ((fun w' => (w'.cell? ⟨X4.heap.size, 0, none⟩ = some (.int .i64 f) ∧ w'.cell? ⟨X4.heap.size, 1, none⟩ = some (.slice Ax nx cx) ∧ w'.cell? ⟨X4.heap.size, 2, none⟩ = some (.slice Ay ny cy)) ∧ w'.cell? ⟨w.heap.size, 0, none⟩ = some (.int .i64 f) ∧ w'.cell? ⟨w.heap.size, 1, none⟩ = some (.slice Ac nc cc) ∧ w'.cell? ⟨w.heap.size, 2, none⟩ = some (.slice A nf cap)) XD) := ⟨⟨KBa.out.cell 0 _ rfl, KBa.out.cell 1 _ rfl, KBa.out.cell 2 _ rfl⟩, KAa.out.cell 0 _ rfl, KAa.out.cell 1 _ rfl, KAa.out.cell 2 _ rfl⟩
  have ct := toEngine e _ XD w.heap.size (HV.out.on BD.out) HSh.out BD.out.size
  unfold vE at ct
  clear hbd
  refine until_take 0 (v := ?_) (by rfl) (by kernel_rfl) (by exact fun _ _ _ h => h) (by rfl) ?_ S0.out ?_
  rotate_left
  · intro w hSw
    try dsimp only at hSw
    go_simp
    try with_reducible rfl
  try simp only [Act.put, List.setIfInBounds_toArray, List.set_cons_zero, List.set_cons_succ]
  refine until_take 1 (v := ?_) (by rfl) (by kernel_rfl) (by exact fun _ _ _ h => h) (by rfl) ?_ S0.out ?_
  rotate_left
  · intro w hSw
    try dsimp only at hSw
    go_simp
    try with_reducible rfl
  try simp only [Act.put, List.setIfInBounds_toArray, List.set_cons_zero, List.set_cons_succ]
  refine until_one 2 (by rfl) (by kernel_rfl) (fun K hK => ?_)
  go_simp
  refine ct.mono ?_
  rintro b X7m ⟨⟨u7m, rfl, hE7m⟩, hb7m⟩
  have C7m : Hid (Below X3.heap.size X3 X7m) := CD.out.trans (hb7m.mono CD.out.size)
  have D7m : Hid (Below X5.heap.size X5 X7m) := DD.out.trans (hb7m.mono DD.out.size)
  have F7m : Hid (Below X7.heap.size X7 X7m) := FD.out.trans (hb7m.mono FD.out.size)
  have KBb : Hid (Blk X7m X4.heap.size #[.int .i64 f, .slice Ax nx cx, .slice Ay ny cy] 30) := KB.out.on D7m.out KB.out.lt
  have KAb : Hid (Blk X7m w.heap.size #[.int .i64 f, .slice Ac nc cc, .slice A nf cap] 25) := K3.out.on C7m.out K3.out.lt
  have cq := eqEngine e (.agg #[.int .i64 f, .slice Ax nx cx, .slice Ay ny cy]) u7m X3.heap.size XD.heap.size X7m (E5.out.on D7m.out) hE7m HSh.out
  clear hb7m ct S0 KBa KAa
  obtain ⟨vc7m, vf7m, L7m, ev7m, _⟩ := hE7m
  unfold vE at ev7m
  subst ev7m
  go_wp2_with fail
  refine hK.out _ _ (fun _ _ => ⟨⟨KBb.out.cell 0 _ rfl, KBb.out.cell 1 _ rfl, KBb.out.cell 2 _ rfl⟩, KAb.out.cell 0 _ rfl, KAb.out.cell 1 _ rfl, KAb.out.cell 2 _ rfl⟩) ?_
  clear hK K
  try simp only [Act.put, List.setIfInBounds_toArray, List.set_cons_zero, List.set_cons_succ]
  refine until_one 3 (by rfl) (by kernel_rfl) (fun K hK => ?_)
  go_simp
  refine cq.mono ?_
  rintro b X8 ⟨rfl, hb8⟩
  have C8 : Hid (Below X3.heap.size X3 X8) := C7m.out.trans (hb8.mono C7m.out.size)
  have D8 : Hid (Below X5.heap.size X5 X8) := D7m.out.trans (hb8.mono D7m.out.size)
  have F8 : Hid (Below X7.heap.size X7 X8) := F7m.out.trans (hb8.mono F7m.out.size)
  have KBc : Hid (Blk X8 X4.heap.size #[.int .i64 f, .slice Ax nx cx, .slice Ay ny cy] 30) := KB.out.on D8.out KB.out.lt
  have KAc : Hid (Blk X8 w.heap.size #[.int .i64 f, .slice Ac nc cc, .slice A nf cap] 25) := K3.out.on C8.out K3.out.lt
  clear hb8 cq KBb KAb
  go_wp2_with fail
  refine hK.out _ _ (fun _ _ => ⟨⟨KBc.out.cell 0 _ rfl, KBc.out.cell 1 _ rfl, KBc.out.cell 2 _ rfl⟩, KAc.out.cell 0 _ rfl, KAc.out.cell 1 _ rfl, KAc.out.cell 2 _ rfl⟩) ?_
  clear hK K
  try simp only [Act.put, List.setIfInBounds_toArray, List.set_cons_zero, List.set_cons_succ]
  refine until_pure 4 (v := ?_) (by rfl) (by kernel_rfl) (by exact fun _ _ _ h => h) (by rfl) ?_ ?_
  rotate_left
  · intro w
    go_simp
    try with_reducible rfl
  try simp only [Act.put, List.setIfInBounds_toArray, List.set_cons_zero, List.set_cons_succ]
  refine until_done (by kernel_rfl) ?_ _
  clear KBc KAc C7m D7m CD DD BD FD F7m
  have G8 : Hid (SerO X8 X5.heap.size (.slice A6 n6 c6) L6) := G7.out.on F8.out
  have KB8 : Hid (Blk X8 X4.heap.size #[.int .i64 f, .slice Ax nx cx, .slice Ay ny cy] 30) := KB.out.on D8.out KB.out.lt
  have kb0 := KB8.out.cell 0 _ rfl
  have kb1 := KB8.out.cell 1 _ rfl
  have kb2 := KB8.out.cell 2 _ rfl
  have D48 : Hid (Below X4.heap.size X4 X8) := D5.out.trans (D8.out.mono D5.out.size)
  have cm := markEngine e (.agg #[.int .i64 f, .slice Ax nx cx, .slice Ay ny cy]) (.slice Ax nx cx) (.slice Ay ny cy) L4 X3.heap.size 1 X8 (by rw [HFl.out]; rfl) HL4.out (S4.out.on D48.out) (T4.out.on D48.out) (by omega) (by omega) HWt.out C8.out.size
  have HNb : Hid (∀ b, X5.heap.size ≤ b → NotE (.slice Ax nx cx) (.slice Ay ny cy) L4 b) := fun b hb => by
    have hz := KB.out.lt
    refine ⟨fun h => ?_, fun j hj h => ?_, fun h => ?_⟩
    · have := (S4.out.1.lt b h).2; omega
    · have := ((S4.out.2.1 _ (getD_mem L4 j hj)).lt b h).2; omega
    · have := ((strs_owns T4.out).lt b h).2; omega
  generalize hkx : kAt 1 L4 L4.length + e.files.length = kx at *
  have dkx : decide ((kx : Int) < 0) = false := decide_eq_false (by omega)
  clear hkx
  go_wp2_with fail
  refine cm.mono ?_
  rintro b X9 ⟨rfl, _, hb9, hk9⟩
  have C9 : Hid (Below X3.heap.size X3 X9) := C8.out.trans hb9
  have HZ9 : Hid (X8.heap.size ≤ X9.heap.size) := hb9.size
  have G9 : Hid (SerO X9 X5.heap.size (.slice A6 n6 c6) L6) := ⟨G8.out.1.kept fun g hg hv => hk9 g hg (HNb.out g (G8.out.1.lt g hv).1), fun p hp => (G8.out.2.1 p hp).kept fun g hg hv => hk9 g hg (HNb.out g ((G8.out.2.1 p hp).lt g hv).1), G8.out.2.2⟩
  clear hb9 hk9 cm kb0 kb1 kb2 KB8 D48
  have ce := eqSeriesS (plainX e) (.slice A6 n6 c6) (.slice A3 n3 c3) X9 X9.heap.size (by rw [← HL6.out]; exact G9.out.view) ((W3.out.on C9.out).mono C9.out.size) HPs.out (Nat.le_refl _)
  go_wp2_with fail
  refine ce.mono ?_
  rintro b X10 ⟨rfl, he10⟩
  have C10 : Hid (Below X3.heap.size X3 X10) := C9.out.trans (he10.mono C9.out.size)
  have HZ : Hid (X8.heap.size ≤ X10.heap.size) := Nat.le_trans HZ9.out he10.size
  have G10 := G9.out.on he10
  clear he10 ce
  have cm := markSeriesS 1 X5.heap.size (.slice A6 n6 c6) L6 X10 G10 HFew.out.1 HFew.out.2 (by omega) (by omega) (Nat.le_trans D8.out.size HZ.out)
  have cH := fun wx (h : SMk wx X5.heap.size 1 (.slice A6 n6 c6) L6) => heldSeriesS 1 X5.heap.size (.slice A6 n6 c6) L6 wx h HFew.out.1 HFew.out.2 (by omega) (by omega)
  generalize hkk : kAt 1 L6 L6.length = kk at *
  have dk : decide ((kk : Int) < 0) = false := decide_eq_false (by omega)
  clear hkk G10
  go_wp2_with fail
  refine cm.mono ?_
  rintro b X11 ⟨rfl, hM, hb11⟩
  have M11 : Hid (SMk X11 X5.heap.size 1 (.slice A6 n6 c6) L6) := hM
  clear hM
  have C11 : Hid (Below X3.heap.size X3 X11) := C10.out.trans (hb11.mono C5.out.size)
  clear hb11 cm
  go_wp2_with fail
  refine (cH _ M11.out).mono ?_
  rintro b X12 ⟨rfl, hb12⟩
  have C12 : Hid (Below X3.heap.size X3 X12) := C11.out.trans (hb12.mono C11.out.size)
  have M12 := M11.out.on hb12
  clear hb12
  have KA : Hid (Blk X12 w.heap.size #[.int .i64 f, .slice Ac nc cc, .slice A nf cap] 25) := K3.out.on C12.out K3.out.lt
  have B12 : Hid (Below w.heap.size w X12) := B3.out.trans (C12.out.mono B3.out.size)
  have k0 := KA.out.cell 0 _ rfl
  have k1 := KA.out.cell 1 _ rfl
  have k2 := KA.out.cell 2 _ rfl
  have c1 := toEngine e _ X12 w.heap.size (HV.out.on B12.out) HSh.out B12.out.size
  unfold vE at c1
  go_wp2_with fail
  refine c1.mono ?_
  rintro b X13 ⟨⟨u13, rfl, hE13⟩, hb13⟩
  have C13 : Hid (Below X3.heap.size X3 X13) := C12.out.trans (hb13.mono C12.out.size)
  have B13 : Hid (Below w.heap.size w X13) := B3.out.trans (C13.out.mono B3.out.size)
  have M13 := M12.on hb13
  have c2 := implPlainX e u13 X13 X13.heap.size hE13.view HSh.out (Nat.le_refl _) (ST.out.on B13.out) a0 a1 a2 (ER.out.on B13.out)
  obtain ⟨vc13, vf13, L13, ev13, _⟩ := hE13
  unfold vE at ev13
  subst ev13
  clear hb13 c1 k0 k1 k2 KA M12
  go_wp2_with fail
  refine c2.mono ?_
  rintro b X14 ⟨⟨u14, L14, rfl, hL14, hS14⟩, hb14⟩
  have C14 : Hid (Below X3.heap.size X3 X14) := C13.out.trans (hb14.mono C13.out.size)
  have M14 := M13.on hb14
  have ce := eqSeriesS (plainX e) u14 (.slice A3 n3 c3) X14 X14.heap.size (by rw [← hL14]; exact hS14.view) ((W3.out.on C14.out).mono C14.out.size) HPs.out (Nat.le_refl _)
  obtain ⟨A14, n14, c14, rfl⟩ := hS14.1.shape
  clear hL14 hS14 hb14 c2 M13
  go_wp2_with fail
  refine ce.mono ?_
  rintro b X15 ⟨rfl, hb15⟩
  have C15 : Hid (Below X3.heap.size X3 X15) := C14.out.trans (hb15.mono C14.out.size)
  have M15 := M14.on hb15
  clear hb15 ce M14
  go_wp2_with fail
  refine (cH _ M15).mono ?_
  rintro b X16 ⟨rfl, hb16⟩
  have B16 : Hid (Below w.heap.size w X16) := B3.out.trans ((C15.out.trans (hb16.mono C15.out.size)).mono B3.out.size)
  clear hb16 cH M15
  go_wp2_with fail
  go_ret
  exact ⟨rfl, B16.out⟩
end Go.Proofs.YtpmgndgkmffcnaaGreatDoor
