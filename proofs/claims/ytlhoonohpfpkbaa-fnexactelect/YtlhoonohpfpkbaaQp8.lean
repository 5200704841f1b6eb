/- CoSc -/
import Derived.Test.YtlhoonohpfpkbaaRows
import Derived.Test.YtlhoonohpfpkbaaQp7
import Derived.Test.YtlhoonohpfpkbaaQp6
import Derived.Test.YtlhoonohpfpkbaaQp4
import Derived.Deep.Cut
import Derived.Deep.CutRange
import Derived.Handy
open List (setIfInBounds_toArray set_cons_zero set_cons_succ)
namespace Go.Proofs.Ytlhoonohpfpkbaa
open Go.ChangeShapes Go.WideShapes Go.ChangeAt Go.RowKit Go.PlainAid
set_option linter.unusedVariables false
set_option maxRecDepth 20000 in
set_option maxHeartbeats 16000000 in
theorem countS (ci cp ct cv cr cd cb cbt : Int) (lg : List Ent) (cc : Int) (ys ns ms : List Int) (A0 : Option Addr) (An0 Ac0 : Nat) (A1 : Option Addr) (An1 Ac1 : Nat) (A2 : Option Addr) (An2 Ac2 : Nat) (A3 : Option Addr) (An3 Ac3 : Nat) (w : World) (base0 : Nat) (hr : CoRows w base0 ⟨ci, cp, ct, cv, cr, cd, cb, cbt, lg, cc, ys, ns, ms⟩ (.slice A0 An0 Ac0) (.slice A1 An1 Ac1) (.slice A2 An2 Ac2) (.slice A3 An3 Ac3)) (hso : SendOk ⟨ci, cp, ct, cv, cr, cd, cb, cbt, lg, cc, ys, ns, ms⟩) :
  Calls Try.prog 64 #[.agg #[.int .i64 ci, .int .i64 cp, .int .i64 ct, .int .i64 cv, .int .i64 cr, .int .i64 cd, .int .i64 cb, .int .i64 cbt, .slice A0 An0 Ac0, .int .i64 cc, .slice A1 An1 Ac1, .slice A2 An2 Ac2, .slice A3 An3 Ac3]] w fun e w' => e = .returned (vCo (countX ⟨ci, cp, ct, cv, cr, cd, cb, cbt, lg, cc, ys, ns, ms⟩) (.slice A0 An0 Ac0) (.slice A1 An1 Ac1) (.slice A2 An2 Ac2) (.slice A3 An3 Ac3)) ∧ Below w.heap.size w w' := by
 obtain ⟨n, hn⟩ : ∃ n : Nat, cp = (n : Int) := ⟨cp.toNat, by have := hso.p0; simp only at this; omega⟩
 subst hn
 have hln : An0 = lg.length := by
  obtain ⟨A', c', e⟩ := hr.l.shape
  rw [entR_length] at e
  cases e
  rfl
 have HR := Hid.mk hr
 have hb0 := hso.b0
 have hb1 := hso.b1
 have hn60 := hso.n
 have hcc := hso.c
 have HMn : Hid (ms.length = n) := by have h1 : (ms.length : Int) = (n : Int) := hso.m; unfold Hid; omega
 have HA3 : Hid (An3 = n) := by have h0 : An3 = ms.length := hr.m.len; have h1 := HMn.out; unfold Hid; omega
 have hn5 : n ≤ 5 := by have h1 : (n : Int) ≤ 5 := hso.p1; omega
 unfold cLast at hcc
 simp only at hb0 hb1 hn60 hcc
 rw [← hln] at hn60 hcc
 obtain ⟨K, hK⟩ : ∃ K : Nat, cb + (An0 : Int) - cc = (K : Int) := ⟨(cb + (An0 : Int) - cc).toNat, by omega⟩
 have HFin : Hid (countX ⟨ci, (n : Int), ct, cv, cr, cd, cb, cbt, lg, cc, ys, ns, ms⟩ = { (⟨ci, (n : Int), ct, cv, cr, cd, cb, cbt, lg, cc, ys, ns, ms⟩ : Cor) with commit := cntFrom ⟨ci, (n : Int), ct, cv, cr, cd, cb, cbt, lg, cc, ys, ns, ms⟩ K }) := by
  unfold Hid countX cLast
  simp only
  rw [← hln, show (cb + (An0 : Int) - cc).toNat = K by omega]
 have HYe : Hid (∀ k : Nat, cntAt ⟨ci, (n : Int), ct, cv, cr, cd, cb, cbt, lg, cc, ys, ns, ms⟩ (cc + (k : Int) + 1) = true → cntFrom ⟨ci, (n : Int), ct, cv, cr, cd, cb, cbt, lg, cc, ys, ns, ms⟩ (k + 1) = cc + (k : Int) + 1) := fun k h => cntFrom_yes h
 have HNo : Hid (∀ k : Nat, cntAt ⟨ci, (n : Int), ct, cv, cr, cd, cb, cbt, lg, cc, ys, ns, ms⟩ (cc + (k : Int) + 1) = false → cntFrom ⟨ci, (n : Int), ct, cv, cr, cd, cb, cbt, lg, cc, ys, ns, ms⟩ (k + 1) = cntFrom ⟨ci, (n : Int), ct, cv, cr, cd, cb, cbt, lg, cc, ys, ns, ms⟩ k) := fun k h => cntFrom_no h
 have HC0 : Hid (cntFrom ⟨ci, (n : Int), ct, cv, cr, cd, cb, cbt, lg, cc, ys, ns, ms⟩ 0 = cc) := rfl
 have HAt : Hid (∀ z, cntAt ⟨ci, (n : Int), ct, cv, cr, cd, cb, cbt, lg, cc, ys, ns, ms⟩ z = (decide (termAt ⟨ci, (n : Int), ct, cv, cr, cd, cb, cbt, lg, cc, ys, ns, ms⟩ z = ct) && decide ((n : Int) < 2 * (reachN ms z : Int)))) := fun z => rfl
 have HRn : Hid (∀ j z, reachN (ms.take j) z ≤ 1000) := fun j z => by have := reachN_le (ms.take j) z; have h1 := HMn.out; rw [List.length_take] at this; omega
 have HRyes : Hid (∀ j z, j < ms.length → z ≤ ms.getD j 0 → reachN (ms.take (j + 1)) z = reachN (ms.take j) z + 1) := fun j z h h' => reachN_yes h h'
 have HRno : Hid (∀ j z, j < ms.length → ¬ z ≤ ms.getD j 0 → reachN (ms.take (j + 1)) z = reachN (ms.take j) z) := fun j z h h' => reachN_no h h'
 have HRfin : Hid (∀ z, reachN (ms.take n) z = reachN ms z) := fun z => by rw [← HMn.out, List.take_length]
 have cL := fun wx => lastS ci (n : Int) ct cv cr cd cb cbt cc A0 An0 Ac0 (.slice A1 An1 Ac1) (.slice A2 An2 Ac2) (.slice A3 An3 Ac3) wx (by omega) (by omega) (by omega)
 have cT0 := fun z wx B h (h1 : cb ≤ z) (h2 : z ≤ cb + (An0 : Int)) hB => termS ci (n : Int) ct cv cr cd cb cbt lg cc ys ns ms A0 An0 Ac0 (.slice A1 An1 Ac1) (.slice A2 An2 Ac2) (.slice A3 An3 Ac3) z wx B h (by omega) (by omega) (by omega) h1 (by rw [← hln]; exact h2) hB
 have HKb : Hid (cb ≤ cc ∧ cc + (K : Int) = cb + (An0 : Int) ∧ cb + (An0 : Int) ≤ 100060) := ⟨hcc.1, by omega, by omega⟩
 have hkb1 := HKb.out.1
 have hkb2 := HKb.out.2.2
 have hKK : (K : Int) = cb + (An0 : Int) - cc := hK.symm
 clear hr hso hln hn60 hK
 obtain ⟨X0, hX0⟩ : ∃ X0, X0 = (w.alloc (.cells #[.int .i64 ci, .int .i64 (n : Int), .int .i64 ct, .int .i64 cv, .int .i64 cr, .int .i64 cd, .int .i64 cb, .int .i64 cbt, .slice A0 An0 Ac0, .int .i64 cc, .slice A1 An1 Ac1, .slice A2 An2 Ac2, .slice A3 An3 Ac3] 29)).alloc (.cells #[.int .i64 0, .int .i64 0, .int .i64 0, .int .i64 0, .int .i64 0, .int .i64 0, .int .i64 0, .int .i64 0, .slice none 0 0, .int .i64 0, .slice none 0 0, .slice none 0 0, .slice none 0 0] 29) := ⟨_, rfl⟩
 have B0 : Hid (Below w.heap.size w X0) := by unfold Hid; rw [hX0]; exact ((Below.refl _ w).alloc (Nat.le_refl _) _).alloc (by simp) _
 have K0 : Hid (Blk X0 w.heap.size #[.int .i64 ci, .int .i64 (n : Int), .int .i64 ct, .int .i64 cv, .int .i64 cr, .int .i64 cd, .int .i64 cb, .int .i64 cbt, .slice A0 An0 Ac0, .int .i64 cc, .slice A1 An1 Ac1, .slice A2 An2 Ac2, .slice A3 An3 Ac3] 29) := by unfold Hid; rw [hX0]; exact (Blk.new w _ _).alloc _
 have R0 : Hid (Blk X0 (w.heap.size + 1) #[.int .i64 0, .int .i64 0, .int .i64 0, .int .i64 0, .int .i64 0, .int .i64 0, .int .i64 0, .int .i64 0, .slice none 0 0, .int .i64 0, .slice none 0 0, .slice none 0 0, .slice none 0 0] 29) := by unfold Hid; rw [hX0]; have := Blk.new (w.alloc (.cells #[.int .i64 ci, .int .i64 (n : Int), .int .i64 ct, .int .i64 cv, .int .i64 cr, .int .i64 cd, .int .i64 cb, .int .i64 cbt, .slice A0 An0 Ac0, .int .i64 cc, .slice A1 An1 Ac1, .slice A2 An2 Ac2, .slice A3 An3 Ac3] 29)) #[.int .i64 0, .int .i64 0, .int .i64 0, .int .i64 0, .int .i64 0, .int .i64 0, .int .i64 0, .int .i64 0, .slice none 0 0, .int .i64 0, .slice none 0 0, .slice none 0 0, .slice none 0 0] 29; simp only [World.size_alloc] at this; exact this
 go_enter Try.func64, Try.ntmps64
 go_wp2_with fail
 rw [← hX0]
 clear hX0
 refine (cL X0).mono ?_
 rintro e w1 ⟨rfl, hb1'⟩
 have V1' := Hid.mk hb1'
 clear hb1' cL
 go_wp2_with fail
 go_loopw [3, 4, 5] (fun v3 v4 v5 wr => ∃ k : Nat, k ≤ K ∧ v3 = .int .i64 (cc + (k : Int)) ∧ cntFrom ⟨ci, (n : Int), ct, cv, cr, cd, cb, cbt, lg, cc, ys, ns, ms⟩ K = cntFrom ⟨ci, (n : Int), ct, cv, cr, cd, cb, cbt, lg, cc, ys, ns, ms⟩ k ∧ Below X0.heap.size X0 wr) (fun v _ _ _ => (intOf v - cc).toNat)
 case atStart => exact ⟨K, Nat.le_refl _, by rw [HKb.out.2.1], rfl, V1'.out⟩
 case round =>
  obtain ⟨k, hk, rfl, hF, hB⟩ := hrel
  have HF := Hid.mk hF
  have BR := Hid.mk hB
  have KR := Hid.mk (K0.out.on hB K0.out.lt)
  have k9 := KR.out.cell 9 _ rfl
  clear hF hB
  rcases k with _ | k
  ·have HFx : Hid (countX ⟨ci, (n : Int), ct, cv, cr, cd, cb, cbt, lg, cc, ys, ns, ms⟩ = ⟨ci, (n : Int), ct, cv, cr, cd, cb, cbt, lg, cc, ys, ns, ms⟩) := by unfold Hid; rw [HFin.out, HF.out, HC0.out]
   have BW0 : Hid (Below w.heap.size w wr) := B0.out.trans (BR.out.mono B0.out.size)
   have R3 := Hid.mk (R0.out.on BR.out R0.out.lt)
   have zz : decide (cc < cc + ((0 : Nat) : Int)) = false := decide_eq_false (by omega)
   have zz2 : decide (cc < cc) = false := decide_eq_false (by omega)
   have y0 := KR.out.cell 0 _ rfl
   have y1 := KR.out.cell 1 _ rfl
   have y2 := KR.out.cell 2 _ rfl
   have y3 := KR.out.cell 3 _ rfl
   have y4 := KR.out.cell 4 _ rfl
   have y5 := KR.out.cell 5 _ rfl
   have y6 := KR.out.cell 6 _ rfl
   have y7 := KR.out.cell 7 _ rfl
   have y8 := KR.out.cell 8 _ rfl
   have y9 := KR.out.cell 9 _ rfl
   have y10 := KR.out.cell 10 _ rfl
   have y11 := KR.out.cell 11 _ rfl
   have y12 := KR.out.cell 12 _ rfl
   obtain ⟨⟨r0, g0⟩, ⟨r1, g1⟩, ⟨r2, g2⟩, ⟨r3, g3⟩, ⟨r4, g4⟩, ⟨r5, g5⟩, ⟨r6, g6⟩, ⟨r7, g7⟩, ⟨r8, g8⟩, ⟨r9, g9⟩, ⟨r10, g10⟩, ⟨r11, g11⟩, ⟨r12, g12⟩, z0, z1, z2, z3, z4, z5, z6, z7, z8, z9, z10, z11, z12⟩ := resC13 (x0 := .int .i64 ci) (x1 := .int .i64 (n : Int)) (x2 := .int .i64 ct) (x3 := .int .i64 cv) (x4 := .int .i64 cr) (x5 := .int .i64 cd) (x6 := .int .i64 cb) (x7 := .int .i64 cbt) (x8 := .slice A0 An0 Ac0) (x9 := .int .i64 cc) (x10 := .slice A1 An1 Ac1) (x11 := .slice A2 An2 Ac2) (x12 := .slice A3 An3 Ac3) R3.out
   have FB := Hid.mk (belowC13 BW0.out (show w.heap.size ≤ w.heap.size + 1 by omega) (.int .i64 ci) (.int .i64 (n : Int)) (.int .i64 ct) (.int .i64 cv) (.int .i64 cr) (.int .i64 cd) (.int .i64 cb) (.int .i64 cbt) (.slice A0 An0 Ac0) (.int .i64 cc) (.slice A1 An1 Ac1) (.slice A2 An2 Ac2) (.slice A3 An3 Ac3))
   clear R3 BW0
   go_wp2_with fail
   refine bodyPost_ret (v := .agg #[.int .i64 ci, .int .i64 (n : Int), .int .i64 ct, .int .i64 cv, .int .i64 cr, .int .i64 cd, .int .i64 cb, .int .i64 cbt, .slice A0 An0 Ac0, .int .i64 cc, .slice A1 An1 Ac1, .slice A2 An2 Ac2, .slice A3 An3 Ac3]) (by simp [results, go_sem, z0, z1, z2, z3, z4, z5, z6, z7, z8, z9, z10, z11, z12]) rfl ⟨?_, FB.out⟩
   rw [HFx.out]
   rfl
  ·have hk1 : k + 1 ≤ K := hk
   have zz : decide (cc < cc + (k : Int) + 1) = true := decide_eq_true (by omega)
   have hcst : cc + (((k + 1 : Nat)) : Int) = cc + (k : Int) + 1 := by omega
   rw [hcst]
   have HRl : Hid (Lies wr wr.heap.size 2 (.slice A0 An0 Ac0) (entR lg)) := (HR.out.on (B0.out.trans (BR.out.mono B0.out.size))).l.lies
   have HMw : Hid (Nums wr base0 (.slice A3 An3 Ac3) ms) := (HR.out.on (B0.out.trans (BR.out.mono B0.out.size))).m
   have cT := fun wx (h : Lies wx wr.heap.size 2 (.slice A0 An0 Ac0) (entR lg)) => fun hB => cT0 (cc + (k : Int) + 1) wx wr.heap.size h (by omega) (by omega) hB
   have hat := HAt.out (cc + (k : Int) + 1)
   have HY1 := Hid.mk (HYe.out k)
   have HN1 := Hid.mk (HNo.out k)
   have wk : IntKind.i64.wrap (cc + (k : Int) + 1 - 1) = cc + (k : Int) := by rw [IntKind.wrap_i64]; omega
   have HRa := Hid.mk (fun j => HRn.out j (cc + (k : Int) + 1))
   have HRy := Hid.mk (fun j => HRyes.out j (cc + (k : Int) + 1))
   have HRo := Hid.mk (fun j => HRno.out j (cc + (k : Int) + 1))
   have HRf := HRfin.out (cc + (k : Int) + 1)
   clear cT0 HYe HNo HAt HRn HRyes HRno HRfin
   generalize termAt ⟨ci, (n : Int), ct, cv, cr, cd, cb, cbt, lg, cc, ys, ns, ms⟩ (cc + (k : Int) + 1) = te at *
   have HZ : Hid (cntAt ⟨ci, (n : Int), ct, cv, cr, cd, cb, cbt, lg, cc, ys, ns, ms⟩ (cc + (k : Int) + 1) = cntAt ⟨ci, (n : Int), ct, cv, cr, cd, cb, cbt, lg, cc, ys, ns, ms⟩ (cc + (k : Int) + 1)) := rfl
   generalize cntAt ⟨ci, (n : Int), ct, cv, cr, cd, cb, cbt, lg, cc, ys, ns, ms⟩ (cc + (k : Int) + 1) = ca at *
   obtain ⟨k0, k1, k2, k3, k4, k5, k6, k7, k8, k9, k10, k11, k12⟩ := cellsC13 KR.out
   have hmn : ms.length = n := HMn.out
   go_wp2_with fail
   go_loopw [4, 5] (fun v4 v5 wi => ∃ j : Nat, j ≤ n ∧ v5 = .int .i64 (j : Int) ∧ v4 = .int .i64 (reachN (ms.take j) (cc + (k : Int) + 1) : Int) ∧ wr = wi) (fun _ v _ => n - (intOf v).toNat)
   case atStart => exact ⟨0, by omega, rfl, rfl, rfl⟩
   case round =>
    obtain ⟨j, hj, rfl, rfl, rfl⟩ := hrel
    by_cases hlt : j < n
    ·have q2 : (j : Int) < (n : Int) := by omega
     have q2m : (j : Int) < (An3 : Int) := by rw [HA3.out]; exact q2
     obtain ⟨g3, e3, _, _⟩ := HMw.out.block (by omega)
     subst e3
     have d0 := HMw.out.cell j (by omega)
     have hr := HRa.out j
     by_cases hi : cc + (k : Int) + 1 ≤ ms.getD j 0
     ·have HE := Hid.mk (HRy.out j (by omega) hi)
      generalize ms.getD j 0 = z at *
      have HE2 : Hid (((reachN (ms.take (j + 1)) (cc + (k : Int) + 1) : Nat) : Int) = (reachN (ms.take j) (cc + (k : Int) + 1) : Int) + 1) := by unfold Hid; rw [HE.out]; omega
      generalize reachN (ms.take j) (cc + (k : Int) + 1) = rk at *
      have z1 : decide (cc + (k : Int) + 1 ≤ z) = true := decide_eq_true hi
      have q3 : (rk : Int) ≤ 1000 := by omega
      clear hi hr HE
      go_wp2_with fail
      go_roundw
      case rel => exact ⟨j + 1, by omega, by go_num, by rw [HE2.out], by first | rfl | trivial⟩
      case measure => simp [intOf]; omega
     ·have HE := Hid.mk (HRo.out j (by omega) (by omega))
      generalize ms.getD j 0 = z at *
      have z1 : decide (cc + (k : Int) + 1 ≤ z) = false := decide_eq_false (by omega)
      clear hi hr
      go_wp2_with fail
      go_roundw
      case rel => exact ⟨j + 1, by omega, by go_num, by rw [HE.out], by first | rfl | trivial⟩
      case measure => simp [intOf]; omega
    ·obtain rfl : j = n := by omega
     rw [HRf]
     have hrn := HRa.out j
     rw [HRf] at hrn
     generalize reachN ms (cc + (k : Int) + 1) = rn at *
     have q3 : (rn : Int) ≤ 1000 := by omega
     have w2 : IntKind.i64.wrap (2 * (rn : Int)) = 2 * (rn : Int) := by rw [IntKind.wrap_i64]; omega
     clear hlt hj HRf HRa HRy HRo
     by_cases ht : te = ct
     rotate_left
     ·have z1 : (te == ct) = false := beq_eq_false_iff_ne.2 ht
      rw [decide_eq_false ht, Bool.false_and] at hat
      clear ht
      go_wp2_with fail
      refine wp_region_until (fun w' => w'.cell? ⟨w.heap.size, 0, none⟩ = some (.int .i64 ci) ∧ w'.cell? ⟨w.heap.size, 1, none⟩ = some (.int .i64 (j : Int)) ∧ w'.cell? ⟨w.heap.size, 2, none⟩ = some (.int .i64 ct) ∧ w'.cell? ⟨w.heap.size, 3, none⟩ = some (.int .i64 cv) ∧ w'.cell? ⟨w.heap.size, 4, none⟩ = some (.int .i64 cr) ∧ w'.cell? ⟨w.heap.size, 5, none⟩ = some (.int .i64 cd) ∧ w'.cell? ⟨w.heap.size, 6, none⟩ = some (.int .i64 cb) ∧ w'.cell? ⟨w.heap.size, 7, none⟩ = some (.int .i64 cbt) ∧ w'.cell? ⟨w.heap.size, 8, none⟩ = some (.slice A0 An0 Ac0) ∧ w'.cell? ⟨w.heap.size, 9, none⟩ = some (.int .i64 cc) ∧ w'.cell? ⟨w.heap.size, 10, none⟩ = some (.slice A1 An1 Ac1) ∧ w'.cell? ⟨w.heap.size, 11, none⟩ = some (.slice A2 An2 Ac2) ∧ w'.cell? ⟨w.heap.size, 12, none⟩ = some (.slice A3 An3 Ac3)) (fun _ => false) 13 (by rfl) (by kernel_rfl) ?_
      have V0 : Hid (Below wr.heap.size wr wr.drew) := (Below.refl _ _).drew
      generalize wr.drew = Y0 at *
      have KP0 := Hid.mk (KR.out.on V0.out KR.out.lt)
      have SS0 := Hid.mk (show (fun w' => w'.cell? ⟨w.heap.size, 0, none⟩ = some (.int .i64 ci) ∧ w'.cell? ⟨w.heap.size, 1, none⟩ = some (.int .i64 (j : Int)) ∧ w'.cell? ⟨w.heap.size, 2, none⟩ = some (.int .i64 ct) ∧ w'.cell? ⟨w.heap.size, 3, none⟩ = some (.int .i64 cv) ∧ w'.cell? ⟨w.heap.size, 4, none⟩ = some (.int .i64 cr) ∧ w'.cell? ⟨w.heap.size, 5, none⟩ = some (.int .i64 cd) ∧ w'.cell? ⟨w.heap.size, 6, none⟩ = some (.int .i64 cb) ∧ w'.cell? ⟨w.heap.size, 7, none⟩ = some (.int .i64 cbt) ∧ w'.cell? ⟨w.heap.size, 8, none⟩ = some (.slice A0 An0 Ac0) ∧ w'.cell? ⟨w.heap.size, 9, none⟩ = some (.int .i64 cc) ∧ w'.cell? ⟨w.heap.size, 10, none⟩ = some (.slice A1 An1 Ac1) ∧ w'.cell? ⟨w.heap.size, 11, none⟩ = some (.slice A2 An2 Ac2) ∧ w'.cell? ⟨w.heap.size, 12, none⟩ = some (.slice A3 An3 Ac3)) Y0 from ⟨KP0.out.cell 0 _ rfl, KP0.out.cell 1 _ rfl, KP0.out.cell 2 _ rfl, KP0.out.cell 3 _ rfl, KP0.out.cell 4 _ rfl, KP0.out.cell 5 _ rfl, KP0.out.cell 6 _ rfl, KP0.out.cell 7 _ rfl, KP0.out.cell 8 _ rfl, KP0.out.cell 9 _ rfl, KP0.out.cell 10 _ rfl, KP0.out.cell 11 _ rfl, KP0.out.cell 12 _ rfl⟩)
      refine tF 0 SS0.out ?_
      refine pF 1 ?_
      refine tF 3 SS0.out ?_
      refine tF 4 SS0.out ?_
      refine uNe 2 (fun K hK => ?_)
      go_simp
      refine (cT Y0 (HRl.out.on V0.out) V0.out.size).mono ?_
      rintro e Y1 ⟨rfl, hb⟩
      have V1 : Hid (Below wr.heap.size wr Y1) := V0.out.trans (hb.mono V0.out.size)
      have KP1 := Hid.mk (KR.out.on V1.out KR.out.lt)
      clear hb
      refine hK.out _ _ (fun _ _ => ⟨KP1.out.cell 0 _ rfl, KP1.out.cell 1 _ rfl, KP1.out.cell 2 _ rfl, KP1.out.cell 3 _ rfl, KP1.out.cell 4 _ rfl, KP1.out.cell 5 _ rfl, KP1.out.cell 6 _ rfl, KP1.out.cell 7 _ rfl, KP1.out.cell 8 _ rfl, KP1.out.cell 9 _ rfl, KP1.out.cell 10 _ rfl, KP1.out.cell 11 _ rfl, KP1.out.cell 12 _ rfl⟩) ?_
      clear hK K
      try simp only [Act.put, zQ1, zQ2, zQ3]
      refine pF 5 ?_
      refine pF 6 ?_
      refine sF 7 ?_
      refine sF 8 ?_
      refine sF 9 ?_
      refine sF 10 ?_
      refine sF 11 ?_
      refine pF 12 ?_
      refine until_done (by kernel_rfl) ?_ _
      have HF2 : Hid (cntFrom ⟨ci, (j : Int), ct, cv, cr, cd, cb, cbt, lg, cc, ys, ns, ms⟩ K = cntFrom ⟨ci, (j : Int), ct, cv, cr, cd, cb, cbt, lg, cc, ys, ns, ms⟩ k) := by unfold Hid; rw [HF.out]; exact HN1.out hat
      have BF : Hid (Below X0.heap.size X0 Y1) := BR.out.trans (V1.out.mono BR.out.size)
      clear hat
      try go_wp2_with fail
      go_roundw
      case rel => exact ⟨k, by omega, rfl, HF2.out, BF.out⟩
      case measure => simp [intOf]; omega
     have z1 : (te == ct) = true := beq_iff_eq.2 ht
     rw [decide_eq_true ht, Bool.true_and] at hat
     clear ht
     by_cases hp2 : (j : Int) < 2 * (rn : Int)
     rotate_left
     ·have z2 : decide ((j : Int) < 2 * (rn : Int)) = false := decide_eq_false hp2
      rw [z2] at hat
      clear hp2
      go_wp2_with fail
      refine wp_region_until (fun w' => w'.cell? ⟨w.heap.size, 0, none⟩ = some (.int .i64 ci) ∧ w'.cell? ⟨w.heap.size, 1, none⟩ = some (.int .i64 (j : Int)) ∧ w'.cell? ⟨w.heap.size, 2, none⟩ = some (.int .i64 ct) ∧ w'.cell? ⟨w.heap.size, 3, none⟩ = some (.int .i64 cv) ∧ w'.cell? ⟨w.heap.size, 4, none⟩ = some (.int .i64 cr) ∧ w'.cell? ⟨w.heap.size, 5, none⟩ = some (.int .i64 cd) ∧ w'.cell? ⟨w.heap.size, 6, none⟩ = some (.int .i64 cb) ∧ w'.cell? ⟨w.heap.size, 7, none⟩ = some (.int .i64 cbt) ∧ w'.cell? ⟨w.heap.size, 8, none⟩ = some (.slice A0 An0 Ac0) ∧ w'.cell? ⟨w.heap.size, 9, none⟩ = some (.int .i64 cc) ∧ w'.cell? ⟨w.heap.size, 10, none⟩ = some (.slice A1 An1 Ac1) ∧ w'.cell? ⟨w.heap.size, 11, none⟩ = some (.slice A2 An2 Ac2) ∧ w'.cell? ⟨w.heap.size, 12, none⟩ = some (.slice A3 An3 Ac3)) (fun _ => false) 13 (by rfl) (by kernel_rfl) ?_
      have V0 : Hid (Below wr.heap.size wr wr.drew) := (Below.refl _ _).drew
      generalize wr.drew = Y0 at *
      have KP0 := Hid.mk (KR.out.on V0.out KR.out.lt)
      have SS0 := Hid.mk (show (fun w' => w'.cell? ⟨w.heap.size, 0, none⟩ = some (.int .i64 ci) ∧ w'.cell? ⟨w.heap.size, 1, none⟩ = some (.int .i64 (j : Int)) ∧ w'.cell? ⟨w.heap.size, 2, none⟩ = some (.int .i64 ct) ∧ w'.cell? ⟨w.heap.size, 3, none⟩ = some (.int .i64 cv) ∧ w'.cell? ⟨w.heap.size, 4, none⟩ = some (.int .i64 cr) ∧ w'.cell? ⟨w.heap.size, 5, none⟩ = some (.int .i64 cd) ∧ w'.cell? ⟨w.heap.size, 6, none⟩ = some (.int .i64 cb) ∧ w'.cell? ⟨w.heap.size, 7, none⟩ = some (.int .i64 cbt) ∧ w'.cell? ⟨w.heap.size, 8, none⟩ = some (.slice A0 An0 Ac0) ∧ w'.cell? ⟨w.heap.size, 9, none⟩ = some (.int .i64 cc) ∧ w'.cell? ⟨w.heap.size, 10, none⟩ = some (.slice A1 An1 Ac1) ∧ w'.cell? ⟨w.heap.size, 11, none⟩ = some (.slice A2 An2 Ac2) ∧ w'.cell? ⟨w.heap.size, 12, none⟩ = some (.slice A3 An3 Ac3)) Y0 from ⟨KP0.out.cell 0 _ rfl, KP0.out.cell 1 _ rfl, KP0.out.cell 2 _ rfl, KP0.out.cell 3 _ rfl, KP0.out.cell 4 _ rfl, KP0.out.cell 5 _ rfl, KP0.out.cell 6 _ rfl, KP0.out.cell 7 _ rfl, KP0.out.cell 8 _ rfl, KP0.out.cell 9 _ rfl, KP0.out.cell 10 _ rfl, KP0.out.cell 11 _ rfl, KP0.out.cell 12 _ rfl⟩)
      refine tF 0 SS0.out ?_
      refine pF 1 ?_
      refine tF 3 SS0.out ?_
      refine tF 4 SS0.out ?_
      refine uNe 2 (fun K hK => ?_)
      go_simp
      refine (cT Y0 (HRl.out.on V0.out) V0.out.size).mono ?_
      rintro e Y1 ⟨rfl, hb⟩
      have V1 : Hid (Below wr.heap.size wr Y1) := V0.out.trans (hb.mono V0.out.size)
      have KP1 := Hid.mk (KR.out.on V1.out KR.out.lt)
      clear hb
      refine hK.out _ _ (fun _ _ => ⟨KP1.out.cell 0 _ rfl, KP1.out.cell 1 _ rfl, KP1.out.cell 2 _ rfl, KP1.out.cell 3 _ rfl, KP1.out.cell 4 _ rfl, KP1.out.cell 5 _ rfl, KP1.out.cell 6 _ rfl, KP1.out.cell 7 _ rfl, KP1.out.cell 8 _ rfl, KP1.out.cell 9 _ rfl, KP1.out.cell 10 _ rfl, KP1.out.cell 11 _ rfl, KP1.out.cell 12 _ rfl⟩) ?_
      clear hK K
      try simp only [Act.put, zQ1, zQ2, zQ3]
      refine pF 5 ?_
      refine pF 6 ?_
      have SS1 := Hid.mk (show (fun w' => w'.cell? ⟨w.heap.size, 0, none⟩ = some (.int .i64 ci) ∧ w'.cell? ⟨w.heap.size, 1, none⟩ = some (.int .i64 (j : Int)) ∧ w'.cell? ⟨w.heap.size, 2, none⟩ = some (.int .i64 ct) ∧ w'.cell? ⟨w.heap.size, 3, none⟩ = some (.int .i64 cv) ∧ w'.cell? ⟨w.heap.size, 4, none⟩ = some (.int .i64 cr) ∧ w'.cell? ⟨w.heap.size, 5, none⟩ = some (.int .i64 cd) ∧ w'.cell? ⟨w.heap.size, 6, none⟩ = some (.int .i64 cb) ∧ w'.cell? ⟨w.heap.size, 7, none⟩ = some (.int .i64 cbt) ∧ w'.cell? ⟨w.heap.size, 8, none⟩ = some (.slice A0 An0 Ac0) ∧ w'.cell? ⟨w.heap.size, 9, none⟩ = some (.int .i64 cc) ∧ w'.cell? ⟨w.heap.size, 10, none⟩ = some (.slice A1 An1 Ac1) ∧ w'.cell? ⟨w.heap.size, 11, none⟩ = some (.slice A2 An2 Ac2) ∧ w'.cell? ⟨w.heap.size, 12, none⟩ = some (.slice A3 An3 Ac3)) Y1 from ⟨KP1.out.cell 0 _ rfl, KP1.out.cell 1 _ rfl, KP1.out.cell 2 _ rfl, KP1.out.cell 3 _ rfl, KP1.out.cell 4 _ rfl, KP1.out.cell 5 _ rfl, KP1.out.cell 6 _ rfl, KP1.out.cell 7 _ rfl, KP1.out.cell 8 _ rfl, KP1.out.cell 9 _ rfl, KP1.out.cell 10 _ rfl, KP1.out.cell 11 _ rfl, KP1.out.cell 12 _ rfl⟩)
      refine pF 7 ?_
      refine pF 8 ?_
      refine tF 9 SS1.out ?_
      refine tF 10 SS1.out ?_
      refine pF 11 ?_
      refine pF 12 ?_
      refine until_done (by kernel_rfl) ?_ _
      have HF2 : Hid (cntFrom ⟨ci, (j : Int), ct, cv, cr, cd, cb, cbt, lg, cc, ys, ns, ms⟩ K = cntFrom ⟨ci, (j : Int), ct, cv, cr, cd, cb, cbt, lg, cc, ys, ns, ms⟩ k) := by unfold Hid; rw [HF.out]; exact HN1.out hat
      have BF : Hid (Below X0.heap.size X0 Y1) := BR.out.trans (V1.out.mono BR.out.size)
      clear hat
      try go_wp2_with fail
      go_roundw
      case rel => exact ⟨k, by omega, rfl, HF2.out, BF.out⟩
      case measure => simp [intOf]; omega
     have z2 : decide ((j : Int) < 2 * (rn : Int)) = true := decide_eq_true hp2
     rw [z2] at hat
     clear hp2
     go_wp2_with fail
     refine wp_region_until (fun w' => w'.cell? ⟨w.heap.size, 0, none⟩ = some (.int .i64 ci) ∧ w'.cell? ⟨w.heap.size, 1, none⟩ = some (.int .i64 (j : Int)) ∧ w'.cell? ⟨w.heap.size, 2, none⟩ = some (.int .i64 ct) ∧ w'.cell? ⟨w.heap.size, 3, none⟩ = some (.int .i64 cv) ∧ w'.cell? ⟨w.heap.size, 4, none⟩ = some (.int .i64 cr) ∧ w'.cell? ⟨w.heap.size, 5, none⟩ = some (.int .i64 cd) ∧ w'.cell? ⟨w.heap.size, 6, none⟩ = some (.int .i64 cb) ∧ w'.cell? ⟨w.heap.size, 7, none⟩ = some (.int .i64 cbt) ∧ w'.cell? ⟨w.heap.size, 8, none⟩ = some (.slice A0 An0 Ac0) ∧ w'.cell? ⟨w.heap.size, 9, none⟩ = some (.int .i64 cc) ∧ w'.cell? ⟨w.heap.size, 10, none⟩ = some (.slice A1 An1 Ac1) ∧ w'.cell? ⟨w.heap.size, 11, none⟩ = some (.slice A2 An2 Ac2) ∧ w'.cell? ⟨w.heap.size, 12, none⟩ = some (.slice A3 An3 Ac3)) (fun _ => false) 13 (by rfl) (by kernel_rfl) ?_
     have V0 : Hid (Below wr.heap.size wr wr.drew) := (Below.refl _ _).drew
     generalize wr.drew = Y0 at *
     have KP0 := Hid.mk (KR.out.on V0.out KR.out.lt)
     have SS0 := Hid.mk (show (fun w' => w'.cell? ⟨w.heap.size, 0, none⟩ = some (.int .i64 ci) ∧ w'.cell? ⟨w.heap.size, 1, none⟩ = some (.int .i64 (j : Int)) ∧ w'.cell? ⟨w.heap.size, 2, none⟩ = some (.int .i64 ct) ∧ w'.cell? ⟨w.heap.size, 3, none⟩ = some (.int .i64 cv) ∧ w'.cell? ⟨w.heap.size, 4, none⟩ = some (.int .i64 cr) ∧ w'.cell? ⟨w.heap.size, 5, none⟩ = some (.int .i64 cd) ∧ w'.cell? ⟨w.heap.size, 6, none⟩ = some (.int .i64 cb) ∧ w'.cell? ⟨w.heap.size, 7, none⟩ = some (.int .i64 cbt) ∧ w'.cell? ⟨w.heap.size, 8, none⟩ = some (.slice A0 An0 Ac0) ∧ w'.cell? ⟨w.heap.size, 9, none⟩ = some (.int .i64 cc) ∧ w'.cell? ⟨w.heap.size, 10, none⟩ = some (.slice A1 An1 Ac1) ∧ w'.cell? ⟨w.heap.size, 11, none⟩ = some (.slice A2 An2 Ac2) ∧ w'.cell? ⟨w.heap.size, 12, none⟩ = some (.slice A3 An3 Ac3)) Y0 from ⟨KP0.out.cell 0 _ rfl, KP0.out.cell 1 _ rfl, KP0.out.cell 2 _ rfl, KP0.out.cell 3 _ rfl, KP0.out.cell 4 _ rfl, KP0.out.cell 5 _ rfl, KP0.out.cell 6 _ rfl, KP0.out.cell 7 _ rfl, KP0.out.cell 8 _ rfl, KP0.out.cell 9 _ rfl, KP0.out.cell 10 _ rfl, KP0.out.cell 11 _ rfl, KP0.out.cell 12 _ rfl⟩)
     refine tF 0 SS0.out ?_
     refine pF 1 ?_
     refine tF 3 SS0.out ?_
     refine tF 4 SS0.out ?_
     refine uNe 2 (fun K hK => ?_)
     go_simp
     refine (cT Y0 (HRl.out.on V0.out) V0.out.size).mono ?_
     rintro e Y1 ⟨rfl, hb⟩
     have V1 : Hid (Below wr.heap.size wr Y1) := V0.out.trans (hb.mono V0.out.size)
     have KP1 := Hid.mk (KR.out.on V1.out KR.out.lt)
     clear hb
     refine hK.out _ _ (fun _ _ => ⟨KP1.out.cell 0 _ rfl, KP1.out.cell 1 _ rfl, KP1.out.cell 2 _ rfl, KP1.out.cell 3 _ rfl, KP1.out.cell 4 _ rfl, KP1.out.cell 5 _ rfl, KP1.out.cell 6 _ rfl, KP1.out.cell 7 _ rfl, KP1.out.cell 8 _ rfl, KP1.out.cell 9 _ rfl, KP1.out.cell 10 _ rfl, KP1.out.cell 11 _ rfl, KP1.out.cell 12 _ rfl⟩) ?_
     clear hK K
     try simp only [Act.put, zQ1, zQ2, zQ3]
     refine pF 5 ?_
     refine pF 6 ?_
     have SS1 := Hid.mk (show (fun w' => w'.cell? ⟨w.heap.size, 0, none⟩ = some (.int .i64 ci) ∧ w'.cell? ⟨w.heap.size, 1, none⟩ = some (.int .i64 (j : Int)) ∧ w'.cell? ⟨w.heap.size, 2, none⟩ = some (.int .i64 ct) ∧ w'.cell? ⟨w.heap.size, 3, none⟩ = some (.int .i64 cv) ∧ w'.cell? ⟨w.heap.size, 4, none⟩ = some (.int .i64 cr) ∧ w'.cell? ⟨w.heap.size, 5, none⟩ = some (.int .i64 cd) ∧ w'.cell? ⟨w.heap.size, 6, none⟩ = some (.int .i64 cb) ∧ w'.cell? ⟨w.heap.size, 7, none⟩ = some (.int .i64 cbt) ∧ w'.cell? ⟨w.heap.size, 8, none⟩ = some (.slice A0 An0 Ac0) ∧ w'.cell? ⟨w.heap.size, 9, none⟩ = some (.int .i64 cc) ∧ w'.cell? ⟨w.heap.size, 10, none⟩ = some (.slice A1 An1 Ac1) ∧ w'.cell? ⟨w.heap.size, 11, none⟩ = some (.slice A2 An2 Ac2) ∧ w'.cell? ⟨w.heap.size, 12, none⟩ = some (.slice A3 An3 Ac3)) Y1 from ⟨KP1.out.cell 0 _ rfl, KP1.out.cell 1 _ rfl, KP1.out.cell 2 _ rfl, KP1.out.cell 3 _ rfl, KP1.out.cell 4 _ rfl, KP1.out.cell 5 _ rfl, KP1.out.cell 6 _ rfl, KP1.out.cell 7 _ rfl, KP1.out.cell 8 _ rfl, KP1.out.cell 9 _ rfl, KP1.out.cell 10 _ rfl, KP1.out.cell 11 _ rfl, KP1.out.cell 12 _ rfl⟩)
     refine pF 7 ?_
     refine pF 8 ?_
     refine tF 9 SS1.out ?_
     refine tF 10 SS1.out ?_
     refine pF 11 ?_
     refine pF 12 ?_
     refine until_done (by kernel_rfl) ?_ _
     have BYw : Hid (Below X0.heap.size X0 Y1) := BR.out.trans (V1.out.mono BR.out.size)
     have P3 := Hid.mk (KR.out.on V1.out KR.out.lt)
     have R3 := Hid.mk (R0.out.on BYw.out R0.out.lt)
     have f9 := P3.out.free 9
     have o9 := P3.out.cell 9 _ rfl
     obtain ⟨Y2, hY2⟩ : ∃ Y2, Y2 = Y1.setCell ⟨w.heap.size, 9, none⟩ (.int .i64 (cc + (k : Int) + 1)) := ⟨_, rfl⟩
     have P4 : Hid (Blk Y2 w.heap.size #[.int .i64 ci, .int .i64 (j : Int), .int .i64 ct, .int .i64 cv, .int .i64 cr, .int .i64 cd, .int .i64 cb, .int .i64 cbt, .slice A0 An0 Ac0, .int .i64 (cc + (k : Int) + 1), .slice A1 An1 Ac1, .slice A2 An2 Ac2, .slice A3 An3 Ac3] 29) := by unfold Hid; rw [hY2]; exact P3.out.set 9 _
     have R4 : Hid (Blk Y2 (w.heap.size + 1) #[.int .i64 0, .int .i64 0, .int .i64 0, .int .i64 0, .int .i64 0, .int .i64 0, .int .i64 0, .int .i64 0, .slice none 0 0, .int .i64 0, .slice none 0 0, .slice none 0 0, .slice none 0 0] 29) := by unfold Hid; rw [hY2]; exact R3.out.other (by omega) 9 _
     have B4 : Hid (Below w.heap.size w Y2) := by unfold Hid; rw [hY2]; exact (B0.out.trans (BYw.out.mono B0.out.size)).setCell (Nat.le_refl _) _
     have HFx : Hid (countX ⟨ci, (j : Int), ct, cv, cr, cd, cb, cbt, lg, cc, ys, ns, ms⟩ = { (⟨ci, (j : Int), ct, cv, cr, cd, cb, cbt, lg, cc, ys, ns, ms⟩ : Cor) with commit := cc + (k : Int) + 1 }) := by unfold Hid; rw [HFin.out, HF.out, HY1.out hat]
     clear hat P3 R3 BYw
     go_upto_region 12 with fail
     rw [← hY2]
     clear hY2 f9 o9
     have y0 := P4.out.cell 0 _ rfl
     have y1 := P4.out.cell 1 _ rfl
     have y2 := P4.out.cell 2 _ rfl
     have y3 := P4.out.cell 3 _ rfl
     have y4 := P4.out.cell 4 _ rfl
     have y5 := P4.out.cell 5 _ rfl
     have y6 := P4.out.cell 6 _ rfl
     have y7 := P4.out.cell 7 _ rfl
     have y8 := P4.out.cell 8 _ rfl
     have y9 := P4.out.cell 9 _ rfl
     have y10 := P4.out.cell 10 _ rfl
     have y11 := P4.out.cell 11 _ rfl
     have y12 := P4.out.cell 12 _ rfl
     obtain ⟨⟨r0, g0⟩, ⟨r1, g1⟩, ⟨r2, g2⟩, ⟨r3, g3⟩, ⟨r4, g4⟩, ⟨r5, g5⟩, ⟨r6, g6⟩, ⟨r7, g7⟩, ⟨r8, g8⟩, ⟨r9, g9⟩, ⟨r10, g10⟩, ⟨r11, g11⟩, ⟨r12, g12⟩, z0, z1, z2, z3, z4, z5, z6, z7, z8, z9, z10, z11, z12⟩ := resC13 (x0 := .int .i64 ci) (x1 := .int .i64 (j : Int)) (x2 := .int .i64 ct) (x3 := .int .i64 cv) (x4 := .int .i64 cr) (x5 := .int .i64 cd) (x6 := .int .i64 cb) (x7 := .int .i64 cbt) (x8 := .slice A0 An0 Ac0) (x9 := .int .i64 (cc + (k : Int) + 1)) (x10 := .slice A1 An1 Ac1) (x11 := .slice A2 An2 Ac2) (x12 := .slice A3 An3 Ac3) R4.out
     have FB := Hid.mk (belowC13 B4.out (show w.heap.size ≤ w.heap.size + 1 by omega) (.int .i64 ci) (.int .i64 (j : Int)) (.int .i64 ct) (.int .i64 cv) (.int .i64 cr) (.int .i64 cd) (.int .i64 cb) (.int .i64 cbt) (.slice A0 An0 Ac0) (.int .i64 (cc + (k : Int) + 1)) (.slice A1 An1 Ac1) (.slice A2 An2 Ac2) (.slice A3 An3 Ac3))
     clear P4 R4 B4
     go_wp2_with fail
     refine bodyPost_ret (v := .agg #[.int .i64 ci, .int .i64 (j : Int), .int .i64 ct, .int .i64 cv, .int .i64 cr, .int .i64 cd, .int .i64 cb, .int .i64 cbt, .slice A0 An0 Ac0, .int .i64 (cc + (k : Int) + 1), .slice A1 An1 Ac1, .slice A2 An2 Ac2, .slice A3 An3 Ac3]) (by simp [results, go_sem, z0, z1, z2, z3, z4, z5, z6, z7, z8, z9, z10, z11, z12]) rfl ⟨?_, FB.out⟩
     rw [HFx.out]
     rfl
end Go.Proofs.Ytlhoonohpfpkbaa
