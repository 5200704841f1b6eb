/- CoI4 CoI5 CoAf CoSnd -/
import Derived.Test.YtlhoonohpfpkbaaRows
import Derived.Test.YtlhoonohpfpkbaaQb4
import Derived.Deep.Cut
import Derived.Handy
import Derived.Test.YtlhoonohpfpkbaaQb2
import Derived.Test.YtlhoonohpfpkbaaQb3
import Derived.Deep.CutRange
open List (setIfInBounds_toArray set_cons_zero set_cons_succ)
namespace Go.Proofs.Ytlhoonohpfpkbaa
open Go.ChangeShapes Go.WideShapes Go.ChangeAt Go.RowKit Go.PlainAid
set_option linter.unusedVariables false
set_option maxHeartbeats 4000000 in
theorem roleI1 (ci cp ct cv cd cb cbt : Int) (lg : List Ent) (cc : Int) (ys ns ms : List Int) (A0 : Option Addr) (n0 c0 : Nat) (u1 u2 u3 : Value) (w : World) (B : Nat) (hy : NumsV w B u1 ys) (hn : NumsV w B u2 ns) (hm : NumsV w B u3 ms) (hly : ys.length ≤ 1048576) (hln : ns.length ≤ 1048576) (hlm : ms.length ≤ 1048576) (hp0 : 1 ≤ cp) (hp1 : cp ≤ 5) (hi0 : 0 ≤ ci) (hi1 : ci ≤ cp - 1) (hb0 : 0 ≤ cb) (hb1 : cb ≤ 200000) (hl0 : lg.length = n0) (hl1 : n0 ≤ 1048576) (hB : B ≤ w.heap.size) : Calls Try.prog 71 #[.agg #[.int .i64 ci, .int .i64 cp, .int .i64 ct, .int .i64 cv, .int .i64 1, .int .i64 cd, .int .i64 cb, .int .i64 cbt, .slice A0 n0 c0, .int .i64 cc, u1, u2, u3]] w fun e w' => e = .returned (.bool (roleB ⟨ci, cp, ct, cv, 1, cd, cb, cbt, lg, cc, ys, ns, ms⟩)) ∧ Below w.heap.size w w' := by
 have HYv : Hid (NumsV w B u1 ys ∧ NumsV w B u2 ns ∧ NumsV w B u3 ms) := ⟨hy, hn, hm⟩
 have HBB : Hid (B ≤ w.heap.size) := hB
 obtain ⟨A1, c1, rfl, _⟩ := hy
 obtain ⟨A2, c2, rfl, _⟩ := hn
 obtain ⟨A3, c3, rfl, _⟩ := hm
 obtain ⟨X0, hX0⟩ : ∃ X0, X0 = w.alloc (.cells #[.int .i64 ci, .int .i64 cp, .int .i64 ct, .int .i64 cv, .int .i64 1, .int .i64 cd, .int .i64 cb, .int .i64 cbt, .slice A0 n0 c0, .int .i64 cc, .slice A1 ys.length c1, .slice A2 ns.length c2, .slice A3 ms.length c3] 29) := ⟨_, rfl⟩
 have B0 : Hid (Below w.heap.size w X0) := by unfold Hid; rw [hX0]; exact (Below.refl _ _).alloc (Nat.le_refl _) _
 have w1 : IntKind.i64.wrap (cp - 1) = cp - 1 := by rw [IntKind.wrap_i64]; omega
 have K0 : Hid (Blk X0 w.heap.size #[.int .i64 ci, .int .i64 cp, .int .i64 ct, .int .i64 cv, .int .i64 1, .int .i64 cd, .int .i64 cb, .int .i64 cbt, .slice A0 n0 c0, .int .i64 cc, .slice A1 ys.length c1, .slice A2 ns.length c2, .slice A3 ms.length c3] 29) := by unfold Hid; rw [hX0]; exact Blk.new w _ _
 have a1 := inW cd (-1) (cp - 1)
 have qy : (ys.length : Int) ≤ 1048576 := by omega
 have qn : (ns.length : Int) ≤ 1048576 := by omega
 have qm : (ms.length : Int) ≤ 1048576 := by omega
 cases hc0 : inIt cd (-1) (cp - 1)
 ·rw [hc0] at a1
  have HE : Hid (roleB ⟨ci, cp, ct, cv, 1, cd, cb, cbt, lg, cc, ys, ns, ms⟩ = false) := roleB_no fun h => by
   rcases h with ⟨e, h⟩ | ⟨e, h⟩ | ⟨e, h⟩
   ·have a := h.a; have b := h.b; simp only at a b; rw [show inIt cd (-1) (cp - 1) = true by unfold inIt; simp [a, b]] at hc0; cases hc0
   ·cases e
   ·cases e
  clear  hc0
  generalize ys.length = ny at *
  generalize ns.length = nn at *
  generalize ms.length = nm at *
  go_enter Try.func71, Try.ntmps71
  go_wp2_with fail
  rw [← hX0]
  clear hX0
  refine (a1 _).mono ?_
  rintro e w' ⟨rfl, rfl⟩
  have kk := cellsC13 K0.out
  obtain ⟨k0, k1, k2, k3, k4, k5, k6, k7, k8, k9, k10, k11, k12⟩ := kk
  go_wp2_with fail
  go_ret
  exact ⟨by rw [HE.out]; rfl, B0.out⟩
 rw [hc0] at a1
 by_cases hc1 : cd ≠ ci
 rotate_left
 ·have zi1 : (cd != ci) = false := by rw [Decidable.not_not.1 hc1]; exact bne_self_eq_false _
  have HE : Hid (roleB ⟨ci, cp, ct, cv, 1, cd, cb, cbt, lg, cc, ys, ns, ms⟩ = false) := roleB_no fun h => by
   rcases h with ⟨e, h⟩ | ⟨e, h⟩ | ⟨e, h⟩
   ·exact hc1 h.c
   ·cases e
   ·cases e
  clear hc1 hc0
  generalize ys.length = ny at *
  generalize ns.length = nn at *
  generalize ms.length = nm at *
  go_enter Try.func71, Try.ntmps71
  go_wp2_with fail
  rw [← hX0]
  clear hX0
  refine (a1 _).mono ?_
  rintro e w' ⟨rfl, rfl⟩
  have kk := cellsC13 K0.out
  obtain ⟨k0, k1, k2, k3, k4, k5, k6, k7, k8, k9, k10, k11, k12⟩ := kk
  go_wp2_with fail
  go_ret
  exact ⟨by rw [HE.out]; rfl, B0.out⟩
 have zi1 : (cd != ci) = true := bne_iff_ne.2 hc1
 by_cases hc2 : ys.length = 0
 rotate_left
 ·have zi2 : ((ys.length : Int) == 0) = false := beq_eq_false_iff_ne.2 (by omega)
  have zn2 : (ys.length == 0) = false := beq_eq_false_iff_ne.2 hc2
  have HE : Hid (roleB ⟨ci, cp, ct, cv, 1, cd, cb, cbt, lg, cc, ys, ns, ms⟩ = false) := roleB_no fun h => by
   rcases h with ⟨e, h⟩ | ⟨e, h⟩ | ⟨e, h⟩
   ·exact hc2 h.y
   ·cases e
   ·cases e
  clear hc1 hc2 hc0
  generalize ys.length = ny at *
  generalize ns.length = nn at *
  generalize ms.length = nm at *
  go_enter Try.func71, Try.ntmps71
  go_wp2_with fail
  rw [← hX0]
  clear hX0
  refine (a1 _).mono ?_
  rintro e w' ⟨rfl, rfl⟩
  have kk := cellsC13 K0.out
  obtain ⟨k0, k1, k2, k3, k4, k5, k6, k7, k8, k9, k10, k11, k12⟩ := kk
  go_wp2_with fail
  go_ret
  exact ⟨by rw [HE.out]; rfl, B0.out⟩
 have zi2 : ((ys.length : Int) == 0) = true := by rw [hc2]; rfl
 have zn2 : (ys.length == 0) = true := by rw [hc2]; rfl
 by_cases hc3 : ns.length = 0
 rotate_left
 ·have zi3 : ((ns.length : Int) == 0) = false := beq_eq_false_iff_ne.2 (by omega)
  have zn3 : (ns.length == 0) = false := beq_eq_false_iff_ne.2 hc3
  have HE : Hid (roleB ⟨ci, cp, ct, cv, 1, cd, cb, cbt, lg, cc, ys, ns, ms⟩ = false) := roleB_no fun h => by
   rcases h with ⟨e, h⟩ | ⟨e, h⟩ | ⟨e, h⟩
   ·exact hc3 h.n
   ·cases e
   ·cases e
  clear hc1 hc2 hc3 hc0
  generalize ys.length = ny at *
  generalize ns.length = nn at *
  generalize ms.length = nm at *
  go_enter Try.func71, Try.ntmps71
  go_wp2_with fail
  rw [← hX0]
  clear hX0
  refine (a1 _).mono ?_
  rintro e w' ⟨rfl, rfl⟩
  have kk := cellsC13 K0.out
  obtain ⟨k0, k1, k2, k3, k4, k5, k6, k7, k8, k9, k10, k11, k12⟩ := kk
  go_wp2_with fail
  go_ret
  exact ⟨by rw [HE.out]; rfl, B0.out⟩
 have zi3 : ((ns.length : Int) == 0) = true := by rw [hc3]; rfl
 have zn3 : (ns.length == 0) = true := by rw [hc3]; rfl
 by_cases hc4 : ms.length = 0
 rotate_left
 ·have zi4 : ((ms.length : Int) == 0) = false := beq_eq_false_iff_ne.2 (by omega)
  have zn4 : (ms.length == 0) = false := beq_eq_false_iff_ne.2 hc4
  have HE : Hid (roleB ⟨ci, cp, ct, cv, 1, cd, cb, cbt, lg, cc, ys, ns, ms⟩ = false) := roleB_no fun h => by
   rcases h with ⟨e, h⟩ | ⟨e, h⟩ | ⟨e, h⟩
   ·exact hc4 h.m
   ·cases e
   ·cases e
  clear hc1 hc2 hc3 hc4 hc0
  generalize ys.length = ny at *
  generalize ns.length = nn at *
  generalize ms.length = nm at *
  go_enter Try.func71, Try.ntmps71
  go_wp2_with fail
  rw [← hX0]
  clear hX0
  refine (a1 _).mono ?_
  rintro e w' ⟨rfl, rfl⟩
  have kk := cellsC13 K0.out
  obtain ⟨k0, k1, k2, k3, k4, k5, k6, k7, k8, k9, k10, k11, k12⟩ := kk
  go_wp2_with fail
  go_ret
  exact ⟨by rw [HE.out]; rfl, B0.out⟩
 have zi4 : ((ms.length : Int) == 0) = true := by rw [hc4]; rfl
 have zn4 : (ms.length == 0) = true := by rw [hc4]; rfl
 have HE : Hid (roleB ⟨ci, cp, ct, cv, 1, cd, cb, cbt, lg, cc, ys, ns, ms⟩ = true) := roleB_yes (.inl ⟨rfl, ⟨(inIt_in _ _ _ hc0).1, (inIt_in _ _ _ hc0).2, hc1, hc2, hc3, hc4⟩⟩)
 clear hc1 hc2 hc3 hc4 hc0
 generalize ys.length = ny at *
 generalize ns.length = nn at *
 generalize ms.length = nm at *
 go_enter Try.func71, Try.ntmps71
 go_wp2_with fail
 rw [← hX0]
 clear hX0
 refine (a1 _).mono ?_
 rintro e w' ⟨rfl, rfl⟩
 have kk := cellsC13 K0.out
 obtain ⟨k0, k1, k2, k3, k4, k5, k6, k7, k8, k9, k10, k11, k12⟩ := kk
 go_wp2_with fail
 go_ret
 exact ⟨by rw [HE.out]; rfl, B0.out⟩
set_option maxHeartbeats 4000000 in
theorem roleI2 (ci cp ct cv cd cb cbt : Int) (lg : List Ent) (cc : Int) (ys ns ms : List Int) (A0 : Option Addr) (n0 c0 : Nat) (u1 u2 u3 : Value) (w : World) (B : Nat) (hy : NumsV w B u1 ys) (hn : NumsV w B u2 ns) (hm : NumsV w B u3 ms) (hly : ys.length ≤ 1048576) (hln : ns.length ≤ 1048576) (hlm : ms.length ≤ 1048576) (hp0 : 1 ≤ cp) (hp1 : cp ≤ 5) (hi0 : 0 ≤ ci) (hi1 : ci ≤ cp - 1) (hb0 : 0 ≤ cb) (hb1 : cb ≤ 200000) (hl0 : lg.length = n0) (hl1 : n0 ≤ 1048576) (hB : B ≤ w.heap.size) : Calls Try.prog 71 #[.agg #[.int .i64 ci, .int .i64 cp, .int .i64 ct, .int .i64 cv, .int .i64 2, .int .i64 cd, .int .i64 cb, .int .i64 cbt, .slice A0 n0 c0, .int .i64 cc, u1, u2, u3]] w fun e w' => e = .returned (.bool (roleB ⟨ci, cp, ct, cv, 2, cd, cb, cbt, lg, cc, ys, ns, ms⟩)) ∧ Below w.heap.size w w' := by
 have HYv : Hid (NumsV w B u1 ys ∧ NumsV w B u2 ns ∧ NumsV w B u3 ms) := ⟨hy, hn, hm⟩
 have HBB : Hid (B ≤ w.heap.size) := hB
 have cY := fun wx h1 h2 => yesI ci cp ct cv 2 cd cb cbt lg cc ys ns ms A0 n0 c0 u1 u2 u3 wx B h1 hly hp0 hp1 h2
 have HSY : Hid (seekB ⟨ci, cp, ct, cv, 2, cd, cb, cbt, lg, cc, ys, ns, ms⟩ = true → SeekP ⟨ci, cp, ct, cv, 2, cd, cb, cbt, lg, cc, ys, ns, ms⟩) := seekB_ok
 have HSN : Hid (seekB ⟨ci, cp, ct, cv, 2, cd, cb, cbt, lg, cc, ys, ns, ms⟩ = false → ¬ SeekP ⟨ci, cp, ct, cv, 2, cd, cb, cbt, lg, cc, ys, ns, ms⟩) := seekB_not
 obtain ⟨A1, c1, rfl, _⟩ := hy
 obtain ⟨A2, c2, rfl, _⟩ := hn
 obtain ⟨A3, c3, rfl, _⟩ := hm
 obtain ⟨X0, hX0⟩ : ∃ X0, X0 = w.alloc (.cells #[.int .i64 ci, .int .i64 cp, .int .i64 ct, .int .i64 cv, .int .i64 2, .int .i64 cd, .int .i64 cb, .int .i64 cbt, .slice A0 n0 c0, .int .i64 cc, .slice A1 ys.length c1, .slice A2 ns.length c2, .slice A3 ms.length c3] 29) := ⟨_, rfl⟩
 have B0 : Hid (Below w.heap.size w X0) := by unfold Hid; rw [hX0]; exact (Below.refl _ _).alloc (Nat.le_refl _) _
 have w1 : IntKind.i64.wrap (cp - 1) = cp - 1 := by rw [IntKind.wrap_i64]; omega
 have K0 : Hid (Blk X0 w.heap.size #[.int .i64 ci, .int .i64 cp, .int .i64 ct, .int .i64 cv, .int .i64 2, .int .i64 cd, .int .i64 cb, .int .i64 cbt, .slice A0 n0 c0, .int .i64 cc, .slice A1 ys.length c1, .slice A2 ns.length c2, .slice A3 ms.length c3] 29) := by unfold Hid; rw [hX0]; exact Blk.new w _ _
 have cY1 := cY X0 (HYv.out.1.on (B0.out.mono HBB.out)) (Nat.le_trans HBB.out B0.out.size)
 clear cY
 have qy : (ys.length : Int) ≤ 1048576 := by omega
 have qn : (ns.length : Int) ≤ 1048576 := by omega
 have qm : (ms.length : Int) ≤ 1048576 := by omega
 by_cases hc0 : 1 ≤ ct
 rotate_left
 ·have zi0 : decide (1 ≤ ct) = false := decide_eq_false hc0
  have HE : Hid (roleB ⟨ci, cp, ct, cv, 2, cd, cb, cbt, lg, cc, ys, ns, ms⟩ = false) := roleB_no fun h => by
   rcases h with ⟨e, h⟩ | ⟨e, h⟩ | ⟨e, h⟩
   ·cases e
   ·exact hc0 h.t
   ·cases e
  clear hc0 
  generalize ys.length = ny at *
  generalize ns.length = nn at *
  generalize ms.length = nm at *
  go_enter Try.func71, Try.ntmps71
  go_wp2_with fail
  go_ret
  rw [← hX0]
  exact ⟨by rw [HE.out]; rfl, B0.out⟩
 have zi0 : decide (1 ≤ ct) = true := decide_eq_true hc0
 by_cases hc1 : cv = ci
 rotate_left
 ·have zi1 : (cv == ci) = false := beq_eq_false_iff_ne.2 hc1
  have HE : Hid (roleB ⟨ci, cp, ct, cv, 2, cd, cb, cbt, lg, cc, ys, ns, ms⟩ = false) := roleB_no fun h => by
   rcases h with ⟨e, h⟩ | ⟨e, h⟩ | ⟨e, h⟩
   ·cases e
   ·exact hc1 h.v
   ·cases e
  clear hc0 hc1 
  generalize ys.length = ny at *
  generalize ns.length = nn at *
  generalize ms.length = nm at *
  go_enter Try.func71, Try.ntmps71
  go_wp2_with fail
  go_ret
  rw [← hX0]
  exact ⟨by rw [HE.out]; rfl, B0.out⟩
 have zi1 : (cv == ci) = true := beq_iff_eq.2 hc1
 by_cases hc2 : cd = -1
 rotate_left
 ·have zi2 : (cd == -1) = false := beq_eq_false_iff_ne.2 hc2
  have HE : Hid (roleB ⟨ci, cp, ct, cv, 2, cd, cb, cbt, lg, cc, ys, ns, ms⟩ = false) := roleB_no fun h => by
   rcases h with ⟨e, h⟩ | ⟨e, h⟩ | ⟨e, h⟩
   ·cases e
   ·exact hc2 h.l
   ·cases e
  clear hc0 hc1 hc2 
  generalize ys.length = ny at *
  generalize ns.length = nn at *
  generalize ms.length = nm at *
  go_enter Try.func71, Try.ntmps71
  go_wp2_with fail
  go_ret
  rw [← hX0]
  exact ⟨by rw [HE.out]; rfl, B0.out⟩
 have zi2 : (cd == -1) = true := beq_iff_eq.2 hc2
 cases hc3 : seekB ⟨ci, cp, ct, cv, 2, cd, cb, cbt, lg, cc, ys, ns, ms⟩
 ·rw [hc3] at cY1
  have HE : Hid (roleB ⟨ci, cp, ct, cv, 2, cd, cb, cbt, lg, cc, ys, ns, ms⟩ = false) := roleB_no fun h => by
   rcases h with ⟨e, h⟩ | ⟨e, h⟩ | ⟨e, h⟩
   ·cases e
   ·exact HSN.out hc3 ⟨h.i, h.r, h.h, h.f⟩
   ·cases e
  clear hc0 hc1 hc2 hc3
  generalize ys.length = ny at *
  generalize ns.length = nn at *
  generalize ms.length = nm at *
  go_enter Try.func71, Try.ntmps71
  go_wp2_with fail
  rw [← hX0]
  clear hX0
  have kk := cellsC13 K0.out
  obtain ⟨k0, k1, k2, k3, k4, k5, k6, k7, k8, k9, k10, k11, k12⟩ := kk
  clear k0 k1 k2 k3 k4 k5 k6 k7 k8 k9 k10 k11 k12
  refine cY1.mono ?_
  rintro e X1 ⟨rfl, hb⟩
  have B1 := Hid.mk (B0.out.trans (hb.mono B0.out.size))
  obtain ⟨k0, k1, k2, k3, k4, k5, k6, k7, k8, k9, k10, k11, k12⟩ := cellsC13 (K0.out.on hb K0.out.lt)
  clear hb
  go_wp2_with fail
  go_ret
  exact ⟨by rw [HE.out]; rfl, B1.out⟩
 rw [hc3] at cY1
 by_cases hc4 : ns.length = 0
 rotate_left
 ·have zi4 : ((ns.length : Int) == 0) = false := beq_eq_false_iff_ne.2 (by omega)
  have zn4 : (ns.length == 0) = false := beq_eq_false_iff_ne.2 hc4
  have HE : Hid (roleB ⟨ci, cp, ct, cv, 2, cd, cb, cbt, lg, cc, ys, ns, ms⟩ = false) := roleB_no fun h => by
   rcases h with ⟨e, h⟩ | ⟨e, h⟩ | ⟨e, h⟩
   ·cases e
   ·exact hc4 h.n
   ·cases e
  clear hc0 hc1 hc2 hc4 hc3
  generalize ys.length = ny at *
  generalize ns.length = nn at *
  generalize ms.length = nm at *
  go_enter Try.func71, Try.ntmps71
  go_wp2_with fail
  rw [← hX0]
  clear hX0
  have kk := cellsC13 K0.out
  obtain ⟨k0, k1, k2, k3, k4, k5, k6, k7, k8, k9, k10, k11, k12⟩ := kk
  clear k0 k1 k2 k3 k4 k5 k6 k7 k8 k9 k10 k11 k12
  refine cY1.mono ?_
  rintro e X1 ⟨rfl, hb⟩
  have B1 := Hid.mk (B0.out.trans (hb.mono B0.out.size))
  obtain ⟨k0, k1, k2, k3, k4, k5, k6, k7, k8, k9, k10, k11, k12⟩ := cellsC13 (K0.out.on hb K0.out.lt)
  clear hb
  go_wp2_with fail
  go_ret
  exact ⟨by rw [HE.out]; rfl, B1.out⟩
 have zi4 : ((ns.length : Int) == 0) = true := by rw [hc4]; rfl
 have zn4 : (ns.length == 0) = true := by rw [hc4]; rfl
 by_cases hc5 : ms.length = 0
 rotate_left
 ·have zi5 : ((ms.length : Int) == 0) = false := beq_eq_false_iff_ne.2 (by omega)
  have zn5 : (ms.length == 0) = false := beq_eq_false_iff_ne.2 hc5
  have HE : Hid (roleB ⟨ci, cp, ct, cv, 2, cd, cb, cbt, lg, cc, ys, ns, ms⟩ = false) := roleB_no fun h => by
   rcases h with ⟨e, h⟩ | ⟨e, h⟩ | ⟨e, h⟩
   ·cases e
   ·exact hc5 h.m
   ·cases e
  clear hc0 hc1 hc2 hc4 hc5 hc3
  generalize ys.length = ny at *
  generalize ns.length = nn at *
  generalize ms.length = nm at *
  go_enter Try.func71, Try.ntmps71
  go_wp2_with fail
  rw [← hX0]
  clear hX0
  have kk := cellsC13 K0.out
  obtain ⟨k0, k1, k2, k3, k4, k5, k6, k7, k8, k9, k10, k11, k12⟩ := kk
  clear k0 k1 k2 k3 k4 k5 k6 k7 k8 k9 k10 k11 k12
  refine cY1.mono ?_
  rintro e X1 ⟨rfl, hb⟩
  have B1 := Hid.mk (B0.out.trans (hb.mono B0.out.size))
  obtain ⟨k0, k1, k2, k3, k4, k5, k6, k7, k8, k9, k10, k11, k12⟩ := cellsC13 (K0.out.on hb K0.out.lt)
  clear hb
  go_wp2_with fail
  go_ret
  exact ⟨by rw [HE.out]; rfl, B1.out⟩
 have zi5 : ((ms.length : Int) == 0) = true := by rw [hc5]; rfl
 have zn5 : (ms.length == 0) = true := by rw [hc5]; rfl
 have HE : Hid (roleB ⟨ci, cp, ct, cv, 2, cd, cb, cbt, lg, cc, ys, ns, ms⟩ = true) := roleB_yes (.inr (.inl ⟨rfl, ⟨hc0, hc1, hc2, (HSY.out hc3).1, (HSY.out hc3).2.1, (HSY.out hc3).2.2.1, (HSY.out hc3).2.2.2, hc4, hc5⟩⟩))
 clear hc0 hc1 hc2 hc4 hc5 hc3
 generalize ys.length = ny at *
 generalize ns.length = nn at *
 generalize ms.length = nm at *
 go_enter Try.func71, Try.ntmps71
 go_wp2_with fail
 rw [← hX0]
 clear hX0
 have kk := cellsC13 K0.out
 obtain ⟨k0, k1, k2, k3, k4, k5, k6, k7, k8, k9, k10, k11, k12⟩ := kk
 clear k0 k1 k2 k3 k4 k5 k6 k7 k8 k9 k10 k11 k12
 refine cY1.mono ?_
 rintro e X1 ⟨rfl, hb⟩
 have B1 := Hid.mk (B0.out.trans (hb.mono B0.out.size))
 obtain ⟨k0, k1, k2, k3, k4, k5, k6, k7, k8, k9, k10, k11, k12⟩ := cellsC13 (K0.out.on hb K0.out.lt)
 clear hb
 go_wp2_with fail
 go_ret
 exact ⟨by rw [HE.out]; rfl, B1.out⟩
set_option maxHeartbeats 4000000 in
theorem roleI3 (ci cp ct cv cd cb cbt : Int) (lg : List Ent) (cc : Int) (ys ns ms : List Int) (A0 : Option Addr) (n0 c0 : Nat) (u1 u2 u3 : Value) (w : World) (B : Nat) (hy : NumsV w B u1 ys) (hn : NumsV w B u2 ns) (hm : NumsV w B u3 ms) (hly : ys.length ≤ 1048576) (hln : ns.length ≤ 1048576) (hlm : ms.length ≤ 1048576) (hp0 : 1 ≤ cp) (hp1 : cp ≤ 5) (hi0 : 0 ≤ ci) (hi1 : ci ≤ cp - 1) (hb0 : 0 ≤ cb) (hb1 : cb ≤ 200000) (hl0 : lg.length = n0) (hl1 : n0 ≤ 1048576) (hB : B ≤ w.heap.size) : Calls Try.prog 71 #[.agg #[.int .i64 ci, .int .i64 cp, .int .i64 ct, .int .i64 cv, .int .i64 3, .int .i64 cd, .int .i64 cb, .int .i64 cbt, .slice A0 n0 c0, .int .i64 cc, u1, u2, u3]] w fun e w' => e = .returned (.bool (roleB ⟨ci, cp, ct, cv, 3, cd, cb, cbt, lg, cc, ys, ns, ms⟩)) ∧ Below w.heap.size w w' := by
 have HYv : Hid (NumsV w B u1 ys ∧ NumsV w B u2 ns ∧ NumsV w B u3 ms) := ⟨hy, hn, hm⟩
 have HBB : Hid (B ≤ w.heap.size) := hB
 have cY := fun wx h1 h2 h3 => reachI ci cp ct cv 3 cd cb cbt lg cc ys ns ms A0 n0 c0 u1 u2 u3 wx B h1 h2 hln hlm hp0 hp1 hi0 hi1 hb0 hb1 hl0 hl1 h3
 have HSY : Hid (reachB ⟨ci, cp, ct, cv, 3, cd, cb, cbt, lg, cc, ys, ns, ms⟩ = true → ReachP ⟨ci, cp, ct, cv, 3, cd, cb, cbt, lg, cc, ys, ns, ms⟩) := reachB_ok
 have HSN : Hid (reachB ⟨ci, cp, ct, cv, 3, cd, cb, cbt, lg, cc, ys, ns, ms⟩ = false → ¬ ReachP ⟨ci, cp, ct, cv, 3, cd, cb, cbt, lg, cc, ys, ns, ms⟩) := reachB_not
 obtain ⟨A1, c1, rfl, _⟩ := hy
 obtain ⟨A2, c2, rfl, _⟩ := hn
 obtain ⟨A3, c3, rfl, _⟩ := hm
 obtain ⟨X0, hX0⟩ : ∃ X0, X0 = w.alloc (.cells #[.int .i64 ci, .int .i64 cp, .int .i64 ct, .int .i64 cv, .int .i64 3, .int .i64 cd, .int .i64 cb, .int .i64 cbt, .slice A0 n0 c0, .int .i64 cc, .slice A1 ys.length c1, .slice A2 ns.length c2, .slice A3 ms.length c3] 29) := ⟨_, rfl⟩
 have B0 : Hid (Below w.heap.size w X0) := by unfold Hid; rw [hX0]; exact (Below.refl _ _).alloc (Nat.le_refl _) _
 have w1 : IntKind.i64.wrap (cp - 1) = cp - 1 := by rw [IntKind.wrap_i64]; omega
 have K0 : Hid (Blk X0 w.heap.size #[.int .i64 ci, .int .i64 cp, .int .i64 ct, .int .i64 cv, .int .i64 3, .int .i64 cd, .int .i64 cb, .int .i64 cbt, .slice A0 n0 c0, .int .i64 cc, .slice A1 ys.length c1, .slice A2 ns.length c2, .slice A3 ms.length c3] 29) := by unfold Hid; rw [hX0]; exact Blk.new w _ _
 have cY1 := cY X0 (HYv.out.2.1.on (B0.out.mono HBB.out)) (HYv.out.2.2.on (B0.out.mono HBB.out)) (Nat.le_trans HBB.out B0.out.size)
 clear cY
 have qy : (ys.length : Int) ≤ 1048576 := by omega
 have qn : (ns.length : Int) ≤ 1048576 := by omega
 have qm : (ms.length : Int) ≤ 1048576 := by omega
 by_cases hc0 : 1 ≤ ct
 rotate_left
 ·have zi0 : decide (1 ≤ ct) = false := decide_eq_false hc0
  have HE : Hid (roleB ⟨ci, cp, ct, cv, 3, cd, cb, cbt, lg, cc, ys, ns, ms⟩ = false) := roleB_no fun h => by
   rcases h with ⟨e, h⟩ | ⟨e, h⟩ | ⟨e, h⟩
   ·cases e
   ·cases e
   ·exact hc0 h.t
  clear hc0 
  generalize ys.length = ny at *
  generalize ns.length = nn at *
  generalize ms.length = nm at *
  go_enter Try.func71, Try.ntmps71
  go_wp2_with fail
  go_ret
  rw [← hX0]
  exact ⟨by rw [HE.out]; rfl, B0.out⟩
 have zi0 : decide (1 ≤ ct) = true := decide_eq_true hc0
 by_cases hc1 : cv = ci
 rotate_left
 ·have zi1 : (cv == ci) = false := beq_eq_false_iff_ne.2 hc1
  have HE : Hid (roleB ⟨ci, cp, ct, cv, 3, cd, cb, cbt, lg, cc, ys, ns, ms⟩ = false) := roleB_no fun h => by
   rcases h with ⟨e, h⟩ | ⟨e, h⟩ | ⟨e, h⟩
   ·cases e
   ·cases e
   ·exact hc1 h.v
  clear hc0 hc1 
  generalize ys.length = ny at *
  generalize ns.length = nn at *
  generalize ms.length = nm at *
  go_enter Try.func71, Try.ntmps71
  go_wp2_with fail
  go_ret
  rw [← hX0]
  exact ⟨by rw [HE.out]; rfl, B0.out⟩
 have zi1 : (cv == ci) = true := beq_iff_eq.2 hc1
 by_cases hc2 : cd = ci
 rotate_left
 ·have zi2 : (cd == ci) = false := beq_eq_false_iff_ne.2 hc2
  have HE : Hid (roleB ⟨ci, cp, ct, cv, 3, cd, cb, cbt, lg, cc, ys, ns, ms⟩ = false) := roleB_no fun h => by
   rcases h with ⟨e, h⟩ | ⟨e, h⟩ | ⟨e, h⟩
   ·cases e
   ·cases e
   ·exact hc2 h.l
  clear hc0 hc1 hc2 
  generalize ys.length = ny at *
  generalize ns.length = nn at *
  generalize ms.length = nm at *
  go_enter Try.func71, Try.ntmps71
  go_wp2_with fail
  go_ret
  rw [← hX0]
  exact ⟨by rw [HE.out]; rfl, B0.out⟩
 have zi2 : (cd == ci) = true := beq_iff_eq.2 hc2
 by_cases hc3 : ys.length = 0
 rotate_left
 ·have zi3 : ((ys.length : Int) == 0) = false := beq_eq_false_iff_ne.2 (by omega)
  have zn3 : (ys.length == 0) = false := beq_eq_false_iff_ne.2 hc3
  have HE : Hid (roleB ⟨ci, cp, ct, cv, 3, cd, cb, cbt, lg, cc, ys, ns, ms⟩ = false) := roleB_no fun h => by
   rcases h with ⟨e, h⟩ | ⟨e, h⟩ | ⟨e, h⟩
   ·cases e
   ·cases e
   ·exact hc3 h.y
  clear hc0 hc1 hc2 hc3 
  generalize ys.length = ny at *
  generalize ns.length = nn at *
  generalize ms.length = nm at *
  go_enter Try.func71, Try.ntmps71
  go_wp2_with fail
  go_ret
  rw [← hX0]
  exact ⟨by rw [HE.out]; rfl, B0.out⟩
 have zi3 : ((ys.length : Int) == 0) = true := by rw [hc3]; rfl
 have zn3 : (ys.length == 0) = true := by rw [hc3]; rfl
 cases hc4 : reachB ⟨ci, cp, ct, cv, 3, cd, cb, cbt, lg, cc, ys, ns, ms⟩
 ·rw [hc4] at cY1
  have HE : Hid (roleB ⟨ci, cp, ct, cv, 3, cd, cb, cbt, lg, cc, ys, ns, ms⟩ = false) := roleB_no fun h => by
   rcases h with ⟨e, h⟩ | ⟨e, h⟩ | ⟨e, h⟩
   ·cases e
   ·cases e
   ·exact HSN.out hc4 ⟨h.n, h.m, h.a, h.o⟩
  clear hc0 hc1 hc2 hc3 hc4
  generalize ys.length = ny at *
  generalize ns.length = nn at *
  generalize ms.length = nm at *
  go_enter Try.func71, Try.ntmps71
  go_wp2_with fail
  rw [← hX0]
  clear hX0
  have kk := cellsC13 K0.out
  obtain ⟨k0, k1, k2, k3, k4, k5, k6, k7, k8, k9, k10, k11, k12⟩ := kk
  clear k0 k1 k2 k3 k4 k5 k6 k7 k8 k9 k10 k11 k12
  refine cY1.mono ?_
  rintro e X1 ⟨rfl, hb⟩
  have B1 := Hid.mk (B0.out.trans (hb.mono B0.out.size))
  obtain ⟨k0, k1, k2, k3, k4, k5, k6, k7, k8, k9, k10, k11, k12⟩ := cellsC13 (K0.out.on hb K0.out.lt)
  clear hb
  go_wp2_with fail
  go_ret
  exact ⟨by rw [HE.out]; rfl, B1.out⟩
 rw [hc4] at cY1
 have HE : Hid (roleB ⟨ci, cp, ct, cv, 3, cd, cb, cbt, lg, cc, ys, ns, ms⟩ = true) := roleB_yes (.inr (.inr ⟨rfl, ⟨hc0, hc1, hc2, hc3, (HSY.out hc4).1, (HSY.out hc4).2.1, (HSY.out hc4).2.2.1, (HSY.out hc4).2.2.2⟩⟩))
 clear hc0 hc1 hc2 hc3 hc4
 generalize ys.length = ny at *
 generalize ns.length = nn at *
 generalize ms.length = nm at *
 go_enter Try.func71, Try.ntmps71
 go_wp2_with fail
 rw [← hX0]
 clear hX0
 have kk := cellsC13 K0.out
 obtain ⟨k0, k1, k2, k3, k4, k5, k6, k7, k8, k9, k10, k11, k12⟩ := kk
 clear k0 k1 k2 k3 k4 k5 k6 k7 k8 k9 k10 k11 k12
 refine cY1.mono ?_
 rintro e X1 ⟨rfl, hb⟩
 have B1 := Hid.mk (B0.out.trans (hb.mono B0.out.size))
 obtain ⟨k0, k1, k2, k3, k4, k5, k6, k7, k8, k9, k10, k11, k12⟩ := cellsC13 (K0.out.on hb K0.out.lt)
 clear hb
 go_wp2_with fail
 go_ret
 exact ⟨by rw [HE.out]; rfl, B1.out⟩
set_option maxHeartbeats 4000000 in
theorem roleIx (ci cp ct cv cr cd cb cbt : Int) (lg : List Ent) (cc : Int) (ys ns ms : List Int) (A0 : Option Addr) (n0 c0 : Nat) (u1 u2 u3 : Value) (w : World) (B : Nat) (hy : NumsV w B u1 ys) (hn : NumsV w B u2 ns) (hm : NumsV w B u3 ms) (hly : ys.length ≤ 1048576) (hln : ns.length ≤ 1048576) (hlm : ms.length ≤ 1048576) (hp0 : 1 ≤ cp) (hp1 : cp ≤ 5) (hi0 : 0 ≤ ci) (hi1 : ci ≤ cp - 1) (hb0 : 0 ≤ cb) (hb1 : cb ≤ 200000) (hl0 : lg.length = n0) (hl1 : n0 ≤ 1048576) (hB : B ≤ w.heap.size) (hr1 : ¬ cr = 1) (hr2 : ¬ cr = 2) (hr3 : ¬ cr = 3) : Calls Try.prog 71 #[.agg #[.int .i64 ci, .int .i64 cp, .int .i64 ct, .int .i64 cv, .int .i64 cr, .int .i64 cd, .int .i64 cb, .int .i64 cbt, .slice A0 n0 c0, .int .i64 cc, u1, u2, u3]] w fun e w' => e = .returned (.bool (roleB ⟨ci, cp, ct, cv, cr, cd, cb, cbt, lg, cc, ys, ns, ms⟩)) ∧ Below w.heap.size w w' := by
 have HYv : Hid (NumsV w B u1 ys ∧ NumsV w B u2 ns ∧ NumsV w B u3 ms) := ⟨hy, hn, hm⟩
 have HBB : Hid (B ≤ w.heap.size) := hB
 obtain ⟨A1, c1, rfl, _⟩ := hy
 obtain ⟨A2, c2, rfl, _⟩ := hn
 obtain ⟨A3, c3, rfl, _⟩ := hm
 obtain ⟨X0, hX0⟩ : ∃ X0, X0 = w.alloc (.cells #[.int .i64 ci, .int .i64 cp, .int .i64 ct, .int .i64 cv, .int .i64 cr, .int .i64 cd, .int .i64 cb, .int .i64 cbt, .slice A0 n0 c0, .int .i64 cc, .slice A1 ys.length c1, .slice A2 ns.length c2, .slice A3 ms.length c3] 29) := ⟨_, rfl⟩
 have B0 : Hid (Below w.heap.size w X0) := by unfold Hid; rw [hX0]; exact (Below.refl _ _).alloc (Nat.le_refl _) _
 have w1 : IntKind.i64.wrap (cp - 1) = cp - 1 := by rw [IntKind.wrap_i64]; omega
 have K0 : Hid (Blk X0 w.heap.size #[.int .i64 ci, .int .i64 cp, .int .i64 ct, .int .i64 cv, .int .i64 cr, .int .i64 cd, .int .i64 cb, .int .i64 cbt, .slice A0 n0 c0, .int .i64 cc, .slice A1 ys.length c1, .slice A2 ns.length c2, .slice A3 ms.length c3] 29) := by unfold Hid; rw [hX0]; exact Blk.new w _ _
 have qy : (ys.length : Int) ≤ 1048576 := by omega
 have qn : (ns.length : Int) ≤ 1048576 := by omega
 have qm : (ms.length : Int) ≤ 1048576 := by omega
 have HF : Hid (roleB ⟨ci, cp, ct, cv, cr, cd, cb, cbt, lg, cc, ys, ns, ms⟩ = false) := roleB_no fun h => by rcases h with ⟨e, _⟩ | ⟨e, _⟩ | ⟨e, _⟩ <;> simp only at e <;> omega
 have e1 : (cr == 1) = false := beq_eq_false_iff_ne.2 hr1
 have e2 : (cr == 2) = false := beq_eq_false_iff_ne.2 hr2
 have e3 : (cr == 3) = false := beq_eq_false_iff_ne.2 hr3
 clear K0
 generalize ys.length = ny at *
 generalize ns.length = nn at *
 generalize ms.length = nm at *
 go_enter Try.func71, Try.ntmps71
 go_wp2_with fail
 go_ret
 rw [← hX0]
 exact ⟨by rw [HF.out]; rfl, B0.out⟩
theorem roleI (ci cp ct cv cr cd cb cbt : Int) (lg : List Ent) (cc : Int) (ys ns ms : List Int) (A0 : Option Addr) (n0 c0 : Nat) (u1 u2 u3 : Value) (w : World) (B : Nat) (hy : NumsV w B u1 ys) (hn : NumsV w B u2 ns) (hm : NumsV w B u3 ms) (hly : ys.length ≤ 1048576) (hln : ns.length ≤ 1048576) (hlm : ms.length ≤ 1048576) (hp0 : 1 ≤ cp) (hp1 : cp ≤ 5) (hi0 : 0 ≤ ci) (hi1 : ci ≤ cp - 1) (hb0 : 0 ≤ cb) (hb1 : cb ≤ 200000) (hl0 : lg.length = n0) (hl1 : n0 ≤ 1048576) (hB : B ≤ w.heap.size) : Calls Try.prog 71 #[.agg #[.int .i64 ci, .int .i64 cp, .int .i64 ct, .int .i64 cv, .int .i64 cr, .int .i64 cd, .int .i64 cb, .int .i64 cbt, .slice A0 n0 c0, .int .i64 cc, u1, u2, u3]] w fun e w' => e = .returned (.bool (roleB ⟨ci, cp, ct, cv, cr, cd, cb, cbt, lg, cc, ys, ns, ms⟩)) ∧ Below w.heap.size w w' := by
 by_cases h1 : cr = 1
 ·subst h1; exact roleI1 ci cp ct cv cd cb cbt lg cc ys ns ms A0 n0 c0 u1 u2 u3 w B hy hn hm hly hln hlm hp0 hp1 hi0 hi1 hb0 hb1 hl0 hl1 hB
 by_cases h2 : cr = 2
 ·subst h2; exact roleI2 ci cp ct cv cd cb cbt lg cc ys ns ms A0 n0 c0 u1 u2 u3 w B hy hn hm hly hln hlm hp0 hp1 hi0 hi1 hb0 hb1 hl0 hl1 hB
 by_cases h3 : cr = 3
 ·subst h3; exact roleI3 ci cp ct cv cd cb cbt lg cc ys ns ms A0 n0 c0 u1 u2 u3 w B hy hn hm hly hln hlm hp0 hp1 hi0 hi1 hb0 hb1 hl0 hl1 hB
 exact roleIx ci cp ct cv cr cd cb cbt lg cc ys ns ms A0 n0 c0 u1 u2 u3 w B hy hn hm hly hln hlm hp0 hp1 hi0 hi1 hb0 hb1 hl0 hl1 hB h1 h2 h3
end Go.Proofs.Ytlhoonohpfpkbaa
namespace Go.Proofs.Ytlhoonohpfpkbaa
open Go.ChangeShapes Go.WideShapes Go.ChangeAt Go.RowKit Go.PlainAid
set_option linter.unusedVariables false
set_option maxHeartbeats 16000000 in
theorem implCoreOk (x : Cor) (v : Value) (w : World) (B : Nat) (hv : CorV w B v x) (hs : ShortC x) (hB : B ≤ w.heap.size) : Calls Try.prog 52 #[v] w fun e w' => e = .returned (.bool (corOk x)) ∧ Below w.heap.size w w' := by
 obtain ⟨ci, cp, ct, cv, cr, cd, cb, cbt, lg, cc, ys, ns, ms⟩ := x
 obtain ⟨u0, u1, u2, u3, rfl, hl, hy, hn, hm⟩ := hv
 unfold vCo
 simp only at hl hy hn hm ⊢
 have HYv : Hid (NumsV w B u1 ys ∧ NumsV w B u2 ns ∧ NumsV w B u3 ms) := ⟨hy, hn, hm⟩
 have HLg : Hid (Lies w B 2 u0 (entR lg)) := hl
 have HBB : Hid (B ≤ w.heap.size) := hB
 have HS : Hid (ShortC ⟨ci, cp, ct, cv, cr, cd, cb, cbt, lg, cc, ys, ns, ms⟩) := hs
 obtain ⟨A0, c0, rfl, _⟩ := ent_look hl
 obtain ⟨A1, c1, rfl, _⟩ := hy
 obtain ⟨A2, c2, rfl, _⟩ := hn
 obtain ⟨A3, c3, rfl, _⟩ := hm
 have a1 := inW cp 1 5
 have a2 := inW ci 0 (cp - 1)
 have cW := fun wx => walI ci cp ct cv cr cd cb cbt cc A0 lg.length c0 (.slice A1 ys.length c1) (.slice A2 ns.length c2) (.slice A3 ms.length c3) wx
 have cO := fun wx h1 h2 => implWalOk (corW ⟨ci, cp, ct, cv, cr, cd, cb, cbt, lg, cc, ys, ns, ms⟩) (.agg #[.int .i64 ct, .int .i64 cv, .int .i64 cb, .int .i64 cbt, .slice A0 lg.length c0]) wx B ⟨_, rfl, h1⟩ ⟨Nat.le_trans hs.n (by decide), fun e he => Nat.le_trans (hs.d e he) (by decide)⟩ h2
 have cL := fun h0 h1 wx => lastI ci cp ct cv cr cd cb cbt cc A0 lg.length c0 (.slice A1 ys.length c1) (.slice A2 ns.length c2) (.slice A3 ms.length c3) wx h0 h1 hs.n
 have a4 := inW cc cb (cb + (lg.length : Int))
 have cR := fun h1 h2 h3 h4 h5 h6 wx q1 q2 q3 q4 => roleI ci cp ct cv cr cd cb cbt lg cc ys ns ms A0 lg.length c0 (.slice A1 ys.length c1) (.slice A2 ns.length c2) (.slice A3 ms.length c3) wx B q1 q2 q3 hs.y hs.q hs.m h1 h2 h3 h4 h5 h6 rfl hs.n q4
 have HNo : Hid (¬ COk0 ⟨ci, cp, ct, cv, cr, cd, cb, cbt, lg, cc, ys, ns, ms⟩ → corOk ⟨ci, cp, ct, cv, cr, cd, cb, cbt, lg, cc, ys, ns, ms⟩ = false) := fun h => corOk_no fun q => h q.1
 have HYe : Hid (COk0 ⟨ci, cp, ct, cv, cr, cd, cb, cbt, lg, cc, ys, ns, ms⟩ → corOk ⟨ci, cp, ct, cv, cr, cd, cb, cbt, lg, cc, ys, ns, ms⟩ = roleB ⟨ci, cp, ct, cv, cr, cd, cb, cbt, lg, cc, ys, ns, ms⟩) := corOk_and
 have HCl : Hid (cLast ⟨ci, cp, ct, cv, cr, cd, cb, cbt, lg, cc, ys, ns, ms⟩ = cb + (lg.length : Int)) := rfl
 have HWl : Hid (walOk (corW ⟨ci, cp, ct, cv, cr, cd, cb, cbt, lg, cc, ys, ns, ms⟩) = true → 0 ≤ cb ∧ cb ≤ 100000) := fun h => (walOk_in h).2.2.1
 have q0 : (lg.length : Int) ≤ 1048576 := by have := hs.n; simp only at this; omega
 clear hl hs hB
 generalize lg.length = n0 at *
 generalize ys.length = n1 at *
 generalize ns.length = n2 at *
 generalize ms.length = n3 at *
 obtain ⟨X0, hX0⟩ : ∃ X0, X0 = w.alloc (.cells #[.int .i64 ci, .int .i64 cp, .int .i64 ct, .int .i64 cv, .int .i64 cr, .int .i64 cd, .int .i64 cb, .int .i64 cbt, .slice A0 n0 c0, .int .i64 cc, .slice A1 n1 c1, .slice A2 n2 c2, .slice A3 n3 c3] 29) := ⟨_, rfl⟩
 have B0 : Hid (Below w.heap.size w X0) := by unfold Hid; rw [hX0]; exact (Below.refl _ _).alloc (Nat.le_refl _) _
 have K0 : Hid (Blk X0 w.heap.size #[.int .i64 ci, .int .i64 cp, .int .i64 ct, .int .i64 cv, .int .i64 cr, .int .i64 cd, .int .i64 cb, .int .i64 cbt, .slice A0 n0 c0, .int .i64 cc, .slice A1 n1 c1, .slice A2 n2 c2, .slice A3 n3 c3] 29) := by unfold Hid; rw [hX0]; exact Blk.new w _ _
 cases h1 : inIt cp 1 5 <;> rw [h1] at a1
 ·have HE : Hid (corOk ⟨ci, cp, ct, cv, cr, cd, cb, cbt, lg, cc, ys, ns, ms⟩ = false) := HNo.out fun q => by have a := q.p; simp only at a; rw [show inIt cp 1 5 = true by unfold inIt; simp [a.1, a.2]] at h1; cases h1
  clear h1 a2 cW cO cL a4 cR
  go_enter Try.func52, Try.ntmps52
  go_wp2_with fail
  rw [← hX0]
  clear hX0
  refine wp_region_until (fun w' => w'.cell? ⟨w.heap.size, 0, none⟩ = some (.int .i64 ci) ∧ w'.cell? ⟨w.heap.size, 1, none⟩ = some (.int .i64 cp) ∧ w'.cell? ⟨w.heap.size, 2, none⟩ = some (.int .i64 ct) ∧ w'.cell? ⟨w.heap.size, 3, none⟩ = some (.int .i64 cv) ∧ w'.cell? ⟨w.heap.size, 4, none⟩ = some (.int .i64 cr) ∧ w'.cell? ⟨w.heap.size, 5, none⟩ = some (.int .i64 cd) ∧ w'.cell? ⟨w.heap.size, 6, none⟩ = some (.int .i64 cb) ∧ w'.cell? ⟨w.heap.size, 7, none⟩ = some (.int .i64 cbt) ∧ w'.cell? ⟨w.heap.size, 8, none⟩ = some (.slice A0 n0 c0) ∧ w'.cell? ⟨w.heap.size, 9, none⟩ = some (.int .i64 cc) ∧ w'.cell? ⟨w.heap.size, 10, none⟩ = some (.slice A1 n1 c1) ∧ w'.cell? ⟨w.heap.size, 11, none⟩ = some (.slice A2 n2 c2) ∧ w'.cell? ⟨w.heap.size, 12, none⟩ = some (.slice A3 n3 c3)) (fun _ => false) 37 (by rfl) (by kernel_rfl) ?_
  have V0 : Hid (Below w.heap.size w X0.drew) := B0.out.trans ((Below.refl _ _).drew.mono B0.out.size)
  have KY0 := Hid.mk (K0.out.on ((Below.refl _ X0).drew) K0.out.lt)
  generalize X0.drew = Y0 at *
  have SS0 := Hid.mk (cellsC13 KY0.out)
  refine pF 0 ?_
  refine tF 1 SS0.out ?_
  refine uNe 2 (fun K hK => ?_)
  go_simp
  refine (a1 _).mono ?_
  rintro e w' ⟨rfl, rfl⟩
  refine hK.out _ _ (fun _ h => h) ?_
  clear hK K
  try simp only [Act.put, zQ1, zQ2, zQ3]
  refine pF 3 ?_
  refine sF 4 ?_
  refine sF 5 ?_
  refine sF 6 ?_
  refine sF 7 ?_
  refine sF 8 ?_
  refine sF 9 ?_
  refine pF 10 ?_
  refine pF 11 ?_
  refine sF 12 ?_
  refine sF 13 ?_
  refine sF 14 ?_
  refine pF 15 ?_
  refine pF 16 ?_
  refine sF 17 ?_
  refine sF 18 ?_
  refine sF 19 ?_
  refine sF 20 ?_
  refine sF 21 ?_
  refine pF 22 ?_
  refine pF 23 ?_
  refine sF 24 ?_
  refine sF 25 ?_
  refine sF 26 ?_
  refine sF 27 ?_
  refine sF 28 ?_
  refine sF 29 ?_
  refine sF 30 ?_
  refine pF 31 ?_
  refine pF 32 ?_
  refine sF 33 ?_
  refine sF 34 ?_
  refine pF 35 ?_
  refine pF 36 ?_
  refine until_done (by kernel_rfl) ?_ _
  go_wp2_with fail
  go_ret
  exact ⟨by rw [HE.out]; rfl, V0.out⟩
 obtain ⟨p0, p1⟩ := inIt_in _ _ _ h1
 have w1 : IntKind.i64.wrap (cp - 1) = cp - 1 := by rw [IntKind.wrap_i64]; omega
 cases h2 : inIt ci 0 (cp - 1) <;> rw [h2] at a2
 ·have HE : Hid (corOk ⟨ci, cp, ct, cv, cr, cd, cb, cbt, lg, cc, ys, ns, ms⟩ = false) := HNo.out fun q => by have a := q.i; simp only at a; rw [show inIt ci 0 (cp - 1) = true by unfold inIt; simp [a.1, a.2]] at h2; cases h2
  clear h1 h2 cW cO cL a4 cR
  go_enter Try.func52, Try.ntmps52
  go_wp2_with fail
  rw [← hX0]
  clear hX0
  refine wp_region_until (fun w' => w'.cell? ⟨w.heap.size, 0, none⟩ = some (.int .i64 ci) ∧ w'.cell? ⟨w.heap.size, 1, none⟩ = some (.int .i64 cp) ∧ w'.cell? ⟨w.heap.size, 2, none⟩ = some (.int .i64 ct) ∧ w'.cell? ⟨w.heap.size, 3, none⟩ = some (.int .i64 cv) ∧ w'.cell? ⟨w.heap.size, 4, none⟩ = some (.int .i64 cr) ∧ w'.cell? ⟨w.heap.size, 5, none⟩ = some (.int .i64 cd) ∧ w'.cell? ⟨w.heap.size, 6, none⟩ = some (.int .i64 cb) ∧ w'.cell? ⟨w.heap.size, 7, none⟩ = some (.int .i64 cbt) ∧ w'.cell? ⟨w.heap.size, 8, none⟩ = some (.slice A0 n0 c0) ∧ w'.cell? ⟨w.heap.size, 9, none⟩ = some (.int .i64 cc) ∧ w'.cell? ⟨w.heap.size, 10, none⟩ = some (.slice A1 n1 c1) ∧ w'.cell? ⟨w.heap.size, 11, none⟩ = some (.slice A2 n2 c2) ∧ w'.cell? ⟨w.heap.size, 12, none⟩ = some (.slice A3 n3 c3)) (fun _ => false) 37 (by rfl) (by kernel_rfl) ?_
  have V0 : Hid (Below w.heap.size w X0.drew) := B0.out.trans ((Below.refl _ _).drew.mono B0.out.size)
  have KY0 := Hid.mk (K0.out.on ((Below.refl _ X0).drew) K0.out.lt)
  generalize X0.drew = Y0 at *
  have SS0 := Hid.mk (cellsC13 KY0.out)
  refine pF 0 ?_
  refine tF 1 SS0.out ?_
  refine uNe 2 (fun K hK => ?_)
  go_simp
  refine (a1 _).mono ?_
  rintro e w' ⟨rfl, rfl⟩
  refine hK.out _ _ (fun _ h => h) ?_
  clear hK K
  try simp only [Act.put, zQ1, zQ2, zQ3]
  refine pF 3 ?_
  refine pF 4 ?_
  refine tF 5 SS0.out ?_
  refine pF 6 ?_
  refine tF 7 SS0.out ?_
  refine pF 8 ?_
  refine uNe 9 (fun K hK => ?_)
  go_simp
  refine (a2 _).mono ?_
  rintro e w' ⟨rfl, rfl⟩
  refine hK.out _ _ (fun _ h => h) ?_
  clear hK K
  try simp only [Act.put, zQ1, zQ2, zQ3]
  refine pF 10 ?_
  refine pF 11 ?_
  refine sF 12 ?_
  refine sF 13 ?_
  refine sF 14 ?_
  refine pF 15 ?_
  refine pF 16 ?_
  refine sF 17 ?_
  refine sF 18 ?_
  refine sF 19 ?_
  refine sF 20 ?_
  refine sF 21 ?_
  refine pF 22 ?_
  refine pF 23 ?_
  refine sF 24 ?_
  refine sF 25 ?_
  refine sF 26 ?_
  refine sF 27 ?_
  refine sF 28 ?_
  refine sF 29 ?_
  refine sF 30 ?_
  refine pF 31 ?_
  refine pF 32 ?_
  refine sF 33 ?_
  refine sF 34 ?_
  refine pF 35 ?_
  refine pF 36 ?_
  refine until_done (by kernel_rfl) ?_ _
  go_wp2_with fail
  go_ret
  exact ⟨by rw [HE.out]; rfl, V0.out⟩
 obtain ⟨i0, i1⟩ := inIt_in _ _ _ h2
 cases h3 : walOk (corW ⟨ci, cp, ct, cv, cr, cd, cb, cbt, lg, cc, ys, ns, ms⟩) <;> rw [h3] at cO
 ·have HE : Hid (corOk ⟨ci, cp, ct, cv, cr, cd, cb, cbt, lg, cc, ys, ns, ms⟩ = false) := HNo.out fun q => by have a := q.w; rw [h3] at a; cases a
  clear h1 h2 h3 cL a4 cR
  go_enter Try.func52, Try.ntmps52
  go_wp2_with fail
  rw [← hX0]
  clear hX0
  refine wp_region_until (fun w' => w'.cell? ⟨w.heap.size, 0, none⟩ = some (.int .i64 ci) ∧ w'.cell? ⟨w.heap.size, 1, none⟩ = some (.int .i64 cp) ∧ w'.cell? ⟨w.heap.size, 2, none⟩ = some (.int .i64 ct) ∧ w'.cell? ⟨w.heap.size, 3, none⟩ = some (.int .i64 cv) ∧ w'.cell? ⟨w.heap.size, 4, none⟩ = some (.int .i64 cr) ∧ w'.cell? ⟨w.heap.size, 5, none⟩ = some (.int .i64 cd) ∧ w'.cell? ⟨w.heap.size, 6, none⟩ = some (.int .i64 cb) ∧ w'.cell? ⟨w.heap.size, 7, none⟩ = some (.int .i64 cbt) ∧ w'.cell? ⟨w.heap.size, 8, none⟩ = some (.slice A0 n0 c0) ∧ w'.cell? ⟨w.heap.size, 9, none⟩ = some (.int .i64 cc) ∧ w'.cell? ⟨w.heap.size, 10, none⟩ = some (.slice A1 n1 c1) ∧ w'.cell? ⟨w.heap.size, 11, none⟩ = some (.slice A2 n2 c2) ∧ w'.cell? ⟨w.heap.size, 12, none⟩ = some (.slice A3 n3 c3)) (fun _ => false) 37 (by rfl) (by kernel_rfl) ?_
  have V0 : Hid (Below w.heap.size w X0.drew) := B0.out.trans ((Below.refl _ _).drew.mono B0.out.size)
  have KY0 := Hid.mk (K0.out.on ((Below.refl _ X0).drew) K0.out.lt)
  generalize X0.drew = Y0 at *
  have SS0 := Hid.mk (cellsC13 KY0.out)
  refine pF 0 ?_
  refine tF 1 SS0.out ?_
  refine uNe 2 (fun K hK => ?_)
  go_simp
  refine (a1 _).mono ?_
  rintro e w' ⟨rfl, rfl⟩
  refine hK.out _ _ (fun _ h => h) ?_
  clear hK K
  try simp only [Act.put, zQ1, zQ2, zQ3]
  refine pF 3 ?_
  refine pF 4 ?_
  refine tF 5 SS0.out ?_
  refine pF 6 ?_
  refine tF 7 SS0.out ?_
  refine pF 8 ?_
  refine uNe 9 (fun K hK => ?_)
  go_simp
  refine (a2 _).mono ?_
  rintro e w' ⟨rfl, rfl⟩
  refine hK.out _ _ (fun _ h => h) ?_
  clear hK K
  try simp only [Act.put, zQ1, zQ2, zQ3]
  refine pF 10 ?_
  refine pF 11 ?_
  refine tF 12 SS0.out ?_
  refine uNe 13 (fun K hK => ?_)
  go_simp
  refine (cW Y0).mono ?_
  rintro e Y1 ⟨rfl, hb⟩
  have V1 : Hid (Below w.heap.size w Y1) := V0.out.trans (hb.mono V0.out.size)
  have KY1 := Hid.mk (KY0.out.on hb KY0.out.lt)
  have SS1 := Hid.mk (cellsC13 KY1.out)
  clear hb
  refine hK.out _ _ (fun _ _ => SS1.out) ?_
  clear hK K
  try simp only [Act.put, zQ1, zQ2, zQ3]
  refine uNe 14 (fun K hK => ?_)
  go_simp
  refine (cO Y1 (HLg.out.on (V1.out.mono HBB.out)) (Nat.le_trans HBB.out V1.out.size)).mono ?_
  rintro e Y2 ⟨rfl, hb⟩
  have V2 : Hid (Below w.heap.size w Y2) := V1.out.trans (hb.mono V1.out.size)
  have KY2 := Hid.mk (KY1.out.on hb KY1.out.lt)
  have SS2 := Hid.mk (cellsC13 KY2.out)
  clear hb
  refine hK.out _ _ (fun _ _ => SS2.out) ?_
  clear hK K
  try simp only [Act.put, zQ1, zQ2, zQ3]
  refine pF 15 ?_
  refine pF 16 ?_
  refine sF 17 ?_
  refine sF 18 ?_
  refine sF 19 ?_
  refine sF 20 ?_
  refine sF 21 ?_
  refine pF 22 ?_
  refine pF 23 ?_
  refine sF 24 ?_
  refine sF 25 ?_
  refine sF 26 ?_
  refine sF 27 ?_
  refine sF 28 ?_
  refine sF 29 ?_
  refine sF 30 ?_
  refine pF 31 ?_
  refine pF 32 ?_
  refine sF 33 ?_
  refine sF 34 ?_
  refine pF 35 ?_
  refine pF 36 ?_
  refine until_done (by kernel_rfl) ?_ _
  go_wp2_with fail
  go_ret
  exact ⟨by rw [HE.out]; rfl, V2.out⟩
 obtain ⟨b0, b1⟩ := HWl.out h3
 have cL := cL b0 (by omega)
 have cR := cR p0 p1 i0 i1 b0 (by omega)
 by_cases h4 : cv < cp
 rotate_left
 ·have z4 : decide (cv < cp) = false := decide_eq_false h4
  have HE : Hid (corOk ⟨ci, cp, ct, cv, cr, cd, cb, cbt, lg, cc, ys, ns, ms⟩ = false) := HNo.out fun q => h4 q.v
  clear h1 h2 h3 h4 cL a4 cR
  go_enter Try.func52, Try.ntmps52
  go_wp2_with fail
  rw [← hX0]
  clear hX0
  refine wp_region_until (fun w' => w'.cell? ⟨w.heap.size, 0, none⟩ = some (.int .i64 ci) ∧ w'.cell? ⟨w.heap.size, 1, none⟩ = some (.int .i64 cp) ∧ w'.cell? ⟨w.heap.size, 2, none⟩ = some (.int .i64 ct) ∧ w'.cell? ⟨w.heap.size, 3, none⟩ = some (.int .i64 cv) ∧ w'.cell? ⟨w.heap.size, 4, none⟩ = some (.int .i64 cr) ∧ w'.cell? ⟨w.heap.size, 5, none⟩ = some (.int .i64 cd) ∧ w'.cell? ⟨w.heap.size, 6, none⟩ = some (.int .i64 cb) ∧ w'.cell? ⟨w.heap.size, 7, none⟩ = some (.int .i64 cbt) ∧ w'.cell? ⟨w.heap.size, 8, none⟩ = some (.slice A0 n0 c0) ∧ w'.cell? ⟨w.heap.size, 9, none⟩ = some (.int .i64 cc) ∧ w'.cell? ⟨w.heap.size, 10, none⟩ = some (.slice A1 n1 c1) ∧ w'.cell? ⟨w.heap.size, 11, none⟩ = some (.slice A2 n2 c2) ∧ w'.cell? ⟨w.heap.size, 12, none⟩ = some (.slice A3 n3 c3)) (fun _ => false) 37 (by rfl) (by kernel_rfl) ?_
  have V0 : Hid (Below w.heap.size w X0.drew) := B0.out.trans ((Below.refl _ _).drew.mono B0.out.size)
  have KY0 := Hid.mk (K0.out.on ((Below.refl _ X0).drew) K0.out.lt)
  generalize X0.drew = Y0 at *
  have SS0 := Hid.mk (cellsC13 KY0.out)
  refine pF 0 ?_
  refine tF 1 SS0.out ?_
  refine uNe 2 (fun K hK => ?_)
  go_simp
  refine (a1 _).mono ?_
  rintro e w' ⟨rfl, rfl⟩
  refine hK.out _ _ (fun _ h => h) ?_
  clear hK K
  try simp only [Act.put, zQ1, zQ2, zQ3]
  refine pF 3 ?_
  refine pF 4 ?_
  refine tF 5 SS0.out ?_
  refine pF 6 ?_
  refine tF 7 SS0.out ?_
  refine pF 8 ?_
  refine uNe 9 (fun K hK => ?_)
  go_simp
  refine (a2 _).mono ?_
  rintro e w' ⟨rfl, rfl⟩
  refine hK.out _ _ (fun _ h => h) ?_
  clear hK K
  try simp only [Act.put, zQ1, zQ2, zQ3]
  refine pF 10 ?_
  refine pF 11 ?_
  refine tF 12 SS0.out ?_
  refine uNe 13 (fun K hK => ?_)
  go_simp
  refine (cW Y0).mono ?_
  rintro e Y1 ⟨rfl, hb⟩
  have V1 : Hid (Below w.heap.size w Y1) := V0.out.trans (hb.mono V0.out.size)
  have KY1 := Hid.mk (KY0.out.on hb KY0.out.lt)
  have SS1 := Hid.mk (cellsC13 KY1.out)
  clear hb
  refine hK.out _ _ (fun _ _ => SS1.out) ?_
  clear hK K
  try simp only [Act.put, zQ1, zQ2, zQ3]
  refine uNe 14 (fun K hK => ?_)
  go_simp
  refine (cO Y1 (HLg.out.on (V1.out.mono HBB.out)) (Nat.le_trans HBB.out V1.out.size)).mono ?_
  rintro e Y2 ⟨rfl, hb⟩
  have V2 : Hid (Below w.heap.size w Y2) := V1.out.trans (hb.mono V1.out.size)
  have KY2 := Hid.mk (KY1.out.on hb KY1.out.lt)
  have SS2 := Hid.mk (cellsC13 KY2.out)
  clear hb
  refine hK.out _ _ (fun _ _ => SS2.out) ?_
  clear hK K
  try simp only [Act.put, zQ1, zQ2, zQ3]
  refine pF 15 ?_
  refine pF 16 ?_
  refine pF 17 ?_
  refine tF 18 SS2.out ?_
  refine pF 19 ?_
  refine tF 20 SS2.out ?_
  refine pF 21 ?_
  refine pF 22 ?_
  refine pF 23 ?_
  refine sF 24 ?_
  refine sF 25 ?_
  refine sF 26 ?_
  refine sF 27 ?_
  refine sF 28 ?_
  refine sF 29 ?_
  refine sF 30 ?_
  refine pF 31 ?_
  refine pF 32 ?_
  refine sF 33 ?_
  refine sF 34 ?_
  refine pF 35 ?_
  refine pF 36 ?_
  refine until_done (by kernel_rfl) ?_ _
  go_wp2_with fail
  go_ret
  exact ⟨by rw [HE.out]; rfl, V2.out⟩
 have z4 : decide (cv < cp) = true := decide_eq_true h4
 cases h5 : inIt cc cb (cb + (n0 : Int)) <;> rw [h5] at a4
 ·have HE : Hid (corOk ⟨ci, cp, ct, cv, cr, cd, cb, cbt, lg, cc, ys, ns, ms⟩ = false) := HNo.out fun q => by have a := q.c; rw [HCl.out] at a; simp only at a; rw [show inIt cc cb (cb + (n0 : Int)) = true by unfold inIt; simp [a.1, a.2]] at h5; cases h5
  clear h1 h2 h3 h4 h5 cR
  go_enter Try.func52, Try.ntmps52
  go_wp2_with fail
  rw [← hX0]
  clear hX0
  refine wp_region_until (fun w' => w'.cell? ⟨w.heap.size, 0, none⟩ = some (.int .i64 ci) ∧ w'.cell? ⟨w.heap.size, 1, none⟩ = some (.int .i64 cp) ∧ w'.cell? ⟨w.heap.size, 2, none⟩ = some (.int .i64 ct) ∧ w'.cell? ⟨w.heap.size, 3, none⟩ = some (.int .i64 cv) ∧ w'.cell? ⟨w.heap.size, 4, none⟩ = some (.int .i64 cr) ∧ w'.cell? ⟨w.heap.size, 5, none⟩ = some (.int .i64 cd) ∧ w'.cell? ⟨w.heap.size, 6, none⟩ = some (.int .i64 cb) ∧ w'.cell? ⟨w.heap.size, 7, none⟩ = some (.int .i64 cbt) ∧ w'.cell? ⟨w.heap.size, 8, none⟩ = some (.slice A0 n0 c0) ∧ w'.cell? ⟨w.heap.size, 9, none⟩ = some (.int .i64 cc) ∧ w'.cell? ⟨w.heap.size, 10, none⟩ = some (.slice A1 n1 c1) ∧ w'.cell? ⟨w.heap.size, 11, none⟩ = some (.slice A2 n2 c2) ∧ w'.cell? ⟨w.heap.size, 12, none⟩ = some (.slice A3 n3 c3)) (fun _ => false) 37 (by rfl) (by kernel_rfl) ?_
  have V0 : Hid (Below w.heap.size w X0.drew) := B0.out.trans ((Below.refl _ _).drew.mono B0.out.size)
  have KY0 := Hid.mk (K0.out.on ((Below.refl _ X0).drew) K0.out.lt)
  generalize X0.drew = Y0 at *
  have SS0 := Hid.mk (cellsC13 KY0.out)
  refine pF 0 ?_
  refine tF 1 SS0.out ?_
  refine uNe 2 (fun K hK => ?_)
  go_simp
  refine (a1 _).mono ?_
  rintro e w' ⟨rfl, rfl⟩
  refine hK.out _ _ (fun _ h => h) ?_
  clear hK K
  try simp only [Act.put, zQ1, zQ2, zQ3]
  refine pF 3 ?_
  refine pF 4 ?_
  refine tF 5 SS0.out ?_
  refine pF 6 ?_
  refine tF 7 SS0.out ?_
  refine pF 8 ?_
  refine uNe 9 (fun K hK => ?_)
  go_simp
  refine (a2 _).mono ?_
  rintro e w' ⟨rfl, rfl⟩
  refine hK.out _ _ (fun _ h => h) ?_
  clear hK K
  try simp only [Act.put, zQ1, zQ2, zQ3]
  refine pF 10 ?_
  refine pF 11 ?_
  refine tF 12 SS0.out ?_
  refine uNe 13 (fun K hK => ?_)
  go_simp
  refine (cW Y0).mono ?_
  rintro e Y1 ⟨rfl, hb⟩
  have V1 : Hid (Below w.heap.size w Y1) := V0.out.trans (hb.mono V0.out.size)
  have KY1 := Hid.mk (KY0.out.on hb KY0.out.lt)
  have SS1 := Hid.mk (cellsC13 KY1.out)
  clear hb
  refine hK.out _ _ (fun _ _ => SS1.out) ?_
  clear hK K
  try simp only [Act.put, zQ1, zQ2, zQ3]
  refine uNe 14 (fun K hK => ?_)
  go_simp
  refine (cO Y1 (HLg.out.on (V1.out.mono HBB.out)) (Nat.le_trans HBB.out V1.out.size)).mono ?_
  rintro e Y2 ⟨rfl, hb⟩
  have V2 : Hid (Below w.heap.size w Y2) := V1.out.trans (hb.mono V1.out.size)
  have KY2 := Hid.mk (KY1.out.on hb KY1.out.lt)
  have SS2 := Hid.mk (cellsC13 KY2.out)
  clear hb
  refine hK.out _ _ (fun _ _ => SS2.out) ?_
  clear hK K
  try simp only [Act.put, zQ1, zQ2, zQ3]
  refine pF 15 ?_
  refine pF 16 ?_
  refine pF 17 ?_
  refine tF 18 SS2.out ?_
  refine pF 19 ?_
  refine tF 20 SS2.out ?_
  refine pF 21 ?_
  refine pF 22 ?_
  refine pF 23 ?_
  refine pF 24 ?_
  refine tF 25 SS2.out ?_
  refine pF 26 ?_
  refine tF 27 SS2.out ?_
  refine tF 28 SS2.out ?_
  refine uNe 29 (fun K hK => ?_)
  go_simp
  refine (cL Y2).mono ?_
  rintro e Y3 ⟨rfl, hb⟩
  have V3 : Hid (Below w.heap.size w Y3) := V2.out.trans (hb.mono V2.out.size)
  have KY3 := Hid.mk (KY2.out.on hb KY2.out.lt)
  have SS3 := Hid.mk (cellsC13 KY3.out)
  clear hb
  refine hK.out _ _ (fun _ _ => SS3.out) ?_
  clear hK K
  try simp only [Act.put, zQ1, zQ2, zQ3]
  refine uNe 30 (fun K hK => ?_)
  go_simp
  refine (a4 _).mono ?_
  rintro e w' ⟨rfl, rfl⟩
  refine hK.out _ _ (fun _ h => h) ?_
  clear hK K
  try simp only [Act.put, zQ1, zQ2, zQ3]
  refine pF 31 ?_
  refine pF 32 ?_
  refine sF 33 ?_
  refine sF 34 ?_
  refine pF 35 ?_
  refine pF 36 ?_
  refine until_done (by kernel_rfl) ?_ _
  go_wp2_with fail
  go_ret
  exact ⟨by rw [HE.out]; rfl, V3.out⟩
 obtain ⟨m0, m1⟩ := inIt_in _ _ _ h5
 have HE : Hid (corOk ⟨ci, cp, ct, cv, cr, cd, cb, cbt, lg, cc, ys, ns, ms⟩ = roleB ⟨ci, cp, ct, cv, cr, cd, cb, cbt, lg, cc, ys, ns, ms⟩) := HYe.out ⟨⟨p0, p1⟩, ⟨i0, i1⟩, h3, h4, ⟨m0, by rw [HCl.out]; exact m1⟩⟩
 clear h1 h2 h3 h4 h5
 go_enter Try.func52, Try.ntmps52
 go_wp2_with fail
 rw [← hX0]
 clear hX0
 refine wp_region_until (fun w' => w'.cell? ⟨w.heap.size, 0, none⟩ = some (.int .i64 ci) ∧ w'.cell? ⟨w.heap.size, 1, none⟩ = some (.int .i64 cp) ∧ w'.cell? ⟨w.heap.size, 2, none⟩ = some (.int .i64 ct) ∧ w'.cell? ⟨w.heap.size, 3, none⟩ = some (.int .i64 cv) ∧ w'.cell? ⟨w.heap.size, 4, none⟩ = some (.int .i64 cr) ∧ w'.cell? ⟨w.heap.size, 5, none⟩ = some (.int .i64 cd) ∧ w'.cell? ⟨w.heap.size, 6, none⟩ = some (.int .i64 cb) ∧ w'.cell? ⟨w.heap.size, 7, none⟩ = some (.int .i64 cbt) ∧ w'.cell? ⟨w.heap.size, 8, none⟩ = some (.slice A0 n0 c0) ∧ w'.cell? ⟨w.heap.size, 9, none⟩ = some (.int .i64 cc) ∧ w'.cell? ⟨w.heap.size, 10, none⟩ = some (.slice A1 n1 c1) ∧ w'.cell? ⟨w.heap.size, 11, none⟩ = some (.slice A2 n2 c2) ∧ w'.cell? ⟨w.heap.size, 12, none⟩ = some (.slice A3 n3 c3)) (fun _ => false) 37 (by rfl) (by kernel_rfl) ?_
 have V0 : Hid (Below w.heap.size w X0.drew) := B0.out.trans ((Below.refl _ _).drew.mono B0.out.size)
 have KY0 := Hid.mk (K0.out.on ((Below.refl _ X0).drew) K0.out.lt)
 generalize X0.drew = Y0 at *
 have SS0 := Hid.mk (cellsC13 KY0.out)
 refine pF 0 ?_
 refine tF 1 SS0.out ?_
 refine uNe 2 (fun K hK => ?_)
 go_simp
 refine (a1 _).mono ?_
 rintro e w' ⟨rfl, rfl⟩
 refine hK.out _ _ (fun _ h => h) ?_
 clear hK K
 try simp only [Act.put, zQ1, zQ2, zQ3]
 refine pF 3 ?_
 refine pF 4 ?_
 refine tF 5 SS0.out ?_
 refine pF 6 ?_
 refine tF 7 SS0.out ?_
 refine pF 8 ?_
 refine uNe 9 (fun K hK => ?_)
 go_simp
 refine (a2 _).mono ?_
 rintro e w' ⟨rfl, rfl⟩
 refine hK.out _ _ (fun _ h => h) ?_
 clear hK K
 try simp only [Act.put, zQ1, zQ2, zQ3]
 refine pF 10 ?_
 refine pF 11 ?_
 refine tF 12 SS0.out ?_
 refine uNe 13 (fun K hK => ?_)
 go_simp
 refine (cW Y0).mono ?_
 rintro e Y1 ⟨rfl, hb⟩
 have V1 : Hid (Below w.heap.size w Y1) := V0.out.trans (hb.mono V0.out.size)
 have KY1 := Hid.mk (KY0.out.on hb KY0.out.lt)
 have SS1 := Hid.mk (cellsC13 KY1.out)
 clear hb
 refine hK.out _ _ (fun _ _ => SS1.out) ?_
 clear hK K
 try simp only [Act.put, zQ1, zQ2, zQ3]
 refine uNe 14 (fun K hK => ?_)
 go_simp
 refine (cO Y1 (HLg.out.on (V1.out.mono HBB.out)) (Nat.le_trans HBB.out V1.out.size)).mono ?_
 rintro e Y2 ⟨rfl, hb⟩
 have V2 : Hid (Below w.heap.size w Y2) := V1.out.trans (hb.mono V1.out.size)
 have KY2 := Hid.mk (KY1.out.on hb KY1.out.lt)
 have SS2 := Hid.mk (cellsC13 KY2.out)
 clear hb
 refine hK.out _ _ (fun _ _ => SS2.out) ?_
 clear hK K
 try simp only [Act.put, zQ1, zQ2, zQ3]
 refine pF 15 ?_
 refine pF 16 ?_
 refine pF 17 ?_
 refine tF 18 SS2.out ?_
 refine pF 19 ?_
 refine tF 20 SS2.out ?_
 refine pF 21 ?_
 refine pF 22 ?_
 refine pF 23 ?_
 refine pF 24 ?_
 refine tF 25 SS2.out ?_
 refine pF 26 ?_
 refine tF 27 SS2.out ?_
 refine tF 28 SS2.out ?_
 refine uNe 29 (fun K hK => ?_)
 go_simp
 refine (cL Y2).mono ?_
 rintro e Y3 ⟨rfl, hb⟩
 have V3 : Hid (Below w.heap.size w Y3) := V2.out.trans (hb.mono V2.out.size)
 have KY3 := Hid.mk (KY2.out.on hb KY2.out.lt)
 have SS3 := Hid.mk (cellsC13 KY3.out)
 clear hb
 refine hK.out _ _ (fun _ _ => SS3.out) ?_
 clear hK K
 try simp only [Act.put, zQ1, zQ2, zQ3]
 refine uNe 30 (fun K hK => ?_)
 go_simp
 refine (a4 _).mono ?_
 rintro e w' ⟨rfl, rfl⟩
 refine hK.out _ _ (fun _ h => h) ?_
 clear hK K
 try simp only [Act.put, zQ1, zQ2, zQ3]
 refine pF 31 ?_
 refine pF 32 ?_
 refine tF 33 SS3.out ?_
 refine uNe 34 (fun K hK => ?_)
 go_simp
 refine (cR Y3 (HYv.out.1.on (V3.out.mono HBB.out)) (HYv.out.2.1.on (V3.out.mono HBB.out)) (HYv.out.2.2.on (V3.out.mono HBB.out)) (Nat.le_trans HBB.out V3.out.size)).mono ?_
 rintro e Y4 ⟨rfl, hb⟩
 have V4 : Hid (Below w.heap.size w Y4) := V3.out.trans (hb.mono V3.out.size)
 have KY4 := Hid.mk (KY3.out.on hb KY3.out.lt)
 have SS4 := Hid.mk (cellsC13 KY4.out)
 clear hb
 refine hK.out _ _ (fun _ _ => SS4.out) ?_
 clear hK K
 try simp only [Act.put, zQ1, zQ2, zQ3]
 refine pF 35 ?_
 refine pF 36 ?_
 refine until_done (by kernel_rfl) ?_ _
 go_wp2_with fail
 go_ret
 exact ⟨by rw [HE.out]; rfl, V4.out⟩
end Go.Proofs.Ytlhoonohpfpkbaa
namespace Go.Proofs.Ytlhoonohpfpkbaa
open Go.ChangeShapes Go.WideShapes Go.ChangeAt Go.RowKit Go.PlainAid
set_option linter.unusedVariables false
theorem otherC13 {w : World} {k g : Nat} {cs : Array Value} {t : TypeId} (h : Blk w k cs t) (hne : k ≠ g) (x0 x1 x2 x3 x4 x5 x6 x7 x8 x9 x10 x11 x12 : Value) : Blk (((((((((((((w.setCell ⟨g, 0, none⟩ x0).setCell ⟨g, 1, none⟩ x1).setCell ⟨g, 2, none⟩ x2).setCell ⟨g, 3, none⟩ x3).setCell ⟨g, 4, none⟩ x4).setCell ⟨g, 5, none⟩ x5).setCell ⟨g, 6, none⟩ x6).setCell ⟨g, 7, none⟩ x7).setCell ⟨g, 8, none⟩ x8).setCell ⟨g, 9, none⟩ x9).setCell ⟨g, 10, none⟩ x10).setCell ⟨g, 11, none⟩ x11).setCell ⟨g, 12, none⟩ x12) k cs t := (((((((((((((h.other hne 0 x0).other hne 1 x1).other hne 2 x2).other hne 3 x3).other hne 4 x4).other hne 5 x5).other hne 6 x6).other hne 7 x7).other hne 8 x8).other hne 9 x9).other hne 10 x10).other hne 11 x11).other hne 12 x12)
theorem rowsM13 {w : World} {bs g : Nat} {u : Value} {L : List (Mg × Value)} (h : MsO w bs u L) (hl : g < bs) (x0 x1 x2 x3 x4 x5 x6 x7 x8 x9 x10 x11 x12 : Value) : MsO (((((((((((((w.setCell ⟨g, 0, none⟩ x0).setCell ⟨g, 1, none⟩ x1).setCell ⟨g, 2, none⟩ x2).setCell ⟨g, 3, none⟩ x3).setCell ⟨g, 4, none⟩ x4).setCell ⟨g, 5, none⟩ x5).setCell ⟨g, 6, none⟩ x6).setCell ⟨g, 7, none⟩ x7).setCell ⟨g, 8, none⟩ x8).setCell ⟨g, 9, none⟩ x9).setCell ⟨g, 10, none⟩ x10).setCell ⟨g, 11, none⟩ x11).setCell ⟨g, 12, none⟩ x12) bs u L := (((((((((((((h.low hl).low hl).low hl).low hl).low hl).low hl).low hl).low hl).low hl).low hl).low hl).low hl).low hl)
theorem BelowX.setCell {g0 B : Nat} {w w' : World} (h : BelowX g0 B w w') {g j : Nat} (hg : B ≤ g) (v : Value) : BelowX g0 B w (w'.setCell ⟨g, j, none⟩ v) := h.trans (BelowX.of ((Below.refl B w').setCell hg v))
theorem belowX13 {g0 B g : Nat} {w w' : World} (h : BelowX g0 B w w') (hg : B ≤ g) (x0 x1 x2 x3 x4 x5 x6 x7 x8 x9 x10 x11 x12 : Value) : BelowX g0 B w (((((((((((((w'.setCell ⟨g, 0, none⟩ x0).setCell ⟨g, 1, none⟩ x1).setCell ⟨g, 2, none⟩ x2).setCell ⟨g, 3, none⟩ x3).setCell ⟨g, 4, none⟩ x4).setCell ⟨g, 5, none⟩ x5).setCell ⟨g, 6, none⟩ x6).setCell ⟨g, 7, none⟩ x7).setCell ⟨g, 8, none⟩ x8).setCell ⟨g, 9, none⟩ x9).setCell ⟨g, 10, none⟩ x10).setCell ⟨g, 11, none⟩ x11).setCell ⟨g, 12, none⟩ x12) := (((((((((((((h.setCell hg _).setCell hg _).setCell hg _).setCell hg _).setCell hg _).setCell hg _).setCell hg _).setCell hg _).setCell hg _).setCell hg _).setCell hg _).setCell hg _).setCell hg _)
theorem heapX13 {k g : Nat} (hk : k ≠ g) (w : World) (x0 x1 x2 x3 x4 x5 x6 x7 x8 x9 x10 x11 x12 : Value) : (((((((((((((w.setCell ⟨g, 0, none⟩ x0).setCell ⟨g, 1, none⟩ x1).setCell ⟨g, 2, none⟩ x2).setCell ⟨g, 3, none⟩ x3).setCell ⟨g, 4, none⟩ x4).setCell ⟨g, 5, none⟩ x5).setCell ⟨g, 6, none⟩ x6).setCell ⟨g, 7, none⟩ x7).setCell ⟨g, 8, none⟩ x8).setCell ⟨g, 9, none⟩ x9).setCell ⟨g, 10, none⟩ x10).setCell ⟨g, 11, none⟩ x11).setCell ⟨g, 12, none⟩ x12).heap[k]? = w.heap[k]? := by
 rw [Below.heap_setCell _ _ _ _ hk, Below.heap_setCell _ _ _ _ hk, Below.heap_setCell _ _ _ _ hk, Below.heap_setCell _ _ _ _ hk, Below.heap_setCell _ _ _ _ hk, Below.heap_setCell _ _ _ _ hk, Below.heap_setCell _ _ _ _ hk, Below.heap_setCell _ _ _ _ hk, Below.heap_setCell _ _ _ _ hk, Below.heap_setCell _ _ _ _ hk, Below.heap_setCell _ _ _ _ hk, Below.heap_setCell _ _ _ _ hk, Below.heap_setCell _ _ _ _ hk]
set_option maxRecDepth 20000 in
set_option maxHeartbeats 16000000 in
theorem coreAfterV (ci cp ct cv cr cd cb cbt : Int) (lg : List Ent) (cc : Int) (ys ns ms : List Int) (u0 u1 u2 u3 : Value) (w : World) (base0 : Nat) (hr : CoRows w base0 ⟨ci, cp, ct, cv, cr, cd, cb, cbt, lg, cc, ys, ns, ms⟩ u0 u1 u2 u3) (hs : ShortC ⟨ci, cp, ct, cv, cr, cd, cb, cbt, lg, cc, ys, ns, ms⟩) (F : Nat) (caps : Array Value) (Rr : Cor) (M : List Mg) (g : Nat) (Qd : Option Obj → Prop) (hg : g ≤ w.heap.size)
  (hF : ∀ args w, (callFunc F args).run Try.prog w = .ok (.enter F args) w)
  (hC : ∀ (w1 : World) (p : Nat), COk ⟨ci, cp, ct, cv, cr, cd, cb, cbt, lg, cc, ys, ns, ms⟩ → Below w.heap.size w w1 → w.heap.size + 2 ≤ w1.heap.size → Spk w1 (w.heap.size + 2) p ⟨ci, cp, ct, cv, cr, cd, cb, cbt, lg, cc, ys, ns, ms⟩ [] → Calls Try.prog F (#[.pointer (some ⟨p, 0, none⟩)] ++ caps) w1 fun e w2 => e = .returned (.tuple #[]) ∧ Spk w2 (w.heap.size + 2) p Rr M ∧ BelowX g (w.heap.size + 2) w1 w2 ∧ Qd w2.heap[g]?) :
  Calls Try.prog 29 #[.agg #[.int .i64 ci, .int .i64 cp, .int .i64 ct, .int .i64 cv, .int .i64 cr, .int .i64 cd, .int .i64 cb, .int .i64 cbt, u0, .int .i64 cc, u1, u2, u3], .func (.func F) #[] caps] w fun e w' => (corOk ⟨ci, cp, ct, cv, cr, cd, cb, cbt, lg, cc, ys, ns, ms⟩ = true ∧ (∃ u us L, e = .returned (.tuple #[u, us]) ∧ CorO w' w.heap.size u Rr ∧ MsO w' w.heap.size us L ∧ L.map Prod.fst = M ∧ ∀ ul uy un um, u = vCo Rr ul uy un um → ∀ q ∈ L, ∀ k, q.2.ownBlock = some k → blkF ul ≠ some k) ∧ BelowX g w.heap.size w w' ∧ Qd w'.heap[g]?) ∨ (corOk ⟨ci, cp, ct, cv, cr, cd, cb, cbt, lg, cc, ys, ns, ms⟩ = false ∧ e = .returned (.tuple #[.agg #[.int .i64 0, .int .i64 0, .int .i64 0, .int .i64 0, .int .i64 0, .int .i64 0, .int .i64 0, .int .i64 0, .slice none 0 0, .int .i64 0, .slice none 0 0, .slice none 0 0, .slice none 0 0], .slice none 0 0]) ∧ Below w.heap.size w w') := by
 have HR : Hid (CoRows w base0 ⟨ci, cp, ct, cv, cr, cd, cb, cbt, lg, cc, ys, ns, ms⟩ u0 u1 u2 u3) := hr
 have HS : Hid (ShortC ⟨ci, cp, ct, cv, cr, cd, cb, cbt, lg, cc, ys, ns, ms⟩) := hs
 have HGw : Hid (g ≤ w.heap.size) := hg
 have HC : Hid (∀ (w1 : World) (p : Nat), COk ⟨ci, cp, ct, cv, cr, cd, cb, cbt, lg, cc, ys, ns, ms⟩ → Below w.heap.size w w1 → w.heap.size + 2 ≤ w1.heap.size → Spk w1 (w.heap.size + 2) p ⟨ci, cp, ct, cv, cr, cd, cb, cbt, lg, cc, ys, ns, ms⟩ [] → Calls Try.prog F (#[.pointer (some ⟨p, 0, none⟩)] ++ caps) w1 fun e w2 => e = .returned (.tuple #[]) ∧ Spk w2 (w.heap.size + 2) p Rr M ∧ BelowX g (w.heap.size + 2) w1 w2 ∧ Qd w2.heap[g]?) := hC
 obtain ⟨A0, Ac0, A1, Ac1, A2, Ac2, A3, Ac3, rfl, rfl, rfl, rfl⟩ := hr.shape
 simp only at HR ⊢
 generalize lg.length = An0 at HR ⊢
 generalize ys.length = An1 at HR ⊢
 generalize ns.length = An2 at HR ⊢
 generalize ms.length = An3 at HR ⊢
 clear hr hs hC hg
 obtain ⟨W0, hW0⟩ : ∃ W0, W0 = (w.alloc (.cells #[.int .i64 ci, .int .i64 cp, .int .i64 ct, .int .i64 cv, .int .i64 cr, .int .i64 cd, .int .i64 cb, .int .i64 cbt, .slice A0 An0 Ac0, .int .i64 cc, .slice A1 An1 Ac1, .slice A2 An2 Ac2, .slice A3 An3 Ac3] 29)).alloc (.cells #[.int .i64 0, .int .i64 0, .int .i64 0, .int .i64 0, .int .i64 0, .int .i64 0, .int .i64 0, .int .i64 0, .slice none 0 0, .int .i64 0, .slice none 0 0, .slice none 0 0, .slice none 0 0] 29) := ⟨_, rfl⟩
 have B0 : Hid (Below w.heap.size w W0) := by unfold Hid; rw [hW0]; exact ((Below.refl _ w).alloc (Nat.le_refl _) _).alloc (by simp) _
 have K0 : Hid (Blk W0 w.heap.size #[.int .i64 ci, .int .i64 cp, .int .i64 ct, .int .i64 cv, .int .i64 cr, .int .i64 cd, .int .i64 cb, .int .i64 cbt, .slice A0 An0 Ac0, .int .i64 cc, .slice A1 An1 Ac1, .slice A2 An2 Ac2, .slice A3 An3 Ac3] 29) := by unfold Hid; rw [hW0]; exact (Blk.new w _ _).alloc _
 have R0 : Hid (Blk W0 (w.heap.size + 1) #[.int .i64 0, .int .i64 0, .int .i64 0, .int .i64 0, .int .i64 0, .int .i64 0, .int .i64 0, .int .i64 0, .slice none 0 0, .int .i64 0, .slice none 0 0, .slice none 0 0, .slice none 0 0] 29) := by unfold Hid; rw [hW0]; have := Blk.new (w.alloc (.cells #[.int .i64 ci, .int .i64 cp, .int .i64 ct, .int .i64 cv, .int .i64 cr, .int .i64 cd, .int .i64 cb, .int .i64 cbt, .slice A0 An0 Ac0, .int .i64 cc, .slice A1 An1 Ac1, .slice A2 An2 Ac2, .slice A3 An3 Ac3] 29)) #[.int .i64 0, .int .i64 0, .int .i64 0, .int .i64 0, .int .i64 0, .int .i64 0, .int .i64 0, .int .i64 0, .slice none 0 0, .int .i64 0, .slice none 0 0, .slice none 0 0, .slice none 0 0] 29; simp only [World.size_alloc] at this; exact this
 have HZ0 : Hid (w.heap.size + 2 ≤ W0.heap.size) := by unfold Hid; rw [hW0]; simp
 have hok := implCoreOk ⟨ci, cp, ct, cv, cr, cd, cb, cbt, lg, cc, ys, ns, ms⟩ (.agg #[.int .i64 ci, .int .i64 cp, .int .i64 ct, .int .i64 cv, .int .i64 cr, .int .i64 cd, .int .i64 cb, .int .i64 cbt, .slice A0 An0 Ac0, .int .i64 cc, .slice A1 An1 Ac1, .slice A2 An2 Ac2, .slice A3 An3 Ac3]) W0 W0.heap.size (HR.out.on B0.out).lies HS.out (Nat.le_refl _)
 go_enter Try.func29, Try.ntmps29
 go_wp2_with fail
 rw [← hW0]
 clear hW0
 refine hok.mono ?_
 rintro e W1 ⟨rfl, hb⟩
 have B1 : Hid (Below w.heap.size w W1) := B0.out.trans (hb.mono B0.out.size)
 have K1 : Hid (Blk W1 w.heap.size #[.int .i64 ci, .int .i64 cp, .int .i64 ct, .int .i64 cv, .int .i64 cr, .int .i64 cd, .int .i64 cb, .int .i64 cbt, .slice A0 An0 Ac0, .int .i64 cc, .slice A1 An1 Ac1, .slice A2 An2 Ac2, .slice A3 An3 Ac3] 29) := K0.out.on hb K0.out.lt
 have R1 : Hid (Blk W1 (w.heap.size + 1) #[.int .i64 0, .int .i64 0, .int .i64 0, .int .i64 0, .int .i64 0, .int .i64 0, .int .i64 0, .int .i64 0, .slice none 0 0, .int .i64 0, .slice none 0 0, .slice none 0 0, .slice none 0 0] 29) := R0.out.on hb R0.out.lt
 have HZ1 : Hid (w.heap.size + 2 ≤ W1.heap.size) := Nat.le_trans HZ0.out hb.size
 clear hok hb K0 R0 B0 HZ0
 cases hc : corOk ⟨ci, cp, ct, cv, cr, cd, cb, cbt, lg, cc, ys, ns, ms⟩
 ·obtain ⟨⟨r0, g0⟩, ⟨r1, g1⟩, ⟨r2, g2⟩, ⟨r3, g3⟩, ⟨r4, g4⟩, ⟨r5, g5⟩, ⟨r6, g6⟩, ⟨r7, g7⟩, ⟨r8, g8⟩, ⟨r9, g9⟩, ⟨r10, g10⟩, ⟨r11, g11⟩, ⟨r12, g12⟩, z0, z1, z2, z3, z4, z5, z6, z7, z8, z9, z10, z11, z12⟩ := resC13 (x0 := .int .i64 0) (x1 := .int .i64 0) (x2 := .int .i64 0) (x3 := .int .i64 0) (x4 := .int .i64 0) (x5 := .int .i64 0) (x6 := .int .i64 0) (x7 := .int .i64 0) (x8 := .slice none 0 0) (x9 := .int .i64 0) (x10 := .slice none 0 0) (x11 := .slice none 0 0) (x12 := .slice none 0 0) R1.out
  have FB := Hid.mk (belowC13 B1.out (show w.heap.size ≤ w.heap.size + 1 by omega) (.int .i64 0) (.int .i64 0) (.int .i64 0) (.int .i64 0) (.int .i64 0) (.int .i64 0) (.int .i64 0) (.int .i64 0) (.slice none 0 0) (.int .i64 0) (.slice none 0 0) (.slice none 0 0) (.slice none 0 0))
  have HCF := Hid.mk hc
  clear K1 R1 B1 hc
  go_wp2_with fail
  exact bodyPost_ret (v := .tuple #[.agg #[.int .i64 0, .int .i64 0, .int .i64 0, .int .i64 0, .int .i64 0, .int .i64 0, .int .i64 0, .int .i64 0, .slice none 0 0, .int .i64 0, .slice none 0 0, .slice none 0 0, .slice none 0 0], .slice none 0 0]) (by simp [results, go_sem, z0, z1, z2, z3, z4, z5, z6, z7, z8, z9, z10, z11, z12]) rfl (.inr ⟨HCF.out, rfl, FB.out⟩)
 have HOK : Hid (COk ⟨ci, cp, ct, cv, cr, cd, cb, cbt, lg, cc, ys, ns, ms⟩) := corOk_ok hc
 clear hc
 have y0 := K1.out.cell 0 _ rfl
 have y1 := K1.out.cell 1 _ rfl
 have y2 := K1.out.cell 2 _ rfl
 have y3 := K1.out.cell 3 _ rfl
 have y4 := K1.out.cell 4 _ rfl
 have y5 := K1.out.cell 5 _ rfl
 have y6 := K1.out.cell 6 _ rfl
 have y7 := K1.out.cell 7 _ rfl
 have y8 := K1.out.cell 8 _ rfl
 have y9 := K1.out.cell 9 _ rfl
 have y10 := K1.out.cell 10 _ rfl
 have y11 := K1.out.cell 11 _ rfl
 have y12 := K1.out.cell 12 _ rfl
 have hcp := copyCoI ci cp ct cv cr cd cb cbt lg cc ys ns ms (.slice A0 An0 Ac0) (.slice A1 An1 Ac1) (.slice A2 An2 Ac2) (.slice A3 An3 Ac3) W1 W1.heap.size base0 (HR.out.on B1.out).l.lies (HR.out.on B1.out).y (HR.out.on B1.out).n (HR.out.on B1.out).m HS.out (Nat.le_refl _)
 go_wp2_with fail
 refine hcp.mono ?_
 rintro e W2 ⟨uu, rfl, hO, hb⟩
 obtain ⟨B0q, Bn0, Bc0, B1q, Bn1, Bc1, B2q, Bn2, Bc2, B3q, Bn3, Bc3, rfl, hO'⟩ := hO.sh
 unfold vCo
 simp only
 have BB2 : Hid (Below w.heap.size w W2) := B1.out.trans (hb.mono B1.out.size)
 have R2 : Hid (Blk W2 (w.heap.size + 1) #[.int .i64 0, .int .i64 0, .int .i64 0, .int .i64 0, .int .i64 0, .int .i64 0, .int .i64 0, .int .i64 0, .slice none 0 0, .int .i64 0, .slice none 0 0, .slice none 0 0, .slice none 0 0] 29) := R1.out.on hb R1.out.lt
 have HZ2 : Hid (w.heap.size + 2 ≤ W2.heap.size) := Nat.le_trans HZ1.out hb.size
 have O2 : Hid (CoRows W2 (w.heap.size + 2) ⟨ci, cp, ct, cv, cr, cd, cb, cbt, lg, cc, ys, ns, ms⟩ (.slice B0q Bn0 Bc0) (.slice B1q Bn1 Bc1) (.slice B2q Bn2 Bc2) (.slice B3q Bn3 Bc3)) := hO'.mono HZ1.out
 clear hcp hb hO hO' R1 HZ1 K1 B1 y0 y1 y2 y3 y4 y5 y6 y7 y8 y9 y10 y11 y12
 obtain ⟨W3, hW3⟩ : ∃ W3, W3 = W2.alloc (.cells #[.int .i64 ci, .int .i64 cp, .int .i64 ct, .int .i64 cv, .int .i64 cr, .int .i64 cd, .int .i64 cb, .int .i64 cbt, .slice B0q Bn0 Bc0, .int .i64 cc, .slice B1q Bn1 Bc1, .slice B2q Bn2 Bc2, .slice B3q Bn3 Bc3, .slice none 0 0] 74) := ⟨_, rfl⟩
 have hb3 : Below W2.heap.size W2 W3 := by rw [hW3]; exact (Below.refl _ _).alloc (Nat.le_refl _) _
 have BB3 : Hid (Below w.heap.size w W3) := BB2.out.trans (hb3.mono BB2.out.size)
 have R3 : Hid (Blk W3 (w.heap.size + 1) #[.int .i64 0, .int .i64 0, .int .i64 0, .int .i64 0, .int .i64 0, .int .i64 0, .int .i64 0, .int .i64 0, .slice none 0 0, .int .i64 0, .slice none 0 0, .slice none 0 0, .slice none 0 0] 29) := R2.out.on hb3 R2.out.lt
 have SP3 : Hid (Spk W3 (w.heap.size + 2) W2.heap.size ⟨ci, cp, ct, cv, cr, cd, cb, cbt, lg, cc, ys, ns, ms⟩ []) := ⟨_, _, _, _, _, [], ⟨by rw [hW3]; exact Blk.new W2 _ _, O2.out.on hb3, MsO.nil _ _, fun q hq => (by cases hq), HZ2.out⟩, rfl⟩
 have HZ3 : Hid (w.heap.size + 2 ≤ W3.heap.size) := Nat.le_trans HZ2.out hb3.size
 have hcl := HC.out W3 W2.heap.size HOK.out BB3.out HZ3.out SP3.out
 have hF' := hF (#[.pointer (some ⟨W2.heap.size, 0, none⟩)] ++ caps)
 clear hb3 R2 O2 BB2 SP3 HC
 go_wp2_with fail
 rw [← hW3]
 clear hW3
 generalize W2.heap.size = p at *
 refine hcl.mono ?_
 rintro e W4 ⟨rfl, hSp, hbx, hQ⟩
 have R4 : Hid (Blk W4 (w.heap.size + 1) #[.int .i64 0, .int .i64 0, .int .i64 0, .int .i64 0, .int .i64 0, .int .i64 0, .int .i64 0, .int .i64 0, .slice none 0 0, .int .i64 0, .slice none 0 0, .slice none 0 0, .slice none 0 0] 29) := hbx.blk R3.out (by omega) (by have := HGw.out; omega)
 have BX4 : Hid (BelowX g w.heap.size w W4) := (BelowX.of BB3.out).trans (hbx.mono (by omega))
 have HQ : Hid (Qd W4.heap[g]?) := hQ
 obtain ⟨ul, uy, un, um, us, L, hSp, hLM⟩ := hSp
 obtain ⟨G0, Gn0, Gc0, G1, Gn1, Gc1, G2, Gn2, Gc2, G3, Gn3, Gc3, G4, Gn4, Gc4, rfl, rfl, rfl, rfl, rfl⟩ := hSp.shape
 have SP4 := Hid.mk hSp
 have HLM : Hid (L.map Prod.fst = M) := hLM
 have KP := Hid.mk hSp.b
 obtain ⟨e0, e1, e2, e3, e4, e5, e6, e7, el, e9, ey, en, em⟩ := Rr
 simp only at KP
 clear hcl hSp hbx hQ hLM R3 HZ2 HZ3 BB3 hF'
 go_wp2_with fail
 refine wp_region_until (fun w' => w'.cell? ⟨p, 0, none⟩ = some (.int .i64 e0) ∧ w'.cell? ⟨p, 1, none⟩ = some (.int .i64 e1) ∧ w'.cell? ⟨p, 2, none⟩ = some (.int .i64 e2) ∧ w'.cell? ⟨p, 3, none⟩ = some (.int .i64 e3) ∧ w'.cell? ⟨p, 4, none⟩ = some (.int .i64 e4) ∧ w'.cell? ⟨p, 5, none⟩ = some (.int .i64 e5) ∧ w'.cell? ⟨p, 6, none⟩ = some (.int .i64 e6) ∧ w'.cell? ⟨p, 7, none⟩ = some (.int .i64 e7) ∧ w'.cell? ⟨p, 8, none⟩ = some (.slice G0 Gn0 Gc0) ∧ w'.cell? ⟨p, 9, none⟩ = some (.int .i64 e9) ∧ w'.cell? ⟨p, 10, none⟩ = some (.slice G1 Gn1 Gc1) ∧ w'.cell? ⟨p, 11, none⟩ = some (.slice G2 Gn2 Gc2) ∧ w'.cell? ⟨p, 12, none⟩ = some (.slice G3 Gn3 Gc3) ∧ w'.cell? ⟨p, 13, none⟩ = some (.slice G4 Gn4 Gc4)) (fun _ => false) 10 (by rfl) (by kernel_rfl) ?_
 have V4 : Hid (Below W4.heap.size W4 W4.drew) := (Below.refl _ _).drew
 have FG : Hid (W4.drew.heap[g]? = W4.heap[g]?) := rfl
 generalize W4.drew = Y4 at *
 have KY := Hid.mk (KP.out.on V4.out KP.out.lt)
 have SS0 := Hid.mk (show (fun w' => w'.cell? ⟨p, 0, none⟩ = some (.int .i64 e0) ∧ w'.cell? ⟨p, 1, none⟩ = some (.int .i64 e1) ∧ w'.cell? ⟨p, 2, none⟩ = some (.int .i64 e2) ∧ w'.cell? ⟨p, 3, none⟩ = some (.int .i64 e3) ∧ w'.cell? ⟨p, 4, none⟩ = some (.int .i64 e4) ∧ w'.cell? ⟨p, 5, none⟩ = some (.int .i64 e5) ∧ w'.cell? ⟨p, 6, none⟩ = some (.int .i64 e6) ∧ w'.cell? ⟨p, 7, none⟩ = some (.int .i64 e7) ∧ w'.cell? ⟨p, 8, none⟩ = some (.slice G0 Gn0 Gc0) ∧ w'.cell? ⟨p, 9, none⟩ = some (.int .i64 e9) ∧ w'.cell? ⟨p, 10, none⟩ = some (.slice G1 Gn1 Gc1) ∧ w'.cell? ⟨p, 11, none⟩ = some (.slice G2 Gn2 Gc2) ∧ w'.cell? ⟨p, 12, none⟩ = some (.slice G3 Gn3 Gc3) ∧ w'.cell? ⟨p, 13, none⟩ = some (.slice G4 Gn4 Gc4)) Y4 from ⟨KY.out.cell 0 _ rfl, KY.out.cell 1 _ rfl, KY.out.cell 2 _ rfl, KY.out.cell 3 _ rfl, KY.out.cell 4 _ rfl, KY.out.cell 5 _ rfl, KY.out.cell 6 _ rfl, KY.out.cell 7 _ rfl, KY.out.cell 8 _ rfl, KY.out.cell 9 _ rfl, KY.out.cell 10 _ rfl, KY.out.cell 11 _ rfl, KY.out.cell 12 _ rfl, KY.out.cell 13 _ rfl⟩)
 refine tF 0 SS0.out ?_
 refine tF 1 SS0.out ?_
 refine tF 2 SS0.out ?_
 refine tF 3 SS0.out ?_
 refine tF 4 SS0.out ?_
 refine tF 5 SS0.out ?_
 refine tF 6 SS0.out ?_
 refine tF 7 SS0.out ?_
 have RY := Hid.mk (R4.out.on V4.out R4.out.lt)
 refine uNe 8 (fun K hK => ?_)
 obtain ⟨⟨r0, g0⟩, ⟨r1, g1⟩, ⟨r2, g2⟩, ⟨r3, g3⟩, ⟨r4, g4⟩, ⟨r5, g5⟩, ⟨r6, g6⟩, ⟨r7, g7⟩, ⟨r8, g8⟩, ⟨r9, g9⟩, ⟨r10, g10⟩, ⟨r11, g11⟩, ⟨r12, g12⟩, z0, z1, z2, z3, z4, z5, z6, z7, z8, z9, z10, z11, z12⟩ := resC13 (x0 := .int .i64 e0) (x1 := .int .i64 e1) (x2 := .int .i64 e2) (x3 := .int .i64 e3) (x4 := .int .i64 e4) (x5 := .int .i64 e5) (x6 := .int .i64 e6) (x7 := .int .i64 e7) (x8 := .slice G0 Gn0 Gc0) (x9 := .int .i64 e9) (x10 := .slice G1 Gn1 Gc1) (x11 := .slice G2 Gn2 Gc2) (x12 := .slice G3 Gn3 Gc3) RY.out
 have KYF := Hid.mk (otherC13 KY.out (show p ≠ w.heap.size + 1 by have := SP4.out.p; omega) (.int .i64 e0) (.int .i64 e1) (.int .i64 e2) (.int .i64 e3) (.int .i64 e4) (.int .i64 e5) (.int .i64 e6) (.int .i64 e7) (.slice G0 Gn0 Gc0) (.int .i64 e9) (.slice G1 Gn1 Gc1) (.slice G2 Gn2 Gc2) (.slice G3 Gn3 Gc3))
 go_simp
 refine hK.out _ _ (fun _ _ => ⟨KYF.out.cell 0 _ rfl, KYF.out.cell 1 _ rfl, KYF.out.cell 2 _ rfl, KYF.out.cell 3 _ rfl, KYF.out.cell 4 _ rfl, KYF.out.cell 5 _ rfl, KYF.out.cell 6 _ rfl, KYF.out.cell 7 _ rfl, KYF.out.cell 8 _ rfl, KYF.out.cell 9 _ rfl, KYF.out.cell 10 _ rfl, KYF.out.cell 11 _ rfl, KYF.out.cell 12 _ rfl, KYF.out.cell 13 _ rfl⟩) ?_
 clear hK K KYF r0 g0 r1 g1 r2 g2 r3 g3 r4 g4 r5 g5 r6 g6 r7 g7 r8 g8 r9 g9 r10 g10 r11 g11 r12 g12
 try simp only [Act.put, zQ1, zQ2, zQ3]
 refine pF 9 ?_
 refine until_done (by kernel_rfl) ?_ _
 have hlt : w.heap.size + 1 < w.heap.size + 2 := by omega
 have FO := Hid.mk (rowsC13 (SP4.out.r.on V4.out) hlt (.int .i64 e0) (.int .i64 e1) (.int .i64 e2) (.int .i64 e3) (.int .i64 e4) (.int .i64 e5) (.int .i64 e6) (.int .i64 e7) (.slice G0 Gn0 Gc0) (.int .i64 e9) (.slice G1 Gn1 Gc1) (.slice G2 Gn2 Gc2) (.slice G3 Gn3 Gc3))
 have FM := Hid.mk (rowsM13 (SP4.out.m.on V4.out) hlt (.int .i64 e0) (.int .i64 e1) (.int .i64 e2) (.int .i64 e3) (.int .i64 e4) (.int .i64 e5) (.int .i64 e6) (.int .i64 e7) (.slice G0 Gn0 Gc0) (.int .i64 e9) (.slice G1 Gn1 Gc1) (.slice G2 Gn2 Gc2) (.slice G3 Gn3 Gc3))
 have FB := Hid.mk (belowX13 (BX4.out.trans (BelowX.of (V4.out.mono BX4.out.size))) (show w.heap.size ≤ w.heap.size + 1 by omega) (.int .i64 e0) (.int .i64 e1) (.int .i64 e2) (.int .i64 e3) (.int .i64 e4) (.int .i64 e5) (.int .i64 e6) (.int .i64 e7) (.slice G0 Gn0 Gc0) (.int .i64 e9) (.slice G1 Gn1 Gc1) (.slice G2 Gn2 Gc2) (.slice G3 Gn3 Gc3))
 have FQ := Hid.mk (heapX13 (show g ≠ w.heap.size + 1 by have := HGw.out; omega) Y4 (.int .i64 e0) (.int .i64 e1) (.int .i64 e2) (.int .i64 e3) (.int .i64 e4) (.int .i64 e5) (.int .i64 e6) (.int .i64 e7) (.slice G0 Gn0 Gc0) (.int .i64 e9) (.slice G1 Gn1 Gc1) (.slice G2 Gn2 Gc2) (.slice G3 Gn3 Gc3))
 have HWW : Hid (w.heap.size ≤ w.heap.size + 2) := by unfold Hid; omega
 clear R4 KP KY SS0 RY BX4
 try go_wp2_with fail
 exact bodyPost_ret (v := .tuple #[.agg #[.int .i64 e0, .int .i64 e1, .int .i64 e2, .int .i64 e3, .int .i64 e4, .int .i64 e5, .int .i64 e6, .int .i64 e7, .slice G0 Gn0 Gc0, .int .i64 e9, .slice G1 Gn1 Gc1, .slice G2 Gn2 Gc2, .slice G3 Gn3 Gc3], .slice G4 Gn4 Gc4]) (by simp [results, go_sem, z0, z1, z2, z3, z4, z5, z6, z7, z8, z9, z10, z11, z12]) rfl (.inl ⟨corOk_yes HOK.out, ⟨_, _, L, rfl, ⟨_, _, _, _, rfl, FO.out.mono HWW.out⟩, FM.out.mono HWW.out, HLM.out, fun ul uy un um e => by unfold vCo at e; cases e; exact SP4.out.a⟩, FB.out, by rw [FQ.out, FG.out]; exact HQ.out⟩)
end Go.Proofs.Ytlhoonohpfpkbaa
namespace Go.Proofs.Ytlhoonohpfpkbaa
open Go.ChangeShapes Go.WideShapes Go.ChangeAt Go.RowKit Go.PlainAid
set_option linter.unusedVariables false
def sendM (x : Cor) (t : Int) : Mg :=
 if x.nxt.getD t.toNat 0 ≤ x.base then ⟨5, x.id, t, x.term, x.base, x.bterm, 0, false, [], ⟨#[]⟩⟩
 else ⟨3, x.id, t, x.term, x.nxt.getD t.toNat 0 - 1, termAt x (x.nxt.getD t.toNat 0 - 1), x.commit, false, (x.log.drop (x.nxt.getD t.toNat 0 - 1 - x.base).toNat).take 4, ⟨#[]⟩⟩
theorem cells14 {w : World} {g : Nat} {a0 a1 a2 a3 a4 a5 a6 a7 a8 a9 a10 a11 a12 a13 : Value} {t : TypeId} (h : Blk w g #[a0, a1, a2, a3, a4, a5, a6, a7, a8, a9, a10, a11, a12, a13] t) : w.cell? ⟨g, 0, none⟩ = some a0 ∧ w.cell? ⟨g, 1, none⟩ = some a1 ∧ w.cell? ⟨g, 2, none⟩ = some a2 ∧ w.cell? ⟨g, 3, none⟩ = some a3 ∧ w.cell? ⟨g, 4, none⟩ = some a4 ∧ w.cell? ⟨g, 5, none⟩ = some a5 ∧ w.cell? ⟨g, 6, none⟩ = some a6 ∧ w.cell? ⟨g, 7, none⟩ = some a7 ∧ w.cell? ⟨g, 8, none⟩ = some a8 ∧ w.cell? ⟨g, 9, none⟩ = some a9 ∧ w.cell? ⟨g, 10, none⟩ = some a10 ∧ w.cell? ⟨g, 11, none⟩ = some a11 ∧ w.cell? ⟨g, 12, none⟩ = some a12 ∧ w.cell? ⟨g, 13, none⟩ = some a13 := ⟨h.cell 0 _ rfl, h.cell 1 _ rfl, h.cell 2 _ rfl, h.cell 3 _ rfl, h.cell 4 _ rfl, h.cell 5 _ rfl, h.cell 6 _ rfl, h.cell 7 _ rfl, h.cell 8 _ rfl, h.cell 9 _ rfl, h.cell 10 _ rfl, h.cell 11 _ rfl, h.cell 12 _ rfl, h.cell 13 _ rfl⟩
theorem cut_to_run (A : Option Addr) (n c k : Nat) (hk : k ≤ c) (wx : World) : (Instr.sliceAt 27 (.slice A n c) none (some (.int .i64 (k : Int))) none).run Try.prog wx = .ok (.slice A k c) wx := by
 have hu : Try.prog.underlying 27 = some (.slice (Try.prog.elem 27)) := by rw [elem_entC]; exact Try.underlying27
 cases hq : Try.prog.info? 71 with
 | none => have hz := size_entC; rw [hq] at hz; simp at hz
 | some i =>
  rw [run_sliceAt_slice wx 27 _ _ _ _ hu, run_slice_h wx 27 A n c hu .i64 (k : Int) (by omega) (by omega), elem_entC]
  have e : A.map (·.add (0 * i.size)) = A := by
   cases A <;> simp [Addr.add]
  simp [sizeOf, typeInfo, hq, sliced]
  intro _
  simpa using e
theorem Owns.newer {w w' : World} {b : Nat} {e e' : TypeId} {sz sz' : Nat} {u v : Value} {r r' : List (List Value)} (h : Owns w b e sz u r) (h' : Owns w' w.heap.size e' sz' v r') : Apart u v := fun g h1 h2 => by
 have := (h.lt g h1).2
 have := (h'.lt g h2).1
 omega
set_option maxRecDepth 20000 in
set_option maxHeartbeats 8000000 in
theorem sendE0 (ci cp ct cv cr cd cb cbt : Int) (lg : List Ent) (cc : Int) (ys ns ms : List Int) (M : List Mg) (t : Nat) (w : World) (base p : Nat) (hsp : Spk w base p ⟨ci, cp, ct, cv, cr, cd, cb, cbt, lg, cc, ys, ns, ms⟩ M) (hs : ShortC ⟨ci, cp, ct, cv, cr, cd, cb, cbt, lg, cc, ys, ns, ms⟩) (h0 : 0 ≤ cb) (h1 : cb ≤ 100000) (hln : lg.length ≤ 60) (ht : t < ns.length) (hnx0 : 1 ≤ ns.getD t 0) (hnx1 : ns.getD t 0 ≤ cb + (lg.length : Int) + 1) (hle0 : ns.getD t 0 ≤ cb) (hM : M.length ≤ 500) (hbs : base ≤ w.heap.size) :
  Calls Try.prog 74 #[.pointer (some ⟨p, 0, none⟩), .int .i64 (t : Int)] w fun e w' => e = .returned (.tuple #[]) ∧ Spk w' base p ⟨ci, cp, ct, cv, cr, cd, cb, cbt, lg, cc, ys, ns, ms⟩ (M ++ [sendM ⟨ci, cp, ct, cv, cr, cd, cb, cbt, lg, cc, ys, ns, ms⟩ (t : Int)]) ∧ Below base w w' ∧ KeepI w w' := by
 have HS : Hid (ShortC ⟨ci, cp, ct, cv, cr, cd, cb, cbt, lg, cc, ys, ns, ms⟩) := hs
 have HBS : Hid (base ≤ w.heap.size) := hbs
 obtain ⟨ul, uy, un, um, us, L, hso, hLM⟩ := hsp
 obtain ⟨A0, An0, Ac0, A1, An1, Ac1, A2, An2, Ac2, A3, An3, Ac3, A4, An4, Ac4, rfl, rfl, rfl, rfl, rfl⟩ := hso.shape
 have SO := Hid.mk hso
 have KP : Hid (Blk w p #[.int .i64 ci, .int .i64 cp, .int .i64 ct, .int .i64 cv, .int .i64 cr, .int .i64 cd, .int .i64 cb, .int .i64 cbt, .slice A0 An0 Ac0, .int .i64 cc, .slice A1 An1 Ac1, .slice A2 An2 Ac2, .slice A3 An3 Ac3, .slice A4 An4 Ac4] 74) := hso.b
 have HLM : Hid (L.map Prod.fst = M) := hLM
 have hLl : L.length ≤ 500 := by rw [← hLM, List.length_map] at hM; exact hM
 have HLl : Hid (L.length ≤ 500) := hLl
 have hNn : An2 = ns.length := hso.r.n.len
 obtain ⟨g2, hg2e, _, hg2w⟩ := hso.r.n.block (by simp only; omega)
 subst hg2e
 have d0 := hso.r.n.cell t (by simp only; omega)
 simp only at d0
 have HSm : Hid (sendM ⟨ci, cp, ct, cv, cr, cd, cb, cbt, lg, cc, ys, ns, ms⟩ (t : Int) = if ns.getD t 0 ≤ cb then ⟨5, ci, (t : Int), ct, cb, cbt, 0, false, [], ⟨#[]⟩⟩ else ⟨3, ci, (t : Int), ct, ns.getD t 0 - 1, termAt ⟨ci, cp, ct, cv, cr, cd, cb, cbt, lg, cc, ys, ns, ms⟩ (ns.getD t 0 - 1), cc, false, (lg.drop (ns.getD t 0 - 1 - cb).toNat).take 4, ⟨#[]⟩⟩) := by unfold Hid sendM; simp only [Int.toNat_natCast]
 have HFin : Hid (∀ wx m ue, (∃ us, SpkO wx base p ⟨ci, cp, ct, cv, cr, cd, cb, cbt, lg, cc, ys, ns, ms⟩ (.slice A0 An0 Ac0) (.slice A1 An1 Ac1) (.slice (some ⟨g2, 0, none⟩) An2 Ac2) (.slice A3 An3 Ac3) (us) (L ++ [(m, ue)])) → Spk wx base p ⟨ci, cp, ct, cv, cr, cd, cb, cbt, lg, cc, ys, ns, ms⟩ (M ++ [m])) := fun wx m ue h => by
  obtain ⟨us, h⟩ := h
  exact ⟨_, _, _, _, us, _, h, by rw [List.map_append, HLM.out]; rfl⟩
 have q1 : (t : Int) < (An2 : Int) := by omega
 clear hso hLM hM hs hbs hNn
 generalize hnx : ns.getD t 0 = nx at *
 clear hnx
 have k11 := KP.out.cell 11 _ rfl
 have k6 := KP.out.cell 6 _ rfl
 have hle := hle0
 clear hle0
 have z1 : decide (nx ≤ cb) = true := decide_eq_true hle
 have HE : Hid (sendM ⟨ci, cp, ct, cv, cr, cd, cb, cbt, lg, cc, ys, ns, ms⟩ (t : Int) = ⟨5, ci, (t : Int), ct, cb, cbt, 0, false, [], ⟨#[]⟩⟩) := by unfold Hid; rw [HSm.out, if_pos hle]
 have cS := fun wx (h : SpkO wx base p ⟨ci, cp, ct, cv, cr, cd, cb, cbt, lg, cc, ys, ns, ms⟩ (.slice A0 An0 Ac0) (.slice A1 An1 Ac1) (.slice (some ⟨g2, 0, none⟩) An2 Ac2) (.slice A3 An3 Ac3) (.slice A4 An4 Ac4) L) (hb : base ≤ wx.heap.size) => sayI ci cp ct cv cr cd cb cbt lg cc ys ns ms A0 An0 Ac0 A1 An1 Ac1 (some ⟨g2, 0, none⟩) An2 Ac2 A3 An3 Ac3 A4 An4 Ac4 L 5 0 (t : Int) 0 cb cbt 0 false [] ⟨#[]⟩ (.slice none 0 0) wx base p h (Owns.nil _ _ _ _) (fun q hq g _ e => by cases e) (fun g e => by cases e) (by omega) hb
 clear hle HSm
 go_enter Try.func74, Try.ntmps74
 go_wp2_with fail
 clear k11 k6 d0
 refine wp_region_until (fun w' => w'.cell? ⟨p, 6, none⟩ = some (.int .i64 cb) ∧ w'.cell? ⟨p, 7, none⟩ = some (.int .i64 cbt)) (fun i => i == 13) 14 (by rfl) (by kernel_rfl) ?_
 have V0 : Hid (Below w.heap.size w w.drew) := (Below.refl _ _).drew
 generalize w.drew = Y0 at *
 have SS0 := Hid.mk (show (fun w' => w'.cell? ⟨p, 6, none⟩ = some (.int .i64 cb) ∧ w'.cell? ⟨p, 7, none⟩ = some (.int .i64 cbt)) Y0 from ⟨(KP.out.on V0.out KP.out.lt).cell 6 _ rfl, (KP.out.on V0.out KP.out.lt).cell 7 _ rfl⟩)
 refine tF 0 SS0.out ?_
 refine tF 1 SS0.out ?_
 refine tF 2 SS0.out ?_
 refine tF 3 SS0.out ?_
 refine tF 4 SS0.out ?_
 refine tF 5 SS0.out ?_
 refine tF 6 SS0.out ?_
 refine tF 7 SS0.out ?_
 refine tF 8 SS0.out ?_
 refine tF 9 SS0.out ?_
 refine tF 10 SS0.out ?_
 refine tF 11 SS0.out ?_
 refine pF 12 ?_
 refine uNe 13 (fun K hK => ?_)
 go_simp
 refine (cS Y0 (SO.out.on V0.out) (Nat.le_trans HBS.out V0.out.size)).mono ?_
 rintro e Y1 ⟨rfl, hS, hb, hki⟩
 have FK := Hid.mk ((KeepI.of V0.out).trans hki)
 clear hki
 have FS := Hid.mk (HFin.out Y1 _ _ hS)
 have FB : Hid (Below base w Y1) := (V0.out.mono HBS.out).trans hb
 clear hS hb cS
 refine hK.out _ _ (fun h => by cases h) ?_
 clear hK K
 try simp only [Act.put, zQ1, zQ2, zQ3]
 refine until_done (by kernel_rfl) ?_ _
 try go_wp2_with fail
 exact bodyPost_ret (v := .tuple #[]) (by simp [results, go_sem]) rfl ⟨rfl, by rw [HE.out]; exact FS.out, FB.out, FK.out⟩
set_option maxRecDepth 20000 in
set_option maxHeartbeats 8000000 in
theorem sendE1 (ci cp ct cv cr cd cb cbt : Int) (lg : List Ent) (cc : Int) (ys ns ms : List Int) (M : List Mg) (t : Nat) (w : World) (base p : Nat) (hsp : Spk w base p ⟨ci, cp, ct, cv, cr, cd, cb, cbt, lg, cc, ys, ns, ms⟩ M) (hs : ShortC ⟨ci, cp, ct, cv, cr, cd, cb, cbt, lg, cc, ys, ns, ms⟩) (h0 : 0 ≤ cb) (h1 : cb ≤ 100000) (hln : lg.length ≤ 60) (ht : t < ns.length) (hnx0 : 1 ≤ ns.getD t 0) (hnx1 : ns.getD t 0 ≤ cb + (lg.length : Int) + 1) (hle0 : ¬ ns.getD t 0 ≤ cb) (hM : M.length ≤ 500) (hbs : base ≤ w.heap.size) :
  Calls Try.prog 74 #[.pointer (some ⟨p, 0, none⟩), .int .i64 (t : Int)] w fun e w' => e = .returned (.tuple #[]) ∧ Spk w' base p ⟨ci, cp, ct, cv, cr, cd, cb, cbt, lg, cc, ys, ns, ms⟩ (M ++ [sendM ⟨ci, cp, ct, cv, cr, cd, cb, cbt, lg, cc, ys, ns, ms⟩ (t : Int)]) ∧ Below base w w' ∧ KeepI w w' := by
 have HS : Hid (ShortC ⟨ci, cp, ct, cv, cr, cd, cb, cbt, lg, cc, ys, ns, ms⟩) := hs
 have HBS : Hid (base ≤ w.heap.size) := hbs
 obtain ⟨ul, uy, un, um, us, L, hso, hLM⟩ := hsp
 obtain ⟨A0, An0, Ac0, A1, An1, Ac1, A2, An2, Ac2, A3, An3, Ac3, A4, An4, Ac4, rfl, rfl, rfl, rfl, rfl⟩ := hso.shape
 have SO := Hid.mk hso
 have KP : Hid (Blk w p #[.int .i64 ci, .int .i64 cp, .int .i64 ct, .int .i64 cv, .int .i64 cr, .int .i64 cd, .int .i64 cb, .int .i64 cbt, .slice A0 An0 Ac0, .int .i64 cc, .slice A1 An1 Ac1, .slice A2 An2 Ac2, .slice A3 An3 Ac3, .slice A4 An4 Ac4] 74) := hso.b
 have HLM : Hid (L.map Prod.fst = M) := hLM
 have hLl : L.length ≤ 500 := by rw [← hLM, List.length_map] at hM; exact hM
 have HLl : Hid (L.length ≤ 500) := hLl
 have hNn : An2 = ns.length := hso.r.n.len
 obtain ⟨g2, hg2e, _, hg2w⟩ := hso.r.n.block (by simp only; omega)
 subst hg2e
 have d0 := hso.r.n.cell t (by simp only; omega)
 simp only at d0
 have HSm : Hid (sendM ⟨ci, cp, ct, cv, cr, cd, cb, cbt, lg, cc, ys, ns, ms⟩ (t : Int) = if ns.getD t 0 ≤ cb then ⟨5, ci, (t : Int), ct, cb, cbt, 0, false, [], ⟨#[]⟩⟩ else ⟨3, ci, (t : Int), ct, ns.getD t 0 - 1, termAt ⟨ci, cp, ct, cv, cr, cd, cb, cbt, lg, cc, ys, ns, ms⟩ (ns.getD t 0 - 1), cc, false, (lg.drop (ns.getD t 0 - 1 - cb).toNat).take 4, ⟨#[]⟩⟩) := by unfold Hid sendM; simp only [Int.toNat_natCast]
 have HFin : Hid (∀ wx m ue, (∃ us, SpkO wx base p ⟨ci, cp, ct, cv, cr, cd, cb, cbt, lg, cc, ys, ns, ms⟩ (.slice A0 An0 Ac0) (.slice A1 An1 Ac1) (.slice (some ⟨g2, 0, none⟩) An2 Ac2) (.slice A3 An3 Ac3) (us) (L ++ [(m, ue)])) → Spk wx base p ⟨ci, cp, ct, cv, cr, cd, cb, cbt, lg, cc, ys, ns, ms⟩ (M ++ [m])) := fun wx m ue h => by
  obtain ⟨us, h⟩ := h
  exact ⟨_, _, _, _, us, _, h, by rw [List.map_append, HLM.out]; rfl⟩
 have q1 : (t : Int) < (An2 : Int) := by omega
 clear hso hLM hM hs hbs hNn
 generalize hnx : ns.getD t 0 = nx at *
 clear hnx
 have k11 := KP.out.cell 11 _ rfl
 have k6 := KP.out.cell 6 _ rfl
 have hle := hle0
 clear hle0
 have z1 : decide (nx ≤ cb) = false := decide_eq_false hle
 obtain ⟨k, hk⟩ : ∃ k : Nat, nx - 1 - cb = (k : Int) := ⟨(nx - 1 - cb).toNat, by omega⟩
 have hkn : k ≤ lg.length := by omega
 have w1 : IntKind.i64.wrap (nx - 1) = nx - 1 := by rw [IntKind.wrap_i64]; omega
 obtain ⟨A', m', c', hrun, hcut, _⟩ := SO.out.r.l.cut k (by rw [entR_length]; exact hkn)
 have hcutE : OwnF w base (.slice A' m' c') (entR (lg.drop k)) := by unfold entR; rw [List.map_drop]; exact hcut
 have hml : m' = (lg.drop k).length := by obtain ⟨A, c, e⟩ := hcutE.shape; rw [entR_length] at e; cases e; rfl
 have hroom := hcutE.lies.room
 obtain ⟨m4, hm4⟩ : ∃ m4, m4 = min m' 4 := ⟨_, rfl⟩
 have HLi : Hid (Lies w w.heap.size 2 (.slice A' m4 c') (entR ((lg.drop k).take 4))) := by
  have h := hcutE.lies.first m4 (by rw [entR_length, ← hml]; omega)
  unfold Hid
  have e : (lg.drop k).take 4 = (lg.drop k).take m4 := by
   rw [hm4, hml]
   rcases Nat.le_total (lg.drop k).length 4 with h | h
   ·rw [Nat.min_eq_left h, List.take_of_length_le h, List.take_length]
   ·rw [Nat.min_eq_right h]
  rw [e]
  unfold entR at h ⊢
  rw [List.map_take]
  exact h
 have hr4 := fun wx => cut_to_run A' m' c' m4 (by omega) wx
 have HE : Hid (sendM ⟨ci, cp, ct, cv, cr, cd, cb, cbt, lg, cc, ys, ns, ms⟩ (t : Int) = ⟨3, ci, (t : Int), ct, nx - 1, termAt ⟨ci, cp, ct, cv, cr, cd, cb, cbt, lg, cc, ys, ns, ms⟩ (nx - 1), cc, false, (lg.drop k).take 4, ⟨#[]⟩⟩) := by unfold Hid; rw [HSm.out, if_neg hle, show (nx - 1 - cb).toNat = k by omega]
 have cB := fun wx => behindI ci cp ct cv cr cd cb cbt lg cc A0 An0 Ac0 (.slice A1 An1 Ac1) (.slice (some ⟨g2, 0, none⟩) An2 Ac2) (.slice A3 An3 Ac3) (nx - 1) k A' m' c' wx hk (by omega) hrun
 have cC := fun wx h hb => copyEntsI ((lg.drop k).take 4) (.slice A' m4 c') wx w.heap.size h (by rw [List.length_take]; omega) (fun y hy => HS.out.d y (List.mem_of_mem_drop (List.mem_of_mem_take hy))) hb
 have HLt : Hid (Lies w w.heap.size 2 (.slice A0 An0 Ac0) (entR lg)) := SO.out.r.l.lies
 have cT := fun wx h hb => termI ci cp ct cv cr cd cb cbt lg cc ys ns ms A0 An0 Ac0 (.slice A1 An1 Ac1) (.slice (some ⟨g2, 0, none⟩) An2 Ac2) (.slice A3 An3 Ac3) (nx - 1) wx w.heap.size h (by omega) h0 (by omega) (by omega) (by omega) hb
 have cS := fun wx ue te (h : SpkO wx base p ⟨ci, cp, ct, cv, cr, cd, cb, cbt, lg, cc, ys, ns, ms⟩ (.slice A0 An0 Ac0) (.slice A1 An1 Ac1) (.slice (some ⟨g2, 0, none⟩) An2 Ac2) (.slice A3 An3 Ac3) (.slice A4 An4 Ac4) L) hu ha hl (hb : base ≤ wx.heap.size) => sayI ci cp ct cv cr cd cb cbt lg cc ys ns ms A0 An0 Ac0 A1 An1 Ac1 (some ⟨g2, 0, none⟩) An2 Ac2 A3 An3 Ac3 A4 An4 Ac4 L 3 0 (t : Int) 0 (nx - 1) te cc false ((lg.drop k).take 4) ⟨#[]⟩ ue wx base p h hu ha hl (by omega) hb
 have qm : m' ≤ 60 := by rw [hml, List.length_drop]; omega
 have HM4 : Hid (m4 = min m' 4) := hm4
 clear hle HSm hcut hcutE hml hroom hkn hk hrun
 generalize (lg.drop k).take 4 = es at *
 have emin : min (m' : Int) 4 = (m4 : Int) := by rw [hm4]; omega
 clear hm4
 have k13 := cells14 KP.out
 obtain ⟨kk0, kk1, kk2, kk3, kk4, kk5, kk6, kk7, kk8, kk9, kk10, kk11, kk12, kk13⟩ := k13
 go_enter Try.func74, Try.ntmps74
 go_wp2_with fail
 refine (cB w).mono ?_
 rintro e w2 ⟨rfl, hb2⟩
 have V2 := Hid.mk hb2
 clear hb2 cB kk0 kk1 kk2 kk3 kk4 kk5 kk6 kk7 kk8 kk9 kk10 kk11 kk12 kk13 k11 k6 d0
 have c3 := cC w2 (HLi.out.on V2.out) V2.out.size
 go_wp2_with fail
 refine c3.mono ?_
 rintro e w3 ⟨⟨ue, rfl, hO⟩, hb3⟩
 clear c3
 have V3 : Hid (Below w.heap.size w w3) := V2.out.trans (hb3.mono V2.out.size)
 have SO3 := Hid.mk (SO.out.on V3.out)
 have OU : Hid (Owns w3 w.heap.size 71 2 ue (entR es)) := hO.mono V2.out.size
 have HUa : Hid (∀ q ∈ L, Apart q.2 ue) := fun q hq => (SO.out.m.e q hq).newer (w' := w3) OU.out
 have HUl : Hid (∀ g, ue.ownBlock = some g → blkF (.slice A0 An0 Ac0) ≠ some g) := fun g h1 h2 => by
  have := (OU.out.lt g h1).1
  have := (SO.out.r.l.lt g h2).2
  omega
 obtain ⟨Ue, Um, Uc, rfl⟩ := hO.shape
 clear hO hb3
 have P3 : Hid (Blk w3 p #[.int .i64 ci, .int .i64 cp, .int .i64 ct, .int .i64 cv, .int .i64 cr, .int .i64 cd, .int .i64 cb, .int .i64 cbt, .slice A0 An0 Ac0, .int .i64 cc, .slice A1 An1 Ac1, .slice (some ⟨g2, 0, none⟩) An2 Ac2, .slice A3 An3 Ac3, .slice A4 An4 Ac4] 74) := SO3.out.b
 go_wp2_with fail
 refine wp_region_until (fun w' => w'.cell? ⟨p, 0, none⟩ = some (.int .i64 ci) ∧ w'.cell? ⟨p, 1, none⟩ = some (.int .i64 cp) ∧ w'.cell? ⟨p, 2, none⟩ = some (.int .i64 ct) ∧ w'.cell? ⟨p, 3, none⟩ = some (.int .i64 cv) ∧ w'.cell? ⟨p, 4, none⟩ = some (.int .i64 cr) ∧ w'.cell? ⟨p, 5, none⟩ = some (.int .i64 cd) ∧ w'.cell? ⟨p, 6, none⟩ = some (.int .i64 cb) ∧ w'.cell? ⟨p, 7, none⟩ = some (.int .i64 cbt) ∧ w'.cell? ⟨p, 8, none⟩ = some (.slice A0 An0 Ac0) ∧ w'.cell? ⟨p, 9, none⟩ = some (.int .i64 cc) ∧ w'.cell? ⟨p, 10, none⟩ = some (.slice A1 An1 Ac1) ∧ w'.cell? ⟨p, 11, none⟩ = some (.slice (some ⟨g2, 0, none⟩) An2 Ac2) ∧ w'.cell? ⟨p, 12, none⟩ = some (.slice A3 An3 Ac3) ∧ w'.cell? ⟨p, 13, none⟩ = some (.slice A4 An4 Ac4)) (fun i => i == 18) 19 (by rfl) (by kernel_rfl) ?_
 have V4 : Hid (Below w3.heap.size w3 w3.drew) := (Below.refl _ _).drew
 generalize w3.drew = Y0 at *
 have P4 := Hid.mk (P3.out.on V4.out P3.out.lt)
 have VY : Hid (Below w.heap.size w Y0) := V3.out.trans (V4.out.mono V3.out.size)
 have SS0 := Hid.mk (show (fun w' => w'.cell? ⟨p, 0, none⟩ = some (.int .i64 ci) ∧ w'.cell? ⟨p, 1, none⟩ = some (.int .i64 cp) ∧ w'.cell? ⟨p, 2, none⟩ = some (.int .i64 ct) ∧ w'.cell? ⟨p, 3, none⟩ = some (.int .i64 cv) ∧ w'.cell? ⟨p, 4, none⟩ = some (.int .i64 cr) ∧ w'.cell? ⟨p, 5, none⟩ = some (.int .i64 cd) ∧ w'.cell? ⟨p, 6, none⟩ = some (.int .i64 cb) ∧ w'.cell? ⟨p, 7, none⟩ = some (.int .i64 cbt) ∧ w'.cell? ⟨p, 8, none⟩ = some (.slice A0 An0 Ac0) ∧ w'.cell? ⟨p, 9, none⟩ = some (.int .i64 cc) ∧ w'.cell? ⟨p, 10, none⟩ = some (.slice A1 An1 Ac1) ∧ w'.cell? ⟨p, 11, none⟩ = some (.slice (some ⟨g2, 0, none⟩) An2 Ac2) ∧ w'.cell? ⟨p, 12, none⟩ = some (.slice A3 An3 Ac3) ∧ w'.cell? ⟨p, 13, none⟩ = some (.slice A4 An4 Ac4)) Y0 from ⟨P4.out.cell 0 _ rfl, P4.out.cell 1 _ rfl, P4.out.cell 2 _ rfl, P4.out.cell 3 _ rfl, P4.out.cell 4 _ rfl, P4.out.cell 5 _ rfl, P4.out.cell 6 _ rfl, P4.out.cell 7 _ rfl, P4.out.cell 8 _ rfl, P4.out.cell 9 _ rfl, P4.out.cell 10 _ rfl, P4.out.cell 11 _ rfl, P4.out.cell 12 _ rfl, P4.out.cell 13 _ rfl⟩)
 refine tF 0 SS0.out ?_
 refine tF 1 SS0.out ?_
 refine tF 2 SS0.out ?_
 refine tF 3 SS0.out ?_
 refine tF 4 SS0.out ?_
 refine tF 5 SS0.out ?_
 refine tF 6 SS0.out ?_
 refine tF 7 SS0.out ?_
 refine tF 8 SS0.out ?_
 refine tF 9 SS0.out ?_
 refine tF 11 SS0.out ?_
 refine tF 12 SS0.out ?_
 refine tF 13 SS0.out ?_
 refine tF 14 SS0.out ?_
 refine tF 15 SS0.out ?_
 refine tF 16 SS0.out ?_
 refine uNe 10 (fun K hK => ?_)
 go_simp
 refine (cT Y0 (HLt.out.on VY.out) VY.out.size).mono ?_
 rintro e Y1 ⟨rfl, hb⟩
 have V5 : Hid (Below w3.heap.size w3 Y1) := V4.out.trans (hb.mono V4.out.size)
 have P5 := Hid.mk (P3.out.on V5.out P3.out.lt)
 clear hb cT P4 SS0
 refine hK.out _ _ (fun _ _ => ⟨P5.out.cell 0 _ rfl, P5.out.cell 1 _ rfl, P5.out.cell 2 _ rfl, P5.out.cell 3 _ rfl, P5.out.cell 4 _ rfl, P5.out.cell 5 _ rfl, P5.out.cell 6 _ rfl, P5.out.cell 7 _ rfl, P5.out.cell 8 _ rfl, P5.out.cell 9 _ rfl, P5.out.cell 10 _ rfl, P5.out.cell 11 _ rfl, P5.out.cell 12 _ rfl, P5.out.cell 13 _ rfl⟩) ?_
 clear hK K
 try simp only [Act.put, zQ1, zQ2, zQ3]
 refine pF 17 ?_
 refine uNe 18 (fun K hK => ?_)
 go_simp
 refine (cS Y1 _ _ (SO3.out.on V5.out) ((OU.out.on V5.out).mono HBS.out) HUa.out HUl.out (Nat.le_trans HBS.out (V3.out.trans (V5.out.mono V3.out.size)).size)).mono ?_
 rintro e Y2 ⟨rfl, hS, hb, hki⟩
 have FK := Hid.mk ((KeepI.of (V3.out.trans (V5.out.mono V3.out.size))).trans hki)
 clear hki
 have FS := Hid.mk (HFin.out Y2 _ _ hS)
 have FB : Hid (Below base w Y2) := ((V3.out.trans (V5.out.mono V3.out.size)).mono HBS.out).trans hb
 clear hS hb cS
 refine hK.out _ _ (fun h => by cases h) ?_
 clear hK K
 try simp only [Act.put, zQ1, zQ2, zQ3]
 refine until_done (by kernel_rfl) ?_ _
 try go_wp2_with fail
 exact bodyPost_end (v := .tuple #[]) (by simp [results, go_sem]) rfl ⟨rfl, by rw [HE.out]; exact FS.out, FB.out, FK.out⟩
theorem sendEI (ci cp ct cv cr cd cb cbt : Int) (lg : List Ent) (cc : Int) (ys ns ms : List Int) (M : List Mg) (t : Nat) (w : World) (base p : Nat) (hsp : Spk w base p ⟨ci, cp, ct, cv, cr, cd, cb, cbt, lg, cc, ys, ns, ms⟩ M) (hs : ShortC ⟨ci, cp, ct, cv, cr, cd, cb, cbt, lg, cc, ys, ns, ms⟩) (h0 : 0 ≤ cb) (h1 : cb ≤ 100000) (hln : lg.length ≤ 60) (ht : t < ns.length) (hnx0 : 1 ≤ ns.getD t 0) (hnx1 : ns.getD t 0 ≤ cb + (lg.length : Int) + 1) (hM : M.length ≤ 500) (hbs : base ≤ w.heap.size) :
  Calls Try.prog 74 #[.pointer (some ⟨p, 0, none⟩), .int .i64 (t : Int)] w fun e w' => e = .returned (.tuple #[]) ∧ Spk w' base p ⟨ci, cp, ct, cv, cr, cd, cb, cbt, lg, cc, ys, ns, ms⟩ (M ++ [sendM ⟨ci, cp, ct, cv, cr, cd, cb, cbt, lg, cc, ys, ns, ms⟩ (t : Int)]) ∧ Below base w w' ∧ KeepI w w' := by
 by_cases h2 : ns.getD t 0 ≤ cb
 ·exact sendE0 ci cp ct cv cr cd cb cbt lg cc ys ns ms M t w base p hsp hs h0 h1 hln ht hnx0 hnx1 h2 hM hbs
 exact sendE1 ci cp ct cv cr cd cb cbt lg cc ys ns ms M t w base p hsp hs h0 h1 hln ht hnx0 hnx1 h2 hM hbs
end Go.Proofs.Ytlhoonohpfpkbaa
