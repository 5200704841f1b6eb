/-
  Contract of (impl.Core).roleOk.
-/
import Derived.Test.YtjejcpieajeflaaRows
import Derived.Test.YtjejcpieajeflaaCoI2
import Derived.Test.YtjejcpieajeflaaCoI3
import Derived.Deep.Cut
import Derived.Handy
namespace Go.Proofs.Ytjejcpieajeflaa
open Go.ChangeShapes Go.WideShapes Go.ChangeAt Go.RowKit Go.PlainAid
set_option linter.unusedVariables false

set_option maxHeartbeats 4000000 in
theorem roleI1 (ci cp ct cv cd cb cbt : Int) (lg : List Ent) (cc : Int) (ys ns ms : List Int) (A0 : Option Addr) (n0 c0 : Nat) (u1 u2 u3 : Value) (w : World) (B : Nat) (hy : NumsV w B u1 ys) (hn : NumsV w B u2 ns) (hm : NumsV w B u3 ms) (hly : ys.length ≤ 1048576) (hln : ns.length ≤ 1048576) (hlm : ms.length ≤ 1048576) (hp0 : 1 ≤ cp) (hp1 : cp ≤ 5) (hi0 : 0 ≤ ci) (hi1 : ci ≤ cp - 1) (hb0 : 0 ≤ cb) (hb1 : cb ≤ 200000) (hl0 : lg.length = n0) (hl1 : n0 ≤ 1048576) (hB : B ≤ w.heap.size) : Calls Try.prog 50 #[.agg #[.int .i64 ci, .int .i64 cp, .int .i64 ct, .int .i64 cv, .int .i64 1, .int .i64 cd, .int .i64 cb, .int .i64 cbt, .slice A0 n0 c0, .int .i64 cc, u1, u2, u3]] w fun e w' => e = .returned (.bool (roleB ⟨ci, cp, ct, cv, 1, cd, cb, cbt, lg, cc, ys, ns, ms⟩)) ∧ Below w.heap.size w w' := by
  have HYv : Hid (NumsV w B u1 ys ∧ NumsV w B u2 ns ∧ NumsV w B u3 ms) := ⟨hy, hn, hm⟩
  have HBB : Hid (B ≤ w.heap.size) := hB
  obtain ⟨A1, c1, rfl, _⟩ := hy
  obtain ⟨A2, c2, rfl, _⟩ := hn
  obtain ⟨A3, c3, rfl, _⟩ := hm
  obtain ⟨X0, hX0⟩ : ∃ X0, X0 = w.alloc (.cells #[.int .i64 ci, .int .i64 cp, .int .i64 ct, .int .i64 cv, .int .i64 1, .int .i64 cd, .int .i64 cb, .int .i64 cbt, .slice A0 n0 c0, .int .i64 cc, .slice A1 ys.length c1, .slice A2 ns.length c2, .slice A3 ms.length c3] 30) := ⟨_, rfl⟩
  have B0 : Hid (Below w.heap.size w X0) := by unfold Hid; rw [hX0]; exact (Below.refl _ _).alloc (Nat.le_refl _) _
  have w1 : IntKind.i64.wrap (cp - 1) = cp - 1 := by rw [IntKind.wrap_i64]; omega
  have K0 : Hid (Blk X0 w.heap.size #[.int .i64 ci, .int .i64 cp, .int .i64 ct, .int .i64 cv, .int .i64 1, .int .i64 cd, .int .i64 cb, .int .i64 cbt, .slice A0 n0 c0, .int .i64 cc, .slice A1 ys.length c1, .slice A2 ns.length c2, .slice A3 ms.length c3] 30) := by unfold Hid; rw [hX0]; exact Blk.new w _ _
  have a1 := inW cd (-1) (cp - 1)
  have qy : (ys.length : Int) ≤ 1048576 := by omega
  have qn : (ns.length : Int) ≤ 1048576 := by omega
  have qm : (ms.length : Int) ≤ 1048576 := by omega
  cases hc0 : inIt cd (-1) (cp - 1)
  · rw [hc0] at a1
    have HE : Hid (roleB ⟨ci, cp, ct, cv, 1, cd, cb, cbt, lg, cc, ys, ns, ms⟩ = false) := roleB_no fun h => by
      rcases h with ⟨e, h⟩ | ⟨e, h⟩ | ⟨e, h⟩
      · have a := h.a; have b := h.b; simp only at a b; rw [show inIt cd (-1) (cp - 1) = true by unfold inIt; simp [a, b]] at hc0; cases hc0
      · cases e
      · cases e
    clear  hc0
    generalize ys.length = ny at *
    generalize ns.length = nn at *
    generalize ms.length = nm at *
    go_enter Try.func50, Try.ntmps50
    go_wp2_with fail
    rw [← hX0]
    clear hX0
    refine (a1 _).mono ?_
    rintro e w' ⟨rfl, rfl⟩
    have kk := cellsC13 K0.out
    obtain ⟨k0, k1, k2, k3, k4, k5, k6, k7, k8, k9, k10, k11, k12⟩ := kk
    go_wp2_with fail
    go_ret
    exact ⟨by rw [HE.out]; rfl, B0.out⟩
  rw [hc0] at a1
  by_cases hc1 : cd ≠ ci
  rotate_left
  · have zi1 : (cd != ci) = false := by rw [Decidable.not_not.1 hc1]; exact bne_self_eq_false _
    have HE : Hid (roleB ⟨ci, cp, ct, cv, 1, cd, cb, cbt, lg, cc, ys, ns, ms⟩ = false) := roleB_no fun h => by
      rcases h with ⟨e, h⟩ | ⟨e, h⟩ | ⟨e, h⟩
      · exact hc1 h.c
      · cases e
      · cases e
    clear hc1 hc0
    generalize ys.length = ny at *
    generalize ns.length = nn at *
    generalize ms.length = nm at *
    go_enter Try.func50, Try.ntmps50
    go_wp2_with fail
    rw [← hX0]
    clear hX0
    refine (a1 _).mono ?_
    rintro e w' ⟨rfl, rfl⟩
    have kk := cellsC13 K0.out
    obtain ⟨k0, k1, k2, k3, k4, k5, k6, k7, k8, k9, k10, k11, k12⟩ := kk
    go_wp2_with fail
    go_ret
    exact ⟨by rw [HE.out]; rfl, B0.out⟩
  have zi1 : (cd != ci) = true := bne_iff_ne.2 hc1
  by_cases hc2 : ys.length = 0
  rotate_left
  · have zi2 : ((ys.length : Int) == 0) = false := beq_eq_false_iff_ne.2 (by omega)
    have zn2 : (ys.length == 0) = false := beq_eq_false_iff_ne.2 hc2
    have HE : Hid (roleB ⟨ci, cp, ct, cv, 1, cd, cb, cbt, lg, cc, ys, ns, ms⟩ = false) := roleB_no fun h => by
      rcases h with ⟨e, h⟩ | ⟨e, h⟩ | ⟨e, h⟩
      · exact hc2 h.y
      · cases e
      · cases e
    clear hc1 hc2 hc0
    generalize ys.length = ny at *
    generalize ns.length = nn at *
    generalize ms.length = nm at *
    go_enter Try.func50, Try.ntmps50
    go_wp2_with fail
    rw [← hX0]
    clear hX0
    refine (a1 _).mono ?_
    rintro e w' ⟨rfl, rfl⟩
    have kk := cellsC13 K0.out
    obtain ⟨k0, k1, k2, k3, k4, k5, k6, k7, k8, k9, k10, k11, k12⟩ := kk
    go_wp2_with fail
    go_ret
    exact ⟨by rw [HE.out]; rfl, B0.out⟩
  have zi2 : ((ys.length : Int) == 0) = true := by rw [hc2]; rfl
  have zn2 : (ys.length == 0) = true := by rw [hc2]; rfl
  by_cases hc3 : ns.length = 0
  rotate_left
  · have zi3 : ((ns.length : Int) == 0) = false := beq_eq_false_iff_ne.2 (by omega)
    have zn3 : (ns.length == 0) = false := beq_eq_false_iff_ne.2 hc3
    have HE : Hid (roleB ⟨ci, cp, ct, cv, 1, cd, cb, cbt, lg, cc, ys, ns, ms⟩ = false) := roleB_no fun h => by
      rcases h with ⟨e, h⟩ | ⟨e, h⟩ | ⟨e, h⟩
      · exact hc3 h.n
      · cases e
      · cases e
    clear hc1 hc2 hc3 hc0
    generalize ys.length = ny at *
    generalize ns.length = nn at *
    generalize ms.length = nm at *
    go_enter Try.func50, Try.ntmps50
    go_wp2_with fail
    rw [← hX0]
    clear hX0
    refine (a1 _).mono ?_
    rintro e w' ⟨rfl, rfl⟩
    have kk := cellsC13 K0.out
    obtain ⟨k0, k1, k2, k3, k4, k5, k6, k7, k8, k9, k10, k11, k12⟩ := kk
    go_wp2_with fail
    go_ret
    exact ⟨by rw [HE.out]; rfl, B0.out⟩
  have zi3 : ((ns.length : Int) == 0) = true := by rw [hc3]; rfl
  have zn3 : (ns.length == 0) = true := by rw [hc3]; rfl
  by_cases hc4 : ms.length = 0
  rotate_left
  · have zi4 : ((ms.length : Int) == 0) = false := beq_eq_false_iff_ne.2 (by omega)
    have zn4 : (ms.length == 0) = false := beq_eq_false_iff_ne.2 hc4
    have HE : Hid (roleB ⟨ci, cp, ct, cv, 1, cd, cb, cbt, lg, cc, ys, ns, ms⟩ = false) := roleB_no fun h => by
      rcases h with ⟨e, h⟩ | ⟨e, h⟩ | ⟨e, h⟩
      · exact hc4 h.m
      · cases e
      · cases e
    clear hc1 hc2 hc3 hc4 hc0
    generalize ys.length = ny at *
    generalize ns.length = nn at *
    generalize ms.length = nm at *
    go_enter Try.func50, Try.ntmps50
    go_wp2_with fail
    rw [← hX0]
    clear hX0
    refine (a1 _).mono ?_
    rintro e w' ⟨rfl, rfl⟩
    have kk := cellsC13 K0.out
    obtain ⟨k0, k1, k2, k3, k4, k5, k6, k7, k8, k9, k10, k11, k12⟩ := kk
    go_wp2_with fail
    go_ret
    exact ⟨by rw [HE.out]; rfl, B0.out⟩
  have zi4 : ((ms.length : Int) == 0) = true := by rw [hc4]; rfl
  have zn4 : (ms.length == 0) = true := by rw [hc4]; rfl
  have HE : Hid (roleB ⟨ci, cp, ct, cv, 1, cd, cb, cbt, lg, cc, ys, ns, ms⟩ = true) := roleB_yes (.inl ⟨rfl, ⟨(inIt_in _ _ _ hc0).1, (inIt_in _ _ _ hc0).2, hc1, hc2, hc3, hc4⟩⟩)
  clear hc1 hc2 hc3 hc4 hc0
  generalize ys.length = ny at *
  generalize ns.length = nn at *
  generalize ms.length = nm at *
  go_enter Try.func50, Try.ntmps50
  go_wp2_with fail
  rw [← hX0]
  clear hX0
  refine (a1 _).mono ?_
  rintro e w' ⟨rfl, rfl⟩
  have kk := cellsC13 K0.out
  obtain ⟨k0, k1, k2, k3, k4, k5, k6, k7, k8, k9, k10, k11, k12⟩ := kk
  go_wp2_with fail
  go_ret
  exact ⟨by rw [HE.out]; rfl, B0.out⟩
set_option maxHeartbeats 4000000 in
theorem roleI2 (ci cp ct cv cd cb cbt : Int) (lg : List Ent) (cc : Int) (ys ns ms : List Int) (A0 : Option Addr) (n0 c0 : Nat) (u1 u2 u3 : Value) (w : World) (B : Nat) (hy : NumsV w B u1 ys) (hn : NumsV w B u2 ns) (hm : NumsV w B u3 ms) (hly : ys.length ≤ 1048576) (hln : ns.length ≤ 1048576) (hlm : ms.length ≤ 1048576) (hp0 : 1 ≤ cp) (hp1 : cp ≤ 5) (hi0 : 0 ≤ ci) (hi1 : ci ≤ cp - 1) (hb0 : 0 ≤ cb) (hb1 : cb ≤ 200000) (hl0 : lg.length = n0) (hl1 : n0 ≤ 1048576) (hB : B ≤ w.heap.size) : Calls Try.prog 50 #[.agg #[.int .i64 ci, .int .i64 cp, .int .i64 ct, .int .i64 cv, .int .i64 2, .int .i64 cd, .int .i64 cb, .int .i64 cbt, .slice A0 n0 c0, .int .i64 cc, u1, u2, u3]] w fun e w' => e = .returned (.bool (roleB ⟨ci, cp, ct, cv, 2, cd, cb, cbt, lg, cc, ys, ns, ms⟩)) ∧ Below w.heap.size w w' := by
  have HYv : Hid (NumsV w B u1 ys ∧ NumsV w B u2 ns ∧ NumsV w B u3 ms) := ⟨hy, hn, hm⟩
  have HBB : Hid (B ≤ w.heap.size) := hB
  have cY := fun wx h1 h2 => yesI ci cp ct cv 2 cd cb cbt lg cc ys ns ms A0 n0 c0 u1 u2 u3 wx B h1 hly hp0 hp1 h2
  have HSY : Hid (seekB ⟨ci, cp, ct, cv, 2, cd, cb, cbt, lg, cc, ys, ns, ms⟩ = true → SeekP ⟨ci, cp, ct, cv, 2, cd, cb, cbt, lg, cc, ys, ns, ms⟩) := seekB_ok
  have HSN : Hid (seekB ⟨ci, cp, ct, cv, 2, cd, cb, cbt, lg, cc, ys, ns, ms⟩ = false → ¬ SeekP ⟨ci, cp, ct, cv, 2, cd, cb, cbt, lg, cc, ys, ns, ms⟩) := seekB_not
  obtain ⟨A1, c1, rfl, _⟩ := hy
  obtain ⟨A2, c2, rfl, _⟩ := hn
  obtain ⟨A3, c3, rfl, _⟩ := hm
  obtain ⟨X0, hX0⟩ : ∃ X0, X0 = w.alloc (.cells #[.int .i64 ci, .int .i64 cp, .int .i64 ct, .int .i64 cv, .int .i64 2, .int .i64 cd, .int .i64 cb, .int .i64 cbt, .slice A0 n0 c0, .int .i64 cc, .slice A1 ys.length c1, .slice A2 ns.length c2, .slice A3 ms.length c3] 30) := ⟨_, rfl⟩
  have B0 : Hid (Below w.heap.size w X0) := by unfold Hid; rw [hX0]; exact (Below.refl _ _).alloc (Nat.le_refl _) _
  have w1 : IntKind.i64.wrap (cp - 1) = cp - 1 := by rw [IntKind.wrap_i64]; omega
  have K0 : Hid (Blk X0 w.heap.size #[.int .i64 ci, .int .i64 cp, .int .i64 ct, .int .i64 cv, .int .i64 2, .int .i64 cd, .int .i64 cb, .int .i64 cbt, .slice A0 n0 c0, .int .i64 cc, .slice A1 ys.length c1, .slice A2 ns.length c2, .slice A3 ms.length c3] 30) := by unfold Hid; rw [hX0]; exact Blk.new w _ _
  have cY1 := cY X0 (HYv.out.1.on (B0.out.mono HBB.out)) (Nat.le_trans HBB.out B0.out.size)
  clear cY
  have qy : (ys.length : Int) ≤ 1048576 := by omega
  have qn : (ns.length : Int) ≤ 1048576 := by omega
  have qm : (ms.length : Int) ≤ 1048576 := by omega
  by_cases hc0 : 1 ≤ ct
  rotate_left
  · have zi0 : decide (1 ≤ ct) = false := decide_eq_false hc0
    have HE : Hid (roleB ⟨ci, cp, ct, cv, 2, cd, cb, cbt, lg, cc, ys, ns, ms⟩ = false) := roleB_no fun h => by
      rcases h with ⟨e, h⟩ | ⟨e, h⟩ | ⟨e, h⟩
      · cases e
      · exact hc0 h.t
      · cases e
    clear hc0 
    generalize ys.length = ny at *
    generalize ns.length = nn at *
    generalize ms.length = nm at *
    go_enter Try.func50, Try.ntmps50
    go_wp2_with fail
    go_ret
    rw [← hX0]
    exact ⟨by rw [HE.out]; rfl, B0.out⟩
  have zi0 : decide (1 ≤ ct) = true := decide_eq_true hc0
  by_cases hc1 : cv = ci
  rotate_left
  · have zi1 : (cv == ci) = false := beq_eq_false_iff_ne.2 hc1
    have HE : Hid (roleB ⟨ci, cp, ct, cv, 2, cd, cb, cbt, lg, cc, ys, ns, ms⟩ = false) := roleB_no fun h => by
      rcases h with ⟨e, h⟩ | ⟨e, h⟩ | ⟨e, h⟩
      · cases e
      · exact hc1 h.v
      · cases e
    clear hc0 hc1 
    generalize ys.length = ny at *
    generalize ns.length = nn at *
    generalize ms.length = nm at *
    go_enter Try.func50, Try.ntmps50
    go_wp2_with fail
    go_ret
    rw [← hX0]
    exact ⟨by rw [HE.out]; rfl, B0.out⟩
  have zi1 : (cv == ci) = true := beq_iff_eq.2 hc1
  by_cases hc2 : cd = -1
  rotate_left
  · have zi2 : (cd == -1) = false := beq_eq_false_iff_ne.2 hc2
    have HE : Hid (roleB ⟨ci, cp, ct, cv, 2, cd, cb, cbt, lg, cc, ys, ns, ms⟩ = false) := roleB_no fun h => by
      rcases h with ⟨e, h⟩ | ⟨e, h⟩ | ⟨e, h⟩
      · cases e
      · exact hc2 h.l
      · cases e
    clear hc0 hc1 hc2 
    generalize ys.length = ny at *
    generalize ns.length = nn at *
    generalize ms.length = nm at *
    go_enter Try.func50, Try.ntmps50
    go_wp2_with fail
    go_ret
    rw [← hX0]
    exact ⟨by rw [HE.out]; rfl, B0.out⟩
  have zi2 : (cd == -1) = true := beq_iff_eq.2 hc2
  cases hc3 : seekB ⟨ci, cp, ct, cv, 2, cd, cb, cbt, lg, cc, ys, ns, ms⟩
  · rw [hc3] at cY1
    have HE : Hid (roleB ⟨ci, cp, ct, cv, 2, cd, cb, cbt, lg, cc, ys, ns, ms⟩ = false) := roleB_no fun h => by
      rcases h with ⟨e, h⟩ | ⟨e, h⟩ | ⟨e, h⟩
      · cases e
      · exact HSN.out hc3 ⟨h.i, h.r, h.h, h.f⟩
      · cases e
    clear hc0 hc1 hc2 hc3
    generalize ys.length = ny at *
    generalize ns.length = nn at *
    generalize ms.length = nm at *
    go_enter Try.func50, Try.ntmps50
    go_wp2_with fail
    rw [← hX0]
    clear hX0
    have kk := cellsC13 K0.out
    obtain ⟨k0, k1, k2, k3, k4, k5, k6, k7, k8, k9, k10, k11, k12⟩ := kk
    clear k0 k1 k2 k3 k4 k5 k6 k7 k8 k9 k10 k11 k12
    refine cY1.mono ?_
    rintro e X1 ⟨rfl, hb⟩
    have B1 := Hid.mk (B0.out.trans (hb.mono B0.out.size))
    obtain ⟨k0, k1, k2, k3, k4, k5, k6, k7, k8, k9, k10, k11, k12⟩ := cellsC13 (K0.out.on hb K0.out.lt)
    clear hb
    go_wp2_with fail
    go_ret
    exact ⟨by rw [HE.out]; rfl, B1.out⟩
  rw [hc3] at cY1
  by_cases hc4 : ns.length = 0
  rotate_left
  · have zi4 : ((ns.length : Int) == 0) = false := beq_eq_false_iff_ne.2 (by omega)
    have zn4 : (ns.length == 0) = false := beq_eq_false_iff_ne.2 hc4
    have HE : Hid (roleB ⟨ci, cp, ct, cv, 2, cd, cb, cbt, lg, cc, ys, ns, ms⟩ = false) := roleB_no fun h => by
      rcases h with ⟨e, h⟩ | ⟨e, h⟩ | ⟨e, h⟩
      · cases e
      · exact hc4 h.n
      · cases e
    clear hc0 hc1 hc2 hc4 hc3
    generalize ys.length = ny at *
    generalize ns.length = nn at *
    generalize ms.length = nm at *
    go_enter Try.func50, Try.ntmps50
    go_wp2_with fail
    rw [← hX0]
    clear hX0
    have kk := cellsC13 K0.out
    obtain ⟨k0, k1, k2, k3, k4, k5, k6, k7, k8, k9, k10, k11, k12⟩ := kk
    clear k0 k1 k2 k3 k4 k5 k6 k7 k8 k9 k10 k11 k12
    refine cY1.mono ?_
    rintro e X1 ⟨rfl, hb⟩
    have B1 := Hid.mk (B0.out.trans (hb.mono B0.out.size))
    obtain ⟨k0, k1, k2, k3, k4, k5, k6, k7, k8, k9, k10, k11, k12⟩ := cellsC13 (K0.out.on hb K0.out.lt)
    clear hb
    go_wp2_with fail
    go_ret
    exact ⟨by rw [HE.out]; rfl, B1.out⟩
  have zi4 : ((ns.length : Int) == 0) = true := by rw [hc4]; rfl
  have zn4 : (ns.length == 0) = true := by rw [hc4]; rfl
  by_cases hc5 : ms.length = 0
  rotate_left
  · have zi5 : ((ms.length : Int) == 0) = false := beq_eq_false_iff_ne.2 (by omega)
    have zn5 : (ms.length == 0) = false := beq_eq_false_iff_ne.2 hc5
    have HE : Hid (roleB ⟨ci, cp, ct, cv, 2, cd, cb, cbt, lg, cc, ys, ns, ms⟩ = false) := roleB_no fun h => by
      rcases h with ⟨e, h⟩ | ⟨e, h⟩ | ⟨e, h⟩
      · cases e
      · exact hc5 h.m
      · cases e
    clear hc0 hc1 hc2 hc4 hc5 hc3
    generalize ys.length = ny at *
    generalize ns.length = nn at *
    generalize ms.length = nm at *
    go_enter Try.func50, Try.ntmps50
    go_wp2_with fail
    rw [← hX0]
    clear hX0
    have kk := cellsC13 K0.out
    obtain ⟨k0, k1, k2, k3, k4, k5, k6, k7, k8, k9, k10, k11, k12⟩ := kk
    clear k0 k1 k2 k3 k4 k5 k6 k7 k8 k9 k10 k11 k12
    refine cY1.mono ?_
    rintro e X1 ⟨rfl, hb⟩
    have B1 := Hid.mk (B0.out.trans (hb.mono B0.out.size))
    obtain ⟨k0, k1, k2, k3, k4, k5, k6, k7, k8, k9, k10, k11, k12⟩ := cellsC13 (K0.out.on hb K0.out.lt)
    clear hb
    go_wp2_with fail
    go_ret
    exact ⟨by rw [HE.out]; rfl, B1.out⟩
  have zi5 : ((ms.length : Int) == 0) = true := by rw [hc5]; rfl
  have zn5 : (ms.length == 0) = true := by rw [hc5]; rfl
  have HE : Hid (roleB ⟨ci, cp, ct, cv, 2, cd, cb, cbt, lg, cc, ys, ns, ms⟩ = true) := roleB_yes (.inr (.inl ⟨rfl, ⟨hc0, hc1, hc2, (HSY.out hc3).1, (HSY.out hc3).2.1, (HSY.out hc3).2.2.1, (HSY.out hc3).2.2.2, hc4, hc5⟩⟩))
  clear hc0 hc1 hc2 hc4 hc5 hc3
  generalize ys.length = ny at *
  generalize ns.length = nn at *
  generalize ms.length = nm at *
  go_enter Try.func50, Try.ntmps50
  go_wp2_with fail
  rw [← hX0]
  clear hX0
  have kk := cellsC13 K0.out
  obtain ⟨k0, k1, k2, k3, k4, k5, k6, k7, k8, k9, k10, k11, k12⟩ := kk
  clear k0 k1 k2 k3 k4 k5 k6 k7 k8 k9 k10 k11 k12
  refine cY1.mono ?_
  rintro e X1 ⟨rfl, hb⟩
  have B1 := Hid.mk (B0.out.trans (hb.mono B0.out.size))
  obtain ⟨k0, k1, k2, k3, k4, k5, k6, k7, k8, k9, k10, k11, k12⟩ := cellsC13 (K0.out.on hb K0.out.lt)
  clear hb
  go_wp2_with fail
  go_ret
  exact ⟨by rw [HE.out]; rfl, B1.out⟩
set_option maxHeartbeats 4000000 in
theorem roleI3 (ci cp ct cv cd cb cbt : Int) (lg : List Ent) (cc : Int) (ys ns ms : List Int) (A0 : Option Addr) (n0 c0 : Nat) (u1 u2 u3 : Value) (w : World) (B : Nat) (hy : NumsV w B u1 ys) (hn : NumsV w B u2 ns) (hm : NumsV w B u3 ms) (hly : ys.length ≤ 1048576) (hln : ns.length ≤ 1048576) (hlm : ms.length ≤ 1048576) (hp0 : 1 ≤ cp) (hp1 : cp ≤ 5) (hi0 : 0 ≤ ci) (hi1 : ci ≤ cp - 1) (hb0 : 0 ≤ cb) (hb1 : cb ≤ 200000) (hl0 : lg.length = n0) (hl1 : n0 ≤ 1048576) (hB : B ≤ w.heap.size) : Calls Try.prog 50 #[.agg #[.int .i64 ci, .int .i64 cp, .int .i64 ct, .int .i64 cv, .int .i64 3, .int .i64 cd, .int .i64 cb, .int .i64 cbt, .slice A0 n0 c0, .int .i64 cc, u1, u2, u3]] w fun e w' => e = .returned (.bool (roleB ⟨ci, cp, ct, cv, 3, cd, cb, cbt, lg, cc, ys, ns, ms⟩)) ∧ Below w.heap.size w w' := by
  have HYv : Hid (NumsV w B u1 ys ∧ NumsV w B u2 ns ∧ NumsV w B u3 ms) := ⟨hy, hn, hm⟩
  have HBB : Hid (B ≤ w.heap.size) := hB
  have cY := fun wx h1 h2 h3 => reachI ci cp ct cv 3 cd cb cbt lg cc ys ns ms A0 n0 c0 u1 u2 u3 wx B h1 h2 hln hlm hp0 hp1 hi0 hi1 hb0 hb1 hl0 hl1 h3
  have HSY : Hid (reachB ⟨ci, cp, ct, cv, 3, cd, cb, cbt, lg, cc, ys, ns, ms⟩ = true → ReachP ⟨ci, cp, ct, cv, 3, cd, cb, cbt, lg, cc, ys, ns, ms⟩) := reachB_ok
  have HSN : Hid (reachB ⟨ci, cp, ct, cv, 3, cd, cb, cbt, lg, cc, ys, ns, ms⟩ = false → ¬ ReachP ⟨ci, cp, ct, cv, 3, cd, cb, cbt, lg, cc, ys, ns, ms⟩) := reachB_not
  obtain ⟨A1, c1, rfl, _⟩ := hy
  obtain ⟨A2, c2, rfl, _⟩ := hn
  obtain ⟨A3, c3, rfl, _⟩ := hm
  obtain ⟨X0, hX0⟩ : ∃ X0, X0 = w.alloc (.cells #[.int .i64 ci, .int .i64 cp, .int .i64 ct, .int .i64 cv, .int .i64 3, .int .i64 cd, .int .i64 cb, .int .i64 cbt, .slice A0 n0 c0, .int .i64 cc, .slice A1 ys.length c1, .slice A2 ns.length c2, .slice A3 ms.length c3] 30) := ⟨_, rfl⟩
  have B0 : Hid (Below w.heap.size w X0) := by unfold Hid; rw [hX0]; exact (Below.refl _ _).alloc (Nat.le_refl _) _
  have w1 : IntKind.i64.wrap (cp - 1) = cp - 1 := by rw [IntKind.wrap_i64]; omega
  have K0 : Hid (Blk X0 w.heap.size #[.int .i64 ci, .int .i64 cp, .int .i64 ct, .int .i64 cv, .int .i64 3, .int .i64 cd, .int .i64 cb, .int .i64 cbt, .slice A0 n0 c0, .int .i64 cc, .slice A1 ys.length c1, .slice A2 ns.length c2, .slice A3 ms.length c3] 30) := by unfold Hid; rw [hX0]; exact Blk.new w _ _
  have cY1 := cY X0 (HYv.out.2.1.on (B0.out.mono HBB.out)) (HYv.out.2.2.on (B0.out.mono HBB.out)) (Nat.le_trans HBB.out B0.out.size)
  clear cY
  have qy : (ys.length : Int) ≤ 1048576 := by omega
  have qn : (ns.length : Int) ≤ 1048576 := by omega
  have qm : (ms.length : Int) ≤ 1048576 := by omega
  by_cases hc0 : 1 ≤ ct
  rotate_left
  · have zi0 : decide (1 ≤ ct) = false := decide_eq_false hc0
    have HE : Hid (roleB ⟨ci, cp, ct, cv, 3, cd, cb, cbt, lg, cc, ys, ns, ms⟩ = false) := roleB_no fun h => by
      rcases h with ⟨e, h⟩ | ⟨e, h⟩ | ⟨e, h⟩
      · cases e
      · cases e
      · exact hc0 h.t
    clear hc0 
    generalize ys.length = ny at *
    generalize ns.length = nn at *
    generalize ms.length = nm at *
    go_enter Try.func50, Try.ntmps50
    go_wp2_with fail
    go_ret
    rw [← hX0]
    exact ⟨by rw [HE.out]; rfl, B0.out⟩
  have zi0 : decide (1 ≤ ct) = true := decide_eq_true hc0
  by_cases hc1 : cv = ci
  rotate_left
  · have zi1 : (cv == ci) = false := beq_eq_false_iff_ne.2 hc1
    have HE : Hid (roleB ⟨ci, cp, ct, cv, 3, cd, cb, cbt, lg, cc, ys, ns, ms⟩ = false) := roleB_no fun h => by
      rcases h with ⟨e, h⟩ | ⟨e, h⟩ | ⟨e, h⟩
      · cases e
      · cases e
      · exact hc1 h.v
    clear hc0 hc1 
    generalize ys.length = ny at *
    generalize ns.length = nn at *
    generalize ms.length = nm at *
    go_enter Try.func50, Try.ntmps50
    go_wp2_with fail
    go_ret
    rw [← hX0]
    exact ⟨by rw [HE.out]; rfl, B0.out⟩
  have zi1 : (cv == ci) = true := beq_iff_eq.2 hc1
  by_cases hc2 : cd = ci
  rotate_left
  · have zi2 : (cd == ci) = false := beq_eq_false_iff_ne.2 hc2
    have HE : Hid (roleB ⟨ci, cp, ct, cv, 3, cd, cb, cbt, lg, cc, ys, ns, ms⟩ = false) := roleB_no fun h => by
      rcases h with ⟨e, h⟩ | ⟨e, h⟩ | ⟨e, h⟩
      · cases e
      · cases e
      · exact hc2 h.l
    clear hc0 hc1 hc2 
    generalize ys.length = ny at *
    generalize ns.length = nn at *
    generalize ms.length = nm at *
    go_enter Try.func50, Try.ntmps50
    go_wp2_with fail
    go_ret
    rw [← hX0]
    exact ⟨by rw [HE.out]; rfl, B0.out⟩
  have zi2 : (cd == ci) = true := beq_iff_eq.2 hc2
  by_cases hc3 : ys.length = 0
  rotate_left
  · have zi3 : ((ys.length : Int) == 0) = false := beq_eq_false_iff_ne.2 (by omega)
    have zn3 : (ys.length == 0) = false := beq_eq_false_iff_ne.2 hc3
    have HE : Hid (roleB ⟨ci, cp, ct, cv, 3, cd, cb, cbt, lg, cc, ys, ns, ms⟩ = false) := roleB_no fun h => by
      rcases h with ⟨e, h⟩ | ⟨e, h⟩ | ⟨e, h⟩
      · cases e
      · cases e
      · exact hc3 h.y
    clear hc0 hc1 hc2 hc3 
    generalize ys.length = ny at *
    generalize ns.length = nn at *
    generalize ms.length = nm at *
    go_enter Try.func50, Try.ntmps50
    go_wp2_with fail
    go_ret
    rw [← hX0]
    exact ⟨by rw [HE.out]; rfl, B0.out⟩
  have zi3 : ((ys.length : Int) == 0) = true := by rw [hc3]; rfl
  have zn3 : (ys.length == 0) = true := by rw [hc3]; rfl
  cases hc4 : reachB ⟨ci, cp, ct, cv, 3, cd, cb, cbt, lg, cc, ys, ns, ms⟩
  · rw [hc4] at cY1
    have HE : Hid (roleB ⟨ci, cp, ct, cv, 3, cd, cb, cbt, lg, cc, ys, ns, ms⟩ = false) := roleB_no fun h => by
      rcases h with ⟨e, h⟩ | ⟨e, h⟩ | ⟨e, h⟩
      · cases e
      · cases e
      · exact HSN.out hc4 ⟨h.n, h.m, h.a, h.o⟩
    clear hc0 hc1 hc2 hc3 hc4
    generalize ys.length = ny at *
    generalize ns.length = nn at *
    generalize ms.length = nm at *
    go_enter Try.func50, Try.ntmps50
    go_wp2_with fail
    rw [← hX0]
    clear hX0
    have kk := cellsC13 K0.out
    obtain ⟨k0, k1, k2, k3, k4, k5, k6, k7, k8, k9, k10, k11, k12⟩ := kk
    clear k0 k1 k2 k3 k4 k5 k6 k7 k8 k9 k10 k11 k12
    refine cY1.mono ?_
    rintro e X1 ⟨rfl, hb⟩
    have B1 := Hid.mk (B0.out.trans (hb.mono B0.out.size))
    obtain ⟨k0, k1, k2, k3, k4, k5, k6, k7, k8, k9, k10, k11, k12⟩ := cellsC13 (K0.out.on hb K0.out.lt)
    clear hb
    go_wp2_with fail
    go_ret
    exact ⟨by rw [HE.out]; rfl, B1.out⟩
  rw [hc4] at cY1
  have HE : Hid (roleB ⟨ci, cp, ct, cv, 3, cd, cb, cbt, lg, cc, ys, ns, ms⟩ = true) := roleB_yes (.inr (.inr ⟨rfl, ⟨hc0, hc1, hc2, hc3, (HSY.out hc4).1, (HSY.out hc4).2.1, (HSY.out hc4).2.2.1, (HSY.out hc4).2.2.2⟩⟩))
  clear hc0 hc1 hc2 hc3 hc4
  generalize ys.length = ny at *
  generalize ns.length = nn at *
  generalize ms.length = nm at *
  go_enter Try.func50, Try.ntmps50
  go_wp2_with fail
  rw [← hX0]
  clear hX0
  have kk := cellsC13 K0.out
  obtain ⟨k0, k1, k2, k3, k4, k5, k6, k7, k8, k9, k10, k11, k12⟩ := kk
  clear k0 k1 k2 k3 k4 k5 k6 k7 k8 k9 k10 k11 k12
  refine cY1.mono ?_
  rintro e X1 ⟨rfl, hb⟩
  have B1 := Hid.mk (B0.out.trans (hb.mono B0.out.size))
  obtain ⟨k0, k1, k2, k3, k4, k5, k6, k7, k8, k9, k10, k11, k12⟩ := cellsC13 (K0.out.on hb K0.out.lt)
  clear hb
  go_wp2_with fail
  go_ret
  exact ⟨by rw [HE.out]; rfl, B1.out⟩
set_option maxHeartbeats 4000000 in
theorem roleIx (ci cp ct cv cr cd cb cbt : Int) (lg : List Ent) (cc : Int) (ys ns ms : List Int) (A0 : Option Addr) (n0 c0 : Nat) (u1 u2 u3 : Value) (w : World) (B : Nat) (hy : NumsV w B u1 ys) (hn : NumsV w B u2 ns) (hm : NumsV w B u3 ms) (hly : ys.length ≤ 1048576) (hln : ns.length ≤ 1048576) (hlm : ms.length ≤ 1048576) (hp0 : 1 ≤ cp) (hp1 : cp ≤ 5) (hi0 : 0 ≤ ci) (hi1 : ci ≤ cp - 1) (hb0 : 0 ≤ cb) (hb1 : cb ≤ 200000) (hl0 : lg.length = n0) (hl1 : n0 ≤ 1048576) (hB : B ≤ w.heap.size) (hr1 : ¬ cr = 1) (hr2 : ¬ cr = 2) (hr3 : ¬ cr = 3) : Calls Try.prog 50 #[.agg #[.int .i64 ci, .int .i64 cp, .int .i64 ct, .int .i64 cv, .int .i64 cr, .int .i64 cd, .int .i64 cb, .int .i64 cbt, .slice A0 n0 c0, .int .i64 cc, u1, u2, u3]] w fun e w' => e = .returned (.bool (roleB ⟨ci, cp, ct, cv, cr, cd, cb, cbt, lg, cc, ys, ns, ms⟩)) ∧ Below w.heap.size w w' := by
  have HYv : Hid (NumsV w B u1 ys ∧ NumsV w B u2 ns ∧ NumsV w B u3 ms) := ⟨hy, hn, hm⟩
  have HBB : Hid (B ≤ w.heap.size) := hB
  obtain ⟨A1, c1, rfl, _⟩ := hy
  obtain ⟨A2, c2, rfl, _⟩ := hn
  obtain ⟨A3, c3, rfl, _⟩ := hm
  obtain ⟨X0, hX0⟩ : ∃ X0, X0 = w.alloc (.cells #[.int .i64 ci, .int .i64 cp, .int .i64 ct, .int .i64 cv, .int .i64 cr, .int .i64 cd, .int .i64 cb, .int .i64 cbt, .slice A0 n0 c0, .int .i64 cc, .slice A1 ys.length c1, .slice A2 ns.length c2, .slice A3 ms.length c3] 30) := ⟨_, rfl⟩
  have B0 : Hid (Below w.heap.size w X0) := by unfold Hid; rw [hX0]; exact (Below.refl _ _).alloc (Nat.le_refl _) _
  have w1 : IntKind.i64.wrap (cp - 1) = cp - 1 := by rw [IntKind.wrap_i64]; omega
  have K0 : Hid (Blk X0 w.heap.size #[.int .i64 ci, .int .i64 cp, .int .i64 ct, .int .i64 cv, .int .i64 cr, .int .i64 cd, .int .i64 cb, .int .i64 cbt, .slice A0 n0 c0, .int .i64 cc, .slice A1 ys.length c1, .slice A2 ns.length c2, .slice A3 ms.length c3] 30) := by unfold Hid; rw [hX0]; exact Blk.new w _ _
  have qy : (ys.length : Int) ≤ 1048576 := by omega
  have qn : (ns.length : Int) ≤ 1048576 := by omega
  have qm : (ms.length : Int) ≤ 1048576 := by omega
  have HF : Hid (roleB ⟨ci, cp, ct, cv, cr, cd, cb, cbt, lg, cc, ys, ns, ms⟩ = false) := roleB_no fun h => by rcases h with ⟨e, _⟩ | ⟨e, _⟩ | ⟨e, _⟩ <;> simp only at e <;> omega
  have e1 : (cr == 1) = false := beq_eq_false_iff_ne.2 hr1
  have e2 : (cr == 2) = false := beq_eq_false_iff_ne.2 hr2
  have e3 : (cr == 3) = false := beq_eq_false_iff_ne.2 hr3
  clear K0
  generalize ys.length = ny at *
  generalize ns.length = nn at *
  generalize ms.length = nm at *
  go_enter Try.func50, Try.ntmps50
  go_wp2_with fail
  go_ret
  rw [← hX0]
  exact ⟨by rw [HF.out]; rfl, B0.out⟩
theorem roleI (ci cp ct cv cr cd cb cbt : Int) (lg : List Ent) (cc : Int) (ys ns ms : List Int) (A0 : Option Addr) (n0 c0 : Nat) (u1 u2 u3 : Value) (w : World) (B : Nat) (hy : NumsV w B u1 ys) (hn : NumsV w B u2 ns) (hm : NumsV w B u3 ms) (hly : ys.length ≤ 1048576) (hln : ns.length ≤ 1048576) (hlm : ms.length ≤ 1048576) (hp0 : 1 ≤ cp) (hp1 : cp ≤ 5) (hi0 : 0 ≤ ci) (hi1 : ci ≤ cp - 1) (hb0 : 0 ≤ cb) (hb1 : cb ≤ 200000) (hl0 : lg.length = n0) (hl1 : n0 ≤ 1048576) (hB : B ≤ w.heap.size) : Calls Try.prog 50 #[.agg #[.int .i64 ci, .int .i64 cp, .int .i64 ct, .int .i64 cv, .int .i64 cr, .int .i64 cd, .int .i64 cb, .int .i64 cbt, .slice A0 n0 c0, .int .i64 cc, u1, u2, u3]] w fun e w' => e = .returned (.bool (roleB ⟨ci, cp, ct, cv, cr, cd, cb, cbt, lg, cc, ys, ns, ms⟩)) ∧ Below w.heap.size w w' := by
  by_cases h1 : cr = 1
  · subst h1; exact roleI1 ci cp ct cv cd cb cbt lg cc ys ns ms A0 n0 c0 u1 u2 u3 w B hy hn hm hly hln hlm hp0 hp1 hi0 hi1 hb0 hb1 hl0 hl1 hB
  by_cases h2 : cr = 2
  · subst h2; exact roleI2 ci cp ct cv cd cb cbt lg cc ys ns ms A0 n0 c0 u1 u2 u3 w B hy hn hm hly hln hlm hp0 hp1 hi0 hi1 hb0 hb1 hl0 hl1 hB
  by_cases h3 : cr = 3
  · subst h3; exact roleI3 ci cp ct cv cd cb cbt lg cc ys ns ms A0 n0 c0 u1 u2 u3 w B hy hn hm hly hln hlm hp0 hp1 hi0 hi1 hb0 hb1 hl0 hl1 hB
  exact roleIx ci cp ct cv cr cd cb cbt lg cc ys ns ms A0 n0 c0 u1 u2 u3 w B hy hn hm hly hln hlm hp0 hp1 hi0 hi1 hb0 hb1 hl0 hl1 hB h1 h2 h3
end Go.Proofs.Ytjejcpieajeflaa
