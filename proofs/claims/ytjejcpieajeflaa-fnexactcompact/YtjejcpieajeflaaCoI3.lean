/-
  Contract of (impl.Core).reachOk.
-/
import Derived.Test.YtjejcpieajeflaaRows
import Derived.Test.YtjejcpieajeflaaCoI1
import Derived.Deep.Cut
import Derived.Handy
namespace Go.Proofs.Ytjejcpieajeflaa
open Go.ChangeShapes Go.WideShapes Go.ChangeAt Go.RowKit Go.PlainAid
set_option linter.unusedVariables false

set_option maxHeartbeats 8000000 in
theorem reachI (ci cp ct cv cr cd cb cbt : Int) (lg : List Ent) (cc : Int) (ys ns ms : List Int) (A0 : Option Addr) (n0 c0 : Nat) (u1 u2 u3 : Value) (w : World) (B : Nat) (hn : NumsV w B u2 ns) (hm : NumsV w B u3 ms) (hln : ns.length ≤ 1048576) (hlm : ms.length ≤ 1048576) (hp0 : 1 ≤ cp) (hp1 : cp ≤ 5) (hi0 : 0 ≤ ci) (hi1 : ci ≤ cp - 1) (hb0 : 0 ≤ cb) (hb1 : cb ≤ 200000) (hl0 : lg.length = n0) (hl1 : n0 ≤ 1048576) (hB : B ≤ w.heap.size) : Calls Try.prog 81 #[.agg #[.int .i64 ci, .int .i64 cp, .int .i64 ct, .int .i64 cv, .int .i64 cr, .int .i64 cd, .int .i64 cb, .int .i64 cbt, .slice A0 n0 c0, .int .i64 cc, u1, u2, u3]] w fun e w' => e = .returned (.bool (reachB ⟨ci, cp, ct, cv, cr, cd, cb, cbt, lg, cc, ys, ns, ms⟩)) ∧ Below w.heap.size w w' := by
  have HBB : Hid (B ≤ w.heap.size) := hB
  have HLs : Hid (cLast ⟨ci, cp, ct, cv, cr, cd, cb, cbt, lg, cc, ys, ns, ms⟩ = cb + (n0 : Int)) := by unfold Hid cLast; rw [hl0]
  obtain ⟨A2, c2, rfl, _, _, hc2⟩ := hn
  obtain ⟨A3, c3, rfl, _, _, hc3⟩ := hm
  have H2 : Hid (∀ j, j < ns.length → ∃ g off, A2 = some ⟨g, off, none⟩ ∧ g < B ∧ w.cell? ⟨g, off + j, none⟩ = some (.int .i64 (ns.getD j 0))) := hc2
  have H3 : Hid (∀ j, j < ms.length → ∃ g off, A3 = some ⟨g, off, none⟩ ∧ g < B ∧ w.cell? ⟨g, off + j, none⟩ = some (.int .i64 (ms.getD j 0))) := hc3
  have HN1 : Hid ((ns.length : Int) ≠ cp → reachB ⟨ci, cp, ct, cv, cr, cd, cb, cbt, lg, cc, ys, ns, ms⟩ = false) := fun h => reachB_no fun q => h q.1
  have HN2 : Hid ((ms.length : Int) ≠ cp → reachB ⟨ci, cp, ct, cv, cr, cd, cb, cbt, lg, cc, ys, ns, ms⟩ = false) := fun h => reachB_no fun q => h q.2.1
  have HNo : Hid (∀ j, j < ms.length → ¬ (0 ≤ ms.getD j 0 ∧ ms.getD j 0 < ns.getD j 0 ∧ ns.getD j 0 ≤ cb + (n0 : Int) + 1) → reachB ⟨ci, cp, ct, cv, cr, cd, cb, cbt, lg, cc, ys, ns, ms⟩ = false) := fun j hj h => reachB_no fun q => h (by have := q.2.2.1 j hj; rw [HLs.out] at this; exact this)
  have HYe : Hid ((ns.length : Int) = cp → (ms.length : Int) = cp → (∀ j, j < ms.length → 0 ≤ ms.getD j 0 ∧ ms.getD j 0 < ns.getD j 0 ∧ ns.getD j 0 ≤ cb + (n0 : Int) + 1) → reachB ⟨ci, cp, ct, cv, cr, cd, cb, cbt, lg, cc, ys, ns, ms⟩ = (ms.getD ci.toNat 0 == cb + (n0 : Int))) := fun h1 h2 h3 => by
    by_cases h : ms.getD ci.toNat 0 = cb + (n0 : Int)
    · rw [h, beq_self_eq_true]
      exact reachB_yes ⟨h1, h2, fun j hj => by rw [HLs.out]; exact h3 j hj, by rw [HLs.out]; exact h⟩
    · rw [beq_eq_false_iff_ne.2 h]
      exact reachB_no fun q => h (by have := q.2.2.2; rw [HLs.out] at this; exact this)
  have q2 : (ns.length : Int) ≤ 1048576 := by omega
  have q3 : (ms.length : Int) ≤ 1048576 := by omega
  clear hc2 hc3 hl0
  by_cases hE2 : (ns.length : Int) = cp
  rotate_left
  · have HF := Hid.mk (HN1.out hE2)
    have e1 : ((ns.length : Int) != cp) = true := bne_iff_ne.2 hE2
    have HB1 : ∀ a, Hid (Below w.heap.size w (w.alloc a)) := fun a => (Below.refl _ _).alloc (Nat.le_refl _) _
    generalize ns.length = p2 at *
    generalize ms.length = p3 at *
    clear hE2
    go_enter Try.func81, Try.ntmps81
    go_wp2_with fail
    go_ret
    exact ⟨by rw [HF.out]; rfl, (HB1 _).out⟩
  by_cases hE3 : (ms.length : Int) = cp
  rotate_left
  · have HF := Hid.mk (HN2.out hE3)
    have e1 : ((ns.length : Int) != cp) = false := by rw [hE2]; exact bne_self_eq_false cp
    have e2 : ((ms.length : Int) != cp) = true := bne_iff_ne.2 hE3
    have HB1 : ∀ a, Hid (Below w.heap.size w (w.alloc a)) := fun a => (Below.refl _ _).alloc (Nat.le_refl _) _
    generalize ns.length = p2 at *
    generalize ms.length = p3 at *
    clear hE2 hE3
    go_enter Try.func81, Try.ntmps81
    go_wp2_with fail
    go_ret
    exact ⟨by rw [HF.out]; rfl, (HB1 _).out⟩
  have HYF := Hid.mk (HYe.out hE2 hE3)
  clear HYe
  have hpp : ns.length = ms.length := by omega
  rw [hpp] at H2 hE2 ⊢
  generalize ms.length = p at *
  clear hpp HN1 HN2 hln hlm q2 hE2
  obtain rfl : cp = (p : Int) := hE3.symm
  clear hE3
  have hp : p ≤ 5 := by omega
  have hcip : ci.toNat < p := by omega
  have HCI : Hid ((ci.toNat : Int) = ci) := by unfold Hid; omega
  have hcil : ci < (p : Int) := by omega
  have e0 : ((p : Int) != (p : Int)) = false := bne_self_eq_false _
  obtain ⟨X0, hX0⟩ : ∃ X0, X0 = w.alloc (.cells #[.int .i64 ci, .int .i64 (p : Int), .int .i64 ct, .int .i64 cv, .int .i64 cr, .int .i64 cd, .int .i64 cb, .int .i64 cbt, .slice A0 n0 c0, .int .i64 cc, u1, .slice A2 p c2, .slice A3 p c3] 30) := ⟨_, rfl⟩
  have B0 : Hid (Below w.heap.size w X0) := by unfold Hid; rw [hX0]; exact (Below.refl _ _).alloc (Nat.le_refl _) _
  have K0 : Hid (Blk X0 w.heap.size #[.int .i64 ci, .int .i64 (p : Int), .int .i64 ct, .int .i64 cv, .int .i64 cr, .int .i64 cd, .int .i64 cb, .int .i64 cbt, .slice A0 n0 c0, .int .i64 cc, u1, .slice A2 p c2, .slice A3 p c3] 30) := by unfold Hid; rw [hX0]; exact Blk.new w _ _
  have cL := fun wx => lastI ci (p : Int) ct cv cr cd cb cbt cc A0 n0 c0 u1 (.slice A2 p c2) (.slice A3 p c3) wx hb0 hb1 hl1
  have w1 : IntKind.i64.wrap (cb + (n0 : Int) + 1) = cb + (n0 : Int) + 1 := by rw [IntKind.wrap_i64]; omega
  go_enter Try.func81, Try.ntmps81
  go_wp2_with fail
  rw [← hX0]
  clear hX0
  go_loopw [3, 4, 22] (fun v3 v4 v22 wr => ∃ k : Nat, k ≤ p ∧ v22 = .int .i64 (k : Int) ∧ Below X0.heap.size X0 wr ∧ Hid (∀ j, j < k → 0 ≤ ms.getD j 0 ∧ ms.getD j 0 < ns.getD j 0 ∧ ns.getD j 0 ≤ cb + (n0 : Int) + 1)) (fun _ _ v _ => p - (intOf v).toNat)
  case atStart => exact ⟨0, by omega, rfl, Below.refl _ _, fun j hj => by omega⟩
  case round =>
    obtain ⟨k, hk, rfl, hbr, HR⟩ := hrel
    have BR := Hid.mk hbr
    have KB := Hid.mk (K0.out.on hbr K0.out.lt)
    have BW : Hid (Below w.heap.size w wr) := B0.out.trans (hbr.mono B0.out.size)
    clear hbr
    by_cases hlt : k < p
    · have q4 : (k : Int) < (p : Int) := by omega
      obtain ⟨g3, o3, rfl, hg3, d0⟩ := H3.out k hlt
      obtain ⟨g2, o2, rfl, hg2, d1⟩ := H2.out k hlt
      have hgw : g2 < wr.heap.size := Nat.lt_of_lt_of_le hg2 (Nat.le_trans HBB.out BW.out.size)
      rw [← BW.out.cell (p := ⟨_, _, none⟩) (Nat.lt_of_lt_of_le hg3 HBB.out)] at d0
      rw [← BW.out.cell (p := ⟨_, _, none⟩) (Nat.lt_of_lt_of_le hg2 HBB.out)] at d1
      have HNk := Hid.mk (HNo.out k hlt)
      have HYk : Hid (∀ my ny, ms.getD k 0 = my → ns.getD k 0 = ny → 0 ≤ my ∧ my < ny ∧ ny ≤ cb + (n0 : Int) + 1 → ∀ j, j < k + 1 → 0 ≤ ms.getD j 0 ∧ ms.getD j 0 < ns.getD j 0 ∧ ns.getD j 0 ≤ cb + (n0 : Int) + 1) := fun my ny h1 h2 h j hj => by
        by_cases e : j = k
        · subst e; rw [h1, h2]; exact h
        · exact HR.out j (by omega)
      have HRF : Hid (∃ my ny, ms.getD k 0 = my ∧ ns.getD k 0 = ny) := ⟨_, _, rfl, rfl⟩
      generalize hmy : ms.getD k 0 = my at *
      generalize hny : ns.getD k 0 = ny at *
      have HQ : Hid (ms.getD k 0 = my ∧ ns.getD k 0 = ny) := ⟨hmy, hny⟩
      clear hmy hny HRF HR
      by_cases h1 : my < 0
      · have HF : Hid (reachB ⟨ci, (p : Int), ct, cv, cr, cd, cb, cbt, lg, cc, ys, ns, ms⟩ = false) := HNk.out (fun h => by omega)
        have z1 : decide (my < 0) = true := decide_eq_true h1
        clear HYk HNk
        go_wp2_with fail
        have V0 : Hid (Below wr.heap.size wr wr.drew) := (Below.refl _ _).drew
        have KY0 := Hid.mk (KB.out.on V0.out KB.out.lt)
        have SS0 := Hid.mk (show (fun w' => w'.cell? ⟨w.heap.size, 0, none⟩ = some (.int .i64 ci) ∧ w'.cell? ⟨w.heap.size, 1, none⟩ = some (.int .i64 (p : Int)) ∧ w'.cell? ⟨w.heap.size, 2, none⟩ = some (.int .i64 ct) ∧ w'.cell? ⟨w.heap.size, 3, none⟩ = some (.int .i64 cv) ∧ w'.cell? ⟨w.heap.size, 4, none⟩ = some (.int .i64 cr) ∧ w'.cell? ⟨w.heap.size, 5, none⟩ = some (.int .i64 cd) ∧ w'.cell? ⟨w.heap.size, 6, none⟩ = some (.int .i64 cb) ∧ w'.cell? ⟨w.heap.size, 7, none⟩ = some (.int .i64 cbt) ∧ w'.cell? ⟨w.heap.size, 8, none⟩ = some (.slice A0 n0 c0) ∧ w'.cell? ⟨w.heap.size, 9, none⟩ = some (.int .i64 cc) ∧ w'.cell? ⟨w.heap.size, 10, none⟩ = some (u1) ∧ w'.cell? ⟨w.heap.size, 11, none⟩ = some (.slice (some ⟨g2, o2, none⟩) p c2) ∧ w'.cell? ⟨w.heap.size, 12, none⟩ = some (.slice (some ⟨g3, o3, none⟩) p c3) ∧ w'.cell? ⟨g2, o2 + k, none⟩ = some (.int .i64 ny)) wr.drew from ⟨KY0.out.cell 0 _ rfl, KY0.out.cell 1 _ rfl, KY0.out.cell 2 _ rfl, KY0.out.cell 3 _ rfl, KY0.out.cell 4 _ rfl, KY0.out.cell 5 _ rfl, KY0.out.cell 6 _ rfl, KY0.out.cell 7 _ rfl, KY0.out.cell 8 _ rfl, KY0.out.cell 9 _ rfl, KY0.out.cell 10 _ rfl, KY0.out.cell 11 _ rfl, KY0.out.cell 12 _ rfl, (by rw [V0.out.cell (p := ⟨g2, _, none⟩) hgw]; exact d1)⟩)
        refine wp_region_until (fun w' => w'.cell? ⟨w.heap.size, 0, none⟩ = some (.int .i64 ci) ∧ w'.cell? ⟨w.heap.size, 1, none⟩ = some (.int .i64 (p : Int)) ∧ w'.cell? ⟨w.heap.size, 2, none⟩ = some (.int .i64 ct) ∧ w'.cell? ⟨w.heap.size, 3, none⟩ = some (.int .i64 cv) ∧ w'.cell? ⟨w.heap.size, 4, none⟩ = some (.int .i64 cr) ∧ w'.cell? ⟨w.heap.size, 5, none⟩ = some (.int .i64 cd) ∧ w'.cell? ⟨w.heap.size, 6, none⟩ = some (.int .i64 cb) ∧ w'.cell? ⟨w.heap.size, 7, none⟩ = some (.int .i64 cbt) ∧ w'.cell? ⟨w.heap.size, 8, none⟩ = some (.slice A0 n0 c0) ∧ w'.cell? ⟨w.heap.size, 9, none⟩ = some (.int .i64 cc) ∧ w'.cell? ⟨w.heap.size, 10, none⟩ = some (u1) ∧ w'.cell? ⟨w.heap.size, 11, none⟩ = some (.slice (some ⟨g2, o2, none⟩) p c2) ∧ w'.cell? ⟨w.heap.size, 12, none⟩ = some (.slice (some ⟨g3, o3, none⟩) p c3) ∧ w'.cell? ⟨g2, o2 + k, none⟩ = some (.int .i64 ny)) (fun _ => false) 22 (by rfl) (by kernel_rfl) ?_
        generalize wr.drew = Y0 at *
        refine pF 0 ?_
        refine pF 1 ?_
        refine pF 2 ?_
        refine sF 3 ?_
        refine sF 4 ?_
        refine sF 5 ?_
        refine sF 6 ?_
        refine sF 7 ?_
        refine sF 8 ?_
        refine sF 9 ?_
        refine pF 10 ?_
        refine pF 11 ?_
        refine sF 12 ?_
        refine sF 13 ?_
        refine sF 14 ?_
        refine sF 15 ?_
        refine sF 16 ?_
        refine sF 17 ?_
        refine sF 18 ?_
        refine sF 19 ?_
        refine sF 20 ?_
        refine pF 21 ?_
        refine until_done (by kernel_rfl) ?_ _
        go_wp2_with fail
        go_ret
        exact ⟨by rw [HF.out]; rfl, BW.out.trans (V0.out.mono BW.out.size)⟩
      have z1 : decide (my < 0) = false := decide_eq_false h1
      by_cases h2 : ny ≤ my
      · have HF : Hid (reachB ⟨ci, (p : Int), ct, cv, cr, cd, cb, cbt, lg, cc, ys, ns, ms⟩ = false) := HNk.out (fun h => by omega)
        have z2 : decide (ny ≤ my) = true := decide_eq_true h2
        clear HYk HNk
        go_wp2_with fail
        have V0 : Hid (Below wr.heap.size wr wr.drew) := (Below.refl _ _).drew
        have KY0 := Hid.mk (KB.out.on V0.out KB.out.lt)
        have SS0 := Hid.mk (show (fun w' => w'.cell? ⟨w.heap.size, 0, none⟩ = some (.int .i64 ci) ∧ w'.cell? ⟨w.heap.size, 1, none⟩ = some (.int .i64 (p : Int)) ∧ w'.cell? ⟨w.heap.size, 2, none⟩ = some (.int .i64 ct) ∧ w'.cell? ⟨w.heap.size, 3, none⟩ = some (.int .i64 cv) ∧ w'.cell? ⟨w.heap.size, 4, none⟩ = some (.int .i64 cr) ∧ w'.cell? ⟨w.heap.size, 5, none⟩ = some (.int .i64 cd) ∧ w'.cell? ⟨w.heap.size, 6, none⟩ = some (.int .i64 cb) ∧ w'.cell? ⟨w.heap.size, 7, none⟩ = some (.int .i64 cbt) ∧ w'.cell? ⟨w.heap.size, 8, none⟩ = some (.slice A0 n0 c0) ∧ w'.cell? ⟨w.heap.size, 9, none⟩ = some (.int .i64 cc) ∧ w'.cell? ⟨w.heap.size, 10, none⟩ = some (u1) ∧ w'.cell? ⟨w.heap.size, 11, none⟩ = some (.slice (some ⟨g2, o2, none⟩) p c2) ∧ w'.cell? ⟨w.heap.size, 12, none⟩ = some (.slice (some ⟨g3, o3, none⟩) p c3) ∧ w'.cell? ⟨g2, o2 + k, none⟩ = some (.int .i64 ny)) wr.drew from ⟨KY0.out.cell 0 _ rfl, KY0.out.cell 1 _ rfl, KY0.out.cell 2 _ rfl, KY0.out.cell 3 _ rfl, KY0.out.cell 4 _ rfl, KY0.out.cell 5 _ rfl, KY0.out.cell 6 _ rfl, KY0.out.cell 7 _ rfl, KY0.out.cell 8 _ rfl, KY0.out.cell 9 _ rfl, KY0.out.cell 10 _ rfl, KY0.out.cell 11 _ rfl, KY0.out.cell 12 _ rfl, (by rw [V0.out.cell (p := ⟨g2, _, none⟩) hgw]; exact d1)⟩)
        refine wp_region_until (fun w' => w'.cell? ⟨w.heap.size, 0, none⟩ = some (.int .i64 ci) ∧ w'.cell? ⟨w.heap.size, 1, none⟩ = some (.int .i64 (p : Int)) ∧ w'.cell? ⟨w.heap.size, 2, none⟩ = some (.int .i64 ct) ∧ w'.cell? ⟨w.heap.size, 3, none⟩ = some (.int .i64 cv) ∧ w'.cell? ⟨w.heap.size, 4, none⟩ = some (.int .i64 cr) ∧ w'.cell? ⟨w.heap.size, 5, none⟩ = some (.int .i64 cd) ∧ w'.cell? ⟨w.heap.size, 6, none⟩ = some (.int .i64 cb) ∧ w'.cell? ⟨w.heap.size, 7, none⟩ = some (.int .i64 cbt) ∧ w'.cell? ⟨w.heap.size, 8, none⟩ = some (.slice A0 n0 c0) ∧ w'.cell? ⟨w.heap.size, 9, none⟩ = some (.int .i64 cc) ∧ w'.cell? ⟨w.heap.size, 10, none⟩ = some (u1) ∧ w'.cell? ⟨w.heap.size, 11, none⟩ = some (.slice (some ⟨g2, o2, none⟩) p c2) ∧ w'.cell? ⟨w.heap.size, 12, none⟩ = some (.slice (some ⟨g3, o3, none⟩) p c3) ∧ w'.cell? ⟨g2, o2 + k, none⟩ = some (.int .i64 ny)) (fun _ => false) 22 (by rfl) (by kernel_rfl) ?_
        generalize wr.drew = Y0 at *
        refine pF 0 ?_
        refine pF 1 ?_
        refine pF 2 ?_
        refine pF 3 ?_
        refine tF 4 SS0.out ?_
        refine pF 5 ?_
        refine pF 6 ?_
        refine tF 7 SS0.out ?_
        refine pF 8 ?_
        refine pF 9 ?_
        refine pF 10 ?_
        refine pF 11 ?_
        refine sF 12 ?_
        refine sF 13 ?_
        refine sF 14 ?_
        refine sF 15 ?_
        refine sF 16 ?_
        refine sF 17 ?_
        refine sF 18 ?_
        refine sF 19 ?_
        refine sF 20 ?_
        refine pF 21 ?_
        refine until_done (by kernel_rfl) ?_ _
        go_wp2_with fail
        go_ret
        exact ⟨by rw [HF.out]; rfl, BW.out.trans (V0.out.mono BW.out.size)⟩
      have z2 : decide (ny ≤ my) = false := decide_eq_false h2
      by_cases h3 : cb + (n0 : Int) + 1 < ny
      · have HF : Hid (reachB ⟨ci, (p : Int), ct, cv, cr, cd, cb, cbt, lg, cc, ys, ns, ms⟩ = false) := HNk.out (fun h => by omega)
        have z3 : decide (cb + (n0 : Int) + 1 < ny) = true := decide_eq_true h3
        clear HYk HNk
        go_wp2_with fail
        have V0 : Hid (Below wr.heap.size wr wr.drew) := (Below.refl _ _).drew
        have KY0 := Hid.mk (KB.out.on V0.out KB.out.lt)
        have SS0 := Hid.mk (show (fun w' => w'.cell? ⟨w.heap.size, 0, none⟩ = some (.int .i64 ci) ∧ w'.cell? ⟨w.heap.size, 1, none⟩ = some (.int .i64 (p : Int)) ∧ w'.cell? ⟨w.heap.size, 2, none⟩ = some (.int .i64 ct) ∧ w'.cell? ⟨w.heap.size, 3, none⟩ = some (.int .i64 cv) ∧ w'.cell? ⟨w.heap.size, 4, none⟩ = some (.int .i64 cr) ∧ w'.cell? ⟨w.heap.size, 5, none⟩ = some (.int .i64 cd) ∧ w'.cell? ⟨w.heap.size, 6, none⟩ = some (.int .i64 cb) ∧ w'.cell? ⟨w.heap.size, 7, none⟩ = some (.int .i64 cbt) ∧ w'.cell? ⟨w.heap.size, 8, none⟩ = some (.slice A0 n0 c0) ∧ w'.cell? ⟨w.heap.size, 9, none⟩ = some (.int .i64 cc) ∧ w'.cell? ⟨w.heap.size, 10, none⟩ = some (u1) ∧ w'.cell? ⟨w.heap.size, 11, none⟩ = some (.slice (some ⟨g2, o2, none⟩) p c2) ∧ w'.cell? ⟨w.heap.size, 12, none⟩ = some (.slice (some ⟨g3, o3, none⟩) p c3) ∧ w'.cell? ⟨g2, o2 + k, none⟩ = some (.int .i64 ny)) wr.drew from ⟨KY0.out.cell 0 _ rfl, KY0.out.cell 1 _ rfl, KY0.out.cell 2 _ rfl, KY0.out.cell 3 _ rfl, KY0.out.cell 4 _ rfl, KY0.out.cell 5 _ rfl, KY0.out.cell 6 _ rfl, KY0.out.cell 7 _ rfl, KY0.out.cell 8 _ rfl, KY0.out.cell 9 _ rfl, KY0.out.cell 10 _ rfl, KY0.out.cell 11 _ rfl, KY0.out.cell 12 _ rfl, (by rw [V0.out.cell (p := ⟨g2, _, none⟩) hgw]; exact d1)⟩)
        refine wp_region_until (fun w' => w'.cell? ⟨w.heap.size, 0, none⟩ = some (.int .i64 ci) ∧ w'.cell? ⟨w.heap.size, 1, none⟩ = some (.int .i64 (p : Int)) ∧ w'.cell? ⟨w.heap.size, 2, none⟩ = some (.int .i64 ct) ∧ w'.cell? ⟨w.heap.size, 3, none⟩ = some (.int .i64 cv) ∧ w'.cell? ⟨w.heap.size, 4, none⟩ = some (.int .i64 cr) ∧ w'.cell? ⟨w.heap.size, 5, none⟩ = some (.int .i64 cd) ∧ w'.cell? ⟨w.heap.size, 6, none⟩ = some (.int .i64 cb) ∧ w'.cell? ⟨w.heap.size, 7, none⟩ = some (.int .i64 cbt) ∧ w'.cell? ⟨w.heap.size, 8, none⟩ = some (.slice A0 n0 c0) ∧ w'.cell? ⟨w.heap.size, 9, none⟩ = some (.int .i64 cc) ∧ w'.cell? ⟨w.heap.size, 10, none⟩ = some (u1) ∧ w'.cell? ⟨w.heap.size, 11, none⟩ = some (.slice (some ⟨g2, o2, none⟩) p c2) ∧ w'.cell? ⟨w.heap.size, 12, none⟩ = some (.slice (some ⟨g3, o3, none⟩) p c3) ∧ w'.cell? ⟨g2, o2 + k, none⟩ = some (.int .i64 ny)) (fun _ => false) 22 (by rfl) (by kernel_rfl) ?_
        generalize wr.drew = Y0 at *
        refine pF 0 ?_
        refine pF 1 ?_
        refine pF 2 ?_
        refine pF 3 ?_
        refine tF 4 SS0.out ?_
        refine pF 5 ?_
        refine pF 6 ?_
        refine tF 7 SS0.out ?_
        refine pF 8 ?_
        refine pF 9 ?_
        refine pF 10 ?_
        refine pF 11 ?_
        refine pF 12 ?_
        refine tF 13 SS0.out ?_
        refine pF 14 ?_
        refine pF 15 ?_
        refine tF 16 SS0.out ?_
        refine tF 17 SS0.out ?_
        refine until_one 18 (by rfl) (by kernel_rfl) (fun K hK => ?_)
        go_simp
        refine (cL _).mono ?_
        rintro e Y1 ⟨rfl, hb⟩
        have V1 := Hid.mk (V0.out.trans (hb.mono V0.out.size))
        have KY1 := Hid.mk (KY0.out.on hb KY0.out.lt)
        clear hb
        refine hK.out _ _ (fun _ h => ⟨KY1.out.cell 0 _ rfl, KY1.out.cell 1 _ rfl, KY1.out.cell 2 _ rfl, KY1.out.cell 3 _ rfl, KY1.out.cell 4 _ rfl, KY1.out.cell 5 _ rfl, KY1.out.cell 6 _ rfl, KY1.out.cell 7 _ rfl, KY1.out.cell 8 _ rfl, KY1.out.cell 9 _ rfl, KY1.out.cell 10 _ rfl, KY1.out.cell 11 _ rfl, KY1.out.cell 12 _ rfl, (by rw [V1.out.cell (p := ⟨g2, _, none⟩) hgw]; exact d1)⟩) ?_
        clear hK K
        try simp only [Act.put, List.setIfInBounds_toArray, List.set_cons_zero, List.set_cons_succ]
        refine pF 19 ?_
        refine pF 20 ?_
        refine pF 21 ?_
        refine until_done (by kernel_rfl) ?_ _
        go_wp2_with fail
        go_ret
        exact ⟨by rw [HF.out]; rfl, BW.out.trans (V1.out.mono BW.out.size)⟩
      have z3 : decide (cb + (n0 : Int) + 1 < ny) = false := decide_eq_false h3
      have HG := Hid.mk (HYk.out my ny rfl rfl ⟨by omega, by omega, by omega⟩)
      clear HYk HNk h1 h2 h3
      go_wp2_with fail
      have V0 : Hid (Below wr.heap.size wr wr.drew) := (Below.refl _ _).drew
      have KY0 := Hid.mk (KB.out.on V0.out KB.out.lt)
      have SS0 := Hid.mk (show (fun w' => w'.cell? ⟨w.heap.size, 0, none⟩ = some (.int .i64 ci) ∧ w'.cell? ⟨w.heap.size, 1, none⟩ = some (.int .i64 (p : Int)) ∧ w'.cell? ⟨w.heap.size, 2, none⟩ = some (.int .i64 ct) ∧ w'.cell? ⟨w.heap.size, 3, none⟩ = some (.int .i64 cv) ∧ w'.cell? ⟨w.heap.size, 4, none⟩ = some (.int .i64 cr) ∧ w'.cell? ⟨w.heap.size, 5, none⟩ = some (.int .i64 cd) ∧ w'.cell? ⟨w.heap.size, 6, none⟩ = some (.int .i64 cb) ∧ w'.cell? ⟨w.heap.size, 7, none⟩ = some (.int .i64 cbt) ∧ w'.cell? ⟨w.heap.size, 8, none⟩ = some (.slice A0 n0 c0) ∧ w'.cell? ⟨w.heap.size, 9, none⟩ = some (.int .i64 cc) ∧ w'.cell? ⟨w.heap.size, 10, none⟩ = some (u1) ∧ w'.cell? ⟨w.heap.size, 11, none⟩ = some (.slice (some ⟨g2, o2, none⟩) p c2) ∧ w'.cell? ⟨w.heap.size, 12, none⟩ = some (.slice (some ⟨g3, o3, none⟩) p c3) ∧ w'.cell? ⟨g2, o2 + k, none⟩ = some (.int .i64 ny)) wr.drew from ⟨KY0.out.cell 0 _ rfl, KY0.out.cell 1 _ rfl, KY0.out.cell 2 _ rfl, KY0.out.cell 3 _ rfl, KY0.out.cell 4 _ rfl, KY0.out.cell 5 _ rfl, KY0.out.cell 6 _ rfl, KY0.out.cell 7 _ rfl, KY0.out.cell 8 _ rfl, KY0.out.cell 9 _ rfl, KY0.out.cell 10 _ rfl, KY0.out.cell 11 _ rfl, KY0.out.cell 12 _ rfl, (by rw [V0.out.cell (p := ⟨g2, _, none⟩) hgw]; exact d1)⟩)
      refine wp_region_until (fun w' => w'.cell? ⟨w.heap.size, 0, none⟩ = some (.int .i64 ci) ∧ w'.cell? ⟨w.heap.size, 1, none⟩ = some (.int .i64 (p : Int)) ∧ w'.cell? ⟨w.heap.size, 2, none⟩ = some (.int .i64 ct) ∧ w'.cell? ⟨w.heap.size, 3, none⟩ = some (.int .i64 cv) ∧ w'.cell? ⟨w.heap.size, 4, none⟩ = some (.int .i64 cr) ∧ w'.cell? ⟨w.heap.size, 5, none⟩ = some (.int .i64 cd) ∧ w'.cell? ⟨w.heap.size, 6, none⟩ = some (.int .i64 cb) ∧ w'.cell? ⟨w.heap.size, 7, none⟩ = some (.int .i64 cbt) ∧ w'.cell? ⟨w.heap.size, 8, none⟩ = some (.slice A0 n0 c0) ∧ w'.cell? ⟨w.heap.size, 9, none⟩ = some (.int .i64 cc) ∧ w'.cell? ⟨w.heap.size, 10, none⟩ = some (u1) ∧ w'.cell? ⟨w.heap.size, 11, none⟩ = some (.slice (some ⟨g2, o2, none⟩) p c2) ∧ w'.cell? ⟨w.heap.size, 12, none⟩ = some (.slice (some ⟨g3, o3, none⟩) p c3) ∧ w'.cell? ⟨g2, o2 + k, none⟩ = some (.int .i64 ny)) (fun _ => false) 22 (by rfl) (by kernel_rfl) ?_
      generalize wr.drew = Y0 at *
      refine pF 0 ?_
      refine pF 1 ?_
      refine pF 2 ?_
      refine pF 3 ?_
      refine tF 4 SS0.out ?_
      refine pF 5 ?_
      refine pF 6 ?_
      refine tF 7 SS0.out ?_
      refine pF 8 ?_
      refine pF 9 ?_
      refine pF 10 ?_
      refine pF 11 ?_
      refine pF 12 ?_
      refine tF 13 SS0.out ?_
      refine pF 14 ?_
      refine pF 15 ?_
      refine tF 16 SS0.out ?_
      refine tF 17 SS0.out ?_
      refine until_one 18 (by rfl) (by kernel_rfl) (fun K hK => ?_)
      go_simp
      refine (cL _).mono ?_
      rintro e Y1 ⟨rfl, hb⟩
      have V1 := Hid.mk (V0.out.trans (hb.mono V0.out.size))
      have KY1 := Hid.mk (KY0.out.on hb KY0.out.lt)
      clear hb
      refine hK.out _ _ (fun _ h => ⟨KY1.out.cell 0 _ rfl, KY1.out.cell 1 _ rfl, KY1.out.cell 2 _ rfl, KY1.out.cell 3 _ rfl, KY1.out.cell 4 _ rfl, KY1.out.cell 5 _ rfl, KY1.out.cell 6 _ rfl, KY1.out.cell 7 _ rfl, KY1.out.cell 8 _ rfl, KY1.out.cell 9 _ rfl, KY1.out.cell 10 _ rfl, KY1.out.cell 11 _ rfl, KY1.out.cell 12 _ rfl, (by rw [V1.out.cell (p := ⟨g2, _, none⟩) hgw]; exact d1)⟩) ?_
      clear hK K
      try simp only [Act.put, List.setIfInBounds_toArray, List.set_cons_zero, List.set_cons_succ]
      refine pF 19 ?_
      refine pF 20 ?_
      refine pF 21 ?_
      refine until_done (by kernel_rfl) ?_ _
      go_wp2_with fail
      go_roundw
      case rel => exact ⟨k + 1, by omega, by go_num, BR.out.trans (V1.out.mono BR.out.size), HG.out⟩
      case measure => simp [intOf]; omega
    · obtain rfl : k = p := by omega
      have HE := Hid.mk (HYF.out HR.out)
      obtain ⟨g3, o3, rfl, hg3, d0⟩ := H3.out ci.toNat hcip
      have hgw : g3 < wr.heap.size := Nat.lt_of_lt_of_le hg3 (Nat.le_trans HBB.out BW.out.size)
      rw [← BW.out.cell (p := ⟨_, _, none⟩) (Nat.lt_of_lt_of_le hg3 HBB.out)] at d0
      generalize ms.getD ci.toNat 0 = my at *
      generalize hct : ci.toNat = t at *
      obtain rfl : ci = (t : Int) := HCI.out.symm
      clear HCI hct
      go_wp2_with fail
      have V0 : Hid (Below wr.heap.size wr wr.drew) := (Below.refl _ _).drew
      have KY0 := Hid.mk (KB.out.on V0.out KB.out.lt)
      have SS0 := Hid.mk (show (fun w' => w'.cell? ⟨w.heap.size, 0, none⟩ = some (.int .i64 (t : Int)) ∧ w'.cell? ⟨w.heap.size, 1, none⟩ = some (.int .i64 (k : Int)) ∧ w'.cell? ⟨w.heap.size, 2, none⟩ = some (.int .i64 ct) ∧ w'.cell? ⟨w.heap.size, 3, none⟩ = some (.int .i64 cv) ∧ w'.cell? ⟨w.heap.size, 4, none⟩ = some (.int .i64 cr) ∧ w'.cell? ⟨w.heap.size, 5, none⟩ = some (.int .i64 cd) ∧ w'.cell? ⟨w.heap.size, 6, none⟩ = some (.int .i64 cb) ∧ w'.cell? ⟨w.heap.size, 7, none⟩ = some (.int .i64 cbt) ∧ w'.cell? ⟨w.heap.size, 8, none⟩ = some (.slice A0 n0 c0) ∧ w'.cell? ⟨w.heap.size, 9, none⟩ = some (.int .i64 cc) ∧ w'.cell? ⟨w.heap.size, 10, none⟩ = some (u1) ∧ w'.cell? ⟨w.heap.size, 11, none⟩ = some (.slice A2 k c2) ∧ w'.cell? ⟨w.heap.size, 12, none⟩ = some (.slice (some ⟨g3, o3, none⟩) k c3) ∧ w'.cell? ⟨g3, o3 + t, none⟩ = some (.int .i64 my)) wr.drew from ⟨KY0.out.cell 0 _ rfl, KY0.out.cell 1 _ rfl, KY0.out.cell 2 _ rfl, KY0.out.cell 3 _ rfl, KY0.out.cell 4 _ rfl, KY0.out.cell 5 _ rfl, KY0.out.cell 6 _ rfl, KY0.out.cell 7 _ rfl, KY0.out.cell 8 _ rfl, KY0.out.cell 9 _ rfl, KY0.out.cell 10 _ rfl, KY0.out.cell 11 _ rfl, KY0.out.cell 12 _ rfl, (by rw [V0.out.cell (p := ⟨g3, _, none⟩) hgw]; exact d0)⟩)
      refine wp_region_until (fun w' => w'.cell? ⟨w.heap.size, 0, none⟩ = some (.int .i64 (t : Int)) ∧ w'.cell? ⟨w.heap.size, 1, none⟩ = some (.int .i64 (k : Int)) ∧ w'.cell? ⟨w.heap.size, 2, none⟩ = some (.int .i64 ct) ∧ w'.cell? ⟨w.heap.size, 3, none⟩ = some (.int .i64 cv) ∧ w'.cell? ⟨w.heap.size, 4, none⟩ = some (.int .i64 cr) ∧ w'.cell? ⟨w.heap.size, 5, none⟩ = some (.int .i64 cd) ∧ w'.cell? ⟨w.heap.size, 6, none⟩ = some (.int .i64 cb) ∧ w'.cell? ⟨w.heap.size, 7, none⟩ = some (.int .i64 cbt) ∧ w'.cell? ⟨w.heap.size, 8, none⟩ = some (.slice A0 n0 c0) ∧ w'.cell? ⟨w.heap.size, 9, none⟩ = some (.int .i64 cc) ∧ w'.cell? ⟨w.heap.size, 10, none⟩ = some (u1) ∧ w'.cell? ⟨w.heap.size, 11, none⟩ = some (.slice A2 k c2) ∧ w'.cell? ⟨w.heap.size, 12, none⟩ = some (.slice (some ⟨g3, o3, none⟩) k c3) ∧ w'.cell? ⟨g3, o3 + t, none⟩ = some (.int .i64 my)) (fun _ => false) 10 (by rfl) (by kernel_rfl) ?_
      generalize wr.drew = Y0 at *
      refine pF 0 ?_
      refine tF 1 SS0.out ?_
      refine pF 2 ?_
      refine tF 3 SS0.out ?_
      refine pF 4 ?_
      refine tF 5 SS0.out ?_
      refine tF 6 SS0.out ?_
      refine until_one 7 (by rfl) (by kernel_rfl) (fun K hK => ?_)
      go_simp
      refine (cL _).mono ?_
      rintro e Y1 ⟨rfl, hb⟩
      have V1 := Hid.mk (V0.out.trans (hb.mono V0.out.size))
      have KY1 := Hid.mk (KY0.out.on hb KY0.out.lt)
      clear hb
      refine hK.out _ _ (fun _ h => ⟨KY1.out.cell 0 _ rfl, KY1.out.cell 1 _ rfl, KY1.out.cell 2 _ rfl, KY1.out.cell 3 _ rfl, KY1.out.cell 4 _ rfl, KY1.out.cell 5 _ rfl, KY1.out.cell 6 _ rfl, KY1.out.cell 7 _ rfl, KY1.out.cell 8 _ rfl, KY1.out.cell 9 _ rfl, KY1.out.cell 10 _ rfl, KY1.out.cell 11 _ rfl, KY1.out.cell 12 _ rfl, (by rw [V1.out.cell (p := ⟨g3, _, none⟩) hgw]; exact d0)⟩) ?_
      clear hK K
      try simp only [Act.put, List.setIfInBounds_toArray, List.set_cons_zero, List.set_cons_succ]
      refine pF 8 ?_
      refine pF 9 ?_
      refine until_done (by kernel_rfl) ?_ _
      go_wp2_with fail
      go_ret
      exact ⟨by rw [HE.out]; rfl, BW.out.trans (V1.out.mono BW.out.size)⟩
end Go.Proofs.Ytjejcpieajeflaa
