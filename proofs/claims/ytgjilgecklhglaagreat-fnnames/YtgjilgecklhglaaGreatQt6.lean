/- DkOkD DkCopy -/
import Derived.Test.YtgjilgecklhglaaGreatRows
import Derived.Test.YtgjilgecklhglaaGreatQt5
import Derived.Lib.QuietBelow
import Derived.Test.YtgjilgecklhglaaGreatQt1
import Derived.Test.YtgjilgecklhglaaGreatQt0
import Derived.Test.YtgjilgecklhglaaGreatQt3
namespace Go.Proofs.YtgjilgecklhglaaGreat
open Go.ChangeShapes Go.WideShapes Go.ChangeAt Go.RowKit Go.PlainAid
open Go.Sort (grow)
set_option linter.unusedVariables false
set_option maxRecDepth 20000 in
set_option maxHeartbeats 4000000 in
theorem okBody (d : Dsk) (v : Value) (w : World) (B : Nat) (hv : DiskV w B v d) (hB : B ≤ w.heap.size) (hf : Fits d) (hR : Right d) :
  Calls Tryz.prog 19 #[v] w fun e w' => e = .returned (.bool (diskOk d)) ∧ Below w.heap.size w w' := by
 have HV : Hid (DiskV w B v d) := hv
 have HR : Hid (Right d) := hR
 have HF : Hid (Fits d) := hf
 have HB : Hid (B ≤ w.heap.size) := hB
 obtain ⟨v1, v2, v3, rfl, h1, h2, h3⟩ := hv
 obtain ⟨A1, c1, rfl, g1⟩ := nod_look h1
 obtain ⟨A2, c2, rfl, g2⟩ := lnk_look h2
 obtain ⟨A3, c3, rfl, g3⟩ := mov_look h3
 have HN : Hid (∀ j, j < d.nods.length → ∃ g off, A1 = some ⟨g, off, none⟩ ∧ g < B ∧ _) := g1
 have HL : Hid (∀ j, j < d.dir.length → ∃ g off, A2 = some ⟨g, off, none⟩ ∧ g < B ∧ _) := g2
 have HM : Hid (∀ j, j < d.movs.length → ∃ g off, A3 = some ⟨g, off, none⟩ ∧ g < B ∧ _) := g3
 have cR := fun wx => inB d.room 0 1048576 wx
 have cX := fun wx => inB d.next 1 1000000 wx
 have bs : bytesOf d.nods ≤ 4194304 := by have := HR.out.b; have := HR.out.r1; omega
 have cB := fun wx hx hb => bytesV d (.agg #[.int .i64 d.room, .int .i64 d.next, .slice A1 d.nods.length c1, .slice A2 d.dir.length c2, .slice A3 d.movs.length c3]) wx B hx (by have := HR.out.n; omega) bs hb
 have q1 : (d.nods.length : Int) ≤ 10 := by have := HR.out.n; omega
 have q2 : (d.dir.length : Int) ≤ 10 := by have := HR.out.l; omega
 have q3 : (d.movs.length : Int) ≤ 20 := by have := HR.out.m; omega
 have q0 : (bytesOf d.nods : Int) ≤ d.room := HR.out.b
 have q9 : d.room ≤ 1048576 := HR.out.r1
 have n1' : decide ((10 : Int) < (d.nods.length : Int)) = false := decide_eq_false (by omega)
 have n2' : decide ((20 : Int) < (d.movs.length : Int)) = false := decide_eq_false (by omega)
 have n3' : decide ((10 : Int) < (d.dir.length : Int)) = false := decide_eq_false (by omega)
 have n4' : decide (d.room < (bytesOf d.nods : Int)) = false := decide_eq_false (by omega)
 have p1 : 1 ≤ d.next := HR.out.x0
 have p2 : d.next ≤ 1000000 := HR.out.x1
 rw [decide_eq_true HR.out.r0, decide_eq_true HR.out.r1] at cR
 rw [decide_eq_true HR.out.x0, decide_eq_true HR.out.x1] at cX
 clear h1 h2 h3 hB hR g1 g2 g3 hf bs
 go_enter Tryz.func19, Tryz.ntmps19
 go_wp2_with (first
  | (go_at_call_of 29 (Value.int .i64 d.room); refine (cR _).mono ?_; rintro e w1 ⟨rfl, rfl⟩)
  | (go_at_call_of 29 (Value.int .i64 d.next); refine (cX _).mono ?_; rintro e w1 ⟨rfl, rfl⟩))
 have hb0 : Below w.heap.size w (w.alloc (.cells #[.int .i64 d.room, .int .i64 d.next, .slice A1 d.nods.length c1, .slice A2 d.dir.length c2, .slice A3 d.movs.length c3] 28)) := (Below.refl _ _).alloc (Nat.le_refl _) _
 have kA := Blk.new w #[.int .i64 d.room, .int .i64 d.next, .slice A1 d.nods.length c1, .slice A2 d.dir.length c2, .slice A3 d.movs.length c3] 28
 generalize w.alloc (.cells #[.int .i64 d.room, .int .i64 d.next, .slice A1 d.nods.length c1, .slice A2 d.dir.length c2, .slice A3 d.movs.length c3] 28) = W at *
 have B0 : Hid (Below w.heap.size w W) := hb0
 have K0 : Hid (Blk W w.heap.size #[.int .i64 d.room, .int .i64 d.next, .slice A1 d.nods.length c1, .slice A2 d.dir.length c2, .slice A3 d.movs.length c3] 28) := kA
 have S0 : Hid (W.drew.cell? ⟨w.heap.size, 0, none⟩ = some (.int .i64 d.room) ∧ W.drew.cell? ⟨w.heap.size, 1, none⟩ = some (.int .i64 d.next) ∧ W.drew.cell? ⟨w.heap.size, 2, none⟩ = some (.slice A1 d.nods.length c1) ∧ W.drew.cell? ⟨w.heap.size, 3, none⟩ = some (.slice A2 d.dir.length c2) ∧ W.drew.cell? ⟨w.heap.size, 4, none⟩ = some (.slice A3 d.movs.length c3)) := ⟨kA.cell 0 _ rfl, kA.cell 1 _ rfl, kA.cell 2 _ rfl, kA.cell 3 _ rfl, kA.cell 4 _ rfl⟩
 have BD : Below w.heap.size w W.drew := hb0.trans ((below_drewN' W 1).mono hb0.size)
 have HW : Hid (w.heap.size < W.heap.size) := kA.lt
 have HZ : Hid (w.heap.size ≤ W.heap.size) := hb0.size
 have cI := cB W.drew (HV.out.on (BD.mono HB.out)) (Nat.le_trans HB.out BD.size)
 clear hb0 kA BD cB cR cX
 go_region_held3 (fun w' => w'.cell? ⟨w.heap.size, 0, none⟩ = some (.int .i64 d.room) ∧ w'.cell? ⟨w.heap.size, 1, none⟩ = some (.int .i64 d.next) ∧ w'.cell? ⟨w.heap.size, 2, none⟩ = some (.slice A1 d.nods.length c1) ∧ w'.cell? ⟨w.heap.size, 3, none⟩ = some (.slice A2 d.dir.length c2) ∧ w'.cell? ⟨w.heap.size, 4, none⟩ = some (.slice A3 d.movs.length c3)) (first | exact S2.out | exact S0.out)
  ((go_at_call 53; refine cI.mono ?_; rintro e w3 ⟨rfl, hb⟩; have S2 : Hid (w3.cell? ⟨w.heap.size, 0, none⟩ = some (.int .i64 d.room) ∧ w3.cell? ⟨w.heap.size, 1, none⟩ = some (.int .i64 d.next) ∧ w3.cell? ⟨w.heap.size, 2, none⟩ = some (.slice A1 d.nods.length c1) ∧ w3.cell? ⟨w.heap.size, 3, none⟩ = some (.slice A2 d.dir.length c2) ∧ w3.cell? ⟨w.heap.size, 4, none⟩ = some (.slice A3 d.movs.length c3)) := ⟨(hb.cell (p := ⟨w.heap.size, 0, none⟩) HW.out).trans S0.out.1, (hb.cell (p := ⟨w.heap.size, 1, none⟩) HW.out).trans S0.out.2.1, (hb.cell (p := ⟨w.heap.size, 2, none⟩) HW.out).trans S0.out.2.2.1, (hb.cell (p := ⟨w.heap.size, 3, none⟩) HW.out).trans S0.out.2.2.2.1, (hb.cell (p := ⟨w.heap.size, 4, none⟩) HW.out).trans S0.out.2.2.2.2⟩))
 go_wp2_with fail
 have B3 : Hid (Below w.heap.size w w3) := B0.out.trans (((below_drewN' W 1).mono HZ.out).trans (hb.mono HZ.out))
 have K3 : Hid (Blk w3 w.heap.size #[.int .i64 d.room, .int .i64 d.next, .slice A1 d.nods.length c1, .slice A2 d.dir.length c2, .slice A3 d.movs.length c3] 28) := K0.out.on ((below_drewN' W 1).trans hb) HW.out
 clear S0 S2 hb cI n1' n2' n3' n4' B0 K0 HW HZ
 generalize hws : w.heap.size = ws at *
 generalize hN1 : d.nods.length = N1 at *
 generalize hN2 : d.dir.length = N2 at *
 generalize hN3 : d.movs.length = N3 at *
 go_loopw [3] (fun v3 wr => ∃ k : Nat, k ≤ N1 ∧ v3 = .int .i64 (k : Int) ∧ (∀ j, j < k → nodGood d j = true) ∧ Blk wr ws #[.int .i64 d.room, .int .i64 d.next, .slice A1 N1 c1, .slice A2 N2 c2, .slice A3 N3 c3] 28 ∧ Below ws w wr) (fun i _ => N1 - (intOf i).toNat)
 case atStart => exact ⟨0, by omega, rfl, fun j hj => by omega, K3.out, B3.out⟩
 case round =>
  obtain ⟨k, hk, rfl, hgd, hX, hb⟩ := hrel
  have HG : Hid (∀ j, j < k → nodGood d j = true) := hgd
  have HX : Hid (Blk wr ws #[.int .i64 d.room, .int .i64 d.next, .slice A1 N1 c1, .slice A2 N2 c2, .slice A3 N3 c3] 28) := hX
  have HBB : Hid (Below ws w wr) := hb
  clear hgd hX hb
  have x2 : wr.cell? ⟨ws, 2, none⟩ = some (.slice A1 N1 c1) := HX.out.cell 2 _ rfl
  by_cases hlt : k < N1
  ·have q4 : (k : Int) < (N1 : Int) := by omega
   obtain ⟨g, off, rfl, hg, hc0, hc1, hc2⟩ := HN.out k hlt
   have hgw : g < w.heap.size := by rw [hws]; exact Nat.lt_of_lt_of_le hg HB.out
   rw [hws] at hgw
   rw [← HBB.out.cell (p := ⟨_, _, none⟩) hgw] at hc0 hc1 hc2
   have HGE : Hid (nodGood d k = ((decide (1 ≤ (d.nods.getD k default).id) && decide ((d.nods.getD k default).id ≤ d.next - 1)) && (decide (0 ≤ (d.nods.getD k default).sure) && decide ((d.nods.getD k default).sure ≤ ((d.nods.getD k default).data.size : Int))) && !(decide (0 < k) && decide ((d.nods.getD k default).id ≤ (d.nods.getD (k - 1) default).id)) && (linked d.dir (d.nods.getD k default).id || made d.movs (d.nods.getD k default).id))) := rfl
   have HBD : Hid (nodGood d k = false → diskOk d = false) := fun h => diskOk_nod (by omega) h
   have HGD : Hid (nodGood d k = true → ∀ j, j < k + 1 → nodGood d j = true) := fun h => less_succ HG.out h
   have hsz : ((d.nods.getD k default).data.size : Int) ≤ 9223372036854775807 := by
    have := HF.out.nx _ (getD_mem d.nods k (by omega))
    unfold maxLen at this
    omega
   have HP : Hid (∀ kk, k = kk + 1 → wr.cell? ⟨g, off + kk * 3, none⟩ = some (.int .i64 (d.nods.getD kk default).id)) := fun kk e => by
    obtain ⟨g', off', e1, _, e2, _⟩ := HN.out kk (by omega)
    cases e1
    rw [HBB.out.cell (p := ⟨_, _, none⟩) hgw]
    exact e2
   have hLl : Lies wr B 2 (.slice A2 N2 c2) (lnkR d.dir) := by
    obtain ⟨_, _, _, e, _, h, _⟩ := HV.out
    cases e
    exact h.on (HBB.out.mono HB.out)
   have hMl : Lies wr B 4 (.slice A3 N3 c3) (movR d.movs) := by
    obtain ⟨_, _, _, e, _, _, h⟩ := HV.out
    cases e
    exact h.on (HBB.out.mono HB.out)
   generalize hxi : (d.nods.getD k default).id = xi at *
   generalize hxd : (d.nods.getD k default).data = xd at *
   generalize hxs : (d.nods.getD k default).sure = xs at *
   go_wp2_with fail
   have KY : Blk (wr.alloc (.cells #[.int .i64 xi, .string xd, .int .i64 xs] 47)) ws #[.int .i64 d.room, .int .i64 d.next, .slice (some ⟨g, off, none⟩) N1 c1, .slice A2 N2 c2, .slice A3 N3 c3] 28 := HX.out.alloc _
   have KZ := Blk.new wr #[.int .i64 xi, .string xd, .int .i64 xs] 47
   have BY : Below ws w (wr.alloc (.cells #[.int .i64 xi, .string xd, .int .i64 xs] 47)) := HBB.out.alloc (by rw [← hws]; exact HBB.out.size) _
   have hgr : g < wr.heap.size := Nat.lt_of_lt_of_le hgw (by rw [← hws]; exact HBB.out.size)
   have HPY : Hid (∀ kk, k = kk + 1 → (wr.alloc (.cells #[.int .i64 xi, .string xd, .int .i64 xs] 47)).cell? ⟨g, off + kk * 3, none⟩ = some (.int .i64 (d.nods.getD kk default).id)) := fun kk e => (World.cell?_alloc_lt _ _ _ hgr).trans (HP.out kk e)
   have hLy := fun (nn : Nat) => ((hLl.on ((Below.refl B wr).alloc (Nat.le_trans HB.out (by rw [← hws]; exact HBB.out.size)) (.cells #[.int .i64 xi, .string xd, .int .i64 xs] 47))).heap (w' := (wr.alloc (.cells #[.int .i64 xi, .string xd, .int .i64 xs] 47)).drewN nn) rfl)
   have hMy := fun (nn : Nat) => ((hMl.on ((Below.refl B wr).alloc (Nat.le_trans HB.out (by rw [← hws]; exact HBB.out.size)) (.cells #[.int .i64 xi, .string xd, .int .i64 xs] 47))).heap (w' := (wr.alloc (.cells #[.int .i64 xi, .string xd, .int .i64 xs] 47)).drewN nn) rfl)
   generalize wr.alloc (.cells #[.int .i64 xi, .string xd, .int .i64 xs] 47) = Y at *
   have z0 : Y.cell? ⟨wr.heap.size, 0, none⟩ = some (.int .i64 xi) := KZ.cell 0 _ rfl
   have z1 : Y.cell? ⟨wr.heap.size, 1, none⟩ = some (.string xd) := KZ.cell 1 _ rfl
   have z2 : Y.cell? ⟨wr.heap.size, 2, none⟩ = some (.int .i64 xs) := KZ.cell 2 _ rfl
   have b1 : Y.cell? ⟨ws, 1, none⟩ = some (.int .i64 d.next) := KY.cell 1 _ rfl
   have b2 : Y.cell? ⟨ws, 2, none⟩ = some (.slice (some ⟨g, off, none⟩) N1 c1) := KY.cell 2 _ rfl
   have b3 : Y.cell? ⟨ws, 3, none⟩ = some (.slice A2 N2 c2) := KY.cell 3 _ rfl
   have b4 : Y.cell? ⟨ws, 4, none⟩ = some (.slice A3 N3 c3) := KY.cell 4 _ rfl
   have KYH : Hid (Blk Y ws #[.int .i64 d.room, .int .i64 d.next, .slice (some ⟨g, off, none⟩) N1 c1, .slice A2 N2 c2, .slice A3 N3 c3] 28) := KY
   have BYH : Hid (Below ws w Y) := BY
   have BYZ : Hid (ws ≤ Y.heap.size) := by unfold Hid; rw [← hws]; exact BY.size
   have d1 := fun wx => (inB xi 1 (d.next - 1) wx).mono fun e w' h => (⟨h.1, h.2.symm⟩ : e = _ ∧ w' = wx)
   have d2 := fun wx => (inB xs 0 (xd.size : Int) wx).mono fun e w' h => (⟨h.1, h.2.symm⟩ : e = _ ∧ w' = wx)
   have d4 := fun nn => (linkedV d.dir (.slice A2 N2 c2) xi (Y.drewN nn) B (hLy nn) (by omega)).mono fun e w' h => (⟨h.1, h.2.symm⟩ : e = _ ∧ w' = Y.drewN nn)
   have d5 := fun nn => (madeV d.movs (.slice A3 N3 c3) xi (Y.drewN nn) B (hMy nn) (by omega)).mono fun e w' h => (⟨h.1, h.2.symm⟩ : e = _ ∧ w' = Y.drewN nn)
   clear KY KZ BY hgr hLl hMl hLy hMy hc0 hc1 hc2 x2
   generalize wr.heap.size = pz at *
   rcases e1 : (decide (1 ≤ xi) && decide (xi ≤ d.next - 1)) with _ | _
   ·rw [e1] at d1
    have gf : Hid (nodGood d k = false) := by unfold Hid; rw [HGE.out, e1]; rfl
    clear d2 d4 d5 HPY
    go_quiet (first | (go_at_call_of 29 (Value.int .i64 xi); exact Calls.quiet_of_same (d1 _)))
    go_wp2_with fail
    go_ret
    exact ⟨by rw [HBD.out (gf.out)]; rfl, hws ▸ BYH.out.trans ((below_drewN' Y nq).mono BYZ.out)⟩
   ·rw [e1] at d1
    rcases e2 : (decide (0 ≤ xs) && decide (xs ≤ (xd.size : Int))) with _ | _
    ·rw [e2] at d2
     have gf : Hid (nodGood d k = false) := by unfold Hid; rw [HGE.out, e1, e2]; rfl
     clear d4 d5 HPY
     go_quiet (first | (go_at_call_of 29 (Value.int .i64 xi); exact Calls.quiet_of_same (d1 _)) | (go_at_call_of 29 (Value.int .i64 xs); exact Calls.quiet_of_same (d2 _)))
     go_wp2_with fail
     go_ret
     exact ⟨by rw [HBD.out (gf.out)]; rfl, hws ▸ BYH.out.trans ((below_drewN' Y nq).mono BYZ.out)⟩
    ·rw [e2] at d2
     rcases k with _ | kk
     ·have gh : Hid (nodGood d 0 = (linked d.dir xi || made d.movs xi)) := by unfold Hid; rw [HGE.out, e1, e2]; simp
      clear HPY
      rcases e4 : linked d.dir xi with _ | _
      ·rw [e4] at d4
       rcases e5 : made d.movs xi with _ | _
       ·rw [e5] at d5
        have gf : Hid (nodGood d 0 = false) := by unfold Hid; rw [gh.out, e4, e5]; rfl
        go_quiet (first | (go_at_call_of 29 (Value.int .i64 xi); exact Calls.quiet_of_same (d1 _)) | (go_at_call_of 29 (Value.int .i64 xs); exact Calls.quiet_of_same (d2 _)) | (go_at_call 54; exact Calls.quiet_of_same (d4 _)) | (go_at_call 55; exact Calls.quiet_of_same (d5 _)))
        go_wp2_with fail
        go_ret
        exact ⟨by rw [HBD.out (gf.out)]; rfl, hws ▸ BYH.out.trans ((below_drewN' Y nq).mono BYZ.out)⟩
       ·rw [e5] at d5
        have gf : Hid (nodGood d 0 = true) := by unfold Hid; rw [gh.out, e4, e5]; rfl
        go_quiet (first | (go_at_call_of 29 (Value.int .i64 xi); exact Calls.quiet_of_same (d1 _)) | (go_at_call_of 29 (Value.int .i64 xs); exact Calls.quiet_of_same (d2 _)) | (go_at_call 54; exact Calls.quiet_of_same (d4 _)) | (go_at_call 55; exact Calls.quiet_of_same (d5 _)))
        go_wp2_with fail
        go_roundw
        case rel => exact ⟨0 + 1, by omega, by go_num, HGD.out (gf.out), KYH.out, BYH.out.trans ((below_drewN' Y nq).mono BYZ.out)⟩
        case measure => simp [intOf]; omega
      ·rw [e4] at d4
       have gf : Hid (nodGood d 0 = true) := by unfold Hid; rw [gh.out, e4]; rfl
       clear d5
       go_quiet (first | (go_at_call_of 29 (Value.int .i64 xi); exact Calls.quiet_of_same (d1 _)) | (go_at_call_of 29 (Value.int .i64 xs); exact Calls.quiet_of_same (d2 _)) | (go_at_call 54; exact Calls.quiet_of_same (d4 _)))
       go_wp2_with fail
       go_roundw
       case rel => exact ⟨0 + 1, by omega, by go_num, HGD.out (gf.out), KYH.out, BYH.out.trans ((below_drewN' Y nq).mono BYZ.out)⟩
       case measure => simp [intOf]; omega
     ·have hp := HPY.out kk rfl
      have q7 : ((kk + 1 : Nat) : Int) - 1 = (kk : Int) := by omega
      have q8 : (0 : Int) < ((kk + 1 : Nat) : Int) := by omega
      have q6 : (kk : Int) < (N1 : Int) := by omega
      have gh : Hid (nodGood d (kk + 1) = (!decide (xi ≤ (d.nods.getD kk default).id) && (linked d.dir xi || made d.movs xi))) := by unfold Hid; rw [HGE.out, e1, e2]; simp
      clear HPY
      generalize hpi : (d.nods.getD kk default).id = pi at *
      by_cases e3 : xi ≤ pi
      ·have gf : Hid (nodGood d (kk + 1) = false) := by unfold Hid; rw [gh.out, decide_eq_true e3]; rfl
       clear d4 d5
       go_quiet (first | (go_at_call_of 29 (Value.int .i64 xi); exact Calls.quiet_of_same (d1 _)) | (go_at_call_of 29 (Value.int .i64 xs); exact Calls.quiet_of_same (d2 _)))
       go_wp2_with fail
       go_ret
       exact ⟨by rw [HBD.out (gf.out)]; rfl, hws ▸ BYH.out.trans ((below_drewN' Y nq).mono BYZ.out)⟩
      ·have e3' : decide (xi ≤ pi) = false := decide_eq_false e3
       rcases e4 : linked d.dir xi with _ | _
       ·rw [e4] at d4
        rcases e5 : made d.movs xi with _ | _
        ·rw [e5] at d5
         have gf : Hid (nodGood d (kk + 1) = false) := by unfold Hid; rw [gh.out, e4, e5]; simp
         go_quiet (first | (go_at_call_of 29 (Value.int .i64 xi); exact Calls.quiet_of_same (d1 _)) | (go_at_call_of 29 (Value.int .i64 xs); exact Calls.quiet_of_same (d2 _)) | (go_at_call 54; exact Calls.quiet_of_same (d4 _)) | (go_at_call 55; exact Calls.quiet_of_same (d5 _)))
         go_wp2_with fail
         go_ret
         exact ⟨by rw [HBD.out (gf.out)]; rfl, hws ▸ BYH.out.trans ((below_drewN' Y nq).mono BYZ.out)⟩
        ·rw [e5] at d5
         have gf : Hid (nodGood d (kk + 1) = true) := by unfold Hid; rw [gh.out, e3', e4, e5]; rfl
         go_quiet (first | (go_at_call_of 29 (Value.int .i64 xi); exact Calls.quiet_of_same (d1 _)) | (go_at_call_of 29 (Value.int .i64 xs); exact Calls.quiet_of_same (d2 _)) | (go_at_call 54; exact Calls.quiet_of_same (d4 _)) | (go_at_call 55; exact Calls.quiet_of_same (d5 _)))
         go_wp2_with fail
         go_roundw
         case rel => exact ⟨kk + 1 + 1, by omega, by go_num, HGD.out (gf.out), KYH.out, BYH.out.trans ((below_drewN' Y nq).mono BYZ.out)⟩
         case measure => simp [intOf]; omega
       ·rw [e4] at d4
        have gf : Hid (nodGood d (kk + 1) = true) := by unfold Hid; rw [gh.out, e3', e4]; rfl
        clear d5
        go_quiet (first | (go_at_call_of 29 (Value.int .i64 xi); exact Calls.quiet_of_same (d1 _)) | (go_at_call_of 29 (Value.int .i64 xs); exact Calls.quiet_of_same (d2 _)) | (go_at_call 54; exact Calls.quiet_of_same (d4 _)))
        go_wp2_with fail
        go_roundw
        case rel => exact ⟨kk + 1 + 1, by omega, by go_num, HGD.out (gf.out), KYH.out, BYH.out.trans ((below_drewN' Y nq).mono BYZ.out)⟩
        case measure => simp [intOf]; omega
  ·have HG1 : Hid (∀ j, j < N1 → nodGood d j = true) := fun j hj => HG.out j (by omega)
   have t1 : decide ((k : Int) < (N1 : Int)) = false := decide_eq_false (by omega)
   have K4 := HX
   have B4 := HBB
   go_wp2_with fail
   clear HG x2 hlt t1 HX HBB
   go_loopw [5] (fun v5 wr => ∃ k : Nat, k ≤ N2 ∧ v5 = .int .i64 (k : Int) ∧ (∀ j, j < k → lnkGood d j = true) ∧ Blk wr ws #[.int .i64 d.room, .int .i64 d.next, .slice A1 N1 c1, .slice A2 N2 c2, .slice A3 N3 c3] 28 ∧ Below ws w wr) (fun i _ => N2 - (intOf i).toNat)
   case atStart => exact ⟨0, by omega, rfl, fun j hj => by omega, K4.out, B4.out⟩
   case round =>
    obtain ⟨k, hk, rfl, hgd, hX, hb⟩ := hrel
    have HG : Hid (∀ j, j < k → lnkGood d j = true) := hgd
    have HX : Hid (Blk wr ws #[.int .i64 d.room, .int .i64 d.next, .slice A1 N1 c1, .slice A2 N2 c2, .slice A3 N3 c3] 28) := hX
    have HBB : Hid (Below ws w wr) := hb
    clear hgd hX hb K4 B4
    have x3 : wr.cell? ⟨ws, 3, none⟩ = some (.slice A2 N2 c2) := HX.out.cell 3 _ rfl
    by_cases hlt : k < N2
    ·have q4 : (k : Int) < (N2 : Int) := by omega
     obtain ⟨g, off, rfl, hg, hc0, hc1⟩ := HL.out k hlt
     have hgw : g < ws := Nat.lt_of_lt_of_le hg HB.out
     have hwz : ws ≤ wr.heap.size := by rw [← hws]; exact HBB.out.size
     rw [← HBB.out.cell (p := ⟨_, _, none⟩) hgw] at hc0 hc1
     have HGE : Hid (lnkGood d k = (nameOk (d.dir.getD k default).name && !(decide (0 < k) && !ahead (d.dir.getD (k - 1) default).name (d.dir.getD k default).name) && (nodAt d.nods (d.dir.getD k default).id).isSome && !linked (d.dir.take k) (d.dir.getD k default).id)) := rfl
     have HBD : Hid (lnkGood d k = false → diskOk d = false) := fun h => diskOk_lnk (by omega) h
     have HGD : Hid (lnkGood d k = true → ∀ j, j < k + 1 → lnkGood d j = true) := fun h => less_succ HG.out h
     have hsz : (d.dir.getD k default).name.size ≤ 9223372036854775807 := HF.out.lx _ (getD_mem d.dir k (by omega))
     have HP : Hid (∀ kk, k = kk + 1 → wr.cell? ⟨g, off + kk * 2, none⟩ = some (.string (d.dir.getD kk default).name)) := fun kk e => by
      obtain ⟨g', off', e1, _, e2, _⟩ := HL.out kk (by omega)
      cases e1
      rw [HBB.out.cell (p := ⟨_, _, none⟩) hgw]
      exact e2
     have hVw : DiskV wr B (.agg #[.int .i64 d.room, .int .i64 d.next, .slice A1 N1 c1, .slice (some ⟨g, off, none⟩) N2 c2, .slice A3 N3 c3]) d := HV.out.on (HBB.out.mono HB.out)
     have hLl : Lies wr B 2 (.slice (some ⟨g, off, none⟩) N2 c2) (lnkR d.dir) := by
      obtain ⟨_, _, _, e, _, h, _⟩ := hVw
      cases e
      exact h
     have hrm := hLl.room.2
     have hrm' : (N2 : Int) ≤ (c2 : Int) := by omega
     generalize hxn : (d.dir.getD k default).name = xn at *
     generalize hxi : (d.dir.getD k default).id = xi at *
     go_wp2_with fail
     have KY : Blk (wr.alloc (.cells #[.string xn, .int .i64 xi] 49)) ws #[.int .i64 d.room, .int .i64 d.next, .slice A1 N1 c1, .slice (some ⟨g, off, none⟩) N2 c2, .slice A3 N3 c3] 28 := HX.out.alloc _
     have KZ := Blk.new wr #[.string xn, .int .i64 xi] 49
     have BA : Below B wr (wr.alloc (.cells #[.string xn, .int .i64 xi] 49)) := (Below.refl B wr).alloc (Nat.le_trans HB.out hwz) _
     have BY : Below ws w (wr.alloc (.cells #[.string xn, .int .i64 xi] 49)) := HBB.out.alloc hwz _
     have hgr : g < wr.heap.size := Nat.lt_of_lt_of_le hgw hwz
     have HPY : Hid (∀ kk, k = kk + 1 → (wr.alloc (.cells #[.string xn, .int .i64 xi] 49)).cell? ⟨g, off + kk * 2, none⟩ = some (.string (d.dir.getD kk default).name)) := fun kk e => (World.cell?_alloc_lt _ _ _ hgr).trans (HP.out kk e)
     have hLy := hLl.on BA
     have hVy := hVw.on BA
     generalize wr.alloc (.cells #[.string xn, .int .i64 xi] 49) = Y at *
     have z0 := cell_regrown (KZ.cell 0 _ rfl)
     have z1 := cell_regrown (KZ.cell 1 _ rfl)
     have b0 := cell_regrown (KY.cell 0 _ rfl)
     have b1 := cell_regrown (KY.cell 1 _ rfl)
     have b2 := cell_regrown (KY.cell 2 _ rfl)
     have b3 := cell_regrown (KY.cell 3 _ rfl)
     have b4 := cell_regrown (KY.cell 4 _ rfl)
     have KYH : Hid (Blk Y ws #[.int .i64 d.room, .int .i64 d.next, .slice A1 N1 c1, .slice (some ⟨g, off, none⟩) N2 c2, .slice A3 N3 c3] 28) := KY
     have BYH : Hid (Below ws w Y) := BY
     have BYZ : Hid (ws ≤ Y.heap.size) := by unfold Hid; rw [← hws]; exact BY.size
     have WZH : Hid (ws < Y.heap.size) := KY.lt
     have hBY : B ≤ Y.heap.size := Nat.le_trans HB.out BYZ.out
     have cN : ∀ dd os, Calls Tryz.prog 30 #[.string xn] (grow (redrawn Y dd) os) fun e w'' => e = .returned (.bool (nameOk xn)) ∧ ∃ p : Regrown, w'' = grow (redrawn Y p.d) p.os := fun dd os => Calls.regrown_of ((nameV xn _ hsz).mono fun e w' h => ⟨h.1, by rw [← h.2]; exact Below.refl _ _⟩)
     have cI : ∀ dd os, Calls Tryz.prog 56 #[.agg #[.int .i64 d.room, .int .i64 d.next, .slice A1 N1 c1, .slice (some ⟨g, off, none⟩) N2 c2, .slice A3 N3 c3], .int .i64 xi] (grow (redrawn Y dd) os) fun e w'' => e = .returned (.int .i64 (idxV (nodAt d.nods xi))) ∧ ∃ p : Regrown, w'' = grow (redrawn Y p.d) p.os := fun dd os => Calls.regrown_of (inodeV d (.agg #[.int .i64 d.room, .int .i64 d.next, .slice A1 N1 c1, .slice (some ⟨g, off, none⟩) N2 c2, .slice A3 N3 c3]) xi _ B (hVy.on ((below_regrown Y dd os).mono hBY)) (by omega) (Nat.le_trans hBY (below_regrown Y dd os).size))
     have F5 : ∀ wx, Below Y.heap.size Y wx → Lies wx B 2 (.slice (some ⟨g, off, none⟩) k c2) (lnkR (d.dir.take k)) := fun wx hb => by
      have h9 := (hLy.on (hb.mono hBY)).first k (by rw [lnkR_length]; omega)
      rw [show lnkR (d.dir.take k) = (lnkR d.dir).take k by unfold lnkR; rw [List.map_take]]
      exact h9
     have cL : ∀ dd os, Calls Tryz.prog 54 #[.slice (some ⟨g, off, none⟩) k c2, .int .i64 xi] (grow (redrawn Y dd) os) fun e w'' => e = .returned (.bool (linked (d.dir.take k) xi)) ∧ ∃ p : Regrown, w'' = grow (redrawn Y p.d) p.os := fun dd os => Calls.regrown_of ((linkedV (d.dir.take k) (.slice (some ⟨g, off, none⟩) k c2) xi _ B (F5 _ (below_regrown Y dd os)) (by rw [List.length_take]; omega)).mono fun e w' h => ⟨h.1, by rw [← h.2]; exact Below.refl _ _⟩)
     clear F5 KZ BY BA hgr hLl hVw hLy hVy hc0 hc1 x3 hBY hsz
     have HKY := KY
     clear KY
     generalize wr.heap.size = pz at *
     have q0k : (k : Int) ≤ (N2 : Int) := by omega
     have q1k : (0 : Int) ≤ (k : Int) := by omega
     have q2k : (k : Int) ≤ (c2 : Int) := by omega
     rcases e1 : nameOk xn with _ | _
     ·rw [e1] at cN
      have gf : Hid (lnkGood d k = false) := by unfold Hid; rw [HGE.out, e1]; rfl
      clear cI cL HPY
      refine wp_region_quiet_below (by kernel_rfl) (by kernel_rfl) ?_
      repeat (go_big_quiet_step ((intros; first | (go_at_call 30; exact cN _ _))))
      refine wpQuiet_nil ?_
      intro _ hw'
      obtain ⟨⟨dq, osq⟩, hw''⟩ := hw'
      subst hw''
      have hb5 : Below Y.heap.size Y (grow (redrawn Y dq) osq) := below_regrown Y dq osq
      generalize grow (redrawn Y dq) osq = w5 at *
      have HB5 : Hid (Below Y.heap.size Y w5) := hb5
      clear hb5
      go_wp2_with fail
      go_ret
      exact ⟨by rw [HBD.out (gf.out)]; rfl, hws ▸ BYH.out.trans (HB5.out.mono BYZ.out)⟩
     ·rw [e1] at cN
      by_cases hk0 : k = 0
      ·have gh : Hid (lnkGood d k = ((nodAt d.nods xi).isSome && !linked (d.dir.take k) xi)) := by unfold Hid; rw [HGE.out, e1, decide_eq_false (show ¬ 0 < k by omega)]; simp
       have g0 : decide ((0 : Int) < (k : Int)) = false := decide_eq_false (by omega)
       have g0n : decide (0 < k) = false := decide_eq_false (by omega)
       clear HPY hk0
       rcases e4 : nodAt d.nods xi with _ | i
       ·rw [e4] at cI
        have gf : Hid (lnkGood d k = false) := by unfold Hid; rw [gh.out, e4]; rfl
        have ei : idxV (none : Option Nat) = -1 := rfl
        rw [ei] at cI
        clear cL
        refine wp_region_quiet_below (by kernel_rfl) (by kernel_rfl) ?_
        repeat (go_big_quiet_step ((intros; first | (go_at_call 30; exact cN _ _) | (go_at_call 56; exact cI _ _))))
        refine wpQuiet_nil ?_
        intro _ hw'
        obtain ⟨⟨dq, osq⟩, hw''⟩ := hw'
        subst hw''
        have hb5 : Below Y.heap.size Y (grow (redrawn Y dq) osq) := below_regrown Y dq osq
        generalize grow (redrawn Y dq) osq = w5 at *
        have HB5 : Hid (Below Y.heap.size Y w5) := hb5
        clear hb5
        go_wp2_with fail
        go_ret
        exact ⟨by rw [HBD.out (gf.out)]; rfl, hws ▸ BYH.out.trans (HB5.out.mono BYZ.out)⟩
       ·rw [e4] at cI
        have ei : idxV (some i) = (i : Int) := rfl
        rw [ei] at cI
        have j1 : decide ((i : Int) < 0) = false := decide_eq_false (by omega)
        have gl : Hid (lnkGood d k = !linked (d.dir.take k) xi) := by unfold Hid; rw [gh.out, e4]; rfl
        generalize linked (d.dir.take k) xi = lk at *
        refine wp_region_quiet_below (by kernel_rfl) (by kernel_rfl) ?_
        repeat (go_big_quiet_step ((intros; first | (go_at_call 30; exact cN _ _) | (go_at_call 56; exact cI _ _) | (go_at_call 54; exact cL _ _))))
        refine wpQuiet_nil ?_
        intro _ hw'
        obtain ⟨⟨dq, osq⟩, hw''⟩ := hw'
        subst hw''
        have hb5 : Below Y.heap.size Y (grow (redrawn Y dq) osq) := below_regrown Y dq osq
        generalize grow (redrawn Y dq) osq = w5 at *
        have HB5 : Hid (Below Y.heap.size Y w5) := hb5
        clear hb5
        cases lk with
        | true =>
         have gf : Hid (lnkGood d k = false) := gl.out
         go_wp2_with fail
         go_ret
         exact ⟨by rw [HBD.out (gf.out)]; rfl, hws ▸ BYH.out.trans (HB5.out.mono BYZ.out)⟩
        | false =>
         have gf : Hid (lnkGood d k = true) := gl.out
         go_wp2_with fail
         go_roundw
         case rel => exact ⟨k + 1, by omega, by go_num, HGD.out gf.out, KYH.out.on HB5.out WZH.out, BYH.out.trans (HB5.out.mono BYZ.out)⟩
         case measure => simp [intOf]; omega
      ·obtain ⟨kk, hkk⟩ : ∃ kk, k = kk + 1 := ⟨k - 1, by omega⟩
       have hp := cell_regrown (HPY.out kk hkk)
       have q7 : (k : Int) - 1 = (kk : Int) := by omega
       have q8 : (0 : Int) < (k : Int) := by omega
       have q8' : decide ((0 : Int) < (k : Int)) = true := decide_eq_true q8
       have q8n : 0 < k := by omega
       have q8m : decide (0 < k) = true := decide_eq_true q8n
       have q6 : (kk : Int) < (N2 : Int) := by omega
       have gh0 : Hid (lnkGood d k = (ahead (d.dir.getD kk default).name xn && (nodAt d.nods xi).isSome && !linked (d.dir.take k) xi)) := by
        unfold Hid
        rw [HGE.out, e1, decide_eq_true (show 0 < k by omega), show k - 1 = kk by omega]
        simp
       clear HPY hk0 hkk
       generalize hpn : (d.dir.getD kk default).name = pn at *
       rcases e3 : ahead pn xn with _ | _
       ·have gf : Hid (lnkGood d k = false) := by unfold Hid; rw [gh0.out, e3]; rfl
        have hle : Op.bytesLess pn.toList xn.toList = false := e3
        clear cI cL
        refine wp_region_quiet_below (by kernel_rfl) (by kernel_rfl) ?_
        repeat (go_big_quiet_step ((intros; first | (go_at_call 30; exact cN _ _))))
        refine wpQuiet_nil ?_
        intro _ hw'
        obtain ⟨⟨dq, osq⟩, hw''⟩ := hw'
        subst hw''
        have hb5 : Below Y.heap.size Y (grow (redrawn Y dq) osq) := below_regrown Y dq osq
        generalize grow (redrawn Y dq) osq = w5 at *
        have HB5 : Hid (Below Y.heap.size Y w5) := hb5
        clear hb5
        go_wp2_with fail
        go_ret
        exact ⟨by rw [HBD.out (gf.out)]; rfl, hws ▸ BYH.out.trans (HB5.out.mono BYZ.out)⟩
       ·have hle : Op.bytesLess pn.toList xn.toList = true := e3
        have gh : Hid (lnkGood d k = ((nodAt d.nods xi).isSome && !linked (d.dir.take k) xi)) := by unfold Hid; rw [gh0.out, e3]; rfl
        clear gh0 e3
        rcases e4 : nodAt d.nods xi with _ | i
        ·rw [e4] at cI
         have gf : Hid (lnkGood d k = false) := by unfold Hid; rw [gh.out, e4]; rfl
         have ei : idxV (none : Option Nat) = -1 := rfl
         rw [ei] at cI
         clear cL
         refine wp_region_quiet_below (by kernel_rfl) (by kernel_rfl) ?_
         repeat (go_big_quiet_step ((intros; first | (go_at_call 30; exact cN _ _) | (go_at_call 56; exact cI _ _))))
         refine wpQuiet_nil ?_
         intro _ hw'
         obtain ⟨⟨dq, osq⟩, hw''⟩ := hw'
         subst hw''
         have hb5 : Below Y.heap.size Y (grow (redrawn Y dq) osq) := below_regrown Y dq osq
         generalize grow (redrawn Y dq) osq = w5 at *
         have HB5 : Hid (Below Y.heap.size Y w5) := hb5
         clear hb5
         go_wp2_with fail
         go_ret
         exact ⟨by rw [HBD.out (gf.out)]; rfl, hws ▸ BYH.out.trans (HB5.out.mono BYZ.out)⟩
        ·rw [e4] at cI
         have ei : idxV (some i) = (i : Int) := rfl
         rw [ei] at cI
         have j1 : decide ((i : Int) < 0) = false := decide_eq_false (by omega)
         have gl : Hid (lnkGood d k = !linked (d.dir.take k) xi) := by unfold Hid; rw [gh.out, e4]; rfl
         generalize linked (d.dir.take k) xi = lk at *
         refine wp_region_quiet_below (by kernel_rfl) (by kernel_rfl) ?_
         repeat (go_big_quiet_step ((intros; first | (go_at_call 30; exact cN _ _) | (go_at_call 56; exact cI _ _) | (go_at_call 54; exact cL _ _))))
         refine wpQuiet_nil ?_
         intro _ hw'
         obtain ⟨⟨dq, osq⟩, hw''⟩ := hw'
         subst hw''
         have hb5 : Below Y.heap.size Y (grow (redrawn Y dq) osq) := below_regrown Y dq osq
         generalize grow (redrawn Y dq) osq = w5 at *
         have HB5 : Hid (Below Y.heap.size Y w5) := hb5
         clear hb5
         cases lk with
         | true =>
          have gf : Hid (lnkGood d k = false) := gl.out
          go_wp2_with fail
          go_ret
          exact ⟨by rw [HBD.out (gf.out)]; rfl, hws ▸ BYH.out.trans (HB5.out.mono BYZ.out)⟩
         | false =>
          have gf : Hid (lnkGood d k = true) := gl.out
          go_wp2_with fail
          go_roundw
          case rel => exact ⟨k + 1, by omega, by go_num, HGD.out gf.out, KYH.out.on HB5.out WZH.out, BYH.out.trans (HB5.out.mono BYZ.out)⟩
          case measure => simp [intOf]; omega
    ·have HG2 : Hid (∀ j, j < N2 → lnkGood d j = true) := fun j hj => HG.out j (by omega)
     have t1 : decide ((k : Int) < (N2 : Int)) = false := decide_eq_false (by omega)
     have K4 := HX
     have B4 := HBB
     have hzw : ws + 1 ≤ wr.heap.size := HX.out.lt
     have hE := Owns.empty wr (ws + 1) 49 2 hzw
     have hL2 : Lies (wr.alloc (.cells #[] 49)) B 2 (.slice A2 N2 c2) (lnkR d.dir) := by
      obtain ⟨_, _, _, e, _, h, _⟩ := HV.out
      cases e
      exact (h.on (HBB.out.mono HB.out)).on ((Below.refl B wr).alloc (by have := HB.out; omega) _)
     have s1 : ([] : List (List Value)).length + (lnkR d.dir).length ≤ 2097152 := by rw [lnkR_length, hN2]; simp; omega
     have s2 : ws + 1 ≤ (wr.alloc (.cells #[] 49)).heap.size := by simp; omega
     have s3 := lnk_one d.dir
     have HZW : Hid (ws + 1 ≤ wr.heap.size) := hzw
     have hzl : ws < wr.heap.size := hzw
     clear hzw
     go_wp2_with (at_builtin; refine wpList_append_all (w := wr.alloc (.cells #[] 49)) rfl (.tmp 153) (.tmp 155) 25 49 (.agg #[.string ⟨#[]⟩, .int .i64 0]) 2 24 rfl Tryz.underlying25 Tryz.infoLnk rfl (by omega) (ws + 1) (.slice (some ⟨wr.heap.size, 0, none⟩) 0 0) (.slice A2 N2 c2) [] (lnkR d.dir) B rfl hE hL2 s3 rfl s1 (by omega) s2 ?_; intro v' w2 hO2 hb2 _ _)
     have K2 : Hid (Blk w2 ws #[.int .i64 d.room, .int .i64 d.next, .slice A1 N1 c1, .slice A2 N2 c2, .slice A3 N3 c3] 28) := (K4.out.alloc (.cells #[] 49)).on hb2 (Nat.lt_succ_self _)
     have B2 : Hid (Below ws w w2) := (B4.out.alloc (by have := HZW.out; omega) (.cells #[] 49)).trans (hb2.mono (Nat.le_succ _))
     have O2 : Hid (Owns w2 (ws + 1) 49 2 v' (lnkR d.dir)) := hO2
     clear hE hL2 s1 s2 s3 hO2 hb2 K4 B4 HG x3 hlt t1 HX HBB
     go_loopw [7, 8] (fun v7 v8 wr => ∃ k : Nat, k ≤ N3 ∧ v8 = .int .i64 (k : Int) ∧ (∀ j, j < k → movGood d j = true) ∧ Owns wr (ws + 1) 49 2 v7 (lnkR (names d.dir (d.movs.take k))) ∧ Blk wr ws #[.int .i64 d.room, .int .i64 d.next, .slice A1 N1 c1, .slice A2 N2 c2, .slice A3 N3 c3] 28 ∧ Below ws w wr) (fun _ i _ => N3 - (intOf i).toNat)
     case atStart => exact ⟨0, by omega, rfl, fun j hj => by omega, O2.out, K2.out, B2.out⟩
     case round =>
      obtain ⟨k, hk, rfl, hgd, hO, hX, hb⟩ := hrel
      have HG : Hid (∀ j, j < k → movGood d j = true) := hgd
      have HO : Hid (Owns wr (ws + 1) 49 2 u7 (lnkR (names d.dir (d.movs.take k)))) := hO
      have HX : Hid (Blk wr ws #[.int .i64 d.room, .int .i64 d.next, .slice A1 N1 c1, .slice A2 N2 c2, .slice A3 N3 c3] 28) := hX
      have HBB : Hid (Below ws w wr) := hb
      obtain ⟨A7, n7, c7, rfl⟩ := hO.shape
      clear hgd hX hb hO O2 K2 B2
      have x4 : wr.cell? ⟨ws, 4, none⟩ = some (.slice A3 N3 c3) := HX.out.cell 4 _ rfl
      by_cases hlt : k < N3
      ·have q4 : (k : Int) < (N3 : Int) := by omega
       obtain ⟨g, off, rfl, hg, hc0, hc1, hc2, hc3⟩ := HM.out k hlt
       have hgw : g < ws := Nat.lt_of_lt_of_le hg HB.out
       have hwz : ws ≤ wr.heap.size := by rw [← hws]; exact HBB.out.size
       rw [← HBB.out.cell (p := ⟨_, _, none⟩) hgw] at hc0 hc1 hc2 hc3
       have HGE : Hid (movGood d k = (!(decide ((d.movs.getD k default).kind = 1) && ((nodAt d.nods (d.movs.getD k default).id).isNone || linked d.dir (d.movs.getD k default).id || made (d.movs.take k) (d.movs.getD k default).id)) && (apply (names d.dir (d.movs.take k)) (d.movs.getD k default)).isSome)) := rfl
       have HBD : Hid (movGood d k = false → diskOk d = false) := fun h => diskOk_mov (by omega) h
       have HGD : Hid (movGood d k = true → ∀ j, j < k + 1 → movGood d j = true) := fun h => less_succ HG.out h
       have HNA : Hid (names d.dir (d.movs.take (k + 1)) = (apply (names d.dir (d.movs.take k)) (d.movs.getD k default)).getD (names d.dir (d.movs.take k))) := names_take d.dir d.movs k (by omega)
       have HNL : Hid ((names d.dir (d.movs.take k)).length ≤ 1048575) := by
        unfold Hid
        have h4 := names_len d.dir (d.movs.take k)
        rw [List.length_take, hN2] at h4
        omega
       have HSX : Hid ((d.movs.getD k default).name.size ≤ 9223372036854775807 ∧ (d.movs.getD k default).to.size ≤ 9223372036854775807) := HF.out.mx _ (getD_mem d.movs k (by omega))
       have hVw : DiskV wr B (.agg #[.int .i64 d.room, .int .i64 d.next, .slice A1 N1 c1, .slice A2 N2 c2, .slice (some ⟨g, off, none⟩) N3 c3]) d := HV.out.on (HBB.out.mono HB.out)
       have hLl : Lies wr B 2 (.slice A2 N2 c2) (lnkR d.dir) ∧ Lies wr B 4 (.slice (some ⟨g, off, none⟩) N3 c3) (movR d.movs) := by
        obtain ⟨_, _, _, e, _, h, h'⟩ := hVw
        cases e
        exact ⟨h, h'⟩
       have hrm := hLl.2.room.2
       have hrm' : (N3 : Int) ≤ (c3 : Int) := by omega
       generalize hmm : d.movs.getD k default = mm at *
       obtain ⟨mk, mn, mt, mi⟩ := mm
       simp only at *
       generalize hLk : names d.dir (d.movs.take k) = Lk at *
       go_wp2_with fail
       have KY : Blk (wr.alloc (.cells #[.int .i64 mk, .string mn, .string mt, .int .i64 mi] 51)) ws #[.int .i64 d.room, .int .i64 d.next, .slice A1 N1 c1, .slice A2 N2 c2, .slice (some ⟨g, off, none⟩) N3 c3] 28 := HX.out.alloc _
       have KZ := Blk.new wr #[.int .i64 mk, .string mn, .string mt, .int .i64 mi] 51
       have BA : Below B wr (wr.alloc (.cells #[.int .i64 mk, .string mn, .string mt, .int .i64 mi] 51)) := (Below.refl B wr).alloc (Nat.le_trans HB.out hwz) _
       have BY : Below ws w (wr.alloc (.cells #[.int .i64 mk, .string mn, .string mt, .int .i64 mi] 51)) := HBB.out.alloc hwz _
       have OY : Hid (Owns (wr.alloc (.cells #[.int .i64 mk, .string mn, .string mt, .int .i64 mi] 51)) (ws + 1) 49 2 (.slice A7 n7 c7) (lnkR Lk)) := HO.out.alloc _
       have hLy := hLl.1.on BA
       have hMy := hLl.2.on BA
       have hVy := hVw.on BA
       generalize wr.alloc (.cells #[.int .i64 mk, .string mn, .string mt, .int .i64 mi] 51) = Y at *
       have z0 := cell_regrown (KZ.cell 0 _ rfl)
       have z3 := cell_regrown (KZ.cell 3 _ rfl)
       have b0 := cell_regrown (KY.cell 0 _ rfl)
       have b1 := cell_regrown (KY.cell 1 _ rfl)
       have b2 := cell_regrown (KY.cell 2 _ rfl)
       have b3 := cell_regrown (KY.cell 3 _ rfl)
       have b4 := cell_regrown (KY.cell 4 _ rfl)
       have KYH : Hid (Blk Y ws #[.int .i64 d.room, .int .i64 d.next, .slice A1 N1 c1, .slice A2 N2 c2, .slice (some ⟨g, off, none⟩) N3 c3] 28) := KY
       have KZH : Hid (Blk Y wr.heap.size #[.int .i64 mk, .string mn, .string mt, .int .i64 mi] 51) := KZ
       have BYH : Hid (Below ws w Y) := BY
       have BYZ : Hid (ws ≤ Y.heap.size) := by unfold Hid; rw [← hws]; exact BY.size
       have WZH : Hid (ws < Y.heap.size) := KY.lt
       have hBY : B ≤ Y.heap.size := Nat.le_trans HB.out BYZ.out
       have cI : ∀ dd os, Calls Tryz.prog 56 #[.agg #[.int .i64 d.room, .int .i64 d.next, .slice A1 N1 c1, .slice A2 N2 c2, .slice (some ⟨g, off, none⟩) N3 c3], .int .i64 mi] (grow (redrawn Y dd) os) fun e w'' => e = .returned (.int .i64 (idxV (nodAt d.nods mi))) ∧ ∃ p : Regrown, w'' = grow (redrawn Y p.d) p.os := fun dd os => Calls.regrown_of (inodeV d (.agg #[.int .i64 d.room, .int .i64 d.next, .slice A1 N1 c1, .slice A2 N2 c2, .slice (some ⟨g, off, none⟩) N3 c3]) mi _ B (hVy.on ((below_regrown Y dd os).mono hBY)) (by omega) (Nat.le_trans hBY (below_regrown Y dd os).size))
       have cL : ∀ dd os, Calls Tryz.prog 54 #[.slice A2 N2 c2, .int .i64 mi] (grow (redrawn Y dd) os) fun e w'' => e = .returned (.bool (linked d.dir mi)) ∧ ∃ p : Regrown, w'' = grow (redrawn Y p.d) p.os := fun dd os => Calls.regrown_of ((linkedV d.dir (.slice A2 N2 c2) mi _ B (hLy.on ((below_regrown Y dd os).mono hBY)) (by omega)).mono fun e w' h => ⟨h.1, by rw [← h.2]; exact Below.refl _ _⟩)
       have F5 : ∀ wx, Below Y.heap.size Y wx → Lies wx B 4 (.slice (some ⟨g, off, none⟩) k c3) (movR (d.movs.take k)) := fun wx hb => by
        have h9 := (hMy.on (hb.mono hBY)).first k (by rw [movR_length]; omega)
        rw [show movR (d.movs.take k) = (movR d.movs).take k by unfold movR; rw [List.map_take]]
        exact h9
       have cM : ∀ dd os, Calls Tryz.prog 55 #[.slice (some ⟨g, off, none⟩) k c3, .int .i64 mi] (grow (redrawn Y dd) os) fun e w'' => e = .returned (.bool (made (d.movs.take k) mi)) ∧ ∃ p : Regrown, w'' = grow (redrawn Y p.d) p.os := fun dd os => Calls.regrown_of ((madeV (d.movs.take k) (.slice (some ⟨g, off, none⟩) k c3) mi _ B (F5 _ (below_regrown Y dd os)) (by rw [List.length_take]; omega)).mono fun e w' h => ⟨h.1, by rw [← h.2]; exact Below.refl _ _⟩)
       clear F5 KZ BY BA hLl hVw hLy hMy hVy hc0 hc1 hc2 hc3 x4 hBY KY
       generalize wr.heap.size = pz at *
       have q0k : (k : Int) ≤ (N3 : Int) := by omega
       have q1k : (0 : Int) ≤ (k : Int) := by omega
       have q2k : (k : Int) ≤ (c3 : Int) := by omega
       by_cases hk1 : mk = 1
       ·have e1 : (mk == 1) = true := by simp only [beq_iff_eq]; exact hk1
        have gh : Hid (movGood d k = (!((nodAt d.nods mi).isNone || linked d.dir mi || made (d.movs.take k) mi) && (apply Lk ⟨mk, mn, mt, mi⟩).isSome)) := by unfold Hid; rw [HGE.out, decide_eq_true hk1, Bool.true_and]
        clear hk1
        rcases e4 : nodAt d.nods mi with _ | i
        ·rw [e4] at cI
         have gf : Hid (movGood d k = false) := by unfold Hid; rw [gh.out, e4]; rfl
         have ei : idxV (none : Option Nat) = -1 := rfl
         rw [ei] at cI
         clear cL cM
         refine wp_region_quiet_below (by kernel_rfl) (by kernel_rfl) ?_
         repeat (go_big_quiet_step ((intros; first | (go_at_call 56; exact cI _ _))))
         refine wpQuiet_nil ?_
         intro _ hw'
         obtain ⟨⟨dq, osq⟩, hw''⟩ := hw'
         subst hw''
         have hb5 : Below Y.heap.size Y (grow (redrawn Y dq) osq) := below_regrown Y dq osq
         generalize grow (redrawn Y dq) osq = w5 at *
         have HB5 : Hid (Below Y.heap.size Y w5) := hb5
         clear hb5
         go_wp2_with fail
         go_ret
         exact ⟨by rw [HBD.out (gf.out)]; rfl, hws ▸ BYH.out.trans (HB5.out.mono BYZ.out)⟩
        ·rw [e4] at cI
         have ei : idxV (some i) = (i : Int) := rfl
         rw [ei] at cI
         have j1 : decide ((i : Int) < 0) = false := decide_eq_false (by omega)
         rcases e5 : linked d.dir mi with _ | _
         ·rw [e5] at cL
          have gl : Hid (movGood d k = (!made (d.movs.take k) mi && (apply Lk ⟨mk, mn, mt, mi⟩).isSome)) := by unfold Hid; rw [gh.out, e4, e5]; rfl
          clear e4 e5
          generalize made (d.movs.take k) mi = md at *
          refine wp_region_quiet_below (by kernel_rfl) (by kernel_rfl) ?_
          repeat (go_big_quiet_step ((intros; first | (go_at_call 56; exact cI _ _) | (go_at_call 54; exact cL _ _) | (go_at_call 55; exact cM _ _))))
          refine wpQuiet_nil ?_
          intro _ hw'
          obtain ⟨⟨dq, osq⟩, hw''⟩ := hw'
          subst hw''
          have hb5 : Below Y.heap.size Y (grow (redrawn Y dq) osq) := below_regrown Y dq osq
          generalize grow (redrawn Y dq) osq = w5 at *
          have HB5 : Hid (Below Y.heap.size Y w5) := hb5
          clear hb5
          cases md with
          | true =>
           have gf : Hid (movGood d k = false) := gl.out
           go_wp2_with fail
           go_ret
           exact ⟨by rw [HBD.out (gf.out)]; rfl, hws ▸ BYH.out.trans (HB5.out.mono BYZ.out)⟩
          | false =>
           clear cI cL cM z0 z3 b0 b1 b2 b3 b4
           have KZ5 := KZH.out.on HB5.out KZH.out.lt
           have x0 := KZ5.cell 0 _ rfl
           have x1 := KZ5.cell 1 _ rfl
           have x2' := KZ5.cell 2 _ rfl
           have x3 := KZ5.cell 3 _ rfl
           have O5 := OY.out.on HB5.out
           have cA := applyV Lk (.slice A7 n7 c7) ⟨mk, mn, mt, mi⟩ w5 w5.heap.size O5.lies HNL.out (Nat.le_refl _) HSX.out.1 HSX.out.2
           unfold movV at cA
           simp only at cA
           have B5 : Hid (Below ws w w5) := BYH.out.trans (HB5.out.mono BYZ.out)
           have K5 : Hid (Blk w5 ws #[.int .i64 d.room, .int .i64 d.next, .slice A1 N1 c1, .slice A2 N2 c2, .slice (some ⟨g, off, none⟩) N3 c3] 28) := KYH.out.on HB5.out WZH.out
           clear KZ5 O5
           go_wp2_with fail
           refine cA.mono ?_
           rintro e w6 ⟨ha, hb6⟩
           have B6 : Hid (Below ws w w6) := B5.out.trans (hb6.mono (Nat.le_of_lt K5.out.lt))
           have K6 : Hid (Blk w6 ws #[.int .i64 d.room, .int .i64 d.next, .slice A1 N1 c1, .slice A2 N2 c2, .slice (some ⟨g, off, none⟩) N3 c3] 28) := K5.out.on hb6 K5.out.lt
           have S6 : Hid (ws + 1 ≤ w5.heap.size) := K5.out.lt
           rcases hap : apply Lk ⟨mk, mn, mt, mi⟩ with _ | r
           ·rw [hap] at ha
            subst ha
            have gf : Hid (movGood d k = false) := by unfold Hid; rw [HGE.out, hap]; simp
            clear cA hb6 hap
            go_wp2_with fail
            go_ret
            exact ⟨by rw [HBD.out gf.out]; rfl, hws ▸ B6.out⟩
           ·rw [hap] at ha
            obtain ⟨u, rfl, hO6⟩ := ha
            have gf : Hid (movGood d k = true) := by unfold Hid; rw [gl.out, hap]; rfl
            have O6 : Hid (Owns w6 (ws + 1) 49 2 u (lnkR (names d.dir (d.movs.take (k + 1))))) := by
             unfold Hid
             rw [HNA.out, hap]
             exact hO6.mono S6.out
            clear cA hb6 hap hO6
            go_wp2_with fail
            go_roundw
            case rel => exact ⟨k + 1, by omega, by go_num, HGD.out gf.out, O6.out, K6.out, B6.out⟩
            case measure => simp [intOf]; omega
         ·rw [e5] at cL
          have gf : Hid (movGood d k = false) := by unfold Hid; rw [gh.out, e4, e5]; rfl
          clear cM
          refine wp_region_quiet_below (by kernel_rfl) (by kernel_rfl) ?_
          repeat (go_big_quiet_step ((intros; first | (go_at_call 56; exact cI _ _) | (go_at_call 54; exact cL _ _))))
          refine wpQuiet_nil ?_
          intro _ hw'
          obtain ⟨⟨dq, osq⟩, hw''⟩ := hw'
          subst hw''
          have hb5 : Below Y.heap.size Y (grow (redrawn Y dq) osq) := below_regrown Y dq osq
          generalize grow (redrawn Y dq) osq = w5 at *
          have HB5 : Hid (Below Y.heap.size Y w5) := hb5
          clear hb5
          go_wp2_with fail
          go_ret
          exact ⟨by rw [HBD.out (gf.out)]; rfl, hws ▸ BYH.out.trans (HB5.out.mono BYZ.out)⟩
       ·have e1 : (mk == 1) = false := by simp only [beq_eq_false_iff_ne, ne_eq]; exact hk1
        have gl : Hid (movGood d k = (apply Lk ⟨mk, mn, mt, mi⟩).isSome) := by unfold Hid; rw [HGE.out, decide_eq_false hk1]; rfl
        clear hk1 cI cL cM
        refine wp_region_quiet_below (by kernel_rfl) (by kernel_rfl) ?_
        repeat (go_big_quiet_step ((intros; first | fail)))
        refine wpQuiet_nil ?_
        intro _ hw'
        obtain ⟨⟨dq, osq⟩, hw''⟩ := hw'
        subst hw''
        have hb5 : Below Y.heap.size Y (grow (redrawn Y dq) osq) := below_regrown Y dq osq
        generalize grow (redrawn Y dq) osq = w5 at *
        have HB5 : Hid (Below Y.heap.size Y w5) := hb5
        clear hb5
        clear z0 z3 b0 b1 b2 b3 b4
        have KZ5 := KZH.out.on HB5.out KZH.out.lt
        have x0 := KZ5.cell 0 _ rfl
        have x1 := KZ5.cell 1 _ rfl
        have x2' := KZ5.cell 2 _ rfl
        have x3 := KZ5.cell 3 _ rfl
        have O5 := OY.out.on HB5.out
        have cA := applyV Lk (.slice A7 n7 c7) ⟨mk, mn, mt, mi⟩ w5 w5.heap.size O5.lies HNL.out (Nat.le_refl _) HSX.out.1 HSX.out.2
        unfold movV at cA
        simp only at cA
        have B5 : Hid (Below ws w w5) := BYH.out.trans (HB5.out.mono BYZ.out)
        have K5 : Hid (Blk w5 ws #[.int .i64 d.room, .int .i64 d.next, .slice A1 N1 c1, .slice A2 N2 c2, .slice (some ⟨g, off, none⟩) N3 c3] 28) := KYH.out.on HB5.out WZH.out
        clear KZ5 O5
        go_wp2_with fail
        refine cA.mono ?_
        rintro e w6 ⟨ha, hb6⟩
        have B6 : Hid (Below ws w w6) := B5.out.trans (hb6.mono (Nat.le_of_lt K5.out.lt))
        have K6 : Hid (Blk w6 ws #[.int .i64 d.room, .int .i64 d.next, .slice A1 N1 c1, .slice A2 N2 c2, .slice (some ⟨g, off, none⟩) N3 c3] 28) := K5.out.on hb6 K5.out.lt
        have S6 : Hid (ws + 1 ≤ w5.heap.size) := K5.out.lt
        rcases hap : apply Lk ⟨mk, mn, mt, mi⟩ with _ | r
        ·rw [hap] at ha
         subst ha
         have gf : Hid (movGood d k = false) := by unfold Hid; rw [HGE.out, hap]; simp
         clear cA hb6 hap
         go_wp2_with fail
         go_ret
         exact ⟨by rw [HBD.out gf.out]; rfl, hws ▸ B6.out⟩
        ·rw [hap] at ha
         obtain ⟨u, rfl, hO6⟩ := ha
         have gf : Hid (movGood d k = true) := by unfold Hid; rw [gl.out, hap]; rfl
         have O6 : Hid (Owns w6 (ws + 1) 49 2 u (lnkR (names d.dir (d.movs.take (k + 1))))) := by
          unfold Hid
          rw [HNA.out, hap]
          exact hO6.mono S6.out
         clear cA hb6 hap hO6
         go_wp2_with fail
         go_roundw
         case rel => exact ⟨k + 1, by omega, by go_num, HGD.out gf.out, O6.out, K6.out, B6.out⟩
         case measure => simp [intOf]; omega
      ·have HY : Hid (diskOk d = true) := diskOk_yes ((sizeOk_iff d).2 HR.out) (fun j hj => HG1.out j (by omega)) (fun j hj => HG2.out j (by omega)) (fun j hj => HG.out j (by omega))
       have t1 : decide ((k : Int) < (N3 : Int)) = false := decide_eq_false (by omega)
       go_wp2_with fail
       go_ret
       exact ⟨by rw [HY.out]; rfl, hws ▸ HBB.out⟩
theorem specOkV (d : Dsk) (v : Value) (w : World) (B : Nat) (hv : DiskV w B v d) (hf : Fits d) (hw : wtD d ≤ 1048576) (hB : B ≤ w.heap.size) :
  Calls Tryz.prog 19 #[v] w fun e w' => e = .returned (.bool (diskOk d)) ∧ Below w.heap.size w w' := by
 by_cases hR : Right d
 ·exact okBody d v w B hv hB hf hR
 ·have h1 : bytesOf d.nods ≤ wtN d.nods := by
   generalize d.nods = l
   induction l with
   | nil => exact Nat.le_refl _
   | cons x r ih =>
    unfold bytesOf wtN wtN1
    omega
  exact okHead d v w B hv (by unfold wtD at hw; omega) (by unfold wtD at hw; omega) (by unfold wtD at hw; omega) (by unfold wtD at hw; omega) hB hR
end Go.Proofs.YtgjilgecklhglaaGreat
namespace Go.Proofs.YtgjilgecklhglaaGreat
open Go.ChangeShapes Go.WideShapes Go.ChangeAt Go.RowKit Go.PlainAid
set_option linter.unusedVariables false
set_option maxRecDepth 20000 in
set_option maxHeartbeats 2000000 in
theorem copyV (d : Dsk) (v : Value) (w : World) (B : Nat) (hv : DiskV w B v d) (l1 : d.nods.length ≤ 1048576) (l2 : d.dir.length ≤ 1048576) (l3 : d.movs.length ≤ 1048576) (hB : B ≤ w.heap.size) :
  Calls Tryz.prog 31 #[v] w fun e w' => ∃ u, e = .returned u ∧ DiskO w' w.heap.size u d ∧ Below w.heap.size w w' := by
 obtain ⟨v1, v2, v3, rfl, hn, hl, hm⟩ := hv
 have HB : Hid (B ≤ w.heap.size) := hB
 have HN : Hid (Lies w B 3 v1 (nodR d.nods)) := hn
 have HL : Hid (Lies w B 2 v2 (lnkR d.dir)) := hl
 have HM : Hid (Lies w B 4 v3 (movR d.movs)) := hm
 have L1 : Hid (d.nods.length ≤ 1048576) := l1
 have L2 : Hid (d.dir.length ≤ 1048576) := l2
 have L3 : Hid (d.movs.length ≤ 1048576) := l3
 clear hn hl hm hB l1 l2 l3
 go_enter Tryz.func31, Tryz.ntmps31
 go_wp2_with (at_builtin; refine Shut.out ?_)
 have hb0 := below_alloc2' w (.cells #[.int .i64 d.room, .int .i64 d.next, v1, v2, v3] 28) (.cells #[.int .i64 0, .int .i64 0, .slice none 0 0, .slice none 0 0, .slice none 0 0] 28)
 have bA := (Blk.new w #[.int .i64 d.room, .int .i64 d.next, v1, v2, v3] 28).alloc (.cells #[.int .i64 0, .int .i64 0, .slice none 0 0, .slice none 0 0, .slice none 0 0] 28)
 have bR := Blk.new (w.alloc (.cells #[.int .i64 d.room, .int .i64 d.next, v1, v2, v3] 28)) #[.int .i64 0, .int .i64 0, .slice none 0 0, .slice none 0 0, .slice none 0 0] 28
 have hsz : ((w.alloc (.cells #[.int .i64 d.room, .int .i64 d.next, v1, v2, v3] 28)).alloc (.cells #[.int .i64 0, .int .i64 0, .slice none 0 0, .slice none 0 0, .slice none 0 0] 28)).heap.size = w.heap.size + 1 + 1 := by simp
 simp only [World.size_alloc] at bR
 generalize (w.alloc (.cells #[.int .i64 d.room, .int .i64 d.next, v1, v2, v3] 28)).alloc (.cells #[.int .i64 0, .int .i64 0, .slice none 0 0, .slice none 0 0, .slice none 0 0] 28) = W at *
 have B0 : Hid (Below w.heap.size w W) := hb0
 have KA0 : Hid (Blk W w.heap.size #[.int .i64 d.room, .int .i64 d.next, v1, v2, v3] 28) := bA
 have KR0 : Hid (Blk W (w.heap.size + 1) #[.int .i64 0, .int .i64 0, .slice none 0 0, .slice none 0 0, .slice none 0 0] 28) := bR
 have Z0 : Hid (w.heap.size + 1 + 1 ≤ W.heap.size) := by unfold Hid; omega
 clear hb0 bA bR
 unfold Shut
 have hE := Owns.empty W (w.heap.size + 1 + 1) 47 3 Z0.out
 rw [hsz] at hE
 have hb := B0.out.alloc B0.out.size (.cells #[] 47)
 have hLs := HN.out.on (hb.mono HB.out)
 have s1 : ([] : List (List Value)).length + (nodR d.nods).length ≤ 2097152 := by rw [nodR_length]; have := L1.out; simp; omega
 have s2 : w.heap.size + 1 + 1 ≤ (W.alloc (.cells #[] 47)).heap.size := by rw [World.size_alloc]; have := Z0.out; omega
 refine wpList_append_all (w := W.alloc (.cells #[] 47)) rfl (.tmp 3) (.tmp 5) 24 47 (.agg #[.int .i64 0, .string ⟨#[]⟩, .int .i64 0]) 3 32 rfl Tryz.underlying24 Tryz.infoNod rfl (by omega) (w.heap.size + 1 + 1) (.slice (some ⟨w.heap.size + 1 + 1, 0, none⟩) 0 0) v1 [] (nodR d.nods) B rfl hE hLs (nod_one d.nods) rfl s1 (by omega) s2 ?_
 intro u1 w1 hO hb1 hk _
 obtain ⟨A1, m1, k1, rfl⟩ := hO.shape
 have O11 : Hid (Owns w1 (w.heap.size + 1 + 1) 47 3 (.slice A1 m1 k1) (nodR d.nods)) := hO
 have hA : Blk w1 w.heap.size #[.int .i64 d.room, .int .i64 d.next, v1, v2, v3] 28 := (KA0.out.alloc _).on hb1 (by omega)
 have hR : Blk w1 (w.heap.size + 1) #[.int .i64 0, .int .i64 0, .slice none 0 0, .slice none 0 0, .slice none 0 0] 28 := (KR0.out.alloc _).on hb1 (by omega)
 have Bx1 : Hid (Below w.heap.size w w1) := hb.trans (hb1.mono (by omega))
 have Kx1 : Hid (Blk w1 w.heap.size #[.int .i64 d.room, .int .i64 d.next, v1, v2, v3] 28) := hA
 have Ky1 : Hid (Blk w1 (w.heap.size + 1) #[.int .i64 0, .int .i64 0, .slice none 0 0, .slice none 0 0, .slice none 0 0] 28) := hR
 have e1 := hA.cell 2 _ rfl
 have f1 := hA.free 2
 have zl := hA.lt
 have zr := hR.lt
 have e2 := ((hA.set 2 (.slice A1 m1 k1)).alloc (.cells #[] 49)).cell 3 v2 rfl
 clear hA hR hE hb hLs s1 s2 hO hb1 hk
 go_wp2_with (at_builtin; refine Shut.out ?_)
 have B1 : Hid (Below w.heap.size w (w1.setCell ⟨w.heap.size, 2, none⟩ (.slice A1 m1 k1))) := Bx1.out.setCell (Nat.le_refl _) _
 have KA1 : Hid (Blk (w1.setCell ⟨w.heap.size, 2, none⟩ (.slice A1 m1 k1)) w.heap.size #[.int .i64 d.room, .int .i64 d.next, .slice A1 m1 k1, v2, v3] 28) := Kx1.out.set 2 _
 have KR1 : Hid (Blk (w1.setCell ⟨w.heap.size, 2, none⟩ (.slice A1 m1 k1)) (w.heap.size + 1) #[.int .i64 0, .int .i64 0, .slice none 0 0, .slice none 0 0, .slice none 0 0] 28) := Ky1.out.other (by omega) _ _
 have P11 : Hid (Owns (w1.setCell ⟨w.heap.size, 2, none⟩ (.slice A1 m1 k1)) (w.heap.size + 1 + 1) 47 3 (.slice A1 m1 k1) (nodR d.nods)) := O11.out.other (O11.out.below (by omega)) _ _
 have Z1 : Hid (w.heap.size + 1 + 1 ≤ (w1.setCell ⟨w.heap.size, 2, none⟩ (.slice A1 m1 k1)).heap.size) := KR1.out.lt
 have hsz1 : (w1.setCell ⟨w.heap.size, 2, none⟩ (.slice A1 m1 k1)).heap.size = w1.heap.size := by simp
 clear e1 f1 e2 zl zr
 generalize w1.setCell ⟨w.heap.size, 2, none⟩ (.slice A1 m1 k1) = y1 at *
 unfold Shut
 have hE := Owns.empty y1 (w.heap.size + 1 + 1) 49 2 Z1.out
 rw [hsz1] at hE
 have hb := B1.out.alloc B1.out.size (.cells #[] 49)
 have hLs := HL.out.on (hb.mono HB.out)
 have s1 : ([] : List (List Value)).length + (lnkR d.dir).length ≤ 2097152 := by rw [lnkR_length]; have := L2.out; simp; omega
 have s2 : w.heap.size + 1 + 1 ≤ (y1.alloc (.cells #[] 49)).heap.size := by rw [World.size_alloc]; have := Z1.out; omega
 refine wpList_append_all (w := y1.alloc (.cells #[] 49)) rfl (.tmp 8) (.tmp 10) 25 49 (.agg #[.string ⟨#[]⟩, .int .i64 0]) 2 24 rfl Tryz.underlying25 Tryz.infoLnk rfl (by omega) (w.heap.size + 1 + 1) (.slice (some ⟨w1.heap.size, 0, none⟩) 0 0) v2 [] (lnkR d.dir) B rfl hE hLs (lnk_one d.dir) rfl s1 (by omega) s2 ?_
 intro u2 w2 hO hb1 hk _
 obtain ⟨A2, m2, k2, rfl⟩ := hO.shape
 have O22 : Hid (Owns w2 (w.heap.size + 1 + 1) 49 2 (.slice A2 m2 k2) (lnkR d.dir)) := hO
 have hA : Blk w2 w.heap.size #[.int .i64 d.room, .int .i64 d.next, .slice A1 m1 k1, v2, v3] 28 := (KA1.out.alloc _).on hb1 (by omega)
 have hR : Blk w2 (w.heap.size + 1) #[.int .i64 0, .int .i64 0, .slice none 0 0, .slice none 0 0, .slice none 0 0] 28 := (KR1.out.alloc _).on hb1 (by omega)
 have Bx2 : Hid (Below w.heap.size w w2) := hb.trans (hb1.mono (by omega))
 have Kx2 : Hid (Blk w2 w.heap.size #[.int .i64 d.room, .int .i64 d.next, .slice A1 m1 k1, v2, v3] 28) := hA
 have Ky2 : Hid (Blk w2 (w.heap.size + 1) #[.int .i64 0, .int .i64 0, .slice none 0 0, .slice none 0 0, .slice none 0 0] 28) := hR
 have O12 : Hid (Owns w2 (w.heap.size + 1 + 1) 47 3 (.slice A1 m1 k1) (nodR d.nods)) := (P11.out.alloc _).kept fun g hg e => hk g hg fun e2 => by
  have h6 := (P11.out.lt g e).2
  have h7 : w1.heap.size = g := by simpa [Value.ownBlock] using e2
  omega
 have e1 := hA.cell 3 _ rfl
 have f1 := hA.free 3
 have zl := hA.lt
 have zr := hR.lt
 have e2 := ((hA.set 3 (.slice A2 m2 k2)).alloc (.cells #[] 51)).cell 4 v3 rfl
 clear hA hR hE hb hLs s1 s2 hO hb1 hk
 go_wp2_with (at_builtin; refine Shut.out ?_)
 have B2 : Hid (Below w.heap.size w (w2.setCell ⟨w.heap.size, 3, none⟩ (.slice A2 m2 k2))) := Bx2.out.setCell (Nat.le_refl _) _
 have KA2 : Hid (Blk (w2.setCell ⟨w.heap.size, 3, none⟩ (.slice A2 m2 k2)) w.heap.size #[.int .i64 d.room, .int .i64 d.next, .slice A1 m1 k1, .slice A2 m2 k2, v3] 28) := Kx2.out.set 3 _
 have KR2 : Hid (Blk (w2.setCell ⟨w.heap.size, 3, none⟩ (.slice A2 m2 k2)) (w.heap.size + 1) #[.int .i64 0, .int .i64 0, .slice none 0 0, .slice none 0 0, .slice none 0 0] 28) := Ky2.out.other (by omega) _ _
 have P12 : Hid (Owns (w2.setCell ⟨w.heap.size, 3, none⟩ (.slice A2 m2 k2)) (w.heap.size + 1 + 1) 47 3 (.slice A1 m1 k1) (nodR d.nods)) := O12.out.other (O12.out.below (by omega)) _ _
 have P22 : Hid (Owns (w2.setCell ⟨w.heap.size, 3, none⟩ (.slice A2 m2 k2)) (w.heap.size + 1 + 1) 49 2 (.slice A2 m2 k2) (lnkR d.dir)) := O22.out.other (O22.out.below (by omega)) _ _
 have Z2 : Hid (w.heap.size + 1 + 1 ≤ (w2.setCell ⟨w.heap.size, 3, none⟩ (.slice A2 m2 k2)).heap.size) := KR2.out.lt
 have hsz2 : (w2.setCell ⟨w.heap.size, 3, none⟩ (.slice A2 m2 k2)).heap.size = w2.heap.size := by simp
 clear e1 f1 e2 zl zr
 generalize w2.setCell ⟨w.heap.size, 3, none⟩ (.slice A2 m2 k2) = y2 at *
 unfold Shut
 have hE := Owns.empty y2 (w.heap.size + 1 + 1) 51 4 Z2.out
 rw [hsz2] at hE
 have hb := B2.out.alloc B2.out.size (.cells #[] 51)
 have hLs := HM.out.on (hb.mono HB.out)
 have s1 : ([] : List (List Value)).length + (movR d.movs).length ≤ 2097152 := by rw [movR_length]; have := L3.out; simp; omega
 have s2 : w.heap.size + 1 + 1 ≤ (y2.alloc (.cells #[] 51)).heap.size := by rw [World.size_alloc]; have := Z2.out; omega
 refine wpList_append_all (w := y2.alloc (.cells #[] 51)) rfl (.tmp 13) (.tmp 15) 26 51 (.agg #[.int .i64 0, .string ⟨#[]⟩, .string ⟨#[]⟩, .int .i64 0]) 4 48 rfl Tryz.underlying26 Tryz.infoMov rfl (by omega) (w.heap.size + 1 + 1) (.slice (some ⟨w2.heap.size, 0, none⟩) 0 0) v3 [] (movR d.movs) B rfl hE hLs (mov_one d.movs) rfl s1 (by omega) s2 ?_
 intro u3 w3 hO hb1 hk _
 obtain ⟨A3, m3, k3, rfl⟩ := hO.shape
 have O33 : Hid (Owns w3 (w.heap.size + 1 + 1) 51 4 (.slice A3 m3 k3) (movR d.movs)) := hO
 have hA : Blk w3 w.heap.size #[.int .i64 d.room, .int .i64 d.next, .slice A1 m1 k1, .slice A2 m2 k2, v3] 28 := (KA2.out.alloc _).on hb1 (by omega)
 have hR : Blk w3 (w.heap.size + 1) #[.int .i64 0, .int .i64 0, .slice none 0 0, .slice none 0 0, .slice none 0 0] 28 := (KR2.out.alloc _).on hb1 (by omega)
 have Bx3 : Hid (Below w.heap.size w w3) := hb.trans (hb1.mono (by omega))
 have Kx3 : Hid (Blk w3 w.heap.size #[.int .i64 d.room, .int .i64 d.next, .slice A1 m1 k1, .slice A2 m2 k2, v3] 28) := hA
 have Ky3 : Hid (Blk w3 (w.heap.size + 1) #[.int .i64 0, .int .i64 0, .slice none 0 0, .slice none 0 0, .slice none 0 0] 28) := hR
 have O13 : Hid (Owns w3 (w.heap.size + 1 + 1) 47 3 (.slice A1 m1 k1) (nodR d.nods)) := (P12.out.alloc _).kept fun g hg e => hk g hg fun e2 => by
  have h6 := (P12.out.lt g e).2
  have h7 : w2.heap.size = g := by simpa [Value.ownBlock] using e2
  omega
 have O23 : Hid (Owns w3 (w.heap.size + 1 + 1) 49 2 (.slice A2 m2 k2) (lnkR d.dir)) := (P22.out.alloc _).kept fun g hg e => hk g hg fun e2 => by
  have h6 := (P22.out.lt g e).2
  have h7 : w2.heap.size = g := by simpa [Value.ownBlock] using e2
  omega
 have e1 := hA.cell 4 _ rfl
 have f1 := hA.free 4
 have zl := hA.lt
 have zr := hR.lt
 have c0 := hA.cell 0 _ rfl
 have c1 := hA.cell 1 _ rfl
 have c2 := hA.cell 2 _ rfl
 have c3 := hA.cell 3 _ rfl
 have r0 := hR.cell 0 _ rfl
 have r1 := hR.cell 1 _ rfl
 have r2 := hR.cell 2 _ rfl
 have r3 := hR.cell 3 _ rfl
 have r4 := hR.cell 4 _ rfl
 have g0 := hR.free 0
 have g1 := hR.free 1
 have g2 := hR.free 2
 have g3 := hR.free 3
 have g4 := hR.free 4
 clear hA hR hE hb hLs s1 s2 hO hb1 hk
 go_wp2_with fail
 have hF := ((((((Ky3.out.other (show w.heap.size + 1 ≠ w.heap.size by omega) 4 (.slice A3 m3 k3)).set 0 (.int .i64 d.room)).set 1 (.int .i64 d.next)).set 2 (.slice A1 m1 k1)).set 3 (.slice A2 m2 k2)).set 4 (.slice A3 m3 k3))
 have F1 := ((((((O13.out.other (O13.out.below (show w.heap.size < w.heap.size + 1 + 1 by omega)) 4 (.slice A3 m3 k3)).other (O13.out.below (show w.heap.size + 1 < w.heap.size + 1 + 1 by omega)) 0 (.int .i64 d.room)).other (O13.out.below (show w.heap.size + 1 < w.heap.size + 1 + 1 by omega)) 1 (.int .i64 d.next)).other (O13.out.below (show w.heap.size + 1 < w.heap.size + 1 + 1 by omega)) 2 (.slice A1 m1 k1)).other (O13.out.below (show w.heap.size + 1 < w.heap.size + 1 + 1 by omega)) 3 (.slice A2 m2 k2)).other (O13.out.below (show w.heap.size + 1 < w.heap.size + 1 + 1 by omega)) 4 (.slice A3 m3 k3))
 have F2 := ((((((O23.out.other (O23.out.below (show w.heap.size < w.heap.size + 1 + 1 by omega)) 4 (.slice A3 m3 k3)).other (O23.out.below (show w.heap.size + 1 < w.heap.size + 1 + 1 by omega)) 0 (.int .i64 d.room)).other (O23.out.below (show w.heap.size + 1 < w.heap.size + 1 + 1 by omega)) 1 (.int .i64 d.next)).other (O23.out.below (show w.heap.size + 1 < w.heap.size + 1 + 1 by omega)) 2 (.slice A1 m1 k1)).other (O23.out.below (show w.heap.size + 1 < w.heap.size + 1 + 1 by omega)) 3 (.slice A2 m2 k2)).other (O23.out.below (show w.heap.size + 1 < w.heap.size + 1 + 1 by omega)) 4 (.slice A3 m3 k3))
 have F3 := ((((((O33.out.other (O33.out.below (show w.heap.size < w.heap.size + 1 + 1 by omega)) 4 (.slice A3 m3 k3)).other (O33.out.below (show w.heap.size + 1 < w.heap.size + 1 + 1 by omega)) 0 (.int .i64 d.room)).other (O33.out.below (show w.heap.size + 1 < w.heap.size + 1 + 1 by omega)) 1 (.int .i64 d.next)).other (O33.out.below (show w.heap.size + 1 < w.heap.size + 1 + 1 by omega)) 2 (.slice A1 m1 k1)).other (O33.out.below (show w.heap.size + 1 < w.heap.size + 1 + 1 by omega)) 3 (.slice A2 m2 k2)).other (O33.out.below (show w.heap.size + 1 < w.heap.size + 1 + 1 by omega)) 4 (.slice A3 m3 k3))
 have FB := ((((((Bx3.out.setCell (show w.heap.size ≤ w.heap.size by omega) (.slice A3 m3 k3) (p := ⟨_, 4, none⟩)).setCell (show w.heap.size ≤ w.heap.size + 1 by omega) (.int .i64 d.room) (p := ⟨_, 0, none⟩)).setCell (show w.heap.size ≤ w.heap.size + 1 by omega) (.int .i64 d.next) (p := ⟨_, 1, none⟩)).setCell (show w.heap.size ≤ w.heap.size + 1 by omega) (.slice A1 m1 k1) (p := ⟨_, 2, none⟩)).setCell (show w.heap.size ≤ w.heap.size + 1 by omega) (.slice A2 m2 k2) (p := ⟨_, 3, none⟩)).setCell (show w.heap.size ≤ w.heap.size + 1 by omega) (.slice A3 m3 k3) (p := ⟨_, 4, none⟩))
 clear e1 f1 zl zr c0 c1 c2 c3 r0 r1 r2 r3 r4 g0 g1 g2 g3 g4
 generalize ((((((w3.setCell ⟨w.heap.size, 4, none⟩ (.slice A3 m3 k3)).setCell ⟨w.heap.size + 1, 0, none⟩ (.int .i64 d.room)).setCell ⟨w.heap.size + 1, 1, none⟩ (.int .i64 d.next)).setCell ⟨w.heap.size + 1, 2, none⟩ (.slice A1 m1 k1)).setCell ⟨w.heap.size + 1, 3, none⟩ (.slice A2 m2 k2)).setCell ⟨w.heap.size + 1, 4, none⟩ (.slice A3 m3 k3)) = WF at *
 have hG : Blk WF (w.heap.size + 1) #[.int .i64 d.room, .int .i64 d.next, .slice A1 m1 k1, .slice A2 m2 k2, .slice A3 m3 k3] 28 := hF
 have k0 := hG.cell 0 (.int .i64 d.room) rfl
 have k1' := hG.cell 1 (.int .i64 d.next) rfl
 have k2' := hG.cell 2 (.slice A1 m1 k1) rfl
 have k3' := hG.cell 3 (.slice A2 m2 k2) rfl
 have k4' := hG.cell 4 (.slice A3 m3 k3) rfl
 exact bodyPost_ret (v := .agg #[.int .i64 d.room, .int .i64 d.next, .slice A1 m1 k1, .slice A2 m2 k2, .slice A3 m3 k3]) (by simp [results, go_sem, k0, k1', k2', k3', k4']) rfl ⟨_, rfl, ⟨_, _, _, rfl, F1.mono (by omega), F2.mono (by omega), F3.mono (by omega)⟩, FB⟩
end Go.Proofs.YtgjilgecklhglaaGreat
