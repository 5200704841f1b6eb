/- FlIdx -/
import Derived.Test.YtpmgndgkmffcnaaGreatDoorQd19
import Derived.Test.YtpmgndgkmffcnaaGreatDoorQd0
import Derived.Test.YtpmgndgkmffcnaaGreatDoorQd25
import Derived.WalkKit
import Derived.ProofKit
import Derived.OpenShut
import Derived.Below
import Derived.WalkSmall
import Derived.BigQuiet
import Derived.Deep.QuietTactic
import Derived.Deep.RegionWith
import Derived.Handy
open List (setIfInBounds_toArray set_cons_zero set_cons_succ)
namespace Go.Proofs.YtpmgndgkmffcnaaGreatDoor
open Go.ChangeShapes Go.WideShapes Go.ChangeAt Go.RowKit Go.PlainAid
set_option linter.unusedVariables false
set_option maxHeartbeats 4000000 in
theorem readSpotV (s : ByteArray) (p g : Nat) (w : World) (hb : CurB w g s p 154) (hs : s.size ≤ 1048576) (hp : p ≤ s.size) : Calls Tryz.prog 128 #[.pointer (some ⟨g, 0, none⟩)] w fun e w' => e = .returned (vSp (spotA s p)) ∧ CurB w' g s (spotP s p) 154 ∧ KeptBut g w w' := by
 have HB : Hid (CurB w g s p 154) := hb
 have HS : Hid (s.size ≤ 1048576) := hs
 have HP : Hid (p ≤ s.size) := hp
 have HNG : Hid (w.heap.size ≠ g) := by have := Blk.lt hb; unfold Hid; omega
 have HGL : Hid (g < w.heap.size) := Blk.lt hb
 have HL2 : Hid (tkP s p ≤ s.size) := tkP_le _ _ hp
 have HL3 : Hid (spK s p ≤ s.size) := tk_le _ _ _
 have HL4 : Hid (tkP s (spK s p) ≤ s.size) := tkP_le _ _ HL3.out
 have HL5 : Hid (tkP s (tkP s (spK s p)) ≤ s.size) := tkP_le _ _ HL4.out
 have HL6 : Hid (tkP s (tkP s (tkP s (spK s p))) ≤ s.size) := tkP_le _ _ HL5.out
 have HM : Hid (tkN s p ≤ 562949953421311) := rvN_le _
 have HE : vSp (spotA s p) = .agg #[.string (s.extract (tkP s p) (spK s p)), .int .i64 (tkN s (spK s p) : Int), .int .i64 (tkN s (tkP s (spK s p)) : Int), .int .i64 (tkN s (tkP s (tkP s (spK s p))) : Int), .int .i64 (tkN s (tkP s (tkP s (tkP s (spK s p)))) : Int)] := rfl
 have HQ : spotP s p = tkP s (tkP s (tkP s (tkP s (spK s p)))) := rfl
 rw [HE, HQ]
 have c1 := fun wx (hC : CurB wx g s p 154) => takeVarV s p g wx hC hs hp
 have c2 : ∀ wx, CurB wx g s (tkP s p) 154 → Calls Tryz.prog 150 #[.pointer (some ⟨g, 0, none⟩), .int .i64 (tkN s p : Int)] wx fun e w' => e = .returned (.string (s.extract (tkP s p) (spK s p))) ∧ CurB w' g s (spK s p) 154 ∧ KeptBut g wx w' := fun wx hC => takeV s (tkP s p) (tkN s p) g wx hC hs HL2.out HM.out
 have c3 := fun wx (hC : CurB wx g s (spK s p) 154) => takeVarV s (spK s p) g wx hC hs HL3.out
 have c4 := fun wx (hC : CurB wx g s (tkP s (spK s p)) 154) => takeVarV s (tkP s (spK s p)) g wx hC hs HL4.out
 have c5 := fun wx (hC : CurB wx g s (tkP s (tkP s (spK s p))) 154) => takeVarV s (tkP s (tkP s (spK s p))) g wx hC hs HL5.out
 have c6 := fun wx (hC : CurB wx g s (tkP s (tkP s (tkP s (spK s p)))) 154) => takeVarV s (tkP s (tkP s (tkP s (spK s p)))) g wx hC hs HL6.out
 clear HE HQ HL2 HL3 HL4 HL5 HL6 HM
 generalize (tkN s (tkP s (tkP s (tkP s (spK s p)))) : Int) = y4 at *
 generalize (tkN s (tkP s (tkP s (spK s p))) : Int) = y3 at *
 generalize (tkN s (tkP s (spK s p)) : Int) = y2 at *
 generalize (tkN s (spK s p) : Int) = y1 at *
 generalize s.extract (tkP s p) (spK s p) = y0 at *
 generalize tkP s (tkP s (tkP s (tkP s (spK s p)))) = p6 at *
 generalize tkP s (tkP s (tkP s (spK s p))) = p5 at *
 generalize tkP s (tkP s (spK s p)) = p4 at *
 generalize tkP s (spK s p) = p3 at *
 generalize spK s p = p2 at *
 generalize tkP s p = p1 at *
 generalize (tkN s p : Int) = n0 at *
 have C0 : Hid (CurB (w.alloc (.cells #[.string ⟨#[]⟩, .int .i64 0, .int .i64 0, .int .i64 0, .int .i64 0] 116)) g s p 154) := Blk.alloc hb _
 have R0 : Hid (Blk (w.alloc (.cells #[.string ⟨#[]⟩, .int .i64 0, .int .i64 0, .int .i64 0, .int .i64 0] 116)) w.heap.size #[.string ⟨#[]⟩, .int .i64 0, .int .i64 0, .int .i64 0, .int .i64 0] 116) := Blk.new w _ _
 have D0 : Hid (KeptBut g w (w.alloc (.cells #[.string ⟨#[]⟩, .int .i64 0, .int .i64 0, .int .i64 0, .int .i64 0] 116))) := KeptBut.of ((Below.refl _ w).alloc (Nat.le_refl _) _) HGL.out
 clear hb hs hp
 go_enter Tryz.func128, Tryz.ntmps128
 go_wp2_with fail
 refine (c1 _ C0.out).mono ?_
 rintro e X1 ⟨rfl, hC, hk⟩
 have C1 : Hid (CurB X1 g s p1 154) := hC
 have D1 : Hid (KeptBut g w X1) := D0.out.trans hk
 have R1 : Hid (Blk X1 w.heap.size #[.string ⟨#[]⟩, .int .i64 0, .int .i64 0, .int .i64 0, .int .i64 0] 116) := hk.blk R0.out HNG.out
 clear hC hk
 go_wp2_with fail
 refine (c2 _ C1.out).mono ?_
 rintro e X2 ⟨rfl, hC, hk⟩
 have C2 : Hid (CurB X2 g s p2 154) := hC
 have D2 : Hid (KeptBut g w X2) := D1.out.trans hk
 have R2 : Hid (Blk X2 w.heap.size #[.string ⟨#[]⟩, .int .i64 0, .int .i64 0, .int .i64 0, .int .i64 0] 116) := hk.blk R1.out HNG.out
 clear hC hk
 go_wp2_with fail
 refine (c3 _ C2.out).mono ?_
 rintro e X3 ⟨rfl, hC, hk⟩
 have C3 : Hid (CurB X3 g s p3 154) := hC
 have D3 : Hid (KeptBut g w X3) := D2.out.trans hk
 have R3 : Hid (Blk X3 w.heap.size #[.string ⟨#[]⟩, .int .i64 0, .int .i64 0, .int .i64 0, .int .i64 0] 116) := hk.blk R2.out HNG.out
 clear hC hk
 go_wp2_with fail
 refine (c4 _ C3.out).mono ?_
 rintro e X4 ⟨rfl, hC, hk⟩
 have C4 : Hid (CurB X4 g s p4 154) := hC
 have D4 : Hid (KeptBut g w X4) := D3.out.trans hk
 have R4 : Hid (Blk X4 w.heap.size #[.string ⟨#[]⟩, .int .i64 0, .int .i64 0, .int .i64 0, .int .i64 0] 116) := hk.blk R3.out HNG.out
 clear hC hk
 go_wp2_with fail
 refine (c5 _ C4.out).mono ?_
 rintro e X5 ⟨rfl, hC, hk⟩
 have C5 : Hid (CurB X5 g s p5 154) := hC
 have D5 : Hid (KeptBut g w X5) := D4.out.trans hk
 have R5 : Hid (Blk X5 w.heap.size #[.string ⟨#[]⟩, .int .i64 0, .int .i64 0, .int .i64 0, .int .i64 0] 116) := hk.blk R4.out HNG.out
 clear hC hk
 go_wp2_with fail
 refine (c6 _ C5.out).mono ?_
 rintro e X6 ⟨rfl, hC, hk⟩
 have C6 : Hid (CurB X6 g s p6 154) := hC
 have D6 : Hid (KeptBut g w X6) := D5.out.trans hk
 have R6 : Hid (Blk X6 w.heap.size #[.string ⟨#[]⟩, .int .i64 0, .int .i64 0, .int .i64 0, .int .i64 0] 116) := hk.blk R5.out HNG.out
 clear hC hk
 clear c1 c2 c3 c4 c5 c6
 have p0 := R6.out
 have g0 : X6.cell? ⟨w.heap.size, 0, none⟩ = some (.string ⟨#[]⟩) := p0.cell 0 _ rfl
 have h0 := p0.free 0
 have g1 : X6.cell? ⟨w.heap.size, 1, none⟩ = some (.int .i64 0) := p0.cell 1 _ rfl
 have h1 := p0.free 1
 have g2 : X6.cell? ⟨w.heap.size, 2, none⟩ = some (.int .i64 0) := p0.cell 2 _ rfl
 have h2 := p0.free 2
 have g3 : X6.cell? ⟨w.heap.size, 3, none⟩ = some (.int .i64 0) := p0.cell 3 _ rfl
 have h3 := p0.free 3
 have g4 : X6.cell? ⟨w.heap.size, 4, none⟩ = some (.int .i64 0) := p0.cell 4 _ rfl
 have h4 := p0.free 4
 have p1 := p0.set 0 (.string y0)
 have p2 := p1.set 1 (.int .i64 y1)
 have p3 := p2.set 2 (.int .i64 y2)
 have p4 := p3.set 3 (.int .i64 y3)
 have p5 := p4.set 4 (.int .i64 y4)
 generalize hW5 : (((((X6.setCell ⟨w.heap.size, 0, none⟩ (.string y0)).setCell ⟨w.heap.size, 1, none⟩ (.int .i64 y1)).setCell ⟨w.heap.size, 2, none⟩ (.int .i64 y2)).setCell ⟨w.heap.size, 3, none⟩ (.int .i64 y3)).setCell ⟨w.heap.size, 4, none⟩ (.int .i64 y4)) = W5 at p5
 have P5 : Hid (Blk W5 w.heap.size #[.string y0, .int .i64 y1, .int .i64 y2, .int .i64 y3, .int .i64 y4] 116) := p5
 have PE : Hid (CurB W5 g s p6 154) := by
  rw [← hW5]
  exact ((((Blk.other C6.out (Ne.symm HNG.out) _ _).other (Ne.symm HNG.out) _ _).other (Ne.symm HNG.out) _ _).other (Ne.symm HNG.out) _ _).other (Ne.symm HNG.out) _ _
 have KE : Hid (KeptBut g w W5) := by
  rw [← hW5]
  have hk : w.heap.size ≤ w.heap.size := Nat.le_refl _
  have hg : g ≤ w.heap.size := by have := HGL.out; omega
  exact ((((D6.out.setNew hk hg _ _).setNew hk hg _ _).setNew hk hg _ _).setNew hk hg _ _).setNew hk hg _ _
 clear p0 p1 p2 p3 p4 p5
 have k0 := P5.out.cell 0 (.string y0) rfl
 have k1 := P5.out.cell 1 (.int .i64 y1) rfl
 have k2 := P5.out.cell 2 (.int .i64 y2) rfl
 have k3 := P5.out.cell 3 (.int .i64 y3) rfl
 have k4 := P5.out.cell 4 (.int .i64 y4) rfl
 go_wp2_with fail
 exact bodyPost_ret (v := .agg #[.string y0, .int .i64 y1, .int .i64 y2, .int .i64 y3, .int .i64 y4]) (by simp [results, go_sem, k0, k1, k2, k3, k4]) rfl ⟨rfl, PE.out, KE.out⟩
set_option maxHeartbeats 4000000 in
theorem readBlockV (s : ByteArray) (p g : Nat) (x : Spot) (w w0 : World) (hb : CurB w g s p 154) (hs : s.size ≤ 1048576) (hx : x.at' ≤ 562949953421311 ∧ x.size ≤ 562949953421311) (hw : Below w0.heap.size w0 w) (hg : w0.heap.size ≤ g) (hst : SumTab w0) (a0 a1 a2 : Addr) (he : Errs w0 a0 a1 a2) : Calls Tryz.prog 126 #[.pointer (some ⟨g, 0, none⟩), vSp x] w fun e w' => (∃ u, e = .returned u ∧ Owns w' w.heap.size 56 2 u (ptR (rbP (blkA s x)))) ∧ (∃ p', CurB w' g s p' 154) ∧ KeptBut g w w' := by
 have HS : Hid (s.size ≤ 1048576) := hs
 have HW : Hid (Below w0.heap.size w0 w) := hw
 have HG : Hid (w0.heap.size ≤ g) := hg
 have ST : Hid (SumTab w0) := hst
 have ER : Hid (Errs w0 a0 a1 a2) := he
 have HNG : Hid (w.heap.size ≠ g) := by have := Blk.lt hb; unfold Hid; omega
 have HGL : Hid (g < w.heap.size) := Blk.lt hb
 have HBA : Hid (s.extract (min x.at' s.size) (tk s (min x.at' s.size) x.size) = blkA s x) := rfl
 unfold vSp
 obtain ⟨xk, xa, xz, xf, xl⟩ := x
 simp only at hx HBA ⊢
 have C0 : Hid (CurB (w.alloc (.cells #[.string xk, .int .i64 (xa : Int), .int .i64 (xz : Int), .int .i64 (xf : Int), .int .i64 (xl : Int)] 116)).drew g s p 154) := Blk.alloc hb _
 have R0 : Hid (Blk (w.alloc (.cells #[.string xk, .int .i64 (xa : Int), .int .i64 (xz : Int), .int .i64 (xf : Int), .int .i64 (xl : Int)] 116)).drew w.heap.size #[.string xk, .int .i64 (xa : Int), .int .i64 (xz : Int), .int .i64 (xf : Int), .int .i64 (xl : Int)] 116) := Blk.new w _ _
 have D0 : Hid (KeptBut g w (w.alloc (.cells #[.string xk, .int .i64 (xa : Int), .int .i64 (xz : Int), .int .i64 (xf : Int), .int .i64 (xl : Int)] 116)).drew) := (KeptBut.of ((Below.refl _ w).alloc (Nat.le_refl _) _) HGL.out).drew
 have cg := goToV s p xa (w.alloc (.cells #[.string xk, .int .i64 (xa : Int), .int .i64 (xz : Int), .int .i64 (xf : Int), .int .i64 (xl : Int)] 116)).drew g 154 C0.out hs (by omega)
 have HZ : Hid (xz ≤ 562949953421311) := hx.2
 have S0 : Hid ((w.alloc (.cells #[.string xk, .int .i64 (xa : Int), .int .i64 (xz : Int), .int .i64 (xf : Int), .int .i64 (xl : Int)] 116)).drew.cell? ⟨w.heap.size, 1, none⟩ = some (.int .i64 (xa : Int))) := R0.out.cell 1 _ rfl
 have HPm : Hid (min xa s.size ≤ s.size) := Nat.min_le_right _ _
 clear hb hs hx hw hg hst he
 generalize hq : min xa s.size = q at *
 clear hq
 go_enter Tryz.func126, Tryz.ntmps126
 go_wp2_with fail
 refine wp_region_until (fun w' => w'.cell? ⟨w.heap.size, 1, none⟩ = some (.int .i64 (xa : Int))) (fun _ => false) 6 (by rfl) (by kernel_rfl) ?_
 refine until_take 0 (v := ?_) (by rfl) (by kernel_rfl) (by exact fun _ _ _ h => h) (by rfl) ?_ S0.out ?_
 rotate_left
 ·intro w hSw
  try dsimp only at hSw
  go_simp
  try with_reducible rfl
 try simp only [Act.put, setIfInBounds_toArray, set_cons_zero, set_cons_succ]
 refine until_take 1 (v := ?_) (by rfl) (by kernel_rfl) (by exact fun _ _ _ h => h) (by rfl) ?_ S0.out ?_
 rotate_left
 ·intro w hSw
  try dsimp only at hSw
  go_simp
  try with_reducible rfl
 try simp only [Act.put, setIfInBounds_toArray, set_cons_zero, set_cons_succ]
 refine until_take 2 (v := ?_) (by rfl) (by kernel_rfl) (by exact fun _ _ _ h => h) (by rfl) ?_ S0.out ?_
 rotate_left
 ·intro w hSw
  try dsimp only at hSw
  go_simp
  try with_reducible rfl
 try simp only [Act.put, setIfInBounds_toArray, set_cons_zero, set_cons_succ]
 refine until_take 3 (v := ?_) (by rfl) (by kernel_rfl) (by exact fun _ _ _ h => h) (by rfl) ?_ S0.out ?_
 rotate_left
 ·intro w hSw
  try dsimp only at hSw
  go_simp
  try with_reducible rfl
 try simp only [Act.put, setIfInBounds_toArray, set_cons_zero, set_cons_succ]
 refine until_take 4 (v := ?_) (by rfl) (by kernel_rfl) (by exact fun _ _ _ h => h) (by rfl) ?_ S0.out ?_
 rotate_left
 ·intro w hSw
  try dsimp only at hSw
  go_simp
  try with_reducible rfl
 try simp only [Act.put, setIfInBounds_toArray, set_cons_zero, set_cons_succ]
 refine until_one 5 (by rfl) (by kernel_rfl) (fun K hK => ?_)
 go_simp
 refine cg.mono ?_
 rintro e X1 ⟨⟨u, rfl⟩, hX⟩
 have C1 : Hid (CurB X1 g s q 154) := by rw [hX]; exact Blk.set C0.out 1 _
 have R1 : Hid (Blk X1 w.heap.size #[.string xk, .int .i64 (xa : Int), .int .i64 (xz : Int), .int .i64 (xf : Int), .int .i64 (xl : Int)] 116) := by rw [hX]; exact Blk.other R0.out HNG.out _ _
 have D1 : Hid (KeptBut g w X1) := by rw [hX]; exact D0.out.set 1 _
 clear hX
 go_wp2_with fail
 refine hK.out _ _ (fun _ _ => R1.out.cell 1 _ rfl) ?_
 clear hK K
 try simp only [Act.put, setIfInBounds_toArray, set_cons_zero, set_cons_succ]
 refine until_done (by kernel_rfl) ?_ _
 have m2 := R1.out.cell 2 (.int .i64 (xz : Int)) rfl
 go_wp2_with fail
 refine (takeV s q xz g X1 C1.out HS.out HPm.out HZ.out).mono ?_
 rintro e X2 ⟨rfl, hC, hk⟩
 rw [HBA.out]
 have C2 : Hid (CurB X2 g s (tk s q xz) 154) := hC
 have D2 : Hid (KeptBut g w X2) := D1.out.trans hk
 clear hC hk m2
 have B2 : Hid (Below w0.heap.size w0 X2) := HW.out.trans (D2.out.1.mono HG.out)
 have HBs : Hid ((blkA s ⟨xk, xa, xz, xf, xl⟩).size ≤ 1048576) := by unfold Hid blkA; rw [ByteArray.size_extract]; have := HS.out; omega
 go_wp2_with fail
 refine (implReadBlock (blkA s ⟨xk, xa, xz, xf, xl⟩) X2 HBs.out (ST.out.on B2.out) a0 a1 a2 (ER.out.on B2.out)).mono ?_
 rintro e X3 ⟨⟨u3, l3, ok3, hR, rfl, hO⟩, hb3⟩
 obtain rfl := rbP_is hR
 have C3 : Hid (CurB X3 g s (tk s q xz) 154) := Blk.on C2.out hb3 (Blk.lt C2.out)
 have D3 : Hid (KeptBut g w X3) := D2.out.trans (KeptBut.of hb3 (Blk.lt C2.out))
 have O3 : Hid (Owns X3 w.heap.size 56 2 u3 (ptR (rbP (blkA s ⟨xk, xa, xz, xf, xl⟩)))) := hO.mono D2.out.size
 clear hb3 hO hR
 go_wp2_with fail
 go_ret
 exact ⟨⟨_, rfl, O3.out⟩, ⟨_, C3.out⟩, D3.out⟩
def left5 (v : Value) : Nat := match v with
 | .slice _ m _ => 5 - m
 | _ => 0
set_option maxHeartbeats 4000000 in
theorem readIndexV (s : ByteArray) (p0 g : Nat) (w : World) (hb : CurB w g s p0 154) (hs : s.size ≤ 1048576) : Calls Tryz.prog 110 #[.pointer (some ⟨g, 0, none⟩)] w fun e w' => (∃ u, e = .returned u ∧ Owns w' w.heap.size 116 5 u (spR (spots s))) ∧ (∃ p', CurB w' g s p' 154) ∧ KeptBut g w w' := by
 have HB : Hid (CurB w g s p0 154) := hb
 have HS : Hid (s.size ≤ 1048576) := hs
 have HGL : Hid (g < w.heap.size) := Blk.lt hb
 have m0 : w.cell? ⟨g, 0, none⟩ = some (.string s) := Blk.cell hb 0 _ rfl
 have q0 : (s.size : Int) ≤ 1048576 := by omega
 clear hb
 by_cases h8 : s.size < 8
 ·have HE : Hid (spots s = []) := by unfold Hid spots; rw [if_pos h8]
  have q1 : (s.size : Int) < 8 := by omega
  have d1 : (s.size : Int) - 8 < 0 := by omega
  clear hs h8
  go_enter Tryz.func110, Tryz.ntmps110
  go_wp2_with fail
  go_ret
  exact ⟨⟨_, rfl, by rw [HE.out]; exact Owns.nil _ _ _ _⟩, ⟨_, HB.out⟩, KeptBut.refl _ _⟩
 have HE : Hid (spots s = idxA s (s.size - 8) 5 (min (rdv (rest s (s.size - 8)) 4) s.size)) := by unfold Hid spots; rw [if_neg h8]
 have q1 : (8 : Int) ≤ (s.size : Int) := by omega
 have d1 : decide ((s.size : Int) - 8 < 0) = false := decide_eq_false (by omega)
 have e2 : ((s.size : Int) - 8).toNat = s.size - 8 := by omega
 have HRs : Hid ((s.extract (s.size - 8) s.size).size = 8) := by unfold Hid; rw [ByteArray.size_extract]; omega
 have c1 := fun wx => impl_readFixed (s.extract (s.size - 8) s.size) 4 wx (by rw [HRs.out]; unfold maxLen; omega) (by omega) (by omega) (by rw [HRs.out]; omega)
 have hlt := rdv_four_lt (s.extract (s.size - 8) s.size)
 have HRb : Hid (rdv (s.extract (s.size - 8) s.size) 4 = rdv (rest s (s.size - 8)) 4) := rfl
 clear hs h8
 have cg := goToV s p0 (rdv (s.extract (s.size - 8) s.size) 4) w g 154 HB.out HS.out (by omega)
 rw [← HRb.out] at HE
 have HP0 : Hid (min (rdv (s.extract (s.size - 8) s.size) 4) s.size ≤ s.size) := Nat.min_le_right _ _
 have HSP : Hid (spots s = idxA s (s.size - 8) 5 (min (rdv (s.extract (s.size - 8) s.size) 4) s.size)) := HE.out
 clear HE
 generalize min (rdv (s.extract (s.size - 8) s.size) 4) s.size = pb at *
 generalize rdv (s.extract (s.size - 8) s.size) 4 = rd at *
 have C1 : Hid (CurB (w.setCell ⟨g, 1, none⟩ (.int .i64 (pb : Int))) g s pb 154) := Blk.set HB.out 1 _
 have D1 : Hid (KeptBut g w (w.setCell ⟨g, 1, none⟩ (.int .i64 (pb : Int)))) := (KeptBut.refl g w).set 1 _
 go_enter Tryz.func110, Tryz.ntmps110
 go_wp2_with fail
 refine (c1 _).mono ?_
 rintro e w' ⟨rfl, rfl⟩
 go_wp2_with fail
 refine cg.mono ?_
 rintro e X1 ⟨⟨u, rfl⟩, rfl⟩
 go_wp2_with fail
 clear c1 cg m0 hlt
 go_loopw [6] (fun v6 wr => ∃ (P : List Spot) (p : Nat), P.length ≤ 5 ∧ p ≤ s.size ∧ Owns wr w.heap.size 116 5 v6 (spR P) ∧ CurB wr g s p 154 ∧ KeptBut g w wr ∧ Hid (P ++ idxA s (s.size - 8) (5 - P.length) p = spots s)) (fun v _ => left5 v)
 case atStart => exact ⟨[], pb, by simp, HP0.out, Owns.nil _ _ _ _, C1.out, D1.out, HSP.out.symm⟩
 case round =>
  obtain ⟨P, p, hP, hp, hO, hC, hk, HX⟩ := hrel
  have HO : Hid (Owns wr w.heap.size 116 5 u6 (spR P)) := hO
  have HC : Hid (CurB wr g s p 154) := hC
  have HKB : Hid (KeptBut g w wr) := hk
  have HPs : Hid (p ≤ s.size) := hp
  obtain ⟨A6, c6, e6, _⟩ := sp_look hO.lies
  subst e6
  have m1 : wr.cell? ⟨g, 1, none⟩ = some (.int .i64 (p : Int)) := Blk.cell hC 1 _ rfl
  clear hO hC hk hp
  generalize hm : P.length = m at *
  have HMm : Hid (P.length = m) := hm
  clear hm
  by_cases hpe : p < s.size - 8
  ·have q5 : (p : Int) < (s.size : Int) - 8 := by omega
   by_cases hm5 : m < 5
   ·have q6 : (m : Int) < 5 := by omega
    have q7 : decide ((m : Int) < 5) = true := decide_eq_true q6
    have cr := readSpotV s p g wr HC.out HS.out HPs.out
    have HX2 : Hid ((P ++ [spotA s p]) ++ idxA s (s.size - 8) (5 - (P ++ [spotA s p]).length) (spotP s p) = spots s) := by
     unfold Hid
     rw [← HX.out]
     have e5 : 5 - m = (5 - (m + 1)) + 1 := by omega
     rw [e5, idxA, if_pos hpe, List.length_append, HMm.out, List.append_assoc]
     rfl
    have HPl : Hid (spotP s p ≤ s.size) := spotP_le _ _
    have hLn : (P ++ [spotA s p]).length = m + 1 := by rw [List.length_append, HMm.out]; rfl
    have HLn : Hid ((P ++ [spotA s p]).length = m + 1) := hLn
    have HRw : Hid (spR (P ++ [spotA s p]) = spR P ++ [spC (spotA s p)]) := spR_append _ _
    unfold vSp at cr
    generalize spotA s p = x at *
    generalize spotP s p = p' at *
    clear hLn
    go_wp2_with fail
    refine (placeV wr g p m1).mono ?_
    rintro e w' ⟨rfl, rfl⟩
    clear m1
    go_wp2_with fail
    refine cr.mono ?_
    rintro e X2 ⟨rfl, hC2, hk2⟩
    have hOn : (Value.slice A6 m c6).ownBlock ≠ some g := fun e => by have := (HO.out.lt g e).1; have := HGL.out; omega
    have C2 : Hid (CurB X2 g s p' 154) := hC2
    have D2 : Hid (KeptBut g w X2) := HKB.out.trans hk2
    have O2 : Hid (Owns X2 w.heap.size 116 5 (.slice A6 m c6) (spR P)) := hk2.owns HO.out hOn
    have HOn : Hid ((Value.slice A6 m c6).ownBlock ≠ some g) := hOn
    have Z2 : w.heap.size ≤ X2.heap.size := D2.out.size
    have L2 : Hid ((spR P).length ≤ 2097152) := by unfold Hid; rw [spR_length, HMm.out]; omega
    clear hC2 hk2 cr hOn
    go_wp2_with (at_builtin; refine wpList_append_row (w := X2) rfl (.tmp 43) (.tmp 46) 102 116 (.agg #[.string ⟨#[]⟩, .int .i64 0, .int .i64 0, .int .i64 0, .int .i64 0]) 5 48 rfl Tryz.underlying102 Tryz.infoSp rfl (by omega) w.heap.size (.slice A6 m c6) (spR P) rfl O2.out (spC x) rfl (sp_one _) rfl L2.out (by omega) Z2 ?_; intro v2 w4 hO4 hb4 hk4 hw4; refine Shut.out ?_)
    unfold Shut
    have O4 : Hid (Owns w4 w.heap.size 116 5 v2 (spR (P ++ [x]))) := by unfold Hid; rw [HRw.out]; exact hO4
    have C4 : Hid (CurB w4 g s p' 154) := (hk4 g (Blk.lt C2.out) HOn.out).trans C2.out
    have D4 : Hid (KeptBut g w w4) := ⟨D2.out.1.trans (hb4.mono (by have := HGL.out; omega)), fun b hb hl => by
     rw [hk4 b (Nat.lt_of_lt_of_le hl D2.out.size) (fun e => by have := (O2.out.lt b e).1; omega)]
     exact D2.out.2 b hb hl⟩
    obtain ⟨A7, c7, e7, _⟩ := sp_look O4.out.lies
    rw [HLn.out] at e7
    subst e7
    clear hO4 hb4 hk4 hw4
    go_wp2_with fail
    go_roundw
    case rel => exact ⟨P ++ [x], p', by rw [HLn.out]; omega, HPl.out, O4.out, C4.out, D4.out, HX2.out⟩
    case measure => simp [left5]; omega
   ·have q6 : ¬ (m : Int) < 5 := by omega
    have q7 : decide ((m : Int) < 5) = false := decide_eq_false q6
    have HF : Hid (P = spots s) := by
     unfold Hid
     rw [← HX.out, show 5 - m = 0 by omega, idxA, List.append_nil]
    go_wp2_with fail
    refine (placeV wr g p m1).mono ?_
    rintro e w' ⟨rfl, rfl⟩
    go_wp2_with fail
    go_ret
    exact ⟨⟨_, rfl, by rw [← HF.out]; exact HO.out⟩, ⟨_, HC.out⟩, HKB.out⟩
  ·have q5 : ¬ (p : Int) < (s.size : Int) - 8 := by omega
   have q7 : decide ((p : Int) < (s.size : Int) - 8) = false := decide_eq_false q5
   have HF : Hid (P = spots s) := by
    unfold Hid
    rw [← HX.out]
    generalize 5 - m = f
    cases f with
    | zero => rw [idxA, List.append_nil]
    | succ f => rw [idxA, if_neg hpe, List.append_nil]
   go_wp2_with fail
   refine (placeV wr g p m1).mono ?_
   rintro e w' ⟨rfl, rfl⟩
   go_wp2_with fail
   go_ret
   exact ⟨⟨_, rfl, by rw [← HF.out]; exact HO.out⟩, ⟨_, HC.out⟩, HKB.out⟩
set_option maxHeartbeats 1000000 in
theorem readerOfV (s : ByteArray) (w : World) : Calls Tryz.prog 109 #[.string s] w fun e w' => e = .returned (.pointer (some ⟨w.heap.size, 0, none⟩)) ∧ w' = w.alloc (.cells #[.string s, .int .i64 0] 154) := by
 go_enter Tryz.func109, Tryz.ntmps109
 go_wp2
 go_ret
 exact ⟨rfl, rfl⟩
end Go.Proofs.YtpmgndgkmffcnaaGreatDoor
