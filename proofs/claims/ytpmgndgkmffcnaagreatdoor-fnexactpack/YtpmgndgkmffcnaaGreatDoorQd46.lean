/- EgI9 -/
import Derived.Test.YtpmgndgkmffcnaaGreatDoorQd42
import Derived.Test.YtpmgndgkmffcnaaGreatDoorQd9
import Derived.WalkKit
import Derived.ProofKit
import Derived.OpenShut
import Derived.Below
import Derived.WalkSmall
import Derived.BigQuiet
import Derived.Deep.QuietTactic
import Derived.Deep.RegionWith
import Derived.Handy
import Derived.Test.YtpmgndgkmffcnaaGreatDoorQd43
import Derived.Test.YtpmgndgkmffcnaaGreatDoorQd45
import Derived.Test.YtpmgndgkmffcnaaGreatDoorQd29
namespace Go.Proofs.YtpmgndgkmffcnaaGreatDoor
open Go.ChangeShapes Go.WideShapes Go.ChangeAt Go.RowKit Go.PlainAid
set_option linter.unusedVariables false
theorem Strs.one (w : World) (base : Nat) (s : ByteArray) (hb : base ≤ w.heap.size) : Strs (w.alloc (.cells #[.string s] 9)) base (.slice (some ⟨w.heap.size, 0, none⟩) 1 1) [s] :=
 owns_strs ⟨fun r hr => by simp [stR, stC] at hr; rw [hr]; rfl, World.ownsRow_lit w #[.string s] 1 hb (by unfold maxLen; omega) (by simp)⟩
set_option maxRecDepth 100000 in
set_option maxHeartbeats 4000000 in
theorem implPacked (f : Int) (l : List Ser) (v : Value) (w : World) (B : Nat) (hv : SerV w B v l) (hn : SShort l) (hk : ∀ x ∈ l, x.key.size ≤ maxLen) (hB : B ≤ w.heap.size) (hst : SumTab w) :
  Calls Tryz.prog 59 #[.int .i64 f, v] w fun b w' => (∃ u, b = .returned u ∧ EngO w' w.heap.size u (packA f l)) ∧ Below w.heap.size w w' := by
 obtain ⟨A, c, rfl, _⟩ := hv.look
 obtain ⟨X0, hX0⟩ : ∃ X0, X0 = (w.alloc (.cells #[.int .i64 0, .slice none 0 0, .slice none 0 0] 30)).alloc (.cells #[.int .i64 f, .slice none 0 0, .slice none 0 0] 30) := ⟨_, rfl⟩
 have BX : Hid (Below w.heap.size w X0) := by unfold Hid; rw [hX0]; exact below_alloc2 _ _ _
 have KR : Hid (Blk X0 w.heap.size #[.int .i64 0, .slice none 0 0, .slice none 0 0] 30) := by unfold Hid; rw [hX0]; exact (Blk.new w _ _).alloc _
 have KP : Hid (Blk X0 (w.heap.size + 1) #[.int .i64 f, .slice none 0 0, .slice none 0 0] 30) := by
  unfold Hid
  rw [hX0]
  have := Blk.new (w.alloc (.cells #[.int .i64 0, .slice none 0 0, .slice none 0 0] 30)) #[.int .i64 f, .slice none 0 0, .slice none 0 0] 30
  rw [World.size_alloc] at this
  exact this
 have k0 : _ = some (Value.int .i64 f) := KP.out.cell 0 _ rfl
 have k1 : _ = some (Value.slice none 0 0) := KP.out.cell 1 _ rfl
 have k2 : _ = some (Value.slice none 0 0) := KP.out.cell 2 _ rfl
 by_cases h0 : l = []
 ·have HE : Hid (packA f l = ⟨f, [], []⟩) := by unfold Hid packA; rw [if_pos h0]
  have hl0 : l.length = 0 := by rw [h0]; rfl
  clear h0
  have SF : Hid (∀ (a b : Obj), EngO ((w.alloc a).alloc b) w.heap.size (.agg #[.int .i64 f, .slice none 0 0, .slice none 0 0]) (packA f l) ∧ Below w.heap.size w ((w.alloc a).alloc b)) := fun a b => by
   rw [HE.out]
   exact ⟨⟨_, _, [], rfl, rfl, SerO.nilE _ _, owns_strs (Owns.nil _ _ _ _)⟩, below_alloc2 _ _ _⟩
  rw [hX0] at k0 k1 k2
  clear hX0 KR KP BX hv hn hk hB hst
  generalize l.length = n at *
  subst hl0
  go_enter Tryz.func59, Tryz.ntmps59
  go_wp2_with fail
  exact bodyPost_ret (v := .agg #[.int .i64 f, .slice none 0 0, .slice none 0 0]) (by simp [results, go_sem]) rfl ⟨⟨_, rfl, (SF.out _ _).1⟩, (SF.out _ _).2⟩
 ·have HE : Hid (packA f l = ⟨f, [], [fileT l]⟩) := by unfold Hid packA; rw [if_neg h0]
  have q5 : (0 : Int) < (l.length : Int) := by have := len_pos h0; omega
  have c1 := implFileText l _ X0 B (hv.on (BX.out.mono hB)) hn hk (Nat.le_trans hB BX.out.size) (hst.on BX.out)
  clear h0 hv hn hk hB hst
  generalize fileT l = ft at *
  generalize l.length = n at *
  rw [hX0] at k0 k1 k2
  go_enter Tryz.func59, Tryz.ntmps59
  go_wp2_with fail
  rw [← hX0]
  clear hX0
  refine c1.mono ?_
  rintro b X1 ⟨rfl, hb1⟩
  have B1 : Hid (Below w.heap.size w X1) := BX.out.trans (hb1.mono BX.out.size)
  have KR1 : Hid (Blk X1 w.heap.size #[.int .i64 0, .slice none 0 0, .slice none 0 0] 30) := KR.out.on hb1 KR.out.lt
  have KP1 : Hid (Blk X1 (w.heap.size + 1) #[.int .i64 f, .slice none 0 0, .slice none 0 0] 30) := KP.out.on hb1 KP.out.lt
  clear hb1 c1 k0 k1 k2 KR KP BX
  generalize hP : w.heap.size + 1 = P at *
  have HP : Hid (w.heap.size + 1 = P) := hP
  clear hP
  obtain ⟨X2, hX2⟩ : ∃ X2, X2 = (X1.alloc (.cells #[.string ft] 9)).setCell ⟨P, 2, none⟩ (.slice (some ⟨X1.heap.size, 0, none⟩) 1 1) := ⟨_, rfl⟩
  have hkb : KeptBut P (X1.alloc (.cells #[.string ft] 9)) X2 := by rw [hX2]; exact (KeptBut.refl _ _).set 2 _
  have hKA := KP1.out.alloc (.cells #[.string ft] 9)
  have m2 : _ = some (Value.slice none 0 0) := hKA.cell 2 _ rfl
  have f2 := hKA.free 2
  have KP2 : Hid (Blk X2 P #[.int .i64 f, .slice none 0 0, .slice (some ⟨X1.heap.size, 0, none⟩) 1 1] 30) := by unfold Hid; rw [hX2]; exact hKA.set 2 _
  have KR2 : Hid (Blk X2 w.heap.size #[.int .i64 0, .slice none 0 0, .slice none 0 0] 30) := (KR1.out.alloc _).but hkb (by have := HP.out; omega)
  have T2 : Hid (Strs X2 w.heap.size (.slice (some ⟨X1.heap.size, 0, none⟩) 1 1) [ft]) := (Strs.one X1 w.heap.size ft B1.out.size).butE hKA hkb
  have B2 : Hid (Below w.heap.size w X2) := by unfold Hid; rw [hX2]; exact (B1.out.alloc B1.out.size _).setCell (by have := HP.out; show w.heap.size ≤ P; omega) _
  have o0 : _ = some (Value.int .i64 f) := KP2.out.cell 0 _ rfl
  have o1 : _ = some (Value.slice none 0 0) := KP2.out.cell 1 _ rfl
  have o2 : _ = some (Value.slice (some ⟨X1.heap.size, 0, none⟩) 1 1) := KP2.out.cell 2 _ rfl
  obtain ⟨⟨r0, g0⟩, ⟨r1, g1⟩, ⟨r2, g2⟩, e0, e1, e2⟩ := res3 (x := .int .i64 f) (y := .slice none 0 0) (z := .slice (some ⟨X1.heap.size, 0, none⟩) 1 1) KR2.out
  have SF : Hid (EngO (((X2.setCell ⟨w.heap.size, 0, none⟩ (.int .i64 f)).setCell ⟨w.heap.size, 1, none⟩ (.slice none 0 0)).setCell ⟨w.heap.size, 2, none⟩ (.slice (some ⟨X1.heap.size, 0, none⟩) 1 1)) w.heap.size (.agg #[.int .i64 f, .slice none 0 0, .slice (some ⟨X1.heap.size, 0, none⟩) 1 1]) (packA f l)) := by
   unfold Hid
   rw [HE.out]
   exact EngO.end3 (L := []) KR2.out rfl rfl (SerO.nilE _ _) T2.out
  have BF : Hid (Below w.heap.size w (((X2.setCell ⟨w.heap.size, 0, none⟩ (.int .i64 f)).setCell ⟨w.heap.size, 1, none⟩ (.slice none 0 0)).setCell ⟨w.heap.size, 2, none⟩ (.slice (some ⟨X1.heap.size, 0, none⟩) 1 1))) := below_set3 B2.out (Nat.le_refl _) _ _ _
  rw [hX2] at o0 o1 o2 r0 g0 r1 g1 r2 g2 e0 e1 e2 SF BF
  clear hX2 hkb hKA KP2 KR2 T2 B2 KP1 KR1
  go_wp2_with fail
  exact bodyPost_ret (v := .agg #[.int .i64 f, .slice none 0 0, .slice (some ⟨X1.heap.size, 0, none⟩) 1 1]) (by simp [results, go_sem, e0, e1, e2]) rfl ⟨⟨_, rfl, SF.out⟩, BF.out⟩
set_option maxRecDepth 100000 in
set_option maxHeartbeats 4000000 in
theorem implPackX (e : Eng) (v : Value) (w : World) (B : Nat) (hv : EngV w B v e) (hs : EShort e) (hB : B ≤ w.heap.size) (hst : SumTab w) (a0 a1 a2 : Addr) (he : Errs w a0 a1 a2) :
  Calls Tryz.prog 29 #[v] w fun b w' => (∃ u, b = .returned u ∧ EngO w' w.heap.size u (packX e)) ∧ Below w.heap.size w w' := by
 have ST : Hid (SumTab w) := hst
 obtain ⟨vc, vf, rfl, hc, hl⟩ := hv
 unfold vE
 obtain ⟨Ac, cc, rfl, _⟩ := hc.look
 obtain ⟨A, cap, rfl, _⟩ := st_look hl
 have HV : Hid (EngV w B (vE e.floor (.slice Ac e.cache.length cc) (.slice A e.files.length cap)) e) := ⟨_, _, rfl, hc, hl⟩
 have HB : Hid (B ≤ w.heap.size) := hB
 have HSh : Hid (EShort e) := hs
 obtain ⟨X0, hX0⟩ : ∃ X0, X0 = (w.alloc (.cells #[.int .i64 e.floor, .slice Ac e.cache.length cc, .slice A e.files.length cap] 30)).alloc (.cells #[.int .i64 0, .slice none 0 0, .slice none 0 0] 30) := ⟨_, rfl⟩
 have BX : Hid (Below w.heap.size w X0) := by unfold Hid; rw [hX0]; exact below_alloc2 _ _ _
 have KX : Hid (Blk X0 w.heap.size #[.int .i64 e.floor, .slice Ac e.cache.length cc, .slice A e.files.length cap] 30) := by unfold Hid; rw [hX0]; exact (Blk.new w _ _).alloc _
 have KR : Hid (Blk X0 (w.heap.size + 1) #[.int .i64 0, .slice none 0 0, .slice none 0 0] 30) := by
  unfold Hid
  rw [hX0]
  have := Blk.new (w.alloc (.cells #[.int .i64 e.floor, .slice Ac e.cache.length cc, .slice A e.files.length cap] 30)) #[.int .i64 0, .slice none 0 0, .slice none 0 0] 30
  rw [World.size_alloc] at this
  exact this
 have ZB : Hid (B ≤ X0.heap.size) := Nat.le_trans hB BX.out.size
 have k0 : _ = some (Value.int .i64 e.floor) := KX.out.cell 0 _ rfl
 have k1 : _ = some (Value.slice Ac e.cache.length cc) := KX.out.cell 1 _ rfl
 have k2 : _ = some (Value.slice A e.files.length cap) := KX.out.cell 2 _ rfl
 have c1 := implContents e _ X0 B (HV.out.on (BX.out.mono hB)) hs ZB.out (hst.on BX.out) a0 a1 a2 (he.on BX.out)
 unfold vE at c1
 by_cases hok : EOk e
 ·rw [decide_eq_true hok] at c1
  have HOk : Hid (EOk e) := hok
  have HPl : Hid (plainX e = plainE e) := by unfold Hid plainX; rw [if_pos hok]
  have HPk : Hid (packX e = packA e.floor (plainE e)) := by unfold Hid packX; rw [if_pos hok]
  clear hc hl hB hs hok hst he
  go_enter Tryz.func29, Tryz.ntmps29
  go_wp2_with fail
  rw [← hX0]
  clear hX0
  refine c1.mono ?_
  rintro b X1 ⟨⟨u1, L1, rfl, hL1, hS1⟩, hb1⟩
  have B1 : Hid (Below w.heap.size w X1) := BX.out.trans (hb1.mono BX.out.size)
  have K1 : Hid (Blk X1 w.heap.size #[.int .i64 e.floor, .slice Ac e.cache.length cc, .slice A e.files.length cap] 30) := KX.out.on hb1 KX.out.lt
  have KR1 : Hid (Blk X1 (w.heap.size + 1) #[.int .i64 0, .slice none 0 0, .slice none 0 0] 30) := KR.out.on hb1 KR.out.lt
  have m0 : _ = some (Value.int .i64 e.floor) := K1.out.cell 0 _ rfl
  have c2 := implPacked e.floor (plainE e) u1 X1 X1.heap.size (by rw [← HPl.out, ← hL1]; exact hS1.view) ⟨by have := HOk.out.2.2.1; omega, fun x hx => by have := (HOk.out.2.2.col.2 x hx).1; omega⟩ (fun x hx => by have := (HOk.out.2.2.col.2 x hx).2.2.2; unfold maxLen; omega) (Nat.le_refl _) (ST.out.on B1.out)
  obtain ⟨Au, nu, cu, rfl⟩ := hS1.1.shape
  rw [← HPk.out] at c2
  clear hL1 hS1 hb1 c1 k0 k1 k2 KX KR HPl HPk
  go_wp2_with fail
  refine c2.mono ?_
  rintro b X4 ⟨⟨u4, rfl, hE4⟩, hb4⟩
  obtain ⟨vc4, vf4, L4, ev4, hL4, hS4, hT4⟩ := hE4
  have B4 : Hid (Below w.heap.size w X4) := B1.out.trans (hb4.mono B1.out.size)
  have KR4 : Hid (Blk X4 (w.heap.size + 1) #[.int .i64 0, .slice none 0 0, .slice none 0 0] 30) := KR1.out.on hb4 KR1.out.lt
  obtain ⟨Ay, ny, cy, rfl⟩ := hS4.1.shape
  obtain ⟨Az, nz, cz, rfl⟩ := (strs_owns hT4).shape
  unfold vE at ev4
  subst ev4
  have HLf : Hid (L4.map Prod.fst = (packX e).cache) := hL4
  have HSf : Hid (SerO X4 w.heap.size (.slice Ay ny cy) L4) := hS4.mono B1.out.size
  have HTf : Hid (Strs X4 w.heap.size (.slice Az nz cz) (packX e).files) := owns_strs ((strs_owns hT4).mono B1.out.size)
  generalize hff : (packX e).floor = ff at *
  have HFf : Hid ((packX e).floor = ff) := hff
  clear hff hL4 hS4 hT4 hb4 c2 KR1 K1 m0
  generalize hR : w.heap.size + 1 = R at *
  have HRw : Hid (w.heap.size ≤ R) := by unfold Hid; omega
  clear hR
  obtain ⟨⟨r0, g0⟩, ⟨r1, g1⟩, ⟨r2, g2⟩, e0, e1, e2⟩ := res3 (x := .int .i64 ff) (y := .slice Ay ny cy) (z := .slice Az nz cz) KR4.out
  have SF : Hid (EngO (((X4.setCell ⟨R, 0, none⟩ (.int .i64 ff)).setCell ⟨R, 1, none⟩ (.slice Ay ny cy)).setCell ⟨R, 2, none⟩ (.slice Az nz cz)) w.heap.size (.agg #[.int .i64 ff, .slice Ay ny cy, .slice Az nz cz]) (packX e)) := EngO.end3 KR4.out HFf.out HLf.out HSf.out HTf.out
  have BF : Hid (Below w.heap.size w (((X4.setCell ⟨R, 0, none⟩ (.int .i64 ff)).setCell ⟨R, 1, none⟩ (.slice Ay ny cy)).setCell ⟨R, 2, none⟩ (.slice Az nz cz))) := below_set3 B4.out HRw.out _ _ _
  go_wp2_with fail
  exact bodyPost_ret (v := .agg #[.int .i64 ff, .slice Ay ny cy, .slice Az nz cz]) (by simp [results, go_sem, e0, e1, e2]) rfl ⟨⟨_, rfl, SF.out⟩, BF.out⟩
 ·rw [decide_eq_false hok] at c1
  have HNo : Hid (¬ EOk e) := hok
  clear hc hl hB hs hok hst he
  go_enter Tryz.func29, Tryz.ntmps29
  go_wp2_with fail
  rw [← hX0]
  clear hX0
  refine c1.mono ?_
  rintro b X1 ⟨⟨u1, L1, rfl, hL1, hS1⟩, hb1⟩
  obtain ⟨Au, nu, cu, rfl⟩ := hS1.1.shape
  have B1 : Hid (Below w.heap.size w X1) := BX.out.trans (hb1.mono BX.out.size)
  have KR1 : Hid (Blk X1 (w.heap.size + 1) #[.int .i64 0, .slice none 0 0, .slice none 0 0] 30) := KR.out.on hb1 KR.out.lt
  clear hL1 hS1 hb1 c1 k0 k1 k2 KX KR
  generalize hR : w.heap.size + 1 = R at *
  have HRw : Hid (w.heap.size ≤ R) := by unfold Hid; omega
  clear hR
  have HZe : Hid (packX e = zeroE) := by unfold Hid packX; rw [if_neg HNo.out]
  obtain ⟨⟨r0, g0⟩, ⟨r1, g1⟩, ⟨r2, g2⟩, e0, e1, e2⟩ := res3 (x := .int .i64 0) (y := .slice none 0 0) (z := .slice none 0 0) KR1.out
  have SF : Hid (EngO (((X1.setCell ⟨R, 0, none⟩ (.int .i64 0)).setCell ⟨R, 1, none⟩ (.slice none 0 0)).setCell ⟨R, 2, none⟩ (.slice none 0 0)) w.heap.size (.agg #[.int .i64 0, .slice none 0 0, .slice none 0 0]) (packX e)) := by
   unfold Hid
   rw [HZe.out]
   exact EngO.end3 (L := []) KR1.out rfl rfl (SerO.nilE _ _) (owns_strs (Owns.nil _ _ _ _))
  have BF : Hid (Below w.heap.size w (((X1.setCell ⟨R, 0, none⟩ (.int .i64 0)).setCell ⟨R, 1, none⟩ (.slice none 0 0)).setCell ⟨R, 2, none⟩ (.slice none 0 0))) := below_set3 B1.out HRw.out _ _ _
  go_wp2_with fail
  exact bodyPost_ret (v := .agg #[.int .i64 0, .slice none 0 0, .slice none 0 0]) (by simp [results, go_sem, e0, e1, e2]) rfl ⟨⟨_, rfl, SF.out⟩, BF.out⟩
end Go.Proofs.YtpmgndgkmffcnaaGreatDoor
