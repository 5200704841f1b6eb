/- EgAid EgS7 EgApp -/
import Derived.Test.YtpmgndgkmffcnaaGreatDoorQd16
import Derived.Test.YtpmgndgkmffcnaaGreatDoorQd18
import Derived.WalkKit
import Derived.ProofKit
import Derived.OpenShut
import Derived.Below
import Derived.WalkSmall
import Derived.BigQuiet
import Derived.Deep.QuietTactic
import Derived.Deep.RegionWith
import Derived.Handy
import Derived.Test.YtpmgndgkmffcnaaGreatDoorQd36
import Derived.Test.YtpmgndgkmffcnaaGreatDoorQd34
import Derived.Test.YtpmgndgkmffcnaaGreatDoorQd17
import Derived.Test.YtpmgndgkmffcnaaGreatDoorQd24
namespace Go.Proofs.YtpmgndgkmffcnaaGreatDoor
open Go.ChangeShapes Go.WideShapes Go.ChangeAt Go.RowKit Go.PlainAid
set_option linter.unusedVariables false
theorem res3 {w : World} {g : Nat} {a b c x y z : Value} {t : TypeId} (h : Blk w g #[a, b, c] t) :
  (w.cell? ⟨g, 0, none⟩ = some a ∧ w.frozen? ⟨g, 0, none⟩ = false) ∧ ((w.setCell ⟨g, 0, none⟩ x).cell? ⟨g, 1, none⟩ = some b ∧ (w.setCell ⟨g, 0, none⟩ x).frozen? ⟨g, 1, none⟩ = false) ∧
  (((w.setCell ⟨g, 0, none⟩ x).setCell ⟨g, 1, none⟩ y).cell? ⟨g, 2, none⟩ = some c ∧ ((w.setCell ⟨g, 0, none⟩ x).setCell ⟨g, 1, none⟩ y).frozen? ⟨g, 2, none⟩ = false) ∧
  ((((w.setCell ⟨g, 0, none⟩ x).setCell ⟨g, 1, none⟩ y).setCell ⟨g, 2, none⟩ z).cell? ⟨g, 0, none⟩ = some x ∧ (((w.setCell ⟨g, 0, none⟩ x).setCell ⟨g, 1, none⟩ y).setCell ⟨g, 2, none⟩ z).cell? ⟨g, 1, none⟩ = some y ∧ (((w.setCell ⟨g, 0, none⟩ x).setCell ⟨g, 1, none⟩ y).setCell ⟨g, 2, none⟩ z).cell? ⟨g, 2, none⟩ = some z) := by
 have h1 := h.set 0 x
 have h2 := h1.set 1 y
 have h3 := h2.set 2 z
 exact ⟨⟨h.cell 0 _ rfl, h.free 0⟩, ⟨h1.cell 1 _ rfl, h1.free 1⟩, ⟨h2.cell 2 _ rfl, h2.free 2⟩, h3.cell 0 _ rfl, h3.cell 1 _ rfl, h3.cell 2 _ rfl⟩
theorem Blk.set3 {w : World} {g : Nat} {a b c x y z : Value} {t : TypeId} (h : Blk w g #[a, b, c] t) : Blk (((w.setCell ⟨g, 0, none⟩ x).setCell ⟨g, 1, none⟩ y).setCell ⟨g, 2, none⟩ z) g #[x, y, z] t := ((h.set 0 x).set 1 y).set 2 z
theorem KeptBut.set3 {w : World} (g : Nat) (x y z : Value) : KeptBut g w (((w.setCell ⟨g, 0, none⟩ x).setCell ⟨g, 1, none⟩ y).setCell ⟨g, 2, none⟩ z) := (((KeptBut.refl g w).set 0 x).set 1 y).set 2 z
theorem Blk.but {w w' : World} {g h : Nat} {cs : Array Value} {t : TypeId} (hb : Blk w h cs t) (hk : KeptBut g w w') (hne : h ≠ g) : Blk w' h cs t := hk.blk hb hne
theorem SerO.butE {w w' : World} {base g : Nat} {v : Value} {L : List (Ser × Value)} {cs : Array Value} (h : SerO w base v L) (hK : Blk w g cs 30) (hk : KeptBut g w w') : SerO w' base v L :=
 ⟨hk.owns h.1 (h.1.notBlk hK (by decide)), fun p hp => hk.owns (h.2.1 p hp) ((h.2.1 p hp).notBlk hK (by decide)), h.2.2⟩
theorem Strs.butE {w w' : World} {base g : Nat} {v : Value} {l : List ByteArray} {cs : Array Value} (h : Strs w base v l) (hK : Blk w g cs 30) (hk : KeptBut g w w') : Strs w' base v l :=
 owns_strs (hk.owns (strs_owns h) ((strs_owns h).notBlk hK (by decide)))
theorem EngO.butE {w w' : World} {base g : Nat} {v : Value} {e : Eng} {cs : Array Value} (h : EngO w base v e) (hK : Blk w g cs 30) (hk : KeptBut g w w') : EngO w' base v e := by
 obtain ⟨vc, vf, L, h1, h2, h3, h4⟩ := h
 exact ⟨vc, vf, L, h1, h2, h3.butE hK hk, h4.butE hK hk⟩
theorem EngO.end3 {w : World} {base R : Nat} {vc vf : Value} {L : List (Ser × Value)} {e : Eng} {f : Int} {cs : Array Value} (hK : Blk w R cs 30) (hf : e.floor = f) (hL : L.map Prod.fst = e.cache) (hS : SerO w base vc L) (hT : Strs w base vf e.files) :
  EngO (((w.setCell ⟨R, 0, none⟩ (.int .i64 f)).setCell ⟨R, 1, none⟩ vc).setCell ⟨R, 2, none⟩ vf) base (.agg #[.int .i64 f, vc, vf]) e :=
 ⟨vc, vf, L, by rw [hf]; rfl, hL, hS.butE hK (KeptBut.set3 R _ _ _), hT.butE hK (KeptBut.set3 R _ _ _)⟩
theorem SerO.nilE (w : World) (base : Nat) : SerO w base (.slice none 0 0) [] := ⟨Owns.nil _ _ _ _, fun p hp => (by cases hp), List.Pairwise.nil⟩
theorem SerO.emptyE (w : World) (base : Nat) (hb : base ≤ w.heap.size) : SerO (w.alloc (.cells #[] 58)) base (.slice (some ⟨w.heap.size, 0, none⟩) 0 0) [] := ⟨Owns.empty w base 58 2 hb, fun p hp => (by cases hp), List.Pairwise.nil⟩
theorem below_set3 {w w' : World} {g : Nat} (h : Below w.heap.size w w') (hg : w.heap.size ≤ g) (x y z : Value) : Below w.heap.size w (((w'.setCell ⟨g, 0, none⟩ x).setCell ⟨g, 1, none⟩ y).setCell ⟨g, 2, none⟩ z) := ((h.setCell hg _).setCell hg _).setCell hg _
end Go.Proofs.YtpmgndgkmffcnaaGreatDoor
namespace Go.Proofs.YtpmgndgkmffcnaaGreatDoor
open Go.ChangeShapes Go.WideShapes Go.ChangeAt Go.RowKit Go.PlainAid
set_option linter.unusedVariables false
set_option maxHeartbeats 4000000 in
theorem specOne (e : Eng) (v vc vf : Value) (L : List (Ser × Value)) (base : Nat) (w : World) (ev : v = vE e.floor vc vf) (hL : L.map Prod.fst = e.cache) (hS : SerO w base vc L) (hT : Strs w base vf e.files) (hc : COk e.cache) (hn : e.files.length ≤ 9) (hz : ∀ s ∈ e.files, s.size ≤ 1048576) (hF : ∀ s ∈ e.files, isF s) (hbs : base ≤ w.heap.size) :
  Calls Tryz.prog 58 #[v] w fun b w' => (∃ u, b = .returned u ∧ EngO w' base u (oneS e)) ∧ Below w.heap.size w w' := by
 have hv : EngV w w.heap.size v e := ⟨vc, vf, ev, by rw [← hL]; exact hS.view, (strs_owns hT).lies⟩
 subst ev
 have HLok : Hid (LOk (lays e)) := lays_ok hn hc hF
 have HCol : Hid (∀ l ∈ lays e, COk l) := lays_col hc hF
 have HF : Hid (∀ s ∈ e.files, isF s) := hF
 have HL : Hid (L.map Prod.fst = e.cache) := hL
 have HS : Hid (SerO w base vc L) := hS
 have HBs : Hid (base ≤ w.heap.size) := hbs
 have HShp : Hid (SShort (plainE e)) := plainE_short HLok.out
 obtain ⟨A1, n1, c1, rfl⟩ := hS.1.shape
 obtain ⟨A2, n2, c2, rfl⟩ := (strs_owns hT).shape
 obtain ⟨X0, hX0⟩ : ∃ X0, X0 = (w.alloc (.cells #[.int .i64 e.floor, .slice A1 n1 c1, .slice A2 n2 c2] 30)).alloc (.cells #[.int .i64 0, .slice none 0 0, .slice none 0 0] 30) := ⟨_, rfl⟩
 have BX : Hid (Below w.heap.size w X0) := by unfold Hid; rw [hX0]; exact below_alloc2 _ _ _
 have KX : Hid (Blk X0 w.heap.size #[.int .i64 e.floor, .slice A1 n1 c1, .slice A2 n2 c2] 30) := by unfold Hid; rw [hX0]; exact (Blk.new w _ _).alloc _
 have KR : Hid (Blk X0 (w.heap.size + 1) #[.int .i64 0, .slice none 0 0, .slice none 0 0] 30) := by
  unfold Hid
  rw [hX0]
  have := Blk.new (w.alloc (.cells #[.int .i64 e.floor, .slice A1 n1 c1, .slice A2 n2 c2] 30)) #[.int .i64 0, .slice none 0 0, .slice none 0 0] 30
  rw [World.size_alloc] at this
  exact this
 have c4 := specLayers e _ X0 w.heap.size (hv.on BX.out) (by omega) hz BX.out.size
 unfold vE at c4 ⊢
 have k0 := KX.out.cell 0 _ rfl
 have k1 := KX.out.cell 1 _ rfl
 have k2 := KX.out.cell 2 _ rfl
 clear hv hL hS hT hc hn hz hF hbs
 have HFl : Hid (plainE e = plainR (lays e) e.floor) := rfl
 generalize hf : e.floor = f at *
 have HFe : Hid (e.floor = f) := hf
 clear hf
 go_enter Tryz.func58, Tryz.ntmps58
 go_wp2_with fail
 rw [← hX0]
 clear hX0
 refine c4.mono ?_
 rintro b X1 ⟨⟨u, ok, rfl, hA⟩, hb1⟩
 obtain ⟨rfl, hLv⟩ : ok = true ∧ LayV X1 X1.heap.size u (lays e) := by
  rcases hA with ⟨h1, _, h2⟩ | ⟨_, s, hsm, hsn⟩
  ·exact ⟨h1, h2⟩
  ·exact absurd (HF.out s hsm) hsn
 have B1 : Hid (Below w.heap.size w X1) := BX.out.trans (hb1.mono BX.out.size)
 have KX1 : Hid (Blk X1 w.heap.size #[.int .i64 f, .slice A1 n1 c1, .slice A2 n2 c2] 30) := KX.out.on hb1 KX.out.lt
 have KR1 : Hid (Blk X1 (w.heap.size + 1) #[.int .i64 0, .slice none 0 0, .slice none 0 0] 30) := KR.out.on hb1 KR.out.lt
 have m0 := KX1.out.cell 0 _ rfl
 have c5 := specPlainL (lays e) f u X1 X1.heap.size hLv HLok.out (Nat.le_refl _)
 obtain ⟨Au, cu, rfl, _⟩ := hLv.look
 clear hA hb1 c4 k0 k1 k2 hLv KX KR
 go_wp2_with fail
 refine c5.mono ?_
 rintro b X2 ⟨⟨u2, L2, rfl, hL2, hS2⟩, hb2⟩
 have B2 : Hid (Below w.heap.size w X2) := B1.out.trans (hb2.mono B1.out.size)
 have KX2 : Hid (Blk X2 w.heap.size #[.int .i64 f, .slice A1 n1 c1, .slice A2 n2 c2] 30) := KX1.out.on hb2 KX1.out.lt
 have KR2 : Hid (Blk X2 (w.heap.size + 1) #[.int .i64 0, .slice none 0 0, .slice none 0 0] 30) := KR1.out.on hb2 KR1.out.lt
 have c6 := specFileText (plainE e) u2 X2 X2.heap.size (by rw [HFl.out, ← hL2]; exact hS2.view) HShp.out (by rw [HFl.out]; exact plain_keys HCol.out) (Nat.le_refl _)
 obtain ⟨A3, n3, c3, rfl⟩ := hS2.1.shape
 clear hL2 hS2 hb2 c5 m0 KX1 KR1
 go_wp2_with fail
 refine c6.mono ?_
 rintro b X3 ⟨rfl, hb3⟩
 have B3 : Hid (Below w.heap.size w X3) := B2.out.trans (hb3.mono B2.out.size)
 have KX3 : Hid (Blk X3 w.heap.size #[.int .i64 f, .slice A1 n1 c1, .slice A2 n2 c2] 30) := KX2.out.on hb3 KX2.out.lt
 have KR3 : Hid (Blk X3 (w.heap.size + 1) #[.int .i64 0, .slice none 0 0, .slice none 0 0] 30) := KR2.out.on hb3 KR2.out.lt
 clear hb3 c6 KX2 KR2
 have HOne : Hid (oneS e = ⟨f, e.cache, if fileT (plainE e) = ⟨#[]⟩ then [] else [fileT (plainE e)]⟩) := by unfold Hid oneS; rw [HFe.out]
 have HG : Hid (w.heap.size ≤ X3.heap.size ∧ w.heap.size + 1 < X3.heap.size) := ⟨B3.out.size, KR3.out.lt⟩
 generalize hR : w.heap.size + 1 = R at *
 have HR : Hid (w.heap.size + 1 = R) := hR
 clear hR
 obtain ⟨X4, hX4⟩ : ∃ X4, X4 = (X3.alloc (.cells #[] 9)).setCell ⟨w.heap.size, 2, none⟩ (.slice (some ⟨X3.heap.size, 0, none⟩) 0 0) := ⟨_, rfl⟩
 have KX4 : Hid (Blk X4 w.heap.size #[.int .i64 f, .slice A1 n1 c1, .slice (some ⟨X3.heap.size, 0, none⟩) 0 0] 30) := by unfold Hid; rw [hX4]; exact (KX3.out.alloc _).set 2 _
 have KR4 : Hid (Blk X4 R #[.int .i64 0, .slice none 0 0, .slice none 0 0] 30) := by unfold Hid; rw [hX4]; exact (KR3.out.alloc _).other (by have := HR.out; omega) 2 _
 have B4 : Hid (Below w.heap.size w X4) := by unfold Hid; rw [hX4]; exact (B3.out.alloc B3.out.size _).setCell (Nat.le_refl _) _
 have S4 : Hid (SerO X4 base (.slice A1 n1 c1) L) := by
  unfold Hid
  rw [hX4]
  exact ((HS.out.on B3.out).on ((Below.refl _ X3).alloc (Nat.le_refl _) _)).butE (KX3.out.alloc _) ((KeptBut.refl w.heap.size _).set 2 _)
 have O4 : Hid (Owns X4 X3.heap.size 9 1 (.slice (some ⟨X3.heap.size, 0, none⟩) 0 0) (stR [])) := by
  unfold Hid
  rw [hX4]
  have h := Owns.empty X3 X3.heap.size 9 1 (Nat.le_refl _)
  exact ((KeptBut.refl w.heap.size _).set 2 _).owns h (h.notBlk (KX3.out.alloc _) (by decide))
 have m2 : _ = some (Value.slice A2 n2 c2) := (KX3.out.alloc (.cells #[] 9)).cell 2 _ rfl
 have f2 := (KX3.out.alloc (.cells #[] 9)).free 2
 have HRw : Hid (w.heap.size ≤ R) := by have := HR.out; unfold Hid; omega
 by_cases h0 : fileT (plainE e) = ⟨#[]⟩
 ·have HE : Hid (oneS e = ⟨f, e.cache, []⟩) := by unfold Hid; rw [HOne.out, if_pos h0]
  rw [h0]
  clear h0
  have o0 : _ = some (Value.int .i64 f) := KX4.out.cell 0 _ rfl
  have o1 : _ = some (Value.slice A1 n1 c1) := KX4.out.cell 1 _ rfl
  have o2 : _ = some (Value.slice (some ⟨X3.heap.size, 0, none⟩) 0 0) := KX4.out.cell 2 _ rfl
  obtain ⟨⟨r0, g0⟩, ⟨r1, g1⟩, ⟨r2, g2⟩, e0, e1, e2⟩ := res3 (x := .int .i64 f) (y := .slice A1 n1 c1) (z := .slice (some ⟨X3.heap.size, 0, none⟩) 0 0) KR4.out
  have SF : Hid (EngO (((X4.setCell ⟨R, 0, none⟩ (.int .i64 f)).setCell ⟨R, 1, none⟩ (.slice A1 n1 c1)).setCell ⟨R, 2, none⟩ (.slice (some ⟨X3.heap.size, 0, none⟩) 0 0)) base (.agg #[.int .i64 f, .slice A1 n1 c1, .slice (some ⟨X3.heap.size, 0, none⟩) 0 0]) (oneS e)) := by
   unfold Hid
   rw [HE.out]
   exact EngO.end3 KR4.out rfl HL.out S4.out (owns_strs (O4.out.mono (Nat.le_trans HBs.out HG.out.1)))
  have BF : Hid (Below w.heap.size w (((X4.setCell ⟨R, 0, none⟩ (.int .i64 f)).setCell ⟨R, 1, none⟩ (.slice A1 n1 c1)).setCell ⟨R, 2, none⟩ (.slice (some ⟨X3.heap.size, 0, none⟩) 0 0))) := below_set3 B4.out HRw.out _ _ _
  rw [hX4] at o0 o1 o2 r0 g0 r1 g1 r2 g2 e0 e1 e2 SF BF
  clear hX4 KX4 KR4 S4 O4 B4
  go_wp2_with fail
  exact bodyPost_ret (v := .agg #[.int .i64 f, .slice A1 n1 c1, .slice (some ⟨X3.heap.size, 0, none⟩) 0 0]) (by simp [results, go_sem, e0, e1, e2]) rfl ⟨⟨_, rfl, SF.out⟩, BF.out⟩
 ·have HE : Hid (oneS e = ⟨f, e.cache, [fileT (plainE e)]⟩) := by unfold Hid; rw [HOne.out, if_neg h0]
  have hne := bytes_ne h0
  have hnl : ¬ (fileT (plainE e)).toList = [] := fun h => h0 (toList_inj (h.trans (by rw [Lib.toList_data])))
  have hnE : (fileT (plainE e)).toList.isEmpty = false := by cases h : (fileT (plainE e)).toList with
   | nil => exact absurd h hnl
   | cons a b => rfl
  clear h0
  generalize hft : fileT (plainE e) = ft at *
  clear hft
  have o2 : _ = some (Value.slice (some ⟨X3.heap.size, 0, none⟩) 0 0) := KX4.out.cell 2 _ rfl
  rw [hX4] at o2
  have Z4 : X3.heap.size ≤ X4.heap.size := by rw [hX4]; simp
  have hZ4 : X4.heap.size = X3.heap.size + 1 := by rw [hX4]; simp
  go_wp2_with (at_builtin; refine Shut.out ?_)
  rw [← hX4]
  unfold Shut
  refine wpList_append_row rfl (.tmp 21) (.tmp 23) 23 9 (.string ⟨#[]⟩) 1 16 rfl Tryz.underlying23 infoStr rfl (by omega) X3.heap.size (.slice (some ⟨X3.heap.size, 0, none⟩) 0 0) (stR []) rfl O4.out [.string ft] rfl (st_cell ft) (by rw [hZ4]; rfl) (by simp [stR]) (by omega) Z4 ?_
  intro v' w5 hO5 hb5 hk5 hw5
  obtain ⟨A5, n5, c5, rfl⟩ := hO5.shape
  have hkw : ∀ b, b < X3.heap.size → w5.heap[b]? = X4.heap[b]? := fun b hb => hb5.block b hb
  have K5 : Blk w5 w.heap.size #[.int .i64 f, .slice A1 n1 c1, .slice (some ⟨X3.heap.size, 0, none⟩) 0 0] 30 := (hkw _ KX3.out.lt).trans KX4.out
  have KR5 : Blk w5 R #[.int .i64 0, .slice none 0 0, .slice none 0 0] 30 := (hkw _ KR3.out.lt).trans KR4.out
  have S5 : SerO w5 base (.slice A1 n1 c1) L := by
   have h := S4.out
   have h2 := HS.out.on B3.out
   exact ⟨h.1.kept fun g _ hv => hkw g (h2.1.lt g hv).2, fun p hp => (h.2.1 p hp).kept fun g _ hv => hkw g ((h2.2.1 p hp).lt g hv).2, h.2.2⟩
  have T5 : Strs w5 base (.slice A5 n5 c5) [ft] := owns_strs (hO5.mono (Nat.le_trans HBs.out HG.out.1))
  have B5 : Below w.heap.size w w5 := B4.out.trans (hb5.mono HG.out.1)
  have p2 : _ = some (Value.slice (some ⟨X3.heap.size, 0, none⟩) 0 0) := K5.cell 2 _ rfl
  have pf2 := K5.free 2
  have K6 := K5.set 2 (.slice A5 n5 c5)
  have kb6 : KeptBut w.heap.size w5 (w5.setCell ⟨w.heap.size, 2, none⟩ (.slice A5 n5 c5)) := (KeptBut.refl _ _).set 2 _
  have KR6 := KR5.but kb6 (show R ≠ w.heap.size by have := HR.out; omega)
  have q0 : _ = some (Value.int .i64 f) := K6.cell 0 _ rfl
  have q1 : _ = some (Value.slice A1 n1 c1) := K6.cell 1 _ rfl
  have q2 : _ = some (Value.slice A5 n5 c5) := K6.cell 2 _ rfl
  obtain ⟨⟨r0, g0⟩, ⟨r1, g1⟩, ⟨r2, g2⟩, e0, e1, e2⟩ := res3 (x := .int .i64 f) (y := .slice A1 n1 c1) (z := .slice A5 n5 c5) KR6
  have SF : Hid (EngO ((((w5.setCell ⟨w.heap.size, 2, none⟩ (.slice A5 n5 c5)).setCell ⟨R, 0, none⟩ (.int .i64 f)).setCell ⟨R, 1, none⟩ (.slice A1 n1 c1)).setCell ⟨R, 2, none⟩ (.slice A5 n5 c5)) base (.agg #[.int .i64 f, .slice A1 n1 c1, .slice A5 n5 c5]) (oneS e)) := by
   unfold Hid
   rw [HE.out]
   exact EngO.end3 KR6 rfl HL.out (S5.butE K5 kb6) (T5.butE K5 kb6)
  have BF : Hid (Below w.heap.size w ((((w5.setCell ⟨w.heap.size, 2, none⟩ (.slice A5 n5 c5)).setCell ⟨R, 0, none⟩ (.int .i64 f)).setCell ⟨R, 1, none⟩ (.slice A1 n1 c1)).setCell ⟨R, 2, none⟩ (.slice A5 n5 c5))) := below_set3 (B5.setCell (Nat.le_refl _) _) HRw.out _ _ _
  clear hX4 KX4 KR4 S4 O4 B4 hZ4 Z4 o2 m2 f2 hO5 hb5 hk5 hw5 hkw S5 T5 B5 K5 K6 KR5 KR6 kb6
  go_wp2_with fail
  exact bodyPost_ret (v := .agg #[.int .i64 f, .slice A1 n1 c1, .slice A5 n5 c5]) (by simp [results, go_sem, e0, e1, e2]) rfl ⟨⟨_, rfl, SF.out⟩, BF.out⟩
end Go.Proofs.YtpmgndgkmffcnaaGreatDoor
namespace Go.Proofs.YtpmgndgkmffcnaaGreatDoor
open Go.ChangeShapes Go.WideShapes Go.ChangeAt Go.RowKit Go.PlainAid
set_option linter.unusedVariables false
theorem run_append_all {P : Program} (w : World) (t ty e : TypeId) (z : Value) (sz bytes : Nat)
  (ht : P.underlying t = some (.slice e)) (hinfo : (P.info? e).map (fun i => (i.zero, i.size, i.bytes)) = some (some z, sz, bytes)) (hzs : z.cells.size = sz) (hsz : 0 < sz)
  (base : Nat) (v u : Value) (rows more : List (List Value)) (B : Nat) (hown : Owns w base e sz v rows) (hu : Lies w B sz u more) (h1 : ∀ r ∈ more, ∀ y ∈ r, y.oneCell' = true)
  (hlen : rows.length + more.length ≤ 2097152) (hby : bytes ≤ 1000) (hbase : base ≤ w.heap.size) :
  ∃ A m c w', (Builtin.append_ #[t, t] ty #[v, u]).run P w = .ok (.slice A m c) w' ∧ Owns w' base e sz (.slice A m c) (rows ++ more) ∧ Below base w w' ∧ (∀ g, g < w.heap.size → v.ownBlock ≠ some g → w'.heap[g]? = w.heap[g]?) := by
 obtain ⟨i0, hi, hz0, hz1, hz2⟩ := info_parts hinfo
 have hb1 : (rows.length + more.length) * bytes ≤ 140737488355328 := Nat.le_trans (Nat.mul_le_mul hlen hby) (by omega)
 obtain ⟨A, cap, rfl, hz, hms, hm⟩ := hu
 match A, hz, hm with
 | none, hz, hm =>
  have h0 : more.length = 0 := by
   rcases hm with h0 | ⟨g, off, e, _⟩
   ·exact h0
   ·cases e
  have hc0 := hz.1 rfl
  subst hc0
  have hnil : more = [] := List.eq_nil_of_length_eq_zero h0
  subst hnil
  have hr := run_append_owned_none (P := P) w base t ty e i0 sz ht hi v rows.length rows.flatten hown.2
  obtain ⟨A, m, c, rfl⟩ := hown.shape
  exact ⟨A, m, c, w, hr, by simpa using hown, Below.refl _ _, fun _ _ _ => rfl⟩
 | some ad, hz, hm =>
  have hnews : ∀ j y, more.flatten[j]? = some y → w.cell? (ad.add j) = some y := by
   intro j y hj
   rcases hm with h0 | ⟨g, off, e, hg, hc⟩
   ·rw [List.eq_nil_of_length_eq_zero h0] at hj
    simp at hj
   ·cases e
    have e1 : (⟨g, off, none⟩ : Addr).add j = ⟨g, off + j, none⟩ := by cases j <;> simp [Addr.add]
    rw [e1]
    exact hc j y hj
  have h1' : ∀ y ∈ more.flatten, y.oneCell' = true := by
   intro y hy
   obtain ⟨r, hr, hyr⟩ := List.mem_flatten.1 hy
   exact h1 r hr y hyr
  obtain ⟨v', w', hrun, h2, h3, _⟩ := run_append_own (P := P) w base t ty e i0 z sz bytes ht hi hz0 hz1 hz2 hzs hsz v rows.length rows.flatten hown.2 ad more.length cap more.flatten (flat_length sz more hms) hnews h1' (by unfold maxLen; omega) hb1 hbase
  have hb0 : ∀ k, v.ownBlock = some k → base ≤ k := fun k hk => (hown.lt k hk).1
  have hO : Owns w' base e sz v' (rows ++ more) := by
   refine ⟨?_, ?_⟩
   ·intro y hy
    rcases List.mem_append.1 hy with hy | hy
    ·exact hown.1 y hy
    ·exact hms y hy
   ·rw [List.length_append, List.flatten_append]
    exact h2
  obtain ⟨A, m, c, rfl⟩ := hO.shape
  exact ⟨A, m, c, w', hrun, hO, (Below.refl base w).grown h3 hbase hb0, fun g hg hne => h3.block g hg (fun e => hne e.symm)⟩
end Go.Proofs.YtpmgndgkmffcnaaGreatDoor
