/- EgS7 EgApp EgS8 -/
import Derived.Test.YtikknmoeefipmaaGreatDoorQp20
import Derived.Test.YtikknmoeefipmaaGreatDoorQp19
import Derived.Test.YtikknmoeefipmaaGreatDoorQp10
import Derived.WalkKit
import Derived.ProofKit
import Derived.OpenShut
import Derived.Below
import Derived.WalkSmall
import Derived.BigQuiet
import Derived.Deep.QuietTactic
import Derived.Deep.RegionWith
import Derived.Handy
import Derived.Test.YtikknmoeefipmaaGreatDoorQp13
import Derived.Test.YtikknmoeefipmaaGreatDoorQp4
import Derived.Deep.CutRange
open List (setIfInBounds_toArray set_cons_zero set_cons_succ)
namespace Go.Proofs.YtikknmoeefipmaaGreatDoor
open Go.ChangeShapes Go.WideShapes Go.ChangeAt Go.RowKit Go.PlainAid
set_option linter.unusedVariables false
set_option maxHeartbeats 4000000 in
theorem specOne (e : Eng) (v vc vf : Value) (L : List (Ser × Value)) (base : Nat) (w : World) (ev : v = vE e.floor vc vf) (hL : L.map Prod.fst = e.cache) (hS : SerO w base vc L) (hT : Strs w base vf e.files) (hc : COk e.cache) (hn : e.files.length ≤ 9) (hz : ∀ s ∈ e.files, s.size ≤ 1048576) (hF : ∀ s ∈ e.files, isF s) (hbs : base ≤ w.heap.size) :
  Calls Tryz.prog 117 #[v] w fun b w' => (∃ u, b = .returned u ∧ EngO w' base u (oneS e)) ∧ Below w.heap.size w w' := by
 have hv : EngV w w.heap.size v e := ⟨vc, vf, ev, by rw [← hL]; exact hS.view, (strs_owns hT).lies⟩
 subst ev
 have HLok : Hid (LOk (lays e)) := lays_ok hn hc hF
 have HCol : Hid (∀ l ∈ lays e, COk l) := lays_col hc hF
 have HF : Hid (∀ s ∈ e.files, isF s) := hF
 have HL : Hid (L.map Prod.fst = e.cache) := hL
 have HS : Hid (SerO w base vc L) := hS
 have HBs : Hid (base ≤ w.heap.size) := hbs
 have HShp : Hid (SShort (plainE e)) := plainE_short HLok.out
 obtain ⟨A1, n1, c1, rfl⟩ := hS.1.shape
 obtain ⟨A2, n2, c2, rfl⟩ := (strs_owns hT).shape
 obtain ⟨X0, hX0⟩ : ∃ X0, X0 = (w.alloc (.cells #[.int .i64 e.floor, .slice A1 n1 c1, .slice A2 n2 c2] 35)).alloc (.cells #[.int .i64 0, .slice none 0 0, .slice none 0 0] 35) := ⟨_, rfl⟩
 have BX : Hid (Below w.heap.size w X0) := by unfold Hid; rw [hX0]; exact below_alloc2 _ _ _
 have KX : Hid (Blk X0 w.heap.size #[.int .i64 e.floor, .slice A1 n1 c1, .slice A2 n2 c2] 35) := by unfold Hid; rw [hX0]; exact (Blk.new w _ _).alloc _
 have KR : Hid (Blk X0 (w.heap.size + 1) #[.int .i64 0, .slice none 0 0, .slice none 0 0] 35) := by
  unfold Hid
  rw [hX0]
  have := Blk.new (w.alloc (.cells #[.int .i64 e.floor, .slice A1 n1 c1, .slice A2 n2 c2] 35)) #[.int .i64 0, .slice none 0 0, .slice none 0 0] 35
  rw [World.size_alloc] at this
  exact this
 have c4 := specLayers e _ X0 w.heap.size (hv.on BX.out) (by omega) hz BX.out.size
 unfold vE at c4 ⊢
 have k0 := KX.out.cell 0 _ rfl
 have k1 := KX.out.cell 1 _ rfl
 have k2 := KX.out.cell 2 _ rfl
 clear hv hL hS hT hc hn hz hF hbs
 have HFl : Hid (plainE e = plainR (lays e) e.floor) := rfl
 generalize hf : e.floor = f at *
 have HFe : Hid (e.floor = f) := hf
 clear hf
 go_enter Tryz.func117, Tryz.ntmps117
 go_wp2_with fail
 rw [← hX0]
 clear hX0
 refine c4.mono ?_
 rintro b X1 ⟨⟨u, ok, rfl, hA⟩, hb1⟩
 obtain ⟨rfl, hLv⟩ : ok = true ∧ LayV X1 X1.heap.size u (lays e) := by
  rcases hA with ⟨h1, _, h2⟩ | ⟨_, s, hsm, hsn⟩
  ·exact ⟨h1, h2⟩
  ·exact absurd (HF.out s hsm) hsn
 have B1 : Hid (Below w.heap.size w X1) := BX.out.trans (hb1.mono BX.out.size)
 have KX1 : Hid (Blk X1 w.heap.size #[.int .i64 f, .slice A1 n1 c1, .slice A2 n2 c2] 35) := KX.out.on hb1 KX.out.lt
 have KR1 : Hid (Blk X1 (w.heap.size + 1) #[.int .i64 0, .slice none 0 0, .slice none 0 0] 35) := KR.out.on hb1 KR.out.lt
 have m0 := KX1.out.cell 0 _ rfl
 have c5 := specPlainL (lays e) f u X1 X1.heap.size hLv HLok.out (Nat.le_refl _)
 obtain ⟨Au, cu, rfl, _⟩ := hLv.look
 clear hA hb1 c4 k0 k1 k2 hLv KX KR
 go_wp2_with fail
 refine c5.mono ?_
 rintro b X2 ⟨⟨u2, L2, rfl, hL2, hS2⟩, hb2⟩
 have B2 : Hid (Below w.heap.size w X2) := B1.out.trans (hb2.mono B1.out.size)
 have KX2 : Hid (Blk X2 w.heap.size #[.int .i64 f, .slice A1 n1 c1, .slice A2 n2 c2] 35) := KX1.out.on hb2 KX1.out.lt
 have KR2 : Hid (Blk X2 (w.heap.size + 1) #[.int .i64 0, .slice none 0 0, .slice none 0 0] 35) := KR1.out.on hb2 KR1.out.lt
 have c6 := specFileText (plainE e) u2 X2 X2.heap.size (by rw [HFl.out, ← hL2]; exact hS2.view) HShp.out (by rw [HFl.out]; exact plain_keys HCol.out) (Nat.le_refl _)
 obtain ⟨A3, n3, c3, rfl⟩ := hS2.1.shape
 clear hL2 hS2 hb2 c5 m0 KX1 KR1
 go_wp2_with fail
 refine c6.mono ?_
 rintro b X3 ⟨rfl, hb3⟩
 have B3 : Hid (Below w.heap.size w X3) := B2.out.trans (hb3.mono B2.out.size)
 have KX3 : Hid (Blk X3 w.heap.size #[.int .i64 f, .slice A1 n1 c1, .slice A2 n2 c2] 35) := KX2.out.on hb3 KX2.out.lt
 have KR3 : Hid (Blk X3 (w.heap.size + 1) #[.int .i64 0, .slice none 0 0, .slice none 0 0] 35) := KR2.out.on hb3 KR2.out.lt
 clear hb3 c6 KX2 KR2
 have HOne : Hid (oneS e = ⟨f, e.cache, if fileT (plainE e) = ⟨#[]⟩ then [] else [fileT (plainE e)]⟩) := by unfold Hid oneS; rw [HFe.out]
 have HG : Hid (w.heap.size ≤ X3.heap.size ∧ w.heap.size + 1 < X3.heap.size) := ⟨B3.out.size, KR3.out.lt⟩
 generalize hR : w.heap.size + 1 = R at *
 have HR : Hid (w.heap.size + 1 = R) := hR
 clear hR
 obtain ⟨X4, hX4⟩ : ∃ X4, X4 = (X3.alloc (.cells #[] 9)).setCell ⟨w.heap.size, 2, none⟩ (.slice (some ⟨X3.heap.size, 0, none⟩) 0 0) := ⟨_, rfl⟩
 have KX4 : Hid (Blk X4 w.heap.size #[.int .i64 f, .slice A1 n1 c1, .slice (some ⟨X3.heap.size, 0, none⟩) 0 0] 35) := by unfold Hid; rw [hX4]; exact (KX3.out.alloc _).set 2 _
 have KR4 : Hid (Blk X4 R #[.int .i64 0, .slice none 0 0, .slice none 0 0] 35) := by unfold Hid; rw [hX4]; exact (KR3.out.alloc _).other (by have := HR.out; omega) 2 _
 have B4 : Hid (Below w.heap.size w X4) := by unfold Hid; rw [hX4]; exact (B3.out.alloc B3.out.size _).setCell (Nat.le_refl _) _
 have S4 : Hid (SerO X4 base (.slice A1 n1 c1) L) := by
  unfold Hid
  rw [hX4]
  exact ((HS.out.on B3.out).on ((Below.refl _ X3).alloc (Nat.le_refl _) _)).butE (KX3.out.alloc _) ((KeptBut.refl w.heap.size _).set 2 _)
 have O4 : Hid (Owns X4 X3.heap.size 9 1 (.slice (some ⟨X3.heap.size, 0, none⟩) 0 0) (stR [])) := by
  unfold Hid
  rw [hX4]
  have h := Owns.empty X3 X3.heap.size 9 1 (Nat.le_refl _)
  exact ((KeptBut.refl w.heap.size _).set 2 _).owns h (h.notBlk (KX3.out.alloc _) (by decide))
 have m2 : _ = some (Value.slice A2 n2 c2) := (KX3.out.alloc (.cells #[] 9)).cell 2 _ rfl
 have f2 := (KX3.out.alloc (.cells #[] 9)).free 2
 have HRw : Hid (w.heap.size ≤ R) := by have := HR.out; unfold Hid; omega
 by_cases h0 : fileT (plainE e) = ⟨#[]⟩
 ·have HE : Hid (oneS e = ⟨f, e.cache, []⟩) := by unfold Hid; rw [HOne.out, if_pos h0]
  rw [h0]
  clear h0
  have o0 : _ = some (Value.int .i64 f) := KX4.out.cell 0 _ rfl
  have o1 : _ = some (Value.slice A1 n1 c1) := KX4.out.cell 1 _ rfl
  have o2 : _ = some (Value.slice (some ⟨X3.heap.size, 0, none⟩) 0 0) := KX4.out.cell 2 _ rfl
  obtain ⟨⟨r0, g0⟩, ⟨r1, g1⟩, ⟨r2, g2⟩, e0, e1, e2⟩ := res3 (x := .int .i64 f) (y := .slice A1 n1 c1) (z := .slice (some ⟨X3.heap.size, 0, none⟩) 0 0) KR4.out
  have SF : Hid (EngO (((X4.setCell ⟨R, 0, none⟩ (.int .i64 f)).setCell ⟨R, 1, none⟩ (.slice A1 n1 c1)).setCell ⟨R, 2, none⟩ (.slice (some ⟨X3.heap.size, 0, none⟩) 0 0)) base (.agg #[.int .i64 f, .slice A1 n1 c1, .slice (some ⟨X3.heap.size, 0, none⟩) 0 0]) (oneS e)) := by
   unfold Hid
   rw [HE.out]
   exact EngO.end3 KR4.out rfl HL.out S4.out (owns_strs (O4.out.mono (Nat.le_trans HBs.out HG.out.1)))
  have BF : Hid (Below w.heap.size w (((X4.setCell ⟨R, 0, none⟩ (.int .i64 f)).setCell ⟨R, 1, none⟩ (.slice A1 n1 c1)).setCell ⟨R, 2, none⟩ (.slice (some ⟨X3.heap.size, 0, none⟩) 0 0))) := below_set3 B4.out HRw.out _ _ _
  rw [hX4] at o0 o1 o2 r0 g0 r1 g1 r2 g2 e0 e1 e2 SF BF
  clear hX4 KX4 KR4 S4 O4 B4
  go_wp2_with fail
  exact bodyPost_ret (v := .agg #[.int .i64 f, .slice A1 n1 c1, .slice (some ⟨X3.heap.size, 0, none⟩) 0 0]) (by simp [results, go_sem, e0, e1, e2]) rfl ⟨⟨_, rfl, SF.out⟩, BF.out⟩
 ·have HE : Hid (oneS e = ⟨f, e.cache, [fileT (plainE e)]⟩) := by unfold Hid; rw [HOne.out, if_neg h0]
  have hne := bytes_ne h0
  have hnl : ¬ (fileT (plainE e)).toList = [] := fun h => h0 (toList_inj (h.trans (by rw [Lib.toList_data])))
  have hnE : (fileT (plainE e)).toList.isEmpty = false := by cases h : (fileT (plainE e)).toList with
   | nil => exact absurd h hnl
   | cons a b => rfl
  clear h0
  generalize hft : fileT (plainE e) = ft at *
  clear hft
  have o2 : _ = some (Value.slice (some ⟨X3.heap.size, 0, none⟩) 0 0) := KX4.out.cell 2 _ rfl
  rw [hX4] at o2
  have Z4 : X3.heap.size ≤ X4.heap.size := by rw [hX4]; simp
  have hZ4 : X4.heap.size = X3.heap.size + 1 := by rw [hX4]; simp
  go_wp2_with (at_builtin; refine Shut.out ?_)
  rw [← hX4]
  unfold Shut
  refine wpList_append_row rfl (.tmp 21) (.tmp 23) 24 9 (.string ⟨#[]⟩) 1 16 rfl Tryz.underlying24 infoStr rfl (by omega) X3.heap.size (.slice (some ⟨X3.heap.size, 0, none⟩) 0 0) (stR []) rfl O4.out [.string ft] rfl (st_cell ft) (by rw [hZ4]; rfl) (by simp [stR]) (by omega) Z4 ?_
  intro v' w5 hO5 hb5 hk5 hw5
  obtain ⟨A5, n5, c5, rfl⟩ := hO5.shape
  have hkw : ∀ b, b < X3.heap.size → w5.heap[b]? = X4.heap[b]? := fun b hb => hb5.block b hb
  have K5 : Blk w5 w.heap.size #[.int .i64 f, .slice A1 n1 c1, .slice (some ⟨X3.heap.size, 0, none⟩) 0 0] 35 := (hkw _ KX3.out.lt).trans KX4.out
  have KR5 : Blk w5 R #[.int .i64 0, .slice none 0 0, .slice none 0 0] 35 := (hkw _ KR3.out.lt).trans KR4.out
  have S5 : SerO w5 base (.slice A1 n1 c1) L := by
   have h := S4.out
   have h2 := HS.out.on B3.out
   exact ⟨h.1.kept fun g _ hv => hkw g (h2.1.lt g hv).2, fun p hp => (h.2.1 p hp).kept fun g _ hv => hkw g ((h2.2.1 p hp).lt g hv).2, h.2.2⟩
  have T5 : Strs w5 base (.slice A5 n5 c5) [ft] := owns_strs (hO5.mono (Nat.le_trans HBs.out HG.out.1))
  have B5 : Below w.heap.size w w5 := B4.out.trans (hb5.mono HG.out.1)
  have p2 : _ = some (Value.slice (some ⟨X3.heap.size, 0, none⟩) 0 0) := K5.cell 2 _ rfl
  have pf2 := K5.free 2
  have K6 := K5.set 2 (.slice A5 n5 c5)
  have kb6 : KeptBut w.heap.size w5 (w5.setCell ⟨w.heap.size, 2, none⟩ (.slice A5 n5 c5)) := (KeptBut.refl _ _).set 2 _
  have KR6 := KR5.but kb6 (show R ≠ w.heap.size by have := HR.out; omega)
  have q0 : _ = some (Value.int .i64 f) := K6.cell 0 _ rfl
  have q1 : _ = some (Value.slice A1 n1 c1) := K6.cell 1 _ rfl
  have q2 : _ = some (Value.slice A5 n5 c5) := K6.cell 2 _ rfl
  obtain ⟨⟨r0, g0⟩, ⟨r1, g1⟩, ⟨r2, g2⟩, e0, e1, e2⟩ := res3 (x := .int .i64 f) (y := .slice A1 n1 c1) (z := .slice A5 n5 c5) KR6
  have SF : Hid (EngO ((((w5.setCell ⟨w.heap.size, 2, none⟩ (.slice A5 n5 c5)).setCell ⟨R, 0, none⟩ (.int .i64 f)).setCell ⟨R, 1, none⟩ (.slice A1 n1 c1)).setCell ⟨R, 2, none⟩ (.slice A5 n5 c5)) base (.agg #[.int .i64 f, .slice A1 n1 c1, .slice A5 n5 c5]) (oneS e)) := by
   unfold Hid
   rw [HE.out]
   exact EngO.end3 KR6 rfl HL.out (S5.butE K5 kb6) (T5.butE K5 kb6)
  have BF : Hid (Below w.heap.size w ((((w5.setCell ⟨w.heap.size, 2, none⟩ (.slice A5 n5 c5)).setCell ⟨R, 0, none⟩ (.int .i64 f)).setCell ⟨R, 1, none⟩ (.slice A1 n1 c1)).setCell ⟨R, 2, none⟩ (.slice A5 n5 c5))) := below_set3 (B5.setCell (Nat.le_refl _) _) HRw.out _ _ _
  clear hX4 KX4 KR4 S4 O4 B4 hZ4 Z4 o2 m2 f2 hO5 hb5 hk5 hw5 hkw S5 T5 B5 K5 K6 KR5 KR6 kb6
  go_wp2_with fail
  exact bodyPost_ret (v := .agg #[.int .i64 f, .slice A1 n1 c1, .slice A5 n5 c5]) (by simp [results, go_sem, e0, e1, e2]) rfl ⟨⟨_, rfl, SF.out⟩, BF.out⟩
end Go.Proofs.YtikknmoeefipmaaGreatDoor
namespace Go.Proofs.YtikknmoeefipmaaGreatDoor
open Go.ChangeShapes Go.WideShapes Go.ChangeAt Go.RowKit Go.PlainAid
set_option linter.unusedVariables false
theorem run_append_all {P : Program} (w : World) (t ty e : TypeId) (z : Value) (sz bytes : Nat)
  (ht : P.underlying t = some (.slice e)) (hinfo : (P.info? e).map (fun i => (i.zero, i.size, i.bytes)) = some (some z, sz, bytes)) (hzs : z.cells.size = sz) (hsz : 0 < sz)
  (base : Nat) (v u : Value) (rows more : List (List Value)) (B : Nat) (hown : Owns w base e sz v rows) (hu : Lies w B sz u more) (h1 : ∀ r ∈ more, ∀ y ∈ r, y.oneCell' = true)
  (hlen : rows.length + more.length ≤ 2097152) (hby : bytes ≤ 1000) (hbase : base ≤ w.heap.size) :
  ∃ A m c w', (Builtin.append_ #[t, t] ty #[v, u]).run P w = .ok (.slice A m c) w' ∧ Owns w' base e sz (.slice A m c) (rows ++ more) ∧ Below base w w' ∧ (∀ g, g < w.heap.size → v.ownBlock ≠ some g → w'.heap[g]? = w.heap[g]?) := by
 obtain ⟨i0, hi, hz0, hz1, hz2⟩ := info_parts hinfo
 have hb1 : (rows.length + more.length) * bytes ≤ 140737488355328 := Nat.le_trans (Nat.mul_le_mul hlen hby) (by omega)
 obtain ⟨A, cap, rfl, hz, hms, hm⟩ := hu
 match A, hz, hm with
 | none, hz, hm =>
  have h0 : more.length = 0 := by
   rcases hm with h0 | ⟨g, off, e, _⟩
   ·exact h0
   ·cases e
  have hc0 := hz.1 rfl
  subst hc0
  have hnil : more = [] := List.eq_nil_of_length_eq_zero h0
  subst hnil
  have hr := run_append_owned_none (P := P) w base t ty e i0 sz ht hi v rows.length rows.flatten hown.2
  obtain ⟨A, m, c, rfl⟩ := hown.shape
  exact ⟨A, m, c, w, hr, by simpa using hown, Below.refl _ _, fun _ _ _ => rfl⟩
 | some ad, hz, hm =>
  have hnews : ∀ j y, more.flatten[j]? = some y → w.cell? (ad.add j) = some y := by
   intro j y hj
   rcases hm with h0 | ⟨g, off, e, hg, hc⟩
   ·rw [List.eq_nil_of_length_eq_zero h0] at hj
    simp at hj
   ·cases e
    have e1 : (⟨g, off, none⟩ : Addr).add j = ⟨g, off + j, none⟩ := by cases j <;> simp [Addr.add]
    rw [e1]
    exact hc j y hj
  have h1' : ∀ y ∈ more.flatten, y.oneCell' = true := by
   intro y hy
   obtain ⟨r, hr, hyr⟩ := List.mem_flatten.1 hy
   exact h1 r hr y hyr
  obtain ⟨v', w', hrun, h2, h3, _⟩ := run_append_own (P := P) w base t ty e i0 z sz bytes ht hi hz0 hz1 hz2 hzs hsz v rows.length rows.flatten hown.2 ad more.length cap more.flatten (flat_length sz more hms) hnews h1' (by unfold maxLen; omega) hb1 hbase
  have hb0 : ∀ k, v.ownBlock = some k → base ≤ k := fun k hk => (hown.lt k hk).1
  have hO : Owns w' base e sz v' (rows ++ more) := by
   refine ⟨?_, ?_⟩
   ·intro y hy
    rcases List.mem_append.1 hy with hy | hy
    ·exact hown.1 y hy
    ·exact hms y hy
   ·rw [List.length_append, List.flatten_append]
    exact h2
  obtain ⟨A, m, c, rfl⟩ := hO.shape
  exact ⟨A, m, c, w', hrun, hO, (Below.refl base w).grown h3 hbase hb0, fun g hg hne => h3.block g hg (fun e => hne e.symm)⟩
end Go.Proofs.YtikknmoeefipmaaGreatDoor
namespace Go.Proofs.YtikknmoeefipmaaGreatDoor
open Go.ChangeShapes Go.WideShapes Go.ChangeAt Go.RowKit Go.PlainAid
set_option linter.unusedVariables false
set_option maxRecDepth 100000 in
set_option maxHeartbeats 8000000 in
theorem specCopy (e : Eng) (v : Value) (w : World) (B : Nat) (hv : EngV w B v e) (hs : EShort e) (hB : B ≤ w.heap.size) :
  Calls Tryz.prog 46 #[v] w fun b w' => (∃ u, b = .returned u ∧ EngO w' w.heap.size u e) ∧ Below w.heap.size w w' := by
 obtain ⟨vc, vf, rfl, hc, hl⟩ := hv
 unfold vE
 obtain ⟨Ac, cc, rfl, _⟩ := hc.look
 obtain ⟨A, cap, rfl, _⟩ := st_look hl
 have HC : Hid (SerV w B (.slice Ac e.cache.length cc) e.cache) := hc
 have HLs : Hid (Lies w B 1 (.slice A e.files.length cap) (stR e.files)) := hl
 replace HLs : Hid (Lies w w.heap.size 1 (.slice A e.files.length cap) (stR e.files)) := hl.mono hB
 have HB : Hid (B ≤ w.heap.size) := hB
 have HFn : Hid ((stR []).length + (stR e.files).length ≤ 2097152) := by have := hs.2.2.1; unfold Hid; rw [stR_length, stR_length]; simp; omega
 have HSh : Hid (SShort e.cache) := hs.1
 obtain ⟨X0, hX0⟩ : ∃ X0, X0 = (w.alloc (.cells #[.int .i64 e.floor, .slice Ac e.cache.length cc, .slice A e.files.length cap] 35)).alloc (.cells #[.int .i64 0, .slice none 0 0, .slice none 0 0] 35) := ⟨_, rfl⟩
 have BX : Hid (Below w.heap.size w X0) := by unfold Hid; rw [hX0]; exact below_alloc2 _ _ _
 have KX : Hid (Blk X0 w.heap.size #[.int .i64 e.floor, .slice Ac e.cache.length cc, .slice A e.files.length cap] 35) := by unfold Hid; rw [hX0]; exact (Blk.new w _ _).alloc _
 have KR : Hid (Blk X0 (w.heap.size + 1) #[.int .i64 0, .slice none 0 0, .slice none 0 0] 35) := by
  unfold Hid
  rw [hX0]
  have := Blk.new (w.alloc (.cells #[.int .i64 e.floor, .slice Ac e.cache.length cc, .slice A e.files.length cap] 35)) #[.int .i64 0, .slice none 0 0, .slice none 0 0] 35
  rw [World.size_alloc] at this
  exact this
 have HL : Hid (∀ wx, Below w.heap.size w wx → ∀ j, j < e.cache.length → ∃ g off u, Ac = some ⟨g, off, none⟩ ∧ g < B ∧ wx.cell? ⟨g, off + j * 2, none⟩ = some (.string (e.cache.getD j default).key) ∧ wx.cell? ⟨g, off + j * 2 + 1, none⟩ = some u ∧ Lies wx B 2 u (ptR (e.cache.getD j default).pts)) := fun wx hx => by
  obtain ⟨A', c', e', h⟩ := (HC.out.on (hx.mono HB.out)).look
  cases e'
  exact h
 have HTk : Hid (∀ i, i < e.cache.length → e.cache.take (i + 1) = e.cache.take i ++ [e.cache.getD i default]) := fun i hi => take_getD _ i hi
 have HTn : Hid (∀ i, i = e.cache.length → e.cache.take i = e.cache) := fun i hi => by rw [hi, List.take_length]
 have HPt : Hid (∀ i, i < e.cache.length → (e.cache.getD i default).pts.length ≤ 1048576) := fun i hi => hs.1.2 _ (getD_mem _ i hi)
 have q1 : (e.cache.length : Int) ≤ 1048576 := by have := hs.1.1; omega
 clear hc hl hB hs
 generalize hf : e.floor = f at *
 have HFe : Hid (e.floor = f) := hf
 clear hf
 generalize hnc : e.cache.length = nc at *
 have HNc : Hid (e.cache.length = nc) := hnc
 clear hnc
 generalize e.files.length = nf at *
 go_enter Tryz.func46, Tryz.ntmps46
 go_wp2_with fail
 rw [← hX0]
 clear hX0
 go_cut [3] from 5 to 11 (fun s3 wx => ∃ p A n c, s3 = .pointer (some ⟨p, 0, none⟩) ∧ Below X0.heap.size X0 wx ∧ Blk wx p #[.int .i64 f, .slice none 0 0, .slice A n c] 35 ∧ Strs wx X0.heap.size (.slice A n c) e.files ∧ X0.heap.size ≤ p)
 case first =>
  refine wp_region_until (fun w' => w'.cell? ⟨w.heap.size, 0, none⟩ = some (.int .i64 f) ∧ w'.cell? ⟨w.heap.size, 1, none⟩ = some (.slice Ac nc cc) ∧ w'.cell? ⟨w.heap.size, 2, none⟩ = some (.slice A nf cap)) (fun i => i == 8) 9 (by rfl) (by kernel_rfl) ?_
  have VY0 : Hid (Below X0.heap.size X0 X0.drew) := (Below.refl _ _).drew
  generalize X0.drew = Y0 at *
  have S0 : Hid (Y0.cell? ⟨w.heap.size, 0, none⟩ = some (.int .i64 f) ∧ Y0.cell? ⟨w.heap.size, 1, none⟩ = some (.slice Ac nc cc) ∧ Y0.cell? ⟨w.heap.size, 2, none⟩ = some (.slice A nf cap)) := ⟨(KX.out.on VY0.out KX.out.lt).cell 0 _ rfl, (KX.out.on VY0.out KX.out.lt).cell 1 _ rfl, (KX.out.on VY0.out KX.out.lt).cell 2 _ rfl⟩
  refine tKe 0 (v := ?_) S0.out ?_ ?_; rotate_left; focus (intro w hSw; (try dsimp only at hSw); go_simp; try with_reducible rfl)
  try simp only [Act.put, zQ1, zQ2, zQ3]
  refine tKe 1 (v := ?_) S0.out ?_ ?_; rotate_left; focus (intro w hSw; (try dsimp only at hSw); go_simp; try with_reducible rfl)
  try simp only [Act.put, zQ1, zQ2, zQ3]
  refine tKe 3 (v := ?_) S0.out ?_ ?_; rotate_left; focus (intro w hSw; (try dsimp only at hSw); go_simp; try with_reducible rfl)
  try simp only [Act.put, zQ1, zQ2, zQ3]
  refine tKe 4 (v := ?_) S0.out ?_ ?_; rotate_left; focus (intro w hSw; (try dsimp only at hSw); go_simp; try with_reducible rfl)
  try simp only [Act.put, zQ1, zQ2, zQ3]
  refine until_two 2 7 (by rfl) (by rfl) (by kernel_rfl) (fun K hK => ?_) (fun K hK => ?_)
  ·go_simp
   have ob := Owns.empty Y0 X0.heap.size 9 1 VY0.out.size
   have bz : Below Y0.heap.size Y0 (Y0.alloc (.cells #[] 9)) := (Below.refl _ _).alloc (Nat.le_refl _) _
   generalize Y0.alloc (.cells #[] 9) = Y1 at *
   have VY1 : Hid (Below X0.heap.size X0 Y1) := VY0.out.trans (bz.mono VY0.out.size)
   have OBY1 : Hid (Owns Y1 X0.heap.size 9 1 (.slice (some ⟨Y0.heap.size, 0, none⟩) 0 0) (stR [])) := ob
   clear ob bz
   refine hK.out _ _ (fun _ _ => ⟨(KX.out.on VY1.out KX.out.lt).cell 0 _ rfl, (KX.out.on VY1.out KX.out.lt).cell 1 _ rfl, (KX.out.on VY1.out KX.out.lt).cell 2 _ rfl⟩) ?_
   clear hK K
   try simp only [Act.put, zQ1, zQ2, zQ3]
   refine until_two 5 7 (by rfl) (by rfl) (by kernel_rfl) (fun K hK => ?_) (fun K hK => ?_)
   ·obtain ⟨Ap, mp, cp, Y2, hr, hOp, hbp, hkp⟩ := run_append_all (P := Tryz.prog) Y1 24 24 9 (.string ⟨#[]⟩) 1 16 Tryz.underlying24 infoStr rfl (by omega) X0.heap.size _ _ (stR []) (stR e.files) Y1.heap.size OBY1.out ((HLs.out.on (BX.out.trans (VY1.out.mono BX.out.size))).mono (BX.out.trans (VY1.out.mono BX.out.size)).size) (st_one _) HFn.out (by omega) VY1.out.size
    refine step_append_run (by rfl) (.tmp 7) (.tmp 9) 24 (by rfl) _ _ _ _ (by rfl) (by rfl) hr ?_
    have VY2 : Hid (Below X0.heap.size X0 Y2) := VY1.out.trans hbp
    have OAY2 : Hid (Owns Y2 X0.heap.size 9 1 (.slice Ap mp cp) (stR e.files)) := hOp
    clear hr hOp hbp hkp
    refine hK.out _ _ (fun _ _ => ⟨(KX.out.on VY2.out KX.out.lt).cell 0 _ rfl, (KX.out.on VY2.out KX.out.lt).cell 1 _ rfl, (KX.out.on VY2.out KX.out.lt).cell 2 _ rfl⟩) ?_
    clear hK K
    try simp only [Act.put, zQ1, zQ2, zQ3]
    refine pUr 6 (v := ?_) ?_ ?_; rotate_left; focus (intro w; go_simp; try with_reducible rfl)
    try simp only [Act.put, zQ1, zQ2, zQ3]
    refine uNe 7 (fun K hK => ?_)
    go_simp
    have zk := Blk.new Y2 #[.int .i64 0, .slice none 0 0, .slice none 0 0] 35
    have bz : Below Y2.heap.size Y2 (Y2.alloc (.cells #[.int .i64 0, .slice none 0 0, .slice none 0 0] 35)) := (Below.refl _ _).alloc (Nat.le_refl _) _
    have PL : Hid (X0.heap.size ≤ Y2.heap.size) := VY2.out.size
    generalize Y2.alloc (.cells #[.int .i64 0, .slice none 0 0, .slice none 0 0] 35) = Y3 at *
    have VY3 : Hid (Below X0.heap.size X0 Y3) := VY2.out.trans (bz.mono VY2.out.size)
    have OAY3 : Hid (Owns Y3 X0.heap.size 9 1 (.slice Ap mp cp) (stR e.files)) := OAY2.out.on bz
    have ZKY3 : Hid (Blk Y3 Y2.heap.size #[.int .i64 0, .slice none 0 0, .slice none 0 0] 35) := zk
    clear zk bz
    refine hK.out _ _ (fun _ _ => ⟨(KX.out.on VY3.out KX.out.lt).cell 0 _ rfl, (KX.out.on VY3.out KX.out.lt).cell 1 _ rfl, (KX.out.on VY3.out KX.out.lt).cell 2 _ rfl⟩) ?_
    clear hK K
    try simp only [Act.put, zQ1, zQ2, zQ3]
    refine uNe 8 (fun K hK => ?_)
    obtain ⟨⟨r0, g0⟩, ⟨r1, g1⟩, ⟨r2, g2⟩, s0, s1, s2⟩ := res3 (x := .int .i64 f) (y := .slice none 0 0) (z := .slice Ap mp cp) ZKY3.out
    go_simp
    refine hK.out _ _ (fun h => by cases h) ?_
    clear hK K r0 g0 r1 g1 r2 g2 s0 s1 s2
    try simp only [Act.put, zQ1, zQ2, zQ3]
    refine until_done (by kernel_rfl) ?_ _
    try go_wp2_with fail
    go_meet
    case rel =>
     exact ⟨Y2.heap.size, Ap, mp, cp, rfl, ((VY3.out.setCell PL.out _).setCell PL.out _).setCell PL.out _, ZKY3.out.set3, (owns_strs OAY3.out).butE ZKY3.out (KeptBut.set3 _ _ _ _), PL.out⟩
   ·go_simp
    have zk := Blk.new Y1 #[.int .i64 0, .slice none 0 0, .slice none 0 0] 35
    have bz : Below Y1.heap.size Y1 (Y1.alloc (.cells #[.int .i64 0, .slice none 0 0, .slice none 0 0] 35)) := (Below.refl _ _).alloc (Nat.le_refl _) _
    have PL : Hid (X0.heap.size ≤ Y1.heap.size) := VY1.out.size
    generalize Y1.alloc (.cells #[.int .i64 0, .slice none 0 0, .slice none 0 0] 35) = Y4 at *
    have VY4 : Hid (Below X0.heap.size X0 Y4) := VY1.out.trans (bz.mono VY1.out.size)
    have OBY4 : Hid (Owns Y4 X0.heap.size 9 1 (.slice (some ⟨Y0.heap.size, 0, none⟩) 0 0) (stR [])) := OBY1.out.on bz
    have ZKY4 : Hid (Blk Y4 Y1.heap.size #[.int .i64 0, .slice none 0 0, .slice none 0 0] 35) := zk
    clear zk bz
    refine hK.out _ _ (fun _ _ => ⟨(KX.out.on VY4.out KX.out.lt).cell 0 _ rfl, (KX.out.on VY4.out KX.out.lt).cell 1 _ rfl, (KX.out.on VY4.out KX.out.lt).cell 2 _ rfl⟩) ?_
    clear hK K
    try simp only [Act.put, zQ1, zQ2, zQ3]
    refine uNe 5 (fun K hK => ?_)
    obtain ⟨Ap, mp, cp, Y5, hr, hOp, hbp, hkp⟩ := run_append_all (P := Tryz.prog) Y4 24 24 9 (.string ⟨#[]⟩) 1 16 Tryz.underlying24 infoStr rfl (by omega) X0.heap.size _ _ (stR []) (stR e.files) Y4.heap.size OBY4.out ((HLs.out.on (BX.out.trans (VY4.out.mono BX.out.size))).mono (BX.out.trans (VY4.out.mono BX.out.size)).size) (st_one _) HFn.out (by omega) VY4.out.size
    refine step_append_run (by rfl) (.tmp 7) (.tmp 9) 24 (by rfl) _ _ _ _ (by rfl) (by rfl) hr ?_
    have VY5 : Hid (Below X0.heap.size X0 Y5) := VY4.out.trans hbp
    have OAY5 : Hid (Owns Y5 X0.heap.size 9 1 (.slice Ap mp cp) (stR e.files)) := hOp
    have ZKY5 : Hid (Blk Y5 Y1.heap.size #[.int .i64 0, .slice none 0 0, .slice none 0 0] 35) := (hkp _ ZKY4.out.lt (OBY4.out.notBlk ZKY4.out (by decide))).trans ZKY4.out
    clear hr hOp hbp hkp
    refine hK.out _ _ (fun _ _ => ⟨(KX.out.on VY5.out KX.out.lt).cell 0 _ rfl, (KX.out.on VY5.out KX.out.lt).cell 1 _ rfl, (KX.out.on VY5.out KX.out.lt).cell 2 _ rfl⟩) ?_
    clear hK K
    try simp only [Act.put, zQ1, zQ2, zQ3]
    refine pUr 6 (v := ?_) ?_ ?_; rotate_left; focus (intro w; go_simp; try with_reducible rfl)
    try simp only [Act.put, zQ1, zQ2, zQ3]
    refine uNe 8 (fun K hK => ?_)
    obtain ⟨⟨r0, g0⟩, ⟨r1, g1⟩, ⟨r2, g2⟩, s0, s1, s2⟩ := res3 (x := .int .i64 f) (y := .slice none 0 0) (z := .slice Ap mp cp) ZKY5.out
    go_simp
    refine hK.out _ _ (fun h => by cases h) ?_
    clear hK K r0 g0 r1 g1 r2 g2 s0 s1 s2
    try simp only [Act.put, zQ1, zQ2, zQ3]
    refine until_done (by kernel_rfl) ?_ _
    try go_wp2_with fail
    go_meet
    case rel =>
     exact ⟨Y1.heap.size, Ap, mp, cp, rfl, ((VY5.out.setCell PL.out _).setCell PL.out _).setCell PL.out _, ZKY5.out.set3, (owns_strs OAY5.out).butE ZKY5.out (KeptBut.set3 _ _ _ _), PL.out⟩
  ·go_simp
   have zk := Blk.new Y0 #[.int .i64 0, .slice none 0 0, .slice none 0 0] 35
   have bz : Below Y0.heap.size Y0 (Y0.alloc (.cells #[.int .i64 0, .slice none 0 0, .slice none 0 0] 35)) := (Below.refl _ _).alloc (Nat.le_refl _) _
   have PL : Hid (X0.heap.size ≤ Y0.heap.size) := VY0.out.size
   generalize Y0.alloc (.cells #[.int .i64 0, .slice none 0 0, .slice none 0 0] 35) = Y6 at *
   have VY6 : Hid (Below X0.heap.size X0 Y6) := VY0.out.trans (bz.mono VY0.out.size)
   have ZKY6 : Hid (Blk Y6 Y0.heap.size #[.int .i64 0, .slice none 0 0, .slice none 0 0] 35) := zk
   clear zk bz
   refine hK.out _ _ (fun _ _ => ⟨(KX.out.on VY6.out KX.out.lt).cell 0 _ rfl, (KX.out.on VY6.out KX.out.lt).cell 1 _ rfl, (KX.out.on VY6.out KX.out.lt).cell 2 _ rfl⟩) ?_
   clear hK K
   try simp only [Act.put, zQ1, zQ2, zQ3]
   refine uNe 2 (fun K hK => ?_)
   go_simp
   have ob := Owns.empty Y6 X0.heap.size 9 1 VY6.out.size
   have bz : Below Y6.heap.size Y6 (Y6.alloc (.cells #[] 9)) := (Below.refl _ _).alloc (Nat.le_refl _) _
   generalize Y6.alloc (.cells #[] 9) = Y7 at *
   have VY7 : Hid (Below X0.heap.size X0 Y7) := VY6.out.trans (bz.mono VY6.out.size)
   have ZKY7 : Hid (Blk Y7 Y0.heap.size #[.int .i64 0, .slice none 0 0, .slice none 0 0] 35) := ZKY6.out.on bz ZKY6.out.lt
   have OBY7 : Hid (Owns Y7 X0.heap.size 9 1 (.slice (some ⟨Y6.heap.size, 0, none⟩) 0 0) (stR [])) := ob
   clear ob bz
   refine hK.out _ _ (fun _ _ => ⟨(KX.out.on VY7.out KX.out.lt).cell 0 _ rfl, (KX.out.on VY7.out KX.out.lt).cell 1 _ rfl, (KX.out.on VY7.out KX.out.lt).cell 2 _ rfl⟩) ?_
   clear hK K
   try simp only [Act.put, zQ1, zQ2, zQ3]
   refine uNe 5 (fun K hK => ?_)
   obtain ⟨Ap, mp, cp, Y8, hr, hOp, hbp, hkp⟩ := run_append_all (P := Tryz.prog) Y7 24 24 9 (.string ⟨#[]⟩) 1 16 Tryz.underlying24 infoStr rfl (by omega) X0.heap.size _ _ (stR []) (stR e.files) Y7.heap.size OBY7.out ((HLs.out.on (BX.out.trans (VY7.out.mono BX.out.size))).mono (BX.out.trans (VY7.out.mono BX.out.size)).size) (st_one _) HFn.out (by omega) VY7.out.size
   refine step_append_run (by rfl) (.tmp 7) (.tmp 9) 24 (by rfl) _ _ _ _ (by rfl) (by rfl) hr ?_
   have VY8 : Hid (Below X0.heap.size X0 Y8) := VY7.out.trans hbp
   have OAY8 : Hid (Owns Y8 X0.heap.size 9 1 (.slice Ap mp cp) (stR e.files)) := hOp
   have ZKY8 : Hid (Blk Y8 Y0.heap.size #[.int .i64 0, .slice none 0 0, .slice none 0 0] 35) := (hkp _ ZKY7.out.lt (OBY7.out.notBlk ZKY7.out (by decide))).trans ZKY7.out
   clear hr hOp hbp hkp
   refine hK.out _ _ (fun _ _ => ⟨(KX.out.on VY8.out KX.out.lt).cell 0 _ rfl, (KX.out.on VY8.out KX.out.lt).cell 1 _ rfl, (KX.out.on VY8.out KX.out.lt).cell 2 _ rfl⟩) ?_
   clear hK K
   try simp only [Act.put, zQ1, zQ2, zQ3]
   refine pUr 6 (v := ?_) ?_ ?_; rotate_left; focus (intro w; go_simp; try with_reducible rfl)
   try simp only [Act.put, zQ1, zQ2, zQ3]
   refine uNe 8 (fun K hK => ?_)
   obtain ⟨⟨r0, g0⟩, ⟨r1, g1⟩, ⟨r2, g2⟩, s0, s1, s2⟩ := res3 (x := .int .i64 f) (y := .slice none 0 0) (z := .slice Ap mp cp) ZKY8.out
   go_simp
   refine hK.out _ _ (fun h => by cases h) ?_
   clear hK K r0 g0 r1 g1 r2 g2 s0 s1 s2
   try simp only [Act.put, zQ1, zQ2, zQ3]
   refine until_done (by kernel_rfl) ?_ _
   try go_wp2_with fail
   go_meet
   case rel =>
    exact ⟨Y0.heap.size, Ap, mp, cp, rfl, ((VY8.out.setCell PL.out _).setCell PL.out _).setCell PL.out _, ZKY8.out.set3, (owns_strs OAY8.out).butE ZKY8.out (KeptBut.set3 _ _ _ _), PL.out⟩
 case rest =>
 obtain ⟨p3, Af, mf, cf, rfl, hbc, hKc, hTc, hLc⟩ := hcut
 generalize wc = X1 at *
 have P3 : Hid (X0.heap.size ≤ p3) := hLc
 have q0 : 0 ≤ nc := Nat.zero_le _
 clear hLc
 go_wp2_with fail
 go_loopw [4] (fun v4 wr => ∃ (i : Nat) (L : List (Ser × Value)) (A1 : Option Addr) (n1 c1 : Nat), i ≤ nc ∧ v4 = .int .i64 (i : Int) ∧ L.map Prod.fst = e.cache.take i ∧ Blk wr p3 #[.int .i64 f, .slice A1 n1 c1, .slice Af mf cf] 35 ∧ SerO wr X0.heap.size (.slice A1 n1 c1) L ∧ Strs wr X0.heap.size (.slice Af mf cf) e.files ∧ Below X0.heap.size X0 wr) (fun i _ => nc - (intOf i).toNat)
 case atStart => exact ⟨0, [], none, 0, 0, q0, rfl, rfl, hKc, SerO.nilE _ _, hTc, hbc⟩
 case round =>
  obtain ⟨i, L, A1, n1, c1, hi, rfl, hL, hK, hS, hT, hb⟩ := hrel
  have HLm : Hid (L.map Prod.fst = e.cache.take i) := hL
  have K3 : Hid (Blk wr p3 #[.int .i64 f, .slice A1 n1 c1, .slice Af mf cf] 35) := hK
  have HS : Hid (SerO wr X0.heap.size (.slice A1 n1 c1) L) := hS
  have HT : Hid (Strs wr X0.heap.size (.slice Af mf cf) e.files) := hT
  have HBr : Hid (Below X0.heap.size X0 wr) := hb
  have BW : Hid (Below w.heap.size w wr) := BX.out.trans (hb.mono BX.out.size)
  have KXr : Hid (Blk wr w.heap.size #[.int .i64 f, .slice Ac nc cc, .slice A nf cap] 35) := KX.out.on hb KX.out.lt
  have x1 : _ = some (Value.slice Ac nc cc) := KXr.out.cell 1 _ rfl
  clear hL hK hS hT hb hKc hTc hbc
  by_cases hlt : i < nc
  ·have q4 : (i : Int) < (nc : Int) := by omega
   have HTi : Hid (e.cache.take (i + 1) = e.cache.take i ++ [e.cache.getD i default]) := HTk.out i hlt
   have HPl : Hid ((e.cache.getD i default).pts.length ≤ 1048576) := HPt.out i hlt
   obtain ⟨g, off, u, rfl, hg, e1, e2, hu⟩ := HL.out wr BW.out i hlt
   generalize e.cache.getD i default = sx at *
   obtain ⟨key, pts⟩ := sx
   obtain ⟨Au, cu, rfl, _⟩ := pt_look hu
   have HU : Hid (Lies wr B 2 (.slice Au pts.length cu) (ptR pts)) := hu
   have HPn : Hid ((ptR []).length + (ptR pts).length ≤ 2097152) := by have := HPl.out; unfold Hid; rw [ptR_length, ptR_length]; simp; exact Nat.le_trans this (by omega)
   have HLn : Hid ((srR L).length ≤ 2097152) := by
    have h1 := congrArg List.length HLm.out
    rw [List.length_map, List.length_take] at h1
    unfold Hid
    rw [srR_length]
    omega
   have E1 : Hid (wr.cell? ⟨g, off + i * 2, none⟩ = some (.string key)) := e1
   have E2 : Hid (wr.cell? ⟨g, off + i * 2 + 1, none⟩ = some (.slice Au pts.length cu)) := e2
   have HZ : Hid (X0.heap.size ≤ wr.heap.size) := HBr.out.size
   have HGB : Hid (g < w.heap.size) := Nat.lt_of_lt_of_le hg HB.out
   clear e1 e2 hu hg HPl
   generalize pts.length = pl at *
   go_wp2_with fail
   clear x1
   refine wp_region_until (fun w' => w'.cell? ⟨p3, 1, none⟩ = some (.slice A1 n1 c1) ∧ w'.cell? ⟨w.heap.size, 1, none⟩ = some (.slice (some ⟨g, off, none⟩) nc cc) ∧ w'.cell? ⟨g, off + i * 2, none⟩ = some (.string key) ∧ w'.cell? ⟨g, off + i * 2 + 1, none⟩ = some (.slice Au pl cu)) (fun i => i == 20) 21 (by rfl) (by kernel_rfl) ?_
   have V0 : Hid (Below wr.heap.size wr wr.drew) := (Below.refl _ _).drew
   generalize wr.drew = Y0 at *
   have HS0 : Hid (∀ wx, Below wr.heap.size wr wx → wx.cell? ⟨p3, 1, none⟩ = some (.slice A1 n1 c1) ∧ wx.cell? ⟨w.heap.size, 1, none⟩ = some (.slice (some ⟨g, off, none⟩) nc cc) ∧ wx.cell? ⟨g, off + i * 2, none⟩ = some (.string key) ∧ wx.cell? ⟨g, off + i * 2 + 1, none⟩ = some (.slice Au pl cu)) := fun wx hx =>
    ⟨(K3.out.on hx K3.out.lt).cell 1 _ rfl, (KXr.out.on hx KXr.out.lt).cell 1 _ rfl, by rw [hx.cell (World.block_lt_of_cell? _ _ E1.out)]; exact E1.out, by rw [hx.cell (World.block_lt_of_cell? _ _ E2.out)]; exact E2.out⟩
   refine until_take 0 (v := ?_) (by rfl) (by kernel_rfl) (by exact fun _ _ _ h => h) (by rfl) ?_ (HS0.out _ V0.out) ?_; rotate_left; focus (intro w hSw; (try dsimp only at hSw); go_simp; try with_reducible rfl)
   try simp only [Act.put, zQ1, zQ2, zQ3]
   refine until_take 1 (v := ?_) (by rfl) (by kernel_rfl) (by exact fun _ _ _ h => h) (by rfl) ?_ (HS0.out _ V0.out) ?_; rotate_left; focus (intro w hSw; (try dsimp only at hSw); go_simp; try with_reducible rfl)
   try simp only [Act.put, zQ1, zQ2, zQ3]
   refine until_take 2 (v := ?_) (by rfl) (by kernel_rfl) (by exact fun _ _ _ h => h) (by rfl) ?_ (HS0.out _ V0.out) ?_; rotate_left; focus (intro w hSw; (try dsimp only at hSw); go_simp; try with_reducible rfl)
   try simp only [Act.put, zQ1, zQ2, zQ3]
   refine until_take 3 (v := ?_) (by rfl) (by kernel_rfl) (by exact fun _ _ _ h => h) (by rfl) ?_ (HS0.out _ V0.out) ?_; rotate_left; focus (intro w hSw; (try dsimp only at hSw); go_simp; try with_reducible rfl)
   try simp only [Act.put, zQ1, zQ2, zQ3]
   refine until_take 4 (v := ?_) (by rfl) (by kernel_rfl) (by exact fun _ _ _ h => h) (by rfl) ?_ (HS0.out _ V0.out) ?_; rotate_left; focus (intro w hSw; (try dsimp only at hSw); go_simp; try with_reducible rfl)
   try simp only [Act.put, zQ1, zQ2, zQ3]
   refine until_take 5 (v := ?_) (by rfl) (by kernel_rfl) (by exact fun _ _ _ h => h) (by rfl) ?_ (HS0.out _ V0.out) ?_; rotate_left; focus (intro w hSw; (try dsimp only at hSw); go_simp; try with_reducible rfl)
   try simp only [Act.put, zQ1, zQ2, zQ3]
   refine until_take 6 (v := ?_) (by rfl) (by kernel_rfl) (by exact fun _ _ _ h => h) (by rfl) ?_ (HS0.out _ V0.out) ?_; rotate_left; focus (intro w hSw; (try dsimp only at hSw); go_simp; try with_reducible rfl)
   try simp only [Act.put, zQ1, zQ2, zQ3]
   refine until_take 7 (v := ?_) (by rfl) (by kernel_rfl) (by exact fun _ _ _ h => h) (by rfl) ?_ (HS0.out _ V0.out) ?_; rotate_left; focus (intro w hSw; (try dsimp only at hSw); go_simp; try with_reducible rfl)
   try simp only [Act.put, zQ1, zQ2, zQ3]
   refine until_take 9 (v := ?_) (by rfl) (by kernel_rfl) (by exact fun _ _ _ h => h) (by rfl) ?_ (HS0.out _ V0.out) ?_; rotate_left; focus (intro w hSw; (try dsimp only at hSw); go_simp; try with_reducible rfl)
   try simp only [Act.put, zQ1, zQ2, zQ3]
   refine until_take 10 (v := ?_) (by rfl) (by kernel_rfl) (by exact fun _ _ _ h => h) (by rfl) ?_ (HS0.out _ V0.out) ?_; rotate_left; focus (intro w hSw; (try dsimp only at hSw); go_simp; try with_reducible rfl)
   try simp only [Act.put, zQ1, zQ2, zQ3]
   refine until_take 11 (v := ?_) (by rfl) (by kernel_rfl) (by exact fun _ _ _ h => h) (by rfl) ?_ (HS0.out _ V0.out) ?_; rotate_left; focus (intro w hSw; (try dsimp only at hSw); go_simp; try with_reducible rfl)
   try simp only [Act.put, zQ1, zQ2, zQ3]
   refine until_take 12 (v := ?_) (by rfl) (by kernel_rfl) (by exact fun _ _ _ h => h) (by rfl) ?_ (HS0.out _ V0.out) ?_; rotate_left; focus (intro w hSw; (try dsimp only at hSw); go_simp; try with_reducible rfl)
   try simp only [Act.put, zQ1, zQ2, zQ3]
   refine until_take 13 (v := ?_) (by rfl) (by kernel_rfl) (by exact fun _ _ _ h => h) (by rfl) ?_ (HS0.out _ V0.out) ?_; rotate_left; focus (intro w hSw; (try dsimp only at hSw); go_simp; try with_reducible rfl)
   try simp only [Act.put, zQ1, zQ2, zQ3]
   refine until_take 14 (v := ?_) (by rfl) (by kernel_rfl) (by exact fun _ _ _ h => h) (by rfl) ?_ (HS0.out _ V0.out) ?_; rotate_left; focus (intro w hSw; (try dsimp only at hSw); go_simp; try with_reducible rfl)
   try simp only [Act.put, zQ1, zQ2, zQ3]
   refine uNe 8 (fun K hK => ?_)
   go_simp
   have ob := Owns.empty Y0 Y0.heap.size 90 2 (Nat.le_refl _)
   have bz : Below Y0.heap.size Y0 (Y0.alloc (.cells #[] 90)) := (Below.refl _ _).alloc (Nat.le_refl _) _
   generalize Y0.alloc (.cells #[] 90) = Y1 at *
   have W1 : Hid (Below Y0.heap.size Y0 Y1) := bz
   have V1 : Hid (Below wr.heap.size wr Y1) := V0.out.trans (bz.mono V0.out.size)
   have OB : Hid (Owns Y1 Y0.heap.size 90 2 (.slice (some ⟨Y0.heap.size, 0, none⟩) 0 0) (ptR [])) := ob
   clear ob bz
   refine hK.out _ _ (fun _ _ => (HS0.out _ V1.out)) ?_
   clear hK K
   try simp only [Act.put, zQ1, zQ2, zQ3]
   refine uNe 15 (fun K hK => ?_)
   obtain ⟨Ap, mp, cp, Y2, hr, hOp, hbp, hkp⟩ := run_append_all (P := Tryz.prog) Y1 48 48 90 (.agg #[.int .i64 0, .int .i64 0]) 2 16 Tryz.underlying48 Tryz.infoPt rfl (by omega) Y0.heap.size _ _ (ptR []) (ptR pts) B OB.out (HU.out.on (V1.out.mono (Nat.le_trans HB.out BW.out.size))) (pt_one _) HPn.out (by omega) W1.out.size
   refine step_append_run (by rfl) (.tmp 27) (.tmp 33) 48 (by rfl) _ _ _ _ (by rfl) (by rfl) hr ?_
   have W2 : Hid (Below Y0.heap.size Y0 Y2) := W1.out.trans hbp
   have V2 : Hid (Below wr.heap.size wr Y2) := V0.out.trans (W2.out.mono V0.out.size)
   have OP : Hid (Owns Y2 Y0.heap.size 90 2 (.slice Ap mp cp) (ptR pts)) := hOp
   clear hr hOp hbp hkp W1 V1 OB
   refine hK.out _ _ (fun _ _ => (HS0.out _ V2.out)) ?_
   clear hK K
   try simp only [Act.put, zQ1, zQ2, zQ3]
   refine pUr 16 (v := ?_) ?_ ?_; rotate_left; focus (intro w; go_simp; try with_reducible rfl)
   try simp only [Act.put, zQ1, zQ2, zQ3]
   refine uNe 17 (fun K hK => ?_)
   go_simp
   have V3 : Hid (Below wr.heap.size wr (Y2.alloc (.cells #[.string key, .slice Ap mp cp] 98))) := V2.out.alloc V2.out.size _
   refine hK.out _ _ (fun _ _ => (HS0.out _ V3.out)) ?_
   clear hK K
   try simp only [Act.put, zQ1, zQ2, zQ3]
   have Z2 : X0.heap.size ≤ Y2.heap.size := Nat.le_trans HZ.out V2.out.size
   obtain ⟨A7, n7, c7, w5, r5, hO5, hb5, hk5, hw5⟩ := run_append_row (P := Tryz.prog) Y2 33 33 98 (.agg #[.string ⟨#[]⟩, .slice none 0 0]) 2 40 Tryz.underlying33 Tryz.infoSr rfl (by omega) X0.heap.size (.slice A1 n1 c1) (srR L) (HS.out.1.on V2.out) [.string key, .slice Ap mp cp] rfl (sr_cells key rfl) HLn.out (by omega) Z2
   refine uNe 18 (fun K hK => ?_)
   refine step_append_run (by rfl) (.tmp 20) (.tmp 36) 33 (by rfl) _ _ _ _ (by rfl) (by rfl) r5 ?_
   have hS2 := HS.out.on V2.out
   have hne5 : ∀ (v : Value) (b : Nat) (e : TypeId) (sz : Nat) (r : List (List Value)), Owns Y2 b e sz v r → e ≠ 98 → Owns w5 b e sz v r := fun v b e sz r ho hne => ho.kept fun gg hg hv => hk5 gg hg (fun hu => ho.apartT hS2.1 hne gg hv hu)
   have AP : ∀ q ∈ L, Apart q.2 (.slice Ap mp cp) := fun q hq gg h1 h2 => by
    have := ((HS.out.2.1 q hq).lt gg h1).2
    have := (OP.out.lt gg h2).1
    have := V0.out.size
    omega
   have S5 : Hid (SerO w5 X0.heap.size (.slice A7 n7 c7) (L ++ [(⟨key, pts⟩, .slice Ap mp cp)])) := SerO.snoc (w1 := Y2) (v := .slice A1 n1 c1) hO5 (fun q hq => hne5 _ _ _ _ _ (hS2.2.1 q hq) (by decide)) hS2.2.2 (hne5 _ _ _ _ _ (OP.out.mono (Nat.le_trans HZ.out V0.out.size)) (by decide)) AP
   have T5 : Hid (Strs w5 X0.heap.size (.slice Af mf cf) e.files) := owns_strs (hne5 _ _ _ _ _ ((strs_owns HT.out).on V2.out) (by decide))
   have hK2 := K3.out.on V2.out K3.out.lt
   have K5 : Hid (Blk w5 p3 #[.int .i64 f, .slice A1 n1 c1, .slice Af mf cf] 35) := (hk5 _ hK2.lt (hS2.1.notBlk hK2 (by decide))).trans hK2
   have B5 : Hid (Below X0.heap.size X0 w5) := (HBr.out.trans (V2.out.mono HZ.out)).trans hb5
   have HL5 : Hid ((L ++ [((⟨key, pts⟩ : Ser), Value.slice Ap mp cp)]).map Prod.fst = e.cache.take (i + 1)) := by unfold Hid; rw [HTi.out, List.map_append, HLm.out]; rfl
   have S20 : Hid (w5.cell? ⟨p3, 1, none⟩ = some (.slice A1 n1 c1) ∧ w5.cell? ⟨w.heap.size, 1, none⟩ = some (.slice (some ⟨g, off, none⟩) nc cc) ∧ w5.cell? ⟨g, off + i * 2, none⟩ = some (.string key) ∧ w5.cell? ⟨g, off + i * 2 + 1, none⟩ = some (.slice Au pl cu)) :=
    ⟨K5.out.cell 1 _ rfl, (KX.out.on B5.out KX.out.lt).cell 1 _ rfl, by rw [(BX.out.trans (B5.out.mono BX.out.size)).cell HGB.out, ← BW.out.cell HGB.out]; exact E1.out, by rw [(BX.out.trans (B5.out.mono BX.out.size)).cell HGB.out, ← BW.out.cell HGB.out]; exact E2.out⟩
   clear r5 hO5 hb5 hk5 hw5 hS2 hne5 AP hK2 Z2 V3
   refine hK.out _ _ (fun _ _ => S20.out) ?_
   clear hK K
   try simp only [Act.put, zQ1, zQ2, zQ3]
   refine pUr 19 (v := ?_) ?_ ?_; rotate_left; focus (intro w; go_simp; try with_reducible rfl)
   try simp only [Act.put, zQ1, zQ2, zQ3]
   refine uNe 20 (fun K hK => ?_)
   have s1 : _ = some (Value.slice A1 n1 c1) := K5.out.cell 1 _ rfl
   have f1 := K5.out.free 1
   go_simp
   refine hK.out _ _ (fun h => by cases h) ?_
   clear hK K s1 f1
   try simp only [Act.put, zQ1, zQ2, zQ3]
   refine until_done (by kernel_rfl) ?_ _
   try go_wp2_with fail
   go_roundw
   case rel => exact ⟨i + 1, _, A7, n7, c7, by omega, by go_num, HL5.out, K5.out.set 1 _, S5.out.butE K5.out ((KeptBut.refl p3 _).set 1 _), T5.out.butE K5.out ((KeptBut.refl p3 _).set 1 _), B5.out.setCell P3.out _⟩
   case measure => simp [intOf]; omega
  ·obtain rfl : i = nc := by omega
   have HE : Hid (L.map Prod.fst = e.cache) := HLm.out.trans (HTn.out i rfl)
   have KRr : Hid (Blk wr (w.heap.size + 1) #[.int .i64 0, .slice none 0 0, .slice none 0 0] 35) := KR.out.on HBr.out KR.out.lt
   have y0 : _ = some (Value.int .i64 f) := K3.out.cell 0 _ rfl
   have y1 : _ = some (Value.slice A1 n1 c1) := K3.out.cell 1 _ rfl
   have y2 : _ = some (Value.slice Af mf cf) := K3.out.cell 2 _ rfl
   generalize hR : w.heap.size + 1 = R at *
   have HRw : Hid (w.heap.size ≤ R) := by unfold Hid; omega
   clear hR
   obtain ⟨⟨r0, g0⟩, ⟨r1, g1⟩, ⟨r2, g2⟩, e0, e1, e2⟩ := res3 (x := .int .i64 f) (y := .slice A1 n1 c1) (z := .slice Af mf cf) KRr.out
   have SF : Hid (EngO (((wr.setCell ⟨R, 0, none⟩ (.int .i64 f)).setCell ⟨R, 1, none⟩ (.slice A1 n1 c1)).setCell ⟨R, 2, none⟩ (.slice Af mf cf)) w.heap.size (.agg #[.int .i64 f, .slice A1 n1 c1, .slice Af mf cf]) e) := EngO.end3 KRr.out HFe.out HE.out (HS.out.mono BX.out.size) (owns_strs ((strs_owns HT.out).mono BX.out.size))
   have BF : Hid (Below w.heap.size w (((wr.setCell ⟨R, 0, none⟩ (.int .i64 f)).setCell ⟨R, 1, none⟩ (.slice A1 n1 c1)).setCell ⟨R, 2, none⟩ (.slice Af mf cf))) := below_set3 BW.out HRw.out _ _ _
   go_wp2_with fail
   exact bodyPost_ret (v := .agg #[.int .i64 f, .slice A1 n1 c1, .slice Af mf cf]) (by simp [results, go_sem, e0, e1, e2]) rfl ⟨⟨_, rfl, SF.out⟩, BF.out⟩
end Go.Proofs.YtikknmoeefipmaaGreatDoor
