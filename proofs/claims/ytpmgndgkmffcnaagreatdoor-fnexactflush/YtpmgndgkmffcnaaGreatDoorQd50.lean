/- EgL2 EgFew -/
import Derived.Test.YtpmgndgkmffcnaaGreatDoorQd49
import Derived.Test.YtpmgndgkmffcnaaGreatDoorQd30
import Derived.WalkKit
import Derived.ProofKit
import Derived.OpenShut
import Derived.Below
import Derived.WalkSmall
import Derived.BigQuiet
import Derived.Deep.QuietTactic
import Derived.Deep.RegionWith
import Derived.Handy
import Derived.Test.YtpmgndgkmffcnaaGreatDoorQd45
namespace Go.Proofs.YtpmgndgkmffcnaaGreatDoor
open Go.ChangeShapes Go.WideShapes Go.ChangeAt Go.RowKit Go.PlainAid
set_option linter.unusedVariables false
set_option maxHeartbeats 4000000 in
theorem toEngine (e : Eng) (v : Value) (w : World) (B : Nat) (hv : EngV w B v e) (hs : EShort e) (hB : B ≤ w.heap.size) :
  Calls Tryz.prog 11 #[v] w fun b w' => (∃ u, b = .returned u ∧ EngO w' w.heap.size u e) ∧ Below w.heap.size w w' := by
 obtain ⟨vc, vf, rfl, hc, hl⟩ := hv
 unfold vE
 obtain ⟨Ac, cc, rfl, _⟩ := hc.look
 obtain ⟨A, cap, rfl, _⟩ := st_look hl
 have HLs : Hid (Lies w B 1 (.slice A e.files.length cap) (stR e.files)) := hl
 have HC : Hid (SerV w B (.slice Ac e.cache.length cc) e.cache) := hc
 have HB : Hid (B ≤ w.heap.size) := hB
 have HS : Hid (EShort e) := hs
 have HFl : Hid (e.floor = e.floor) := rfl
 clear hc hl hB hs
 generalize hcl : e.cache.length = cl at *
 clear hcl
 generalize hfl : e.files.length = fl at *
 clear hfl
 generalize hf : e.floor = f at *
 have HF : Hid (e.floor = f) := hf
 clear hf HFl
 obtain ⟨X1, hX1⟩ : ∃ X1, X1 = w.alloc (.cells #[.int .i64 f, .slice Ac cl cc, .slice A fl cap] 25) := ⟨_, rfl⟩
 obtain ⟨X2, hX2⟩ : ∃ X2, X2 = X1.alloc (.cells #[.int .i64 0, .slice none 0 0, .slice none 0 0] 30) := ⟨_, rfl⟩
 obtain ⟨X3, hX3⟩ : ∃ X3, X3 = X2.alloc (.cells #[.int .i64 f, .slice none 0 0, .slice none 0 0] 30) := ⟨_, rfl⟩
 have z1 : X1.heap.size = w.heap.size + 1 := by rw [hX1, World.size_alloc]
 have z2 : X2.heap.size = w.heap.size + 1 + 1 := by rw [hX2, World.size_alloc, z1]
 have z3 : X3.heap.size = w.heap.size + 1 + 1 + 1 := by rw [hX3, World.size_alloc, z2]
 have BX : Hid (Below w.heap.size w X3) := by
  unfold Hid
  rw [hX3, hX2, hX1]
  exact below_alloc3 _ _ _ _
 have KA : Hid (Blk X3 w.heap.size #[.int .i64 f, .slice Ac cl cc, .slice A fl cap] 25) := by
  unfold Hid
  rw [hX3, hX2, hX1]
  exact ((Blk.new w _ _).alloc _).alloc _
 have KR : Hid (Blk X3 (w.heap.size + 1) #[.int .i64 0, .slice none 0 0, .slice none 0 0] 30) := by
  unfold Hid
  rw [hX3, hX2, ← z1]
  exact (Blk.new X1 _ _).alloc _
 have KO : Hid (Blk X3 (w.heap.size + 1 + 1) #[.int .i64 f, .slice none 0 0, .slice none 0 0] 30) := by
  unfold Hid
  rw [hX3, ← z2]
  exact Blk.new X2 _ _
 have c1 := toSeriesS e.cache _ X3 B (HC.out.on (BX.out.mono HB.out)) HS.out.1 (Nat.le_trans HB.out BX.out.size)
 have ka := KA.out.cell 1 _ rfl
 go_enter Tryz.func11, Tryz.ntmps11
 go_wp2_with fail
 rw [← hX1, ← hX2, ← hX3]
 clear hX1 hX2 hX3 z1 z2
 refine c1.mono ?_
 rintro b X4 ⟨u4, L, rfl, hL, hS4, hb4⟩
 have HL : Hid (L.map Prod.fst = e.cache) := hL
 have S4 : Hid (SerO X4 X3.heap.size u4 L) := hS4
 have B4 : Hid (Below w.heap.size w X4) := BX.out.trans (hb4.mono BX.out.size)
 have KA4 : Hid (Blk X4 w.heap.size #[.int .i64 f, .slice Ac cl cc, .slice A fl cap] 25) := KA.out.on hb4 KA.out.lt
 have KR4 : Hid (Blk X4 (w.heap.size + 1) #[.int .i64 0, .slice none 0 0, .slice none 0 0] 30) := KR.out.on hb4 KR.out.lt
 have KO4 : Hid (Blk X4 (w.heap.size + 1 + 1) #[.int .i64 f, .slice none 0 0, .slice none 0 0] 30) := KO.out.on hb4 KO.out.lt
 obtain ⟨A4, n4, c4, rfl⟩ := hS4.1.shape
 have HZ : Hid (X3.heap.size = w.heap.size + 1 + 1 + 1) := z3
 clear hL hS4 hb4 c1 ka KA KR KO z3
 generalize hG : w.heap.size + 1 + 1 = G at *
 generalize hR : w.heap.size + 1 = R at *
 have HG : Hid (R + 1 = G ∧ w.heap.size + 1 = R) := ⟨hG, hR⟩
 clear hG hR
 obtain ⟨X5, hX5⟩ : ∃ X5, X5 = X4.setCell ⟨G, 1, none⟩ (.slice A4 n4 c4) := ⟨_, rfl⟩
 have m1 : _ = some (Value.slice none 0 0) := KO4.out.cell 1 _ rfl
 have f1 := KO4.out.free 1
 have KO5 : Hid (Blk X5 G #[.int .i64 f, .slice A4 n4 c4, .slice none 0 0] 30) := by unfold Hid; rw [hX5]; exact KO4.out.set 1 _
 have KR5 : Hid (Blk X5 R #[.int .i64 0, .slice none 0 0, .slice none 0 0] 30) := by unfold Hid; rw [hX5]; exact KR4.out.other (by have := HG.out; omega) 1 _
 have KA5 : Hid (Blk X5 w.heap.size #[.int .i64 f, .slice Ac cl cc, .slice A fl cap] 25) := by unfold Hid; rw [hX5]; exact KA4.out.other (by have := HG.out; omega) 1 _
 have S5 : Hid (SerO X5 X3.heap.size (.slice A4 n4 c4) L) := by unfold Hid; rw [hX5]; exact S4.out.others ((KeptBut.refl G X4).set 1 _) (by have := HG.out; have := HZ.out; omega)
 have B5 : Hid (Below w.heap.size w X5) := by unfold Hid; rw [hX5]; exact B4.out.setCell (show w.heap.size ≤ G by have := HG.out; omega) _
 have k2 := KA5.out.cell 2 _ rfl
 have c2 := toStringS e.files _ X5 B (HLs.out.on (B5.out.mono HB.out)) HS.out.2.2.1 (Nat.le_trans HB.out B5.out.size)
 rw [hX5] at k2
 clear KO4 KR4 KA4 S4 B4
 go_wp2_with fail
 rw [← hX5]
 clear hX5 m1 f1 k2
 refine c2.mono ?_
 rintro b X6 ⟨⟨u6, rfl, hS6⟩, hb6⟩
 obtain ⟨A6, n6, c6, rfl⟩ := (strs_owns hS6).shape
 have T6 : Hid (Strs X6 X5.heap.size (.slice A6 n6 c6) e.files) := hS6
 have S6 : Hid (SerO X6 X3.heap.size (.slice A4 n4 c4) L) := S5.out.on hb6
 have B6 : Hid (Below w.heap.size w X6) := B5.out.trans (hb6.mono B5.out.size)
 have KO6 := KO5.out.on hb6 KO5.out.lt
 have KR6 := KR5.out.on hb6 KR5.out.lt
 have HGz : Hid (G < X5.heap.size ∧ R < X5.heap.size) := ⟨KO5.out.lt, KR5.out.lt⟩
 clear hS6 hb6 c2 KO5 KR5 KA5 S5 B5
 have m2 : _ = some (Value.slice none 0 0) := KO6.cell 2 _ rfl
 have f2 := KO6.free 2
 have KO7 := KO6.set 2 (.slice A6 n6 c6)
 have o0 : _ = some (Value.int .i64 f) := KO7.cell 0 _ rfl
 have o1 : _ = some (Value.slice A4 n4 c4) := KO7.cell 1 _ rfl
 have o2 : _ = some (Value.slice A6 n6 c6) := KO7.cell 2 _ rfl
 have KR7 := KR6.other (show R ≠ G by have := HG.out; omega) 2 (.slice A6 n6 c6)
 have r0 : _ = some (Value.int .i64 0) := KR7.cell 0 _ rfl
 have g0 := KR7.free 0
 have KR8 := KR7.set 0 (.int .i64 f)
 have r1 : _ = some (Value.slice none 0 0) := KR8.cell 1 _ rfl
 have g1 := KR8.free 1
 have KR9 := KR8.set 1 (.slice A4 n4 c4)
 have r2 : _ = some (Value.slice none 0 0) := KR9.cell 2 _ rfl
 have g2 := KR9.free 2
 have KRx := KR9.set 2 (.slice A6 n6 c6)
 have e0 : _ = some (Value.int .i64 f) := KRx.cell 0 _ rfl
 have e1 : _ = some (Value.slice A4 n4 c4) := KRx.cell 1 _ rfl
 have e2 : _ = some (Value.slice A6 n6 c6) := KRx.cell 2 _ rfl
 have kG : KeptBut G X6 (X6.setCell ⟨G, 2, none⟩ (.slice A6 n6 c6)) := (KeptBut.refl G X6).set 2 _
 have kR : KeptBut R (X6.setCell ⟨G, 2, none⟩ (.slice A6 n6 c6)) ((((X6.setCell ⟨G, 2, none⟩ (.slice A6 n6 c6)).setCell ⟨R, 0, none⟩ (.int .i64 f)).setCell ⟨R, 1, none⟩ (.slice A4 n4 c4)).setCell ⟨R, 2, none⟩ (.slice A6 n6 c6)) := (((KeptBut.refl R _).set 0 _).set 1 _).set 2 _
 have SF : Hid (EngO ((((X6.setCell ⟨G, 2, none⟩ (.slice A6 n6 c6)).setCell ⟨R, 0, none⟩ (.int .i64 f)).setCell ⟨R, 1, none⟩ (.slice A4 n4 c4)).setCell ⟨R, 2, none⟩ (.slice A6 n6 c6)) w.heap.size (.agg #[.int .i64 f, .slice A4 n4 c4, .slice A6 n6 c6]) e) := by
  refine ⟨_, _, L, by rw [HF.out]; rfl, HL.out, ((S6.out.others kG (by have := HG.out; have := HZ.out; omega)).others kR (by have := HG.out; have := HZ.out; omega)).mono (by have := HG.out; have := HZ.out; omega), ?_⟩
  have h1 := kG.owns (strs_owns T6.out) ((strs_owns T6.out).below HGz.out.1)
  have h2 := kR.owns h1 (h1.below HGz.out.2)
  exact owns_strs (h2.mono (by have := HGz.out; have := HG.out; omega))
 have BF : Hid (Below w.heap.size w ((((X6.setCell ⟨G, 2, none⟩ (.slice A6 n6 c6)).setCell ⟨R, 0, none⟩ (.int .i64 f)).setCell ⟨R, 1, none⟩ (.slice A4 n4 c4)).setCell ⟨R, 2, none⟩ (.slice A6 n6 c6))) := (((B6.out.setCell (show w.heap.size ≤ G by have := HG.out; omega) _).setCell (show w.heap.size ≤ R by have := HG.out; omega) _).setCell (show w.heap.size ≤ R by have := HG.out; omega) _).setCell (show w.heap.size ≤ R by have := HG.out; omega) _
 clear KO6 KR6 KO7 KR7 KR8 KR9 KRx kG kR
 go_wp2_with fail
 exact bodyPost_ret (v := .agg #[.int .i64 f, .slice A4 n4 c4, .slice A6 n6 c6]) (by simp [results, go_sem, e0, e1, e2]) rfl ⟨⟨_, rfl, SF.out⟩, BF.out⟩
set_option maxHeartbeats 2000000 in
theorem eqEngine (e : Eng) (va vb : Value) (b1 b2 : Nat) (w : World) (ha : EngO w b1 va e) (hb : EngO w b2 vb e) (hs : EShort e) :
  Calls Tryz.prog 13 #[va, vb] w fun b w' => b = .returned (.bool true) ∧ Below w.heap.size w w' := by
 obtain ⟨vc, vf, L, rfl, hL, hS, hT⟩ := ha
 obtain ⟨vc', vf', L', rfl, hL', hS', hT'⟩ := hb
 unfold vE
 have S1 : Hid (SerV w w.heap.size vc e.cache) := by unfold Hid; rw [← hL]; exact hS.view
 have S2 : Hid (SerV w w.heap.size vc' e.cache) := by unfold Hid; rw [← hL']; exact hS'.view
 have T1 : Hid (Strs w b1 vf e.files) := hT
 have T2 : Hid (Strs w b2 vf' e.files) := hT'
 have HSh : Hid (EShort e) := hs
 obtain ⟨A1, n1, c1, rfl⟩ := hS.1.shape
 obtain ⟨A2, n2, c2, rfl⟩ := hS'.1.shape
 obtain ⟨A3, n3, c3, rfl⟩ := (strs_owns hT).shape
 obtain ⟨A4, n4, c4, rfl⟩ := (strs_owns hT').shape
 clear hL hL' hS hS' hT hT' hs
 generalize e.floor = f at *
 obtain ⟨X0, hX0⟩ : ∃ X0, X0 = (w.alloc (.cells #[.int .i64 f, .slice A1 n1 c1, .slice A3 n3 c3] 30)).alloc (.cells #[.int .i64 f, .slice A2 n2 c2, .slice A4 n4 c4] 30) := ⟨_, rfl⟩
 have BX : Hid (Below w.heap.size w X0) := by unfold Hid; rw [hX0]; exact below_alloc2 _ _ _
 have K1 : Hid (Blk X0 w.heap.size #[.int .i64 f, .slice A1 n1 c1, .slice A3 n3 c3] 30) := by unfold Hid; rw [hX0]; exact (Blk.new w _ _).alloc _
 have K2 : Hid (Blk X0 (w.heap.size + 1) #[.int .i64 f, .slice A2 n2 c2, .slice A4 n4 c4] 30) := by
  unfold Hid
  rw [hX0]
  have := Blk.new (w.alloc (.cells #[.int .i64 f, .slice A1 n1 c1, .slice A3 n3 c3] 30)) #[.int .i64 f, .slice A2 n2 c2, .slice A4 n4 c4] 30
  rw [World.size_alloc] at this
  exact this
 have cS := eqSeriesS e.cache (.slice A1 n1 c1) (.slice A2 n2 c2) X0 w.heap.size (S1.out.on BX.out) (S2.out.on BX.out) HSh.out.1 BX.out.size
 have a0 := K1.out.cell 0 _ rfl
 have a1 := K1.out.cell 1 _ rfl
 have d0 := K2.out.cell 0 _ rfl
 have d1 := K2.out.cell 1 _ rfl
 go_enter Tryz.func13, Tryz.ntmps13
 go_wp2_with fail
 rw [← hX0]
 clear hX0
 refine cS.mono ?_
 rintro b X1 ⟨rfl, hb1⟩
 have B1 : Hid (Below w.heap.size w X1) := BX.out.trans (hb1.mono BX.out.size)
 have K3 := K1.out.on hb1 K1.out.lt
 have K4 := K2.out.on hb1 K2.out.lt
 have a2 := K3.cell 2 _ rfl
 have d2 := K4.cell 2 _ rfl
 have cT := eq_same b1 b2 (.slice A3 n3 c3) (.slice A4 n4 c4) e.files X1 (T1.out.on B1.out) (T2.out.on B1.out) (by have := HSh.out.2.2.1; omega)
 clear hb1 cS a0 a1 d0 d1 K3 K4
 go_wp2_with fail
 refine cT.mono ?_
 rintro b X2 ⟨rfl, hlk⟩
 have B2 : Hid (Below w.heap.size w X2) := B1.out.trans (hlk.below.mono B1.out.size)
 clear hlk cT a2 d2
 go_wp2_with fail
 go_ret
 exact ⟨rfl, B2.out⟩
def EMk (w : World) (base k : Nat) (v : Value) (L : List (Ser × Value)) (n : Nat) : Prop := ∃ f vc vf, v = vE f vc vf ∧ SMk w base k vc L ∧ Strs w base vf (marks (kAt k L L.length) n)
theorem EMk.on {w w' : World} {base k : Nat} {v : Value} {L : List (Ser × Value)} {n : Nat} (h : EMk w base k v L n) (hb : Below w.heap.size w w') : EMk w' base k v L n := by
 obtain ⟨f, vc, vf, h1, h2, h3⟩ := h
 exact ⟨f, vc, vf, h1, h2.on hb, h3.on hb⟩
def NotE (vc vf : Value) (L : List (Ser × Value)) (b : Nat) : Prop := vc.ownBlock ≠ some b ∧ (∀ j, j < L.length → (L.getD j default).2.ownBlock ≠ some b) ∧ vf.ownBlock ≠ some b
set_option maxHeartbeats 2000000 in
theorem markEngine (e : Eng) (v vc vf : Value) (L : List (Ser × Value)) (base k : Nat) (w : World) (ev : v = vE e.floor vc vf) (hL : L.map Prod.fst = e.cache) (hS : SerO w base vc L) (hT : Strs w base vf e.files) (hk : 1 ≤ k) (hk2 : k ≤ 1000) (hw : wtE e ≤ 1048576) (hbs : base ≤ w.heap.size) :
  Calls Tryz.prog 17 #[v, .int .i64 (k : Int)] w fun b w' => b = .returned (.int .i64 ((kAt k L L.length + e.files.length : Nat) : Int)) ∧ EMk w' base k v L e.files.length ∧ Below base w w' ∧ (∀ b, b < w.heap.size → NotE vc vf L b → w'.heap[b]? = w.heap[b]?) := by
 have HEv : Hid (v = vE e.floor vc vf) := ev
 have hlen : L.length = e.cache.length := by rw [← hL, List.length_map]
 have hkA := kAt_weight k L L.length (Nat.le_refl _)
 rw [hL, List.take_of_length_le (by omega)] at hkA
 have hwE : wtE e = e.cache.length + wtS e.cache + (e.files.length + wtT e.files) := rfl
 have hkA2 : kAt k L L.length ≤ 4000000 := by omega
 have hkge := kAt_ge k L L.length
 have HT : Hid (Strs w base vf e.files) := hT
 have HS : Hid (SerO w base vc L) := hS
 have HBs : Hid (base ≤ w.heap.size) := hbs
 have hvcl : ∀ g, vc.ownBlock = some g → g < w.heap.size := fun g hg => (hS.1.lt g hg).2
 have hvll : ∀ j, j < L.length → ∀ g, (L.getD j default).2.ownBlock = some g → g < w.heap.size := fun j hj g hg => ((hS.2.1 _ (getD_mem L j hj)).lt g hg).2
 obtain ⟨A1, n1, c1, rfl⟩ := hS.1.shape
 obtain ⟨A3, n3, c3, rfl⟩ := (strs_owns hT).shape
 have HAp : Hid (∀ b, (Value.slice A3 n3 c3).ownBlock = some b → (Value.slice A1 n1 c1).ownBlock ≠ some b ∧ ∀ j, j < L.length → (L.getD j default).2.ownBlock ≠ some b) := fun b hb => ⟨fun h => hS.1.apartT (strs_owns hT) (by decide) b h hb, fun j hj h => (hS.2.1 _ (getD_mem L j hj)).apartT (strs_owns hT) (by decide) b h hb⟩
 have HFl : Hid (e.files.length ≤ 1048576) := by unfold Hid; omega
 obtain ⟨X0, hX0⟩ : ∃ X0, X0 = w.alloc (.cells #[.int .i64 e.floor, .slice A1 n1 c1, .slice A3 n3 c3] 30) := ⟨_, rfl⟩
 have BX : Hid (Below w.heap.size w X0) := by unfold Hid; rw [hX0]; exact (Below.refl _ w).alloc (Nat.le_refl _) _
 have K1 : Hid (Blk X0 w.heap.size #[.int .i64 e.floor, .slice A1 n1 c1, .slice A3 n3 c3] 30) := by unfold Hid; rw [hX0]; exact Blk.new w _ _
 have cS := markSeriesG k base (.slice A1 n1 c1) L X0 (hS.on BX.out) (by omega) hkA2 hk (Nat.le_trans hbs BX.out.size)
 have HNw : Hid ((Value.slice A1 n1 c1).ownBlock ≠ some w.heap.size ∧ ∀ j, j < L.length → (L.getD j default).2.ownBlock ≠ some w.heap.size) := ⟨fun h => by have := hvcl _ h; omega, fun j hj h => by have := hvll j hj _ h; omega⟩
 have a1 := K1.out.cell 1 _ rfl
 have HVe : Hid (v = .agg #[.int .i64 e.floor, .slice A1 n1 c1, .slice A3 n3 c3]) := ev
 subst ev
 unfold vE
 generalize e.floor = f at *
 clear hL hS hT hbs hvcl hvll hwE hkA hw
 generalize hKL : kAt k L L.length = KL at *
 have q1 : (KL : Int) ≤ 4000000 := by omega
 go_enter Tryz.func17, Tryz.ntmps17
 go_wp2_with fail
 rw [← hX0]
 clear hX0
 refine cS.mono ?_
 rintro b X1 ⟨rfl, hM, hb1, hk1⟩
 have M1 : Hid (SMk X1 base k (.slice A1 n1 c1) L) := hM
 have B1 : Hid (Below base w X1) := (BX.out.mono HBs.out).trans hb1
 have E1 : Hid (∀ b, b < X0.heap.size → (Value.slice A1 n1 c1).ownBlock ≠ some b → (∀ j, j < L.length → (L.getD j default).2.ownBlock ≠ some b) → X1.heap[b]? = X0.heap[b]?) := hk1
 have K2 : Blk X1 w.heap.size #[.int .i64 f, .slice A1 n1 c1, .slice A3 n3 c3] 30 := (hk1 _ K1.out.lt HNw.out.1 HNw.out.2).trans K1.out
 have a2 := K2.cell 2 _ rfl
 have T1 : Hid (Strs X1 base (.slice A3 n3 c3) e.files) := (HT.out.on BX.out).kept fun g hg hv => hk1 g hg (HAp.out g hv).1 (HAp.out g hv).2
 have cT := mark_allG KL base (.slice A3 n3 c3) e.files X1 T1.out (by have := HFl.out; omega) (by omega) (by omega) (Nat.le_trans HBs.out B1.out.size)
 have HMs : Hid (∀ wx, (∀ b, b < X1.heap.size → (Value.slice A3 n3 c3).ownBlock ≠ some b → wx.heap[b]? = X1.heap[b]?) → SMk wx base k (.slice A1 n1 c1) L) := fun wx hx => ⟨M1.out.1.kept fun g hg hv => hx g hg fun h => (HAp.out g h).1 hv, fun j hj => (M1.out.2 j hj).kept fun g hg hv => hx g hg fun h => (HAp.out g h).2 j hj hv⟩
 clear hM hb1 hk1 K2 a1 cS
 go_wp2_with fail
 refine cT.mono ?_
 rintro b X2 ⟨rfl, hT2, hb2, hk2⟩
 have M2 : Hid (SMk X2 base k (.slice A1 n1 c1) L) := HMs.out X2 hk2
 have T2 : Hid (Strs X2 base (.slice A3 n3 c3) (marks KL e.files.length)) := hT2
 have B2 : Hid (Below base w X2) := B1.out.trans hb2
 have E2 : Hid (∀ b, b < w.heap.size → NotE (.slice A1 n1 c1) (.slice A3 n3 c3) L b → X2.heap[b]? = w.heap[b]?) := fun b hb hN => by
  rw [hk2 b (Nat.lt_of_lt_of_le hb B1.out.size) hN.2.2, E1.out b (Nat.lt_of_lt_of_le hb BX.out.size) hN.1 hN.2.1]
  exact BX.out.block b hb
 clear hT2 hb2 hk2 cT a2
 go_wp2_with fail
 go_ret
 exact ⟨rfl, ⟨f, _, _, rfl, M2.out, by rw [hKL]; exact T2.out⟩, B2.out, E2.out⟩
set_option maxHeartbeats 2000000 in
theorem heldEngine (v : Value) (L : List (Ser × Value)) (base k n : Nat) (w : World) (h : EMk w base k v L n) (hl : L.length ≤ 5) (hp : ∀ q ∈ L, q.1.pts.length ≤ 60) (hk : 1 ≤ k) (hk2 : k ≤ 1000) (hn : n ≤ 1000) :
  Calls Tryz.prog 27 #[v, .int .i64 (k : Int)] w fun b w' => b = .returned (.int .i64 ((kAt k L L.length + n : Nat) : Int)) ∧ Below w.heap.size w w' := by
 obtain ⟨f, vc, vf, rfl, hM, hT⟩ := h
 unfold vE
 have HM : Hid (SMk w base k vc L) := hM
 have HT : Hid (Strs w base vf (marks (kAt k L L.length) n)) := hT
 have hkl := (kAt_le (k := k) hp L.length (Nat.le_refl _))
 obtain ⟨A1, n1, c1, rfl⟩ := hM.1.shape
 obtain ⟨A3, n3, c3, rfl⟩ := (strs_owns hT).shape
 obtain ⟨X0, hX0⟩ : ∃ X0, X0 = w.alloc (.cells #[.int .i64 f, .slice A1 n1 c1, .slice A3 n3 c3] 30) := ⟨_, rfl⟩
 have BX : Hid (Below w.heap.size w X0) := by unfold Hid; rw [hX0]; exact (Below.refl _ w).alloc (Nat.le_refl _) _
 have K1 : Hid (Blk X0 w.heap.size #[.int .i64 f, .slice A1 n1 c1, .slice A3 n3 c3] 30) := by unfold Hid; rw [hX0]; exact Blk.new w _ _
 have cS := heldSeriesS k base (.slice A1 n1 c1) L X0 (hM.on BX.out) hl hp hk hk2
 have a1 := K1.out.cell 1 _ rfl
 clear hM hT hp
 generalize hKL : kAt k L L.length = KL at *
 clear hKL
 have q1 : (KL : Int) ≤ 2000 := by omega
 have q2 : decide ((KL : Int) < 0) = false := decide_eq_false (by omega)
 go_enter Tryz.func27, Tryz.ntmps27
 go_wp2_with fail
 rw [← hX0]
 clear hX0
 refine cS.mono ?_
 rintro b X1 ⟨rfl, hb1⟩
 have B1 : Hid (Below w.heap.size w X1) := BX.out.trans (hb1.mono BX.out.size)
 have a2 := (K1.out.on hb1 K1.out.lt).cell 2 _ rfl
 have cT := held_all KL base n (.slice A3 n3 c3) X1 (HT.out.on B1.out) (by omega) (by omega) (by omega)
 clear hb1 cS a1
 generalize hkn : KL + n = kn at *
 have q3 : decide ((kn : Int) < 0) = false := decide_eq_false (by omega)
 have HKN : Hid (KL + n = kn) := hkn
 clear hkn
 go_wp2_with fail
 refine cT.mono ?_
 rintro b X2 ⟨rfl, hb2⟩
 have B2 : Hid (Below w.heap.size w X2) := B1.out.trans (hb2.mono B1.out.size)
 clear hb2 cT a2
 go_wp2_with fail
 go_ret
 exact ⟨by rw [HKN.out]; rfl, B2.out⟩
theorem cEng : Tryz.prog.cellsOf 25 = 3 := by kernel_rfl
theorem list3e {α : Type} {l : List α} (h : l.length = 3) : ∃ a b c, l = [a, b, c] := by
 match l, h with
 | [a, b, c], _ => exact ⟨a, b, c, rfl⟩
section
variable {H : Type} {enc : TypeId × Value → H} {w : World} {base : Nat} {spare : Nat → Bool} {held : Bool}
theorem cStr9 : Tryz.prog.cellsOf 9 = 1 := by kernel_rfl
theorem open_text (n : Nat) (cs : List Value) (y : DataW H × List MemPlace) (h : DataW.trod enc Tryz.prog w base spare held n 9 cs = some y) : ∃ s : ByteArray, cs = stC s ∧ s.size ≤ maxLen := by
 obtain ⟨s0, e0, _, hs⟩ := DataW.trod_string Tryz.underlying9 h
 exact ⟨s0, e0, hs⟩
set_option maxRecDepth 100000 in
theorem open_engine {r : Reach} {b0 : Nat} {v : Value} {dd : DataW H} {ps : List MemPlace} (hval : Value.okWide Tryz.prog w r b0 25 v) (hd : DataW.Trod enc Tryz.prog w base spare held 25 v dd ps) : ∃ e : Eng, EngV w w.heap.size v e ∧ EFits e := by
 obtain ⟨cs, rfl, hsz⟩ := okWide_struct Tryz.underlying25 hval
 rw [cEng] at hsz
 obtain ⟨fuel, hf0⟩ := hd
 obtain ⟨xs, m, _, _, _, hlen, hf⟩ := DataW.trod_struct Tryz.underlying25 hf0
 obtain ⟨l⟩ := cs
 obtain ⟨a, b, c, rfl⟩ := list3e (show l.length = 3 from hsz)
 obtain ⟨x0, x1, x2, rfl⟩ := list3e (show xs.length = 3 from hlen)
 have f0 := hf 0 _ rfl
 have f1 := hf 1 _ rfl
 have f2 := hf 2 _ rfl
 simp only [Value.cells, List.getElem?_cons_zero, List.getElem?_cons_succ] at f0 f1 f2
 obtain ⟨i0, e0, _, w0⟩ := DataW.trod_int Tryz.underlying3 f0
 cases e0
 obtain ⟨ls, l1, l2, l3⟩ := open_rows Tryz.underlying22 2 cSr (by omega) srC (fun _ => rfl) _ open_sr f1
 obtain ⟨ts, t1, t2, t3⟩ := open_rows Tryz.underlying23 1 cStr9 (by omega) stC (fun _ => rfl) _ open_text f2
 refine ⟨⟨i0, ls.map Prod.fst, ts⟩, ⟨b, c, rfl, ⟨ls, rfl, l1, fun p hp => (l3 p hp).1⟩, t1⟩, ⟨by rw [List.length_map]; exact l2, fun x hx => ?_⟩, t2, t3⟩
 obtain ⟨p, hp, rfl⟩ := List.mem_map.1 hx
 exact (l3 p hp).2
end
end Go.Proofs.YtpmgndgkmffcnaaGreatDoor
namespace Go.Proofs.YtpmgndgkmffcnaaGreatDoor
open Go.ChangeShapes Go.WideShapes Go.ChangeAt Go.RowKit Go.PlainAid
set_option linter.unusedVariables false
theorem wtT_le (l : List ByteArray) (h : ∀ s ∈ l, s.size ≤ 5004) : wtT l ≤ l.length * 5004 := by
 induction l with
 | nil => simp [wtT]
 | cons x l ih =>
  have h1 := ih fun s hs => h s (List.mem_cons_of_mem _ hs)
  have h2 := h x (List.mem_cons_self ..)
  simp only [wtT, List.map_cons, List.sum_cons, List.length_cons] at *
  omega
theorem few_wt {e : Eng} (h : e.cache = [] ∧ e.files.length ≤ 4 ∧ ∀ s ∈ e.files, s.size ≤ 5004) : wtE e ≤ 1048576 := by
 have := wtT_le _ h.2.2
 unfold wtE
 rw [h.1]
 have e0 : wtS [] = 0 := by simp [wtS]
 rw [e0]
 have := h.2.1
 simp only [List.length_nil]
 omega
end Go.Proofs.YtpmgndgkmffcnaaGreatDoor
