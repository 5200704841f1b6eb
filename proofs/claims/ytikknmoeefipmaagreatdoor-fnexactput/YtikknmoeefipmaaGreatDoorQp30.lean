/- EgL2 EgSA EgFew LawPut -/
import Derived.Test.YtikknmoeefipmaaGreatDoorQp29
import Derived.Test.YtikknmoeefipmaaGreatDoorQp16
import Derived.WalkKit
import Derived.ProofKit
import Derived.OpenShut
import Derived.Below
import Derived.WalkSmall
import Derived.BigQuiet
import Derived.Deep.QuietTactic
import Derived.Deep.RegionWith
import Derived.Handy
import Derived.Test.YtikknmoeefipmaaGreatDoorQp21
import Derived.Test.YtikknmoeefipmaaGreatDoorQp20
import Derived.Test.YtikknmoeefipmaaGreatDoorQp28
import Derived.Test.YtikknmoeefipmaaGreatDoorQp4
open List (setIfInBounds_toArray set_cons_zero set_cons_succ)
namespace Go.Proofs.YtikknmoeefipmaaGreatDoor
open Go.ChangeShapes Go.WideShapes Go.ChangeAt Go.RowKit Go.PlainAid
set_option linter.unusedVariables false
set_option maxHeartbeats 4000000 in
theorem toEngine (e : Eng) (v : Value) (w : World) (B : Nat) (hv : EngV w B v e) (hs : EShort e) (hB : B ≤ w.heap.size) :
  Calls Tryz.prog 14 #[v] w fun b w' => (∃ u, b = .returned u ∧ EngO w' w.heap.size u e) ∧ Below w.heap.size w w' := by
 obtain ⟨vc, vf, rfl, hc, hl⟩ := hv
 unfold vE
 obtain ⟨Ac, cc, rfl, _⟩ := hc.look
 obtain ⟨A, cap, rfl, _⟩ := st_look hl
 have HLs : Hid (Lies w B 1 (.slice A e.files.length cap) (stR e.files)) := hl
 have HC : Hid (SerV w B (.slice Ac e.cache.length cc) e.cache) := hc
 have HB : Hid (B ≤ w.heap.size) := hB
 have HS : Hid (EShort e) := hs
 have HFl : Hid (e.floor = e.floor) := rfl
 clear hc hl hB hs
 generalize hcl : e.cache.length = cl at *
 clear hcl
 generalize hfl : e.files.length = fl at *
 clear hfl
 generalize hf : e.floor = f at *
 have HF : Hid (e.floor = f) := hf
 clear hf HFl
 obtain ⟨X1, hX1⟩ : ∃ X1, X1 = w.alloc (.cells #[.int .i64 f, .slice Ac cl cc, .slice A fl cap] 26) := ⟨_, rfl⟩
 obtain ⟨X2, hX2⟩ : ∃ X2, X2 = X1.alloc (.cells #[.int .i64 0, .slice none 0 0, .slice none 0 0] 35) := ⟨_, rfl⟩
 obtain ⟨X3, hX3⟩ : ∃ X3, X3 = X2.alloc (.cells #[.int .i64 f, .slice none 0 0, .slice none 0 0] 35) := ⟨_, rfl⟩
 have z1 : X1.heap.size = w.heap.size + 1 := by rw [hX1, World.size_alloc]
 have z2 : X2.heap.size = w.heap.size + 1 + 1 := by rw [hX2, World.size_alloc, z1]
 have z3 : X3.heap.size = w.heap.size + 1 + 1 + 1 := by rw [hX3, World.size_alloc, z2]
 have BX : Hid (Below w.heap.size w X3) := by
  unfold Hid
  rw [hX3, hX2, hX1]
  exact below_alloc3 _ _ _ _
 have KA : Hid (Blk X3 w.heap.size #[.int .i64 f, .slice Ac cl cc, .slice A fl cap] 26) := by
  unfold Hid
  rw [hX3, hX2, hX1]
  exact ((Blk.new w _ _).alloc _).alloc _
 have KR : Hid (Blk X3 (w.heap.size + 1) #[.int .i64 0, .slice none 0 0, .slice none 0 0] 35) := by
  unfold Hid
  rw [hX3, hX2, ← z1]
  exact (Blk.new X1 _ _).alloc _
 have KO : Hid (Blk X3 (w.heap.size + 1 + 1) #[.int .i64 f, .slice none 0 0, .slice none 0 0] 35) := by
  unfold Hid
  rw [hX3, ← z2]
  exact Blk.new X2 _ _
 have c1 := toSeriesS e.cache _ X3 B (HC.out.on (BX.out.mono HB.out)) HS.out.1 (Nat.le_trans HB.out BX.out.size)
 have ka := KA.out.cell 1 _ rfl
 go_enter Tryz.func14, Tryz.ntmps14
 go_wp2_with fail
 rw [← hX1, ← hX2, ← hX3]
 clear hX1 hX2 hX3 z1 z2
 refine c1.mono ?_
 rintro b X4 ⟨u4, L, rfl, hL, hS4, hb4⟩
 have HL : Hid (L.map Prod.fst = e.cache) := hL
 have S4 : Hid (SerO X4 X3.heap.size u4 L) := hS4
 have B4 : Hid (Below w.heap.size w X4) := BX.out.trans (hb4.mono BX.out.size)
 have KA4 : Hid (Blk X4 w.heap.size #[.int .i64 f, .slice Ac cl cc, .slice A fl cap] 26) := KA.out.on hb4 KA.out.lt
 have KR4 : Hid (Blk X4 (w.heap.size + 1) #[.int .i64 0, .slice none 0 0, .slice none 0 0] 35) := KR.out.on hb4 KR.out.lt
 have KO4 : Hid (Blk X4 (w.heap.size + 1 + 1) #[.int .i64 f, .slice none 0 0, .slice none 0 0] 35) := KO.out.on hb4 KO.out.lt
 obtain ⟨A4, n4, c4, rfl⟩ := hS4.1.shape
 have HZ : Hid (X3.heap.size = w.heap.size + 1 + 1 + 1) := z3
 clear hL hS4 hb4 c1 ka KA KR KO z3
 generalize hG : w.heap.size + 1 + 1 = G at *
 generalize hR : w.heap.size + 1 = R at *
 have HG : Hid (R + 1 = G ∧ w.heap.size + 1 = R) := ⟨hG, hR⟩
 clear hG hR
 obtain ⟨X5, hX5⟩ : ∃ X5, X5 = X4.setCell ⟨G, 1, none⟩ (.slice A4 n4 c4) := ⟨_, rfl⟩
 have m1 : _ = some (Value.slice none 0 0) := KO4.out.cell 1 _ rfl
 have f1 := KO4.out.free 1
 have KO5 : Hid (Blk X5 G #[.int .i64 f, .slice A4 n4 c4, .slice none 0 0] 35) := by unfold Hid; rw [hX5]; exact KO4.out.set 1 _
 have KR5 : Hid (Blk X5 R #[.int .i64 0, .slice none 0 0, .slice none 0 0] 35) := by unfold Hid; rw [hX5]; exact KR4.out.other (by have := HG.out; omega) 1 _
 have KA5 : Hid (Blk X5 w.heap.size #[.int .i64 f, .slice Ac cl cc, .slice A fl cap] 26) := by unfold Hid; rw [hX5]; exact KA4.out.other (by have := HG.out; omega) 1 _
 have S5 : Hid (SerO X5 X3.heap.size (.slice A4 n4 c4) L) := by unfold Hid; rw [hX5]; exact S4.out.others ((KeptBut.refl G X4).set 1 _) (by have := HG.out; have := HZ.out; omega)
 have B5 : Hid (Below w.heap.size w X5) := by unfold Hid; rw [hX5]; exact B4.out.setCell (show w.heap.size ≤ G by have := HG.out; omega) _
 have k2 := KA5.out.cell 2 _ rfl
 have c2 := toStringS e.files _ X5 B (HLs.out.on (B5.out.mono HB.out)) HS.out.2.2.1 (Nat.le_trans HB.out B5.out.size)
 rw [hX5] at k2
 clear KO4 KR4 KA4 S4 B4
 go_wp2_with fail
 rw [← hX5]
 clear hX5 m1 f1 k2
 refine c2.mono ?_
 rintro b X6 ⟨⟨u6, rfl, hS6⟩, hb6⟩
 obtain ⟨A6, n6, c6, rfl⟩ := (strs_owns hS6).shape
 have T6 : Hid (Strs X6 X5.heap.size (.slice A6 n6 c6) e.files) := hS6
 have S6 : Hid (SerO X6 X3.heap.size (.slice A4 n4 c4) L) := S5.out.on hb6
 have B6 : Hid (Below w.heap.size w X6) := B5.out.trans (hb6.mono B5.out.size)
 have KO6 := KO5.out.on hb6 KO5.out.lt
 have KR6 := KR5.out.on hb6 KR5.out.lt
 have HGz : Hid (G < X5.heap.size ∧ R < X5.heap.size) := ⟨KO5.out.lt, KR5.out.lt⟩
 clear hS6 hb6 c2 KO5 KR5 KA5 S5 B5
 have m2 : _ = some (Value.slice none 0 0) := KO6.cell 2 _ rfl
 have f2 := KO6.free 2
 have KO7 := KO6.set 2 (.slice A6 n6 c6)
 have o0 : _ = some (Value.int .i64 f) := KO7.cell 0 _ rfl
 have o1 : _ = some (Value.slice A4 n4 c4) := KO7.cell 1 _ rfl
 have o2 : _ = some (Value.slice A6 n6 c6) := KO7.cell 2 _ rfl
 have KR7 := KR6.other (show R ≠ G by have := HG.out; omega) 2 (.slice A6 n6 c6)
 have r0 : _ = some (Value.int .i64 0) := KR7.cell 0 _ rfl
 have g0 := KR7.free 0
 have KR8 := KR7.set 0 (.int .i64 f)
 have r1 : _ = some (Value.slice none 0 0) := KR8.cell 1 _ rfl
 have g1 := KR8.free 1
 have KR9 := KR8.set 1 (.slice A4 n4 c4)
 have r2 : _ = some (Value.slice none 0 0) := KR9.cell 2 _ rfl
 have g2 := KR9.free 2
 have KRx := KR9.set 2 (.slice A6 n6 c6)
 have e0 : _ = some (Value.int .i64 f) := KRx.cell 0 _ rfl
 have e1 : _ = some (Value.slice A4 n4 c4) := KRx.cell 1 _ rfl
 have e2 : _ = some (Value.slice A6 n6 c6) := KRx.cell 2 _ rfl
 have kG : KeptBut G X6 (X6.setCell ⟨G, 2, none⟩ (.slice A6 n6 c6)) := (KeptBut.refl G X6).set 2 _
 have kR : KeptBut R (X6.setCell ⟨G, 2, none⟩ (.slice A6 n6 c6)) ((((X6.setCell ⟨G, 2, none⟩ (.slice A6 n6 c6)).setCell ⟨R, 0, none⟩ (.int .i64 f)).setCell ⟨R, 1, none⟩ (.slice A4 n4 c4)).setCell ⟨R, 2, none⟩ (.slice A6 n6 c6)) := (((KeptBut.refl R _).set 0 _).set 1 _).set 2 _
 have SF : Hid (EngO ((((X6.setCell ⟨G, 2, none⟩ (.slice A6 n6 c6)).setCell ⟨R, 0, none⟩ (.int .i64 f)).setCell ⟨R, 1, none⟩ (.slice A4 n4 c4)).setCell ⟨R, 2, none⟩ (.slice A6 n6 c6)) w.heap.size (.agg #[.int .i64 f, .slice A4 n4 c4, .slice A6 n6 c6]) e) := by
  refine ⟨_, _, L, by rw [HF.out]; rfl, HL.out, ((S6.out.others kG (by have := HG.out; have := HZ.out; omega)).others kR (by have := HG.out; have := HZ.out; omega)).mono (by have := HG.out; have := HZ.out; omega), ?_⟩
  have h1 := kG.owns (strs_owns T6.out) ((strs_owns T6.out).below HGz.out.1)
  have h2 := kR.owns h1 (h1.below HGz.out.2)
  exact owns_strs (h2.mono (by have := HGz.out; have := HG.out; omega))
 have BF : Hid (Below w.heap.size w ((((X6.setCell ⟨G, 2, none⟩ (.slice A6 n6 c6)).setCell ⟨R, 0, none⟩ (.int .i64 f)).setCell ⟨R, 1, none⟩ (.slice A4 n4 c4)).setCell ⟨R, 2, none⟩ (.slice A6 n6 c6))) := (((B6.out.setCell (show w.heap.size ≤ G by have := HG.out; omega) _).setCell (show w.heap.size ≤ R by have := HG.out; omega) _).setCell (show w.heap.size ≤ R by have := HG.out; omega) _).setCell (show w.heap.size ≤ R by have := HG.out; omega) _
 clear KO6 KR6 KO7 KR7 KR8 KR9 KRx kG kR
 go_wp2_with fail
 exact bodyPost_ret (v := .agg #[.int .i64 f, .slice A4 n4 c4, .slice A6 n6 c6]) (by simp [results, go_sem, e0, e1, e2]) rfl ⟨⟨_, rfl, SF.out⟩, BF.out⟩
set_option maxHeartbeats 2000000 in
theorem eqEngine (e : Eng) (va vb : Value) (b1 b2 : Nat) (w : World) (ha : EngO w b1 va e) (hb : EngO w b2 vb e) (hs : EShort e) :
  Calls Tryz.prog 17 #[va, vb] w fun b w' => b = .returned (.bool true) ∧ Below w.heap.size w w' := by
 obtain ⟨vc, vf, L, rfl, hL, hS, hT⟩ := ha
 obtain ⟨vc', vf', L', rfl, hL', hS', hT'⟩ := hb
 unfold vE
 have S1 : Hid (SerV w w.heap.size vc e.cache) := by unfold Hid; rw [← hL]; exact hS.view
 have S2 : Hid (SerV w w.heap.size vc' e.cache) := by unfold Hid; rw [← hL']; exact hS'.view
 have T1 : Hid (Strs w b1 vf e.files) := hT
 have T2 : Hid (Strs w b2 vf' e.files) := hT'
 have HSh : Hid (EShort e) := hs
 obtain ⟨A1, n1, c1, rfl⟩ := hS.1.shape
 obtain ⟨A2, n2, c2, rfl⟩ := hS'.1.shape
 obtain ⟨A3, n3, c3, rfl⟩ := (strs_owns hT).shape
 obtain ⟨A4, n4, c4, rfl⟩ := (strs_owns hT').shape
 clear hL hL' hS hS' hT hT' hs
 generalize e.floor = f at *
 obtain ⟨X0, hX0⟩ : ∃ X0, X0 = (w.alloc (.cells #[.int .i64 f, .slice A1 n1 c1, .slice A3 n3 c3] 35)).alloc (.cells #[.int .i64 f, .slice A2 n2 c2, .slice A4 n4 c4] 35) := ⟨_, rfl⟩
 have BX : Hid (Below w.heap.size w X0) := by unfold Hid; rw [hX0]; exact below_alloc2 _ _ _
 have K1 : Hid (Blk X0 w.heap.size #[.int .i64 f, .slice A1 n1 c1, .slice A3 n3 c3] 35) := by unfold Hid; rw [hX0]; exact (Blk.new w _ _).alloc _
 have K2 : Hid (Blk X0 (w.heap.size + 1) #[.int .i64 f, .slice A2 n2 c2, .slice A4 n4 c4] 35) := by
  unfold Hid
  rw [hX0]
  have := Blk.new (w.alloc (.cells #[.int .i64 f, .slice A1 n1 c1, .slice A3 n3 c3] 35)) #[.int .i64 f, .slice A2 n2 c2, .slice A4 n4 c4] 35
  rw [World.size_alloc] at this
  exact this
 have cS := eqSeriesS e.cache (.slice A1 n1 c1) (.slice A2 n2 c2) X0 w.heap.size (S1.out.on BX.out) (S2.out.on BX.out) HSh.out.1 BX.out.size
 have a0 := K1.out.cell 0 _ rfl
 have a1 := K1.out.cell 1 _ rfl
 have d0 := K2.out.cell 0 _ rfl
 have d1 := K2.out.cell 1 _ rfl
 go_enter Tryz.func17, Tryz.ntmps17
 go_wp2_with fail
 rw [← hX0]
 clear hX0
 refine cS.mono ?_
 rintro b X1 ⟨rfl, hb1⟩
 have B1 : Hid (Below w.heap.size w X1) := BX.out.trans (hb1.mono BX.out.size)
 have K3 := K1.out.on hb1 K1.out.lt
 have K4 := K2.out.on hb1 K2.out.lt
 have a2 := K3.cell 2 _ rfl
 have d2 := K4.cell 2 _ rfl
 have cT := eq_same b1 b2 (.slice A3 n3 c3) (.slice A4 n4 c4) e.files X1 (T1.out.on B1.out) (T2.out.on B1.out) (by have := HSh.out.2.2.1; omega)
 clear hb1 cS a0 a1 d0 d1 K3 K4
 go_wp2_with fail
 refine cT.mono ?_
 rintro b X2 ⟨rfl, hlk⟩
 have B2 : Hid (Below w.heap.size w X2) := B1.out.trans (hlk.below.mono B1.out.size)
 clear hlk cT a2 d2
 go_wp2_with fail
 go_ret
 exact ⟨rfl, B2.out⟩
def EMk (w : World) (base k : Nat) (v : Value) (L : List (Ser × Value)) (n : Nat) : Prop := ∃ f vc vf, v = vE f vc vf ∧ SMk w base k vc L ∧ Strs w base vf (marks (kAt k L L.length) n)
theorem EMk.on {w w' : World} {base k : Nat} {v : Value} {L : List (Ser × Value)} {n : Nat} (h : EMk w base k v L n) (hb : Below w.heap.size w w') : EMk w' base k v L n := by
 obtain ⟨f, vc, vf, h1, h2, h3⟩ := h
 exact ⟨f, vc, vf, h1, h2.on hb, h3.on hb⟩
def NotE (vc vf : Value) (L : List (Ser × Value)) (b : Nat) : Prop := vc.ownBlock ≠ some b ∧ (∀ j, j < L.length → (L.getD j default).2.ownBlock ≠ some b) ∧ vf.ownBlock ≠ some b
set_option maxHeartbeats 2000000 in
theorem markEngine (e : Eng) (v vc vf : Value) (L : List (Ser × Value)) (base k : Nat) (w : World) (ev : v = vE e.floor vc vf) (hL : L.map Prod.fst = e.cache) (hS : SerO w base vc L) (hT : Strs w base vf e.files) (hk : 1 ≤ k) (hk2 : k ≤ 1000) (hw : wtE e ≤ 1048576) (hbs : base ≤ w.heap.size) :
  Calls Tryz.prog 19 #[v, .int .i64 (k : Int)] w fun b w' => b = .returned (.int .i64 ((kAt k L L.length + e.files.length : Nat) : Int)) ∧ EMk w' base k v L e.files.length ∧ Below base w w' ∧ (∀ b, b < w.heap.size → NotE vc vf L b → w'.heap[b]? = w.heap[b]?) := by
 have HEv : Hid (v = vE e.floor vc vf) := ev
 have hlen : L.length = e.cache.length := by rw [← hL, List.length_map]
 have hkA := kAt_weight k L L.length (Nat.le_refl _)
 rw [hL, List.take_of_length_le (by omega)] at hkA
 have hwE : wtE e = e.cache.length + wtS e.cache + (e.files.length + wtT e.files) := rfl
 have hkA2 : kAt k L L.length ≤ 4000000 := by omega
 have hkge := kAt_ge k L L.length
 have HT : Hid (Strs w base vf e.files) := hT
 have HS : Hid (SerO w base vc L) := hS
 have HBs : Hid (base ≤ w.heap.size) := hbs
 have hvcl : ∀ g, vc.ownBlock = some g → g < w.heap.size := fun g hg => (hS.1.lt g hg).2
 have hvll : ∀ j, j < L.length → ∀ g, (L.getD j default).2.ownBlock = some g → g < w.heap.size := fun j hj g hg => ((hS.2.1 _ (getD_mem L j hj)).lt g hg).2
 obtain ⟨A1, n1, c1, rfl⟩ := hS.1.shape
 obtain ⟨A3, n3, c3, rfl⟩ := (strs_owns hT).shape
 have HAp : Hid (∀ b, (Value.slice A3 n3 c3).ownBlock = some b → (Value.slice A1 n1 c1).ownBlock ≠ some b ∧ ∀ j, j < L.length → (L.getD j default).2.ownBlock ≠ some b) := fun b hb => ⟨fun h => hS.1.apartT (strs_owns hT) (by decide) b h hb, fun j hj h => (hS.2.1 _ (getD_mem L j hj)).apartT (strs_owns hT) (by decide) b h hb⟩
 have HFl : Hid (e.files.length ≤ 1048576) := by unfold Hid; omega
 obtain ⟨X0, hX0⟩ : ∃ X0, X0 = w.alloc (.cells #[.int .i64 e.floor, .slice A1 n1 c1, .slice A3 n3 c3] 35) := ⟨_, rfl⟩
 have BX : Hid (Below w.heap.size w X0) := by unfold Hid; rw [hX0]; exact (Below.refl _ w).alloc (Nat.le_refl _) _
 have K1 : Hid (Blk X0 w.heap.size #[.int .i64 e.floor, .slice A1 n1 c1, .slice A3 n3 c3] 35) := by unfold Hid; rw [hX0]; exact Blk.new w _ _
 have cS := markSeriesG k base (.slice A1 n1 c1) L X0 (hS.on BX.out) (by omega) hkA2 hk (Nat.le_trans hbs BX.out.size)
 have HNw : Hid ((Value.slice A1 n1 c1).ownBlock ≠ some w.heap.size ∧ ∀ j, j < L.length → (L.getD j default).2.ownBlock ≠ some w.heap.size) := ⟨fun h => by have := hvcl _ h; omega, fun j hj h => by have := hvll j hj _ h; omega⟩
 have a1 := K1.out.cell 1 _ rfl
 have HVe : Hid (v = .agg #[.int .i64 e.floor, .slice A1 n1 c1, .slice A3 n3 c3]) := ev
 subst ev
 unfold vE
 generalize e.floor = f at *
 clear hL hS hT hbs hvcl hvll hwE hkA hw
 generalize hKL : kAt k L L.length = KL at *
 have q1 : (KL : Int) ≤ 4000000 := by omega
 go_enter Tryz.func19, Tryz.ntmps19
 go_wp2_with fail
 rw [← hX0]
 clear hX0
 refine cS.mono ?_
 rintro b X1 ⟨rfl, hM, hb1, hk1⟩
 have M1 : Hid (SMk X1 base k (.slice A1 n1 c1) L) := hM
 have B1 : Hid (Below base w X1) := (BX.out.mono HBs.out).trans hb1
 have E1 : Hid (∀ b, b < X0.heap.size → (Value.slice A1 n1 c1).ownBlock ≠ some b → (∀ j, j < L.length → (L.getD j default).2.ownBlock ≠ some b) → X1.heap[b]? = X0.heap[b]?) := hk1
 have K2 : Blk X1 w.heap.size #[.int .i64 f, .slice A1 n1 c1, .slice A3 n3 c3] 35 := (hk1 _ K1.out.lt HNw.out.1 HNw.out.2).trans K1.out
 have a2 := K2.cell 2 _ rfl
 have T1 : Hid (Strs X1 base (.slice A3 n3 c3) e.files) := (HT.out.on BX.out).kept fun g hg hv => hk1 g hg (HAp.out g hv).1 (HAp.out g hv).2
 have cT := mark_allG KL base (.slice A3 n3 c3) e.files X1 T1.out (by have := HFl.out; omega) (by omega) (by omega) (Nat.le_trans HBs.out B1.out.size)
 have HMs : Hid (∀ wx, (∀ b, b < X1.heap.size → (Value.slice A3 n3 c3).ownBlock ≠ some b → wx.heap[b]? = X1.heap[b]?) → SMk wx base k (.slice A1 n1 c1) L) := fun wx hx => ⟨M1.out.1.kept fun g hg hv => hx g hg fun h => (HAp.out g h).1 hv, fun j hj => (M1.out.2 j hj).kept fun g hg hv => hx g hg fun h => (HAp.out g h).2 j hj hv⟩
 clear hM hb1 hk1 K2 a1 cS
 go_wp2_with fail
 refine cT.mono ?_
 rintro b X2 ⟨rfl, hT2, hb2, hk2⟩
 have M2 : Hid (SMk X2 base k (.slice A1 n1 c1) L) := HMs.out X2 hk2
 have T2 : Hid (Strs X2 base (.slice A3 n3 c3) (marks KL e.files.length)) := hT2
 have B2 : Hid (Below base w X2) := B1.out.trans hb2
 have E2 : Hid (∀ b, b < w.heap.size → NotE (.slice A1 n1 c1) (.slice A3 n3 c3) L b → X2.heap[b]? = w.heap[b]?) := fun b hb hN => by
  rw [hk2 b (Nat.lt_of_lt_of_le hb B1.out.size) hN.2.2, E1.out b (Nat.lt_of_lt_of_le hb BX.out.size) hN.1 hN.2.1]
  exact BX.out.block b hb
 clear hT2 hb2 hk2 cT a2
 go_wp2_with fail
 go_ret
 exact ⟨rfl, ⟨f, _, _, rfl, M2.out, by rw [hKL]; exact T2.out⟩, B2.out, E2.out⟩
set_option maxHeartbeats 2000000 in
theorem heldEngine (v : Value) (L : List (Ser × Value)) (base k n : Nat) (w : World) (h : EMk w base k v L n) (hl : L.length ≤ 5) (hp : ∀ q ∈ L, q.1.pts.length ≤ 60) (hk : 1 ≤ k) (hk2 : k ≤ 1000) (hn : n ≤ 1000) :
  Calls Tryz.prog 21 #[v, .int .i64 (k : Int)] w fun b w' => b = .returned (.int .i64 ((kAt k L L.length + n : Nat) : Int)) ∧ Below w.heap.size w w' := by
 obtain ⟨f, vc, vf, rfl, hM, hT⟩ := h
 unfold vE
 have HM : Hid (SMk w base k vc L) := hM
 have HT : Hid (Strs w base vf (marks (kAt k L L.length) n)) := hT
 have hkl := (kAt_le (k := k) hp L.length (Nat.le_refl _))
 obtain ⟨A1, n1, c1, rfl⟩ := hM.1.shape
 obtain ⟨A3, n3, c3, rfl⟩ := (strs_owns hT).shape
 obtain ⟨X0, hX0⟩ : ∃ X0, X0 = w.alloc (.cells #[.int .i64 f, .slice A1 n1 c1, .slice A3 n3 c3] 35) := ⟨_, rfl⟩
 have BX : Hid (Below w.heap.size w X0) := by unfold Hid; rw [hX0]; exact (Below.refl _ w).alloc (Nat.le_refl _) _
 have K1 : Hid (Blk X0 w.heap.size #[.int .i64 f, .slice A1 n1 c1, .slice A3 n3 c3] 35) := by unfold Hid; rw [hX0]; exact Blk.new w _ _
 have cS := heldSeriesS k base (.slice A1 n1 c1) L X0 (hM.on BX.out) hl hp hk hk2
 have a1 := K1.out.cell 1 _ rfl
 clear hM hT hp
 generalize hKL : kAt k L L.length = KL at *
 clear hKL
 have q1 : (KL : Int) ≤ 2000 := by omega
 have q2 : decide ((KL : Int) < 0) = false := decide_eq_false (by omega)
 go_enter Tryz.func21, Tryz.ntmps21
 go_wp2_with fail
 rw [← hX0]
 clear hX0
 refine cS.mono ?_
 rintro b X1 ⟨rfl, hb1⟩
 have B1 : Hid (Below w.heap.size w X1) := BX.out.trans (hb1.mono BX.out.size)
 have a2 := (K1.out.on hb1 K1.out.lt).cell 2 _ rfl
 have cT := held_all KL base n (.slice A3 n3 c3) X1 (HT.out.on B1.out) (by omega) (by omega) (by omega)
 clear hb1 cS a1
 generalize hkn : KL + n = kn at *
 have q3 : decide ((kn : Int) < 0) = false := decide_eq_false (by omega)
 have HKN : Hid (KL + n = kn) := hkn
 clear hkn
 go_wp2_with fail
 refine cT.mono ?_
 rintro b X2 ⟨rfl, hb2⟩
 have B2 : Hid (Below w.heap.size w X2) := B1.out.trans (hb2.mono B1.out.size)
 clear hb2 cT a2
 go_wp2_with fail
 go_ret
 exact ⟨by rw [HKN.out]; rfl, B2.out⟩
theorem cEng : Tryz.prog.cellsOf 26 = 3 := by kernel_rfl
theorem list3e {α : Type} {l : List α} (h : l.length = 3) : ∃ a b c, l = [a, b, c] := by
 match l, h with
 | [a, b, c], _ => exact ⟨a, b, c, rfl⟩
section
variable {H : Type} {enc : TypeId × Value → H} {w : World} {base : Nat} {spare : Nat → Bool} {held : Bool}
theorem cStr9 : Tryz.prog.cellsOf 9 = 1 := by kernel_rfl
theorem open_text (n : Nat) (cs : List Value) (y : DataW H × List MemPlace) (h : DataW.trod enc Tryz.prog w base spare held n 9 cs = some y) : ∃ s : ByteArray, cs = stC s ∧ s.size ≤ maxLen := by
 obtain ⟨s0, e0, _, hs⟩ := DataW.trod_string Tryz.underlying9 h
 exact ⟨s0, e0, hs⟩
set_option maxRecDepth 100000 in
theorem open_engine {r : Reach} {b0 : Nat} {v : Value} {dd : DataW H} {ps : List MemPlace} (hval : Value.okWide Tryz.prog w r b0 26 v) (hd : DataW.Trod enc Tryz.prog w base spare held 26 v dd ps) : ∃ e : Eng, EngV w w.heap.size v e ∧ EFits e := by
 obtain ⟨cs, rfl, hsz⟩ := okWide_struct Tryz.underlying26 hval
 rw [cEng] at hsz
 obtain ⟨fuel, hf0⟩ := hd
 obtain ⟨xs, m, _, _, _, hlen, hf⟩ := DataW.trod_struct Tryz.underlying26 hf0
 obtain ⟨l⟩ := cs
 obtain ⟨a, b, c, rfl⟩ := list3e (show l.length = 3 from hsz)
 obtain ⟨x0, x1, x2, rfl⟩ := list3e (show xs.length = 3 from hlen)
 have f0 := hf 0 _ rfl
 have f1 := hf 1 _ rfl
 have f2 := hf 2 _ rfl
 simp only [Value.cells, List.getElem?_cons_zero, List.getElem?_cons_succ] at f0 f1 f2
 obtain ⟨i0, e0, _, w0⟩ := DataW.trod_int Tryz.underlying3 f0
 cases e0
 obtain ⟨ls, l1, l2, l3⟩ := open_rows Tryz.underlying23 2 cSr (by omega) srC (fun _ => rfl) _ open_sr f1
 obtain ⟨ts, t1, t2, t3⟩ := open_rows Tryz.underlying24 1 cStr9 (by omega) stC (fun _ => rfl) _ open_text f2
 refine ⟨⟨i0, ls.map Prod.fst, ts⟩, ⟨b, c, rfl, ⟨ls, rfl, l1, fun p hp => (l3 p hp).1⟩, t1⟩, ⟨by rw [List.length_map]; exact l2, fun x hx => ?_⟩, t2, t3⟩
 obtain ⟨p, hp, rfl⟩ := List.mem_map.1 hx
 exact (l3 p hp).2
end
end Go.Proofs.YtikknmoeefipmaaGreatDoor
namespace Go.Proofs.YtikknmoeefipmaaGreatDoor
open Go.ChangeShapes Go.WideShapes Go.ChangeAt Go.RowKit Go.PlainAid
set_option linter.unusedVariables false
theorem flush_cache (e : Eng) : (flushS e).cache = [] := by
 unfold flushS
 by_cases h : 4 < (awayS e).files.length
 ·rw [if_pos h]; exact away_cache e
 ·rw [if_neg h]; exact away_cache e
theorem one_isF {e : Eng} (hp : SOk (plainE e)) : ∀ s ∈ (oneS e).files, isF s := fun s hs => by
 unfold oneS at hs
 dsimp only at hs
 rw [one_files hp] at hs
 by_cases h : plainE e = []
 ·rw [if_pos h] at hs; cases hs
 ·rw [if_neg h] at hs
  rw [List.mem_singleton.1 hs]
  exact ⟨_, len_pos h, hp, rfl⟩
theorem flush_few {e : Eng} : (flushS e).files.length ≤ 4 := by
 unfold flushS
 by_cases h4 : 4 < (awayS e).files.length
 ·rw [if_pos h4]
  unfold oneS
  dsimp only
  split <;> simp
 ·rw [if_neg h4]
  omega
end Go.Proofs.YtikknmoeefipmaaGreatDoor
namespace Go.Proofs.YtikknmoeefipmaaGreatDoor
open Go.ChangeShapes Go.WideShapes Go.ChangeAt Go.RowKit Go.PlainAid
set_option linter.unusedVariables false
theorem wtT_le (l : List ByteArray) (h : ∀ s ∈ l, s.size ≤ 5004) : wtT l ≤ l.length * 5004 := by
 induction l with
 | nil => simp [wtT]
 | cons x l ih =>
  have h1 := ih fun s hs => h s (List.mem_cons_of_mem _ hs)
  have h2 := h x (List.mem_cons_self ..)
  simp only [wtT, List.map_cons, List.sum_cons, List.length_cons] at *
  omega
end Go.Proofs.YtikknmoeefipmaaGreatDoor
namespace Go.Proofs.YtikknmoeefipmaaGreatDoor
open Go.ChangeShapes Go.WideShapes Go.ChangeAt Go.RowKit Go.PlainAid
set_option linter.unusedVariables false
theorem kx_small {L : List (Ser × Value)} {e : Eng} (hL : L.map Prod.fst = e.cache) (hw : wtE e ≤ 1048576) : kAt 1 L L.length + e.files.length ≤ 10000000 := by
 have h := kAt_weight 1 L L.length (Nat.le_refl _)
 rw [hL, show L.length = e.cache.length from by rw [← hL, List.length_map], List.take_length] at h
 rw [show L.length = e.cache.length from by rw [← hL, List.length_map]]
 unfold wtE at hw
 omega
def FewE (x : Eng) : Prop := x.cache.length ≤ 5 ∧ (∀ y ∈ x.cache, y.pts.length ≤ 60 ∧ y.key.size ≤ 8) ∧ x.files.length ≤ 4 ∧ ∀ s ∈ x.files, s.size ≤ 5004
theorem fewE_of {x : Eng} (hc : x.cache = [] ∨ SOk x.cache) (hn : x.files.length ≤ 4) (hF : ∀ s ∈ x.files, isF s) : FewE x := by
 refine ⟨?_, fun y hy => ?_, hn, fun s hs => ?_⟩
 ·rcases hc with h | h
  ·rw [h]; simp
  ·exact ((SOk_iff _).1 h).1
 ·rcases hc with h | h
  ·rw [h] at hy; cases hy
  ·have h3 := ((SOk_iff _).1 h).2.2 y hy
   exact ⟨((POk_iff _).1 h3.2.2).1, h3.1.2.1⟩
 ·obtain ⟨m, hm⟩ := hF s hs
  have := fileT_size m
  rw [hm.2.2] at this
  exact this
theorem putX_few (e : Eng) (key : ByteArray) (p : List Pnt) : FewE (putX e key p).1 := by
 unfold putX
 by_cases h : EOk e
 ·rw [if_pos h]
  have he : FewE e := fewE_of (.inr h.1.2.2.1) h.1.2.1 h.2.1
  unfold putA
  by_cases h1 : PutOk key p
  ·rw [if_neg (fun g => g h1)]
   by_cases h2 : tAt p 0 < e.floor
   ·rw [if_pos h2]; exact he
   ·rw [if_neg h2]
    by_cases h3 : SOk (plainE (intoE e key p))
    ·rw [if_neg (fun g => g h3)]
     have hc : SOk (intoR e.cache key p) := into_ok h h1 (by omega) h3
     by_cases h4 : 40 < cntS (intoR e.cache key p)
     ·rw [if_pos h4]
      show FewE (flushA (intoE e key p) (plainE (intoE e key p)))
      rw [← flush_same (e := intoE e key p) h.1.2.1 (Or.inr hc) h3]
      refine fewE_of (.inl (flush_cache _)) flush_few ?_
      unfold flushS
      by_cases h5 : 4 < (awayS (intoE e key p)).files.length
      ·rw [if_pos h5]
       exact one_isF (by rw [away_plain (Or.inr hc)]; exact h3)
      ·rw [if_neg h5]
       exact away_files (Or.inr hc) h.2.1
     ·rw [if_neg h4]
      exact fewE_of (.inr hc) h.1.2.1 h.2.1
    ·rw [if_pos h3]; exact he
  ·rw [if_pos h1]; exact he
 ·rw [if_neg h]
  exact fewE_of (.inl rfl) (by simp [zeroE]) (fun s hs => by simp [zeroE] at hs)
theorem wtS_le (l : List Ser) (h : ∀ x ∈ l, x.pts.length ≤ 60 ∧ x.key.size ≤ 8) : wtS l ≤ l.length * 68 := by
 induction l with
 | nil => simp [wtS]
 | cons x l ih =>
  have h1 := ih fun s hs => h s (List.mem_cons_of_mem _ hs)
  have h2 := h x (List.mem_cons_self ..)
  simp only [wtS, wtS1, List.map_cons, List.sum_cons, List.length_cons] at *
  omega
theorem putX_wt (e : Eng) (key : ByteArray) (p : List Pnt) : wtE (putX e key p).1 ≤ 1048576 := by
 have h := putX_few e key p
 have h1 := wtS_le _ h.2.1
 have h2 := wtT_le _ h.2.2.2
 have h3 := h.1
 have h4 := h.2.2.1
 unfold wtE
 omega
set_option maxRecDepth 100000 in
set_option maxHeartbeats 16000000 in
theorem law_fnExactPut (e : Eng) (key : ByteArray) (p : List Pnt) (vl v : Value) (w : World) (hv : EngV w w.heap.size v e) (hf : EFits e) (hkey : key.size ≤ maxLen) (hvl : Lies w w.heap.size 2 vl (ptR p)) (hln : p.length ≤ maxLen) (hst : SumTab w) (a0 a1 a2 : Addr) (he : Errs w a0 a1 a2) :
  Calls Tryz.prog 4 #[v, .string key, vl] w fun b w' => b = .returned (.bool true) ∧ Below w.heap.size w w' := by
 have HPt : Hid (Lies w w.heap.size 2 vl (ptR p)) := hvl
 have HKey : Hid (key.size ≤ maxLen) := hkey
 have HLn : Hid (p.length ≤ maxLen) := hln
 obtain ⟨Al, cl, rfl, _⟩ := pt_look hvl
 have qk : (key.size : Int) ≤ 9223372036854775807 := by unfold maxLen at hkey; omega
 clear hvl hkey hln
 by_cases hbig : (1048576 : Int) < (key.size : Int)
 ·obtain ⟨vc, vf, rfl, hc, hl⟩ := hv
  unfold vE
  go_enter Tryz.func4, Tryz.ntmps4
  go_wp2_with fail
  go_ret
  exact ⟨rfl, (Below.refl _ w).alloc (Nat.le_refl _) _⟩
 have dbig : decide ((1048576 : Int) < (key.size : Int)) = false := decide_eq_false hbig
 have HK20 : Hid (key.size ≤ 1048576) := by unfold Hid; omega
 obtain ⟨vc, vf, rfl, hc, hl⟩ := hv
 unfold vE
 obtain ⟨Ac, cc, rfl, _⟩ := hc.look
 obtain ⟨A, cap, rfl, _⟩ := st_look hl
 have HV : Hid (EngV w w.heap.size (vE e.floor (.slice Ac e.cache.length cc) (.slice A e.files.length cap)) e) := ⟨_, _, rfl, hc, hl⟩
 have ST : Hid (SumTab w) := hst
 have ER : Hid (Errs w a0 a1 a2) := he
 obtain ⟨X0, hX0⟩ : ∃ X0, X0 = w.alloc (.cells #[.int .i64 e.floor, .slice Ac e.cache.length cc, .slice A e.files.length cap] 26) := ⟨_, rfl⟩
 have BX : Hid (Below w.heap.size w X0) := by unfold Hid; rw [hX0]; exact (Below.refl _ w).alloc (Nat.le_refl _) _
 have KX : Hid (Blk X0 w.heap.size #[.int .i64 e.floor, .slice Ac e.cache.length cc, .slice A e.files.length cap] 26) := by unfold Hid; rw [hX0]; exact Blk.new w _ _
 have cz := szEngine e _ 1048576 X0 w.heap.size (HV.out.on BX.out) hf (by omega) (by omega) BX.out.size
 unfold vE at cz
 have k0 := KX.out.cell 0 _ rfl
 have k1 := KX.out.cell 1 _ rfl
 have k2 := KX.out.cell 2 _ rfl
 clear hc hl hf hst he
 generalize hfl : e.floor = f at *
 have HFl : Hid (e.floor = f) := hfl
 clear hfl
 generalize e.cache.length = nc at *
 generalize e.files.length = nf at *
 go_enter Tryz.func4, Tryz.ntmps4
 go_wp2_with fail
 rw [← hX0]
 clear hX0
 refine cz.mono ?_
 rintro b X1 ⟨r, rfl, HR, hb1⟩
 have B1 : Hid (Below w.heap.size w X1) := BX.out.trans (hb1.mono BX.out.size)
 have K1 : Hid (Blk X1 w.heap.size #[.int .i64 f, .slice Ac nc cc, .slice A nf cap] 26) := KX.out.on hb1 KX.out.lt
 clear hb1 cz k0 k1 k2
 rcases HR.out with rfl | ⟨hr0, hr1⟩
 ·go_wp2_with fail
  go_ret
  exact ⟨rfl, B1.out⟩
 have hq : decide (r < 0) = false := decide_eq_false (by omega)
 have HWt : Hid (wtE e ≤ 1048576) := by unfold Hid; omega
 have czp := szPointS p (.slice Al p.length cl) r X1 w.heap.size (HPt.out.on B1.out) HLn.out hr0 (by omega)
 have qln : (p.length : Int) ≤ 9223372036854775807 := by have := HLn.out; unfold maxLen at this; omega
 generalize hpl : p.length = pl at *
 have HPl : Hid (p.length = pl) := hpl
 clear hpl
 have qr : r ≤ 1048576 := by omega
 clear hbig
 go_wp2_with fail
 refine czp.mono ?_
 rintro b w' ⟨⟨r2, rfl, HR2⟩, rfl⟩
 clear czp
 rcases HR2.out with rfl | ⟨hr20, hr21⟩
 ·go_wp2_with fail
  go_ret
  exact ⟨rfl, B1.out⟩
 have hq2 : decide (r2 < 0) = false := decide_eq_false (by omega)
 have HP20 : Hid (p.length ≤ 1048576) := by have := HPl.out; unfold Hid; omega
 clear hr21
 have HSh : Hid (EShort e) := EFits.short HWt.out (Nat.le_refl _)
 have k0 := K1.out.cell 0 _ rfl
 have k1 := K1.out.cell 1 _ rfl
 have k2 := K1.out.cell 2 _ rfl
 have c1 := toEngine e _ X1 w.heap.size (HV.out.on B1.out) HSh.out B1.out.size
 unfold vE at c1
 clear hr1
 go_wp2_with fail
 refine c1.mono ?_
 rintro b X2 ⟨⟨u2, rfl, hE2⟩, hb2⟩
 have B2 : Hid (Below w.heap.size w X2) := B1.out.trans (hb2.mono B1.out.size)
 have K2 : Hid (Blk X2 w.heap.size #[.int .i64 f, .slice Ac nc cc, .slice A nf cap] 26) := K1.out.on hb2 K1.out.lt
 have hE2s := hE2
 obtain ⟨vc2, vf2, L2, ev2, _, hSm, hTm⟩ := hE2
 unfold vE at ev2
 rw [HFl.out] at ev2
 subst ev2
 have HE2 : Hid (EngO X2 X1.heap.size (.agg #[.int .i64 f, vc2, vf2]) e) := by
  obtain ⟨a, b, c, d, g⟩ := hE2s
  exact ⟨a, b, c, d, g⟩
 obtain ⟨Am, nm, cm', rfl⟩ := hSm.1.shape
 obtain ⟨Bm, mm, dm, rfl⟩ := (strs_owns hTm).shape
 clear hb2 c1 k0 k1 k2 K1 KX hE2s hSm hTm
 have cq2p := toPointS p (.slice Al pl cl) X2 w.heap.size (HPt.out.on B2.out) HP20.out B2.out.size
 go_wp2_with fail
 refine cq2p.mono ?_
 rintro b X2p ⟨up2p, rfl, hOp2p, hbp2p⟩
 have B2p : Hid (Below w.heap.size w X2p) := B2.out.trans (hbp2p.mono B2.out.size)
 have K2p : Hid (Blk X2p w.heap.size #[.int .i64 f, .slice Ac nc cc, .slice A nf cap] 26) := K2.out.on hbp2p K2.out.lt
 have c2 := specPutX e key p _ up2p X2p X2p.heap.size ((HE2.out.on hbp2p).view) HSh.out HKey.out hOp2p.lies HP20.out (Nat.le_refl _)
 obtain ⟨Aq2, nq2, cq2, rfl⟩ := hOp2p.shape
 clear hbp2p hOp2p cq2p HE2 K2 B2
 have B2 : Hid (Below w.heap.size w X2p) := B2p.out
 have K2 : Hid (Blk X2p w.heap.size #[.int .i64 f, .slice Ac nc cc, .slice A nf cap] 26) := K2p.out
 clear B2p K2p
 have HPw : Hid (wtE (putX e key p).1 ≤ 1048576) := putX_wt e key p
 have HPs : Hid (EShort (putX e key p).1) := EFits.short HPw.out (Nat.le_refl _)
 go_wp2_with fail
 refine c2.mono ?_
 rintro b X3a ⟨⟨u3, rfl, hS3⟩, hb3⟩
 have W3a : Hid (EngO X3a X2p.heap.size u3 (putX e key p).1) := hS3
 obtain ⟨vc3, vf3, L3, ev3, _, hS3', hT3'⟩ := hS3
 obtain ⟨Aw, nw, cw, rfl⟩ := hS3'.1.shape
 obtain ⟨Av, nv, cv, rfl⟩ := (strs_owns hT3').shape
 unfold vE at ev3
 subst ev3
 generalize hgw : ((putX e key p).1).floor = gw at *
 clear hgw hS3' hT3'
 generalize hcd : (putX e key p).2 = cd at *
 have HCd : Hid ((putX e key p).2 = cd) := hcd
 have hcc : (cd != cd) = false := by simp
 clear hcd
 have B3a : Hid (Below w.heap.size w X3a) := B2.out.trans (hb3.mono B2.out.size)
 have K3a : Hid (Blk X3a w.heap.size #[.int .i64 f, .slice Ac nc cc, .slice A nf cap] 26) := K2.out.on hb3 K2.out.lt
 clear hb3 c2 K2
 obtain ⟨X3, hX3⟩ : ∃ X3, X3 = X3a.alloc (.cells #[.int .i64 gw, .slice Aw nw cw, .slice Av nv cv] 35) := ⟨_, rfl⟩
 have hb3 : Below X3a.heap.size X3a X3 := by rw [hX3]; exact (Below.refl _ _).alloc (Nat.le_refl _) _
 have KW : Hid (Blk X3 X3a.heap.size #[.int .i64 gw, .slice Aw nw cw, .slice Av nv cv] 35) := by unfold Hid; rw [hX3]; exact Blk.new X3a _ _
 have W3 : Hid (EngO X3 X2p.heap.size (.agg #[.int .i64 gw, .slice Aw nw cw, .slice Av nv cv]) (putX e key p).1) := W3a.out.on hb3
 have B3 : Hid (Below w.heap.size w X3) := B3a.out.trans (hb3.mono B3a.out.size)
 have K3 : Hid (Blk X3 w.heap.size #[.int .i64 f, .slice Ac nc cc, .slice A nf cap] 26) := K3a.out.on hb3 K3a.out.lt
 clear hb3 K3a B3a W3a
 have k0 := K3.out.cell 0 _ rfl
 have k1 := K3.out.cell 1 _ rfl
 have k2 := K3.out.cell 2 _ rfl
 have c1 := toEngine e _ X3 w.heap.size (HV.out.on B3.out) HSh.out B3.out.size
 unfold vE at c1
 rw [hX3] at k0 k1 k2
 go_wp2_with fail
 rw [← hX3]
 clear hX3
 refine c1.mono ?_
 rintro b X4 ⟨⟨u4, rfl, hE4⟩, hb4⟩
 have C4 : Hid (Below X3.heap.size X3 X4) := hb4
 have HE4 : Hid (EngO X4 X3.heap.size u4 e) := hE4
 obtain ⟨vc4, vf4, L4, ev4, hL4, hS4, hT4⟩ := hE4
 obtain ⟨Ax, nx, cx, rfl⟩ := hS4.1.shape
 obtain ⟨Ay, ny, cy, rfl⟩ := (strs_owns hT4).shape
 unfold vE at ev4
 subst ev4
 have HFe := HFl.out
 rw [HFe] at HE4 ⊢
 have HL4 : Hid (L4.map Prod.fst = e.cache) := hL4
 have S4 : Hid (SerO X4 X3.heap.size (.slice Ax nx cx) L4) := hS4
 have T4 : Hid (Strs X4 X3.heap.size (.slice Ay ny cy) e.files) := hT4
 clear hb4 c1 k0 k1 k2 HFe hL4 hS4 hT4
 obtain ⟨X5o, hX5⟩ : ∃ X5, X5 = X4.alloc (.cells #[.int .i64 f, .slice Ax nx cx, .slice Ay ny cy] 35) := ⟨_, rfl⟩
 have KBo : Hid (Blk X5o X4.heap.size #[.int .i64 f, .slice Ax nx cx, .slice Ay ny cy] 35) := by unfold Hid; rw [hX5]; exact Blk.new X4 _ _
 have C5o : Hid (Below X3.heap.size X3 X5o) := by unfold Hid; rw [hX5]; exact C4.out.alloc C4.out.size _
 have D5o : Hid (Below X4.heap.size X4 X5o) := by unfold Hid; rw [hX5]; exact (Below.refl _ X4).alloc (Nat.le_refl _) _
 have B5o : Hid (Below w.heap.size w X5o) := B3.out.trans (C5o.out.mono B3.out.size)
 have cq5 := toPointS p (.slice Al pl cl) X5o w.heap.size (HPt.out.on B5o.out) HP20.out B5o.out.size
 go_wp2_with fail
 rw [← hX5]
 clear hX5
 refine cq5.mono ?_
 rintro b X5 ⟨up5, rfl, hOp5, hbp5⟩
 have KB : Hid (Blk X5 X4.heap.size #[.int .i64 f, .slice Ax nx cx, .slice Ay ny cy] 35) := KBo.out.on hbp5 KBo.out.lt
 have C5 : Hid (Below X3.heap.size X3 X5) := C5o.out.trans (hbp5.mono C5o.out.size)
 have D5 : Hid (Below X4.heap.size X4 X5) := D5o.out.trans (hbp5.mono D5o.out.size)
 have B5 : Hid (Below w.heap.size w X5) := B3.out.trans (C5.out.mono B3.out.size)
 have E5 : Hid (EngO X5 X3.heap.size (.agg #[.int .i64 f, .slice Ax nx cx, .slice Ay ny cy]) e) := HE4.out.on D5.out
 have c2 := implPutX e key p _ up5 X5 X5.heap.size E5.out.view HSh.out HKey.out hOp5.lies HP20.out (Nat.le_refl _) (ST.out.on B5.out) a0 a1 a2 (ER.out.on B5.out)
 obtain ⟨Aq5, nq5, cq5', rfl⟩ := hOp5.shape
 have Y5 : Hid (Owns X5 X5o.heap.size 90 2 (.slice Aq5 nq5 cq5') (ptR p)) := hOp5
 have HY5 : Hid (X4.heap.size < X5o.heap.size ∧ X3.heap.size ≤ X5o.heap.size) := ⟨KBo.out.lt, C5o.out.size⟩
 clear hOp5 hbp5 cq5 KBo C5o D5o B5o
 have kb0 := KB.out.cell 0 _ rfl
 have kb1 := KB.out.cell 1 _ rfl
 have kb2 := KB.out.cell 2 _ rfl
 rw [HCd.out] at c2
 go_wp2_with fail
 clear kb0 kb1 kb2
 refine c2.mono ?_
 rintro b X6a ⟨⟨u6, rfl, hS6⟩, hb6⟩
 have G6a : Hid (EngO X6a X5.heap.size u6 (putX e key p).1) := hS6
 obtain ⟨vc6, vf6, L6, ev6, hL6, hSg, hTg⟩ := hS6
 obtain ⟨A6, n6, c6, rfl⟩ := hSg.1.shape
 obtain ⟨A7, n7, c7, rfl⟩ := (strs_owns hTg).shape
 have HL6 : Hid (L6.map Prod.fst = ((putX e key p).1).cache) := hL6
 have SG6a : Hid (SerO X6a X5.heap.size (.slice A6 n6 c6) L6) := hSg
 have TG6a : Hid (Strs X6a X5.heap.size (.slice A7 n7 c7) ((putX e key p).1).files) := hTg
 unfold vE at ev6
 subst ev6
 clear hL6 hSg hTg
 generalize hgf : ((putX e key p).1).floor = gf at *
 have HGf : Hid (((putX e key p).1).floor = gf) := hgf
 clear hgf
 obtain ⟨X6, hX6⟩ : ∃ X6, X6 = X6a.alloc (.cells #[.int .i64 gf, .slice A6 n6 c6, .slice A7 n7 c7] 35) := ⟨_, rfl⟩
 have hbn : Below X6a.heap.size X6a X6 := by rw [hX6]; exact (Below.refl _ _).alloc (Nat.le_refl _) _
 have KG6 : Hid (Blk X6 X6a.heap.size #[.int .i64 gf, .slice A6 n6 c6, .slice A7 n7 c7] 35) := by unfold Hid; rw [hX6]; exact Blk.new X6a _ _
 have HG : Hid (X5.heap.size ≤ X6a.heap.size) := hb6.size
 have D6 : Hid (Below X5.heap.size X5 X6) := hb6.trans (hbn.mono hb6.size)
 have C6 : Hid (Below X3.heap.size X3 X6) := C5.out.trans (D6.out.mono C5.out.size)
 have G6 : Hid (EngO X6 X5.heap.size (.agg #[.int .i64 gf, .slice A6 n6 c6, .slice A7 n7 c7]) (putX e key p).1) := G6a.out.on hbn
 have SG6 : Hid (SerO X6 X5.heap.size (.slice A6 n6 c6) L6) := SG6a.out.on hbn
 have TG6 : Hid (Strs X6 X5.heap.size (.slice A7 n7 c7) ((putX e key p).1).files) := TG6a.out.on hbn
 clear hb6 hbn c2 G6a SG6a TG6a
 have HFew : Hid (L6.length ≤ 5 ∧ (∀ q ∈ L6, q.1.pts.length ≤ 60) ∧ ((putX e key p).1).files.length ≤ 1000 ∧ wtE (putX e key p).1 ≤ 1048576) := by
  have h1 := HL6.out
  have h2 := putX_few e key p
  refine ⟨by have := congrArg List.length h1; rw [List.length_map] at this; have := h2.1; omega, fun q hq => (h2.2.1 q.1 (by rw [← h1]; exact List.mem_map.2 ⟨q, hq, rfl⟩)).1, by have := h2.2.2.1; omega, HPw.out⟩
 have KW6 : Hid (Blk X6 X3a.heap.size #[.int .i64 gw, .slice Aw nw cw, .slice Av nv cv] 35) := KW.out.on C6.out KW.out.lt
 have h0 := KW6.out.cell 0 _ rfl
 have h1 := KW6.out.cell 1 _ rfl
 have h2 := KW6.out.cell 2 _ rfl
 have j0 := KG6.out.cell 0 _ rfl
 have j1 := KG6.out.cell 1 _ rfl
 have j2 := KG6.out.cell 2 _ rfl
 rw [hX6] at h0 h1 h2 j0 j1 j2
 have ce := eqEngine ((putX e key p).1) _ _ X5.heap.size X2p.heap.size X6 G6.out (W3.out.on C6.out) HPs.out
 go_wp2_with fail
 rw [← hX6]
 clear hX6 h0 h1 h2 j0 j1 j2
 refine ce.mono ?_
 rintro b X7 ⟨rfl, he7⟩
 have C7 : Hid (Below X3.heap.size X3 X7) := C6.out.trans (he7.mono C6.out.size)
 have D7 : Hid (Below X5.heap.size X5 X7) := D6.out.trans (he7.mono D6.out.size)
 have SG7 : Hid (SerO X7 X5.heap.size (.slice A6 n6 c6) L6) := SG6.out.on he7
 have TG7 : Hid (Strs X7 X5.heap.size (.slice A7 n7 c7) ((putX e key p).1).files) := TG6.out.on he7
 have KG7 : Hid (Blk X7 X6a.heap.size #[.int .i64 gf, .slice A6 n6 c6, .slice A7 n7 c7] 35) := KG6.out.on he7 KG6.out.lt
 clear he7 ce
 go_wp2_with fail
 refine wp_region_until (fun w' => (w'.cell? ⟨X4.heap.size, 0, none⟩ = some (.int .i64 f) ∧ w'.cell? ⟨X4.heap.size, 1, none⟩ = some (.slice Ax nx cx) ∧ w'.cell? ⟨X4.heap.size, 2, none⟩ = some (.slice Ay ny cy)) ∧ w'.cell? ⟨w.heap.size, 0, none⟩ = some (.int .i64 f) ∧ w'.cell? ⟨w.heap.size, 1, none⟩ = some (.slice Ac nc cc) ∧ w'.cell? ⟨w.heap.size, 2, none⟩ = some (.slice A nf cap)) (fun _ => false) 5 (by rfl) (by kernel_rfl) ?_
 have hbd : Below X7.heap.size X7 X7.drew := (Below.refl _ _).drew
 generalize X7.drew = XD at *
 have CD : Hid (Below X3.heap.size X3 XD) := C7.out.trans (hbd.mono C7.out.size)
 have FD : Hid (Below X7.heap.size X7 XD) := hbd
 have DD : Hid (Below X5.heap.size X5 XD) := D7.out.trans (hbd.mono D7.out.size)
 have BD : Hid (Below w.heap.size w XD) := B3.out.trans (CD.out.mono B3.out.size)
 have KBa : Hid (Blk XD X4.heap.size #[.int .i64 f, .slice Ax nx cx, .slice Ay ny cy] 35) := KB.out.on DD.out KB.out.lt
 have KAa : Hid (Blk XD w.heap.size #[.int .i64 f, .slice Ac nc cc, .slice A nf cap] 26) := K3.out.on CD.out K3.out.lt
 have S0 : Hid ((fun w' => (w'.cell? ⟨X4.heap.size, 0, none⟩ = some (.int .i64 f) ∧ w'.cell? ⟨X4.heap.size, 1, none⟩ = some (.slice Ax nx cx) ∧ w'.cell? ⟨X4.heap.size, 2, none⟩ = some (.slice Ay ny cy)) ∧ w'.cell? ⟨w.heap.size, 0, none⟩ = some (.int .i64 f) ∧ w'.cell? ⟨w.heap.size, 1, none⟩ = some (.slice Ac nc cc) ∧ w'.cell? ⟨w.heap.size, 2, none⟩ = some (.slice A nf cap)) XD) := ⟨⟨KBa.out.cell 0 _ rfl, KBa.out.cell 1 _ rfl, KBa.out.cell 2 _ rfl⟩, KAa.out.cell 0 _ rfl, KAa.out.cell 1 _ rfl, KAa.out.cell 2 _ rfl⟩
 have ct := toEngine e _ XD w.heap.size (HV.out.on BD.out) HSh.out BD.out.size
 unfold vE at ct
 clear hbd
 refine tKe 0 (v := ?_) S0.out ?_ ?_; rotate_left; focus (intro w hSw; (try dsimp only at hSw); go_simp; try with_reducible rfl)
 try simp only [Act.put, zQ1, zQ2, zQ3]
 refine tKe 1 (v := ?_) S0.out ?_ ?_; rotate_left; focus (intro w hSw; (try dsimp only at hSw); go_simp; try with_reducible rfl)
 try simp only [Act.put, zQ1, zQ2, zQ3]
 refine uNe 2 (fun K hK => ?_)
 go_simp
 refine ct.mono ?_
 rintro b X7m ⟨⟨u7m, rfl, hE7m⟩, hb7m⟩
 have C7m : Hid (Below X3.heap.size X3 X7m) := CD.out.trans (hb7m.mono CD.out.size)
 have D7m : Hid (Below X5.heap.size X5 X7m) := DD.out.trans (hb7m.mono DD.out.size)
 have F7m : Hid (Below X7.heap.size X7 X7m) := FD.out.trans (hb7m.mono FD.out.size)
 have KBb : Hid (Blk X7m X4.heap.size #[.int .i64 f, .slice Ax nx cx, .slice Ay ny cy] 35) := KB.out.on D7m.out KB.out.lt
 have KAb : Hid (Blk X7m w.heap.size #[.int .i64 f, .slice Ac nc cc, .slice A nf cap] 26) := K3.out.on C7m.out K3.out.lt
 have cq := eqEngine e (.agg #[.int .i64 f, .slice Ax nx cx, .slice Ay ny cy]) u7m X3.heap.size XD.heap.size X7m (E5.out.on D7m.out) hE7m HSh.out
 clear hb7m ct S0 KBa KAa
 obtain ⟨vc7m, vf7m, L7m, ev7m, _⟩ := hE7m
 unfold vE at ev7m
 subst ev7m
 go_wp2_with fail
 refine hK.out _ _ (fun _ _ => ⟨⟨KBb.out.cell 0 _ rfl, KBb.out.cell 1 _ rfl, KBb.out.cell 2 _ rfl⟩, KAb.out.cell 0 _ rfl, KAb.out.cell 1 _ rfl, KAb.out.cell 2 _ rfl⟩) ?_
 clear hK K
 try simp only [Act.put, zQ1, zQ2, zQ3]
 refine uNe 3 (fun K hK => ?_)
 go_simp
 refine cq.mono ?_
 rintro b X8z ⟨rfl, hb8z⟩
 have C8z : Hid (Below X3.heap.size X3 X8z) := C7m.out.trans (hb8z.mono C7m.out.size)
 have D8z : Hid (Below X5.heap.size X5 X8z) := D7m.out.trans (hb8z.mono D7m.out.size)
 have F8z : Hid (Below X7.heap.size X7 X8z) := F7m.out.trans (hb8z.mono F7m.out.size)
 have KBc : Hid (Blk X8z X4.heap.size #[.int .i64 f, .slice Ax nx cx, .slice Ay ny cy] 35) := KB.out.on D8z.out KB.out.lt
 have KAc : Hid (Blk X8z w.heap.size #[.int .i64 f, .slice Ac nc cc, .slice A nf cap] 26) := K3.out.on C8z.out K3.out.lt
 clear hb8z cq KBb KAb
 go_wp2_with fail
 refine hK.out _ _ (fun _ _ => ⟨⟨KBc.out.cell 0 _ rfl, KBc.out.cell 1 _ rfl, KBc.out.cell 2 _ rfl⟩, KAc.out.cell 0 _ rfl, KAc.out.cell 1 _ rfl, KAc.out.cell 2 _ rfl⟩) ?_
 clear hK K
 try simp only [Act.put, zQ1, zQ2, zQ3]
 refine pUr 4 (v := ?_) ?_ ?_; rotate_left; focus (intro w; go_simp; try with_reducible rfl)
 try simp only [Act.put, zQ1, zQ2, zQ3]
 refine until_done (by kernel_rfl) ?_ _
 clear KBc KAc C7m D7m CD DD BD FD F7m
 have cq8 := toPointS p (.slice Al pl cl) X8z w.heap.size (HPt.out.on (B3.out.trans (C8z.out.mono B3.out.size))) HP20.out (B3.out.trans (C8z.out.mono B3.out.size)).size
 have Y8z : Hid (Owns X8z X5o.heap.size 90 2 (.slice Aq5 nq5 cq5') (ptR p)) := Y5.out.on D8z.out
 go_wp2_with fail
 refine cq8.mono ?_
 rintro b X8p ⟨up8, rfl, hOp8, hbp8⟩
 have Y8p : Hid (Owns X8p X5o.heap.size 90 2 (.slice Aq5 nq5 cq5') (ptR p)) := Y8z.out.on hbp8
 have cq9 := eqPointS p (.slice Aq5 nq5 cq5') up8 X8p X8p.heap.size Y8p.out.lies hOp8.lies HP20.out (Nat.le_refl _)
 obtain ⟨Aq8, nq8, cq8', rfl⟩ := hOp8.shape
 clear cq8 hOp8
 go_wp2_with fail
 refine cq9.mono ?_
 rintro b X8 ⟨rfl, hb8⟩
 have C8 : Hid (Below X3.heap.size X3 X8) := (C8z.out.trans (hbp8.mono C8z.out.size)).trans (hb8.mono (C8z.out.trans (hbp8.mono C8z.out.size)).size)
 have D8 : Hid (Below X5.heap.size X5 X8) := (D8z.out.trans (hbp8.mono D8z.out.size)).trans (hb8.mono (D8z.out.trans (hbp8.mono D8z.out.size)).size)
 have F8 : Hid (Below X7.heap.size X7 X8) := (F8z.out.trans (hbp8.mono F8z.out.size)).trans (hb8.mono (F8z.out.trans (hbp8.mono F8z.out.size)).size)
 have Y8 : Hid (Owns X8 X5o.heap.size 90 2 (.slice Aq5 nq5 cq5') (ptR p)) := Y8p.out.on hb8
 clear hb8 hbp8 cq9 Y8z Y8p C8z D8z F8z
 have SG8 : Hid (SerO X8 X5.heap.size (.slice A6 n6 c6) L6) := SG7.out.on F8.out
 have TG8 : Hid (Strs X8 X5.heap.size (.slice A7 n7 c7) ((putX e key p).1).files) := TG7.out.on F8.out
 have KG8 : Hid (Blk X8 X6a.heap.size #[.int .i64 gf, .slice A6 n6 c6, .slice A7 n7 c7] 35) := KG7.out.on F8.out KG7.out.lt
 have KB8 : Hid (Blk X8 X4.heap.size #[.int .i64 f, .slice Ax nx cx, .slice Ay ny cy] 35) := KB.out.on D8.out KB.out.lt
 have kb0 := KB8.out.cell 0 _ rfl
 have kb1 := KB8.out.cell 1 _ rfl
 have kb2 := KB8.out.cell 2 _ rfl
 have D48 : Hid (Below X4.heap.size X4 X8) := D5.out.trans (D8.out.mono D5.out.size)
 have cm := markEngine e (.agg #[.int .i64 f, .slice Ax nx cx, .slice Ay ny cy]) (.slice Ax nx cx) (.slice Ay ny cy) L4 X3.heap.size 1 X8 (by rw [HFl.out]; rfl) HL4.out (S4.out.on D48.out) (T4.out.on D48.out) (by omega) (by omega) HWt.out C8.out.size
 have HNb : Hid (∀ b, X4.heap.size ≤ b → NotE (.slice Ax nx cx) (.slice Ay ny cy) L4 b) := fun b hb => by
  refine ⟨fun h => ?_, fun j hj h => ?_, fun h => ?_⟩
  ·have := (S4.out.1.lt b h).2; omega
  ·have := ((S4.out.2.1 _ (getD_mem L4 j hj)).lt b h).2; omega
  ·have := ((strs_owns T4.out).lt b h).2; omega
 have HKx : Hid (kAt 1 L4 L4.length + e.files.length ≤ 10000000) := kx_small HL4.out HWt.out
 generalize hkx : kAt 1 L4 L4.length + e.files.length = kx at *
 have dkx : decide ((kx : Int) < 0) = false := decide_eq_false (by omega)
 clear hkx
 go_wp2_with fail
 refine cm.mono ?_
 rintro b X9m ⟨rfl, _, hb9, hk9⟩
 have C9m : Hid (Below X3.heap.size X3 X9m) := C8.out.trans hb9
 have HZ9m : Hid (X8.heap.size ≤ X9m.heap.size) := hb9.size
 have H45 : Hid (X4.heap.size < X5.heap.size) := KB.out.lt
 have SG9m : Hid (SerO X9m X5.heap.size (.slice A6 n6 c6) L6) := ⟨SG8.out.1.kept fun g hg hv => hk9 g hg (HNb.out g (by have := (SG8.out.1.lt g hv).1; have := H45.out; omega)), fun p hp => (SG8.out.2.1 p hp).kept fun g hg hv => hk9 g hg (HNb.out g (by have := ((SG8.out.2.1 p hp).lt g hv).1; have := H45.out; omega)), SG8.out.2.2⟩
 have TG9m : Hid (Strs X9m X5.heap.size (.slice A7 n7 c7) ((putX e key p).1).files) := owns_strs ((strs_owns TG8.out).kept fun g hg hv => hk9 g hg (HNb.out g (by have := ((strs_owns TG8.out).lt g hv).1; have := H45.out; omega)))
 have KG9m : Hid (Blk X9m X6a.heap.size #[.int .i64 gf, .slice A6 n6 c6, .slice A7 n7 c7] 35) := (hk9 _ KG8.out.lt (HNb.out _ (by have := HG.out; have := H45.out; omega))).trans KG8.out
 have Y9m : Hid (Owns X9m X5o.heap.size 90 2 (.slice Aq5 nq5 cq5') (ptR p)) := Y8.out.kept fun g hg hv => hk9 g hg (HNb.out g (by have := (Y8.out.lt g hv).1; have := HY5.out; omega))
 clear hb9 hk9 cm kb0 kb1 kb2 KB8 D48
 have cmp := markPointS kx X5o.heap.size (.slice Aq5 nq5 cq5') (ptR p) X9m Y9m.out (by rw [ptR_length]; have := HP20.out; omega) HKx.out
 generalize hkp : kx + 2 * (ptR p).length = kp at *
 have dkp : decide ((kp : Int) < 0) = false := decide_eq_false (by omega)
 clear hkp
 go_wp2_with fail
 refine cmp.mono ?_
 rintro b X9 ⟨rfl, _, hb9, hk9⟩
 have HYb : Hid (∀ g, X5.heap.size ≤ g → (Value.slice Aq5 nq5 cq5').ownBlock ≠ some g) := fun g hg h => by have := (Y5.out.lt g h).2; omega
 have C9 : Hid (Below X3.heap.size X3 X9) := C9m.out.trans (hb9.mono HY5.out.2)
 have HZ9 : Hid (X8.heap.size ≤ X9.heap.size) := Nat.le_trans HZ9m.out hb9.size
 have SG9 : Hid (SerO X9 X5.heap.size (.slice A6 n6 c6) L6) := ⟨SG9m.out.1.kept fun g hg hv => hk9 g (HYb.out g (SG9m.out.1.lt g hv).1), fun p hp => (SG9m.out.2.1 p hp).kept fun g hg hv => hk9 g (HYb.out g ((SG9m.out.2.1 p hp).lt g hv).1), SG9m.out.2.2⟩
 have TG9 : Hid (Strs X9 X5.heap.size (.slice A7 n7 c7) ((putX e key p).1).files) := owns_strs ((strs_owns TG9m.out).kept fun g hg hv => hk9 g (HYb.out g ((strs_owns TG9m.out).lt g hv).1))
 have KG9 : Hid (Blk X9 X6a.heap.size #[.int .i64 gf, .slice A6 n6 c6, .slice A7 n7 c7] 35) := (hk9 _ (HYb.out _ HG.out)).trans KG9m.out
 have G9 : Hid (EngO X9 X5.heap.size (.agg #[.int .i64 gf, .slice A6 n6 c6, .slice A7 n7 c7]) (putX e key p).1) := ⟨_, _, L6, by rw [HGf.out]; rfl, HL6.out, SG9.out, TG9.out⟩
 clear hb9 hk9 cmp C9m SG9m TG9m KG9m Y9m
 have KW9 : Hid (Blk X9 X3a.heap.size #[.int .i64 gw, .slice Aw nw cw, .slice Av nv cv] 35) := KW.out.on C9.out KW.out.lt
 have h0 := KW9.out.cell 0 _ rfl
 have h1 := KW9.out.cell 1 _ rfl
 have h2 := KW9.out.cell 2 _ rfl
 have j0 := KG9.out.cell 0 _ rfl
 have j1 := KG9.out.cell 1 _ rfl
 have j2 := KG9.out.cell 2 _ rfl
 have ce := eqEngine ((putX e key p).1) _ _ X5.heap.size X2p.heap.size X9 G9.out (W3.out.on C9.out) HPs.out
 go_wp2_with fail
 refine ce.mono ?_
 rintro b X10 ⟨rfl, he10⟩
 have C10 : Hid (Below X3.heap.size X3 X10) := C9.out.trans (he10.mono C9.out.size)
 have HZ : Hid (X8.heap.size ≤ X10.heap.size) := Nat.le_trans HZ9.out he10.size
 have SG10 : Hid (SerO X10 X5.heap.size (.slice A6 n6 c6) L6) := SG9.out.on he10
 have TG10 : Hid (Strs X10 X5.heap.size (.slice A7 n7 c7) ((putX e key p).1).files) := TG9.out.on he10
 have KG10 : Hid (Blk X10 X6a.heap.size #[.int .i64 gf, .slice A6 n6 c6, .slice A7 n7 c7] 35) := KG9.out.on he10 KG9.out.lt
 clear he10 ce h0 h1 h2 j0 j1 j2
 have cm := markEngine (putX e key p).1 (.agg #[.int .i64 gf, .slice A6 n6 c6, .slice A7 n7 c7]) (.slice A6 n6 c6) (.slice A7 n7 c7) L6 X5.heap.size 1 X10 (by rw [HGf.out]; rfl) HL6.out SG10.out TG10.out (by omega) (by omega) HFew.out.2.2.2 (Nat.le_trans D8.out.size HZ.out)
 have cH := fun wx (h : EMk wx X5.heap.size 1 (.agg #[.int .i64 gf, .slice A6 n6 c6, .slice A7 n7 c7]) L6 ((putX e key p).1).files.length) => heldEngine (.agg #[.int .i64 gf, .slice A6 n6 c6, .slice A7 n7 c7]) L6 X5.heap.size 1 ((putX e key p).1).files.length wx h HFew.out.1 HFew.out.2.1 (by omega) (by omega) HFew.out.2.2.1
 have HNg : Hid (NotE (.slice A6 n6 c6) (.slice A7 n7 c7) L6 X6a.heap.size) := ⟨SG10.out.1.notBlk KG10.out (by decide), fun j hj => (SG10.out.2.1 _ (getD_mem L6 j hj)).notBlk KG10.out (by decide), (strs_owns TG10.out).notBlk KG10.out (by decide)⟩
 generalize hkk : kAt 1 L6 L6.length + ((putX e key p).1).files.length = kk at *
 have dk : decide ((kk : Int) < 0) = false := decide_eq_false (by omega)
 clear hkk SG10 TG10
 have j0 := KG10.out.cell 0 _ rfl
 have j1 := KG10.out.cell 1 _ rfl
 have j2 := KG10.out.cell 2 _ rfl
 go_wp2_with fail
 refine cm.mono ?_
 rintro b X11 ⟨rfl, hM, hb11, hk11⟩
 have M11 : Hid (EMk X11 X5.heap.size 1 (.agg #[.int .i64 gf, .slice A6 n6 c6, .slice A7 n7 c7]) L6 ((putX e key p).1).files.length) := hM
 have C11 : Hid (Below X3.heap.size X3 X11) := C10.out.trans (hb11.mono C5.out.size)
 have KG11 : Hid (Blk X11 X6a.heap.size #[.int .i64 gf, .slice A6 n6 c6, .slice A7 n7 c7] 35) := (hk11 _ KG10.out.lt HNg.out).trans KG10.out
 clear hb11 hk11 cm hM j0 j1 j2
 have j0 := KG11.out.cell 0 _ rfl
 have j1 := KG11.out.cell 1 _ rfl
 have j2 := KG11.out.cell 2 _ rfl
 go_wp2_with fail
 refine (cH _ M11.out).mono ?_
 rintro b X12 ⟨rfl, hb12⟩
 have C12 : Hid (Below X3.heap.size X3 X12) := C11.out.trans (hb12.mono C11.out.size)
 have M12 := M11.out.on hb12
 have KG12 : Hid (Blk X12 X6a.heap.size #[.int .i64 gf, .slice A6 n6 c6, .slice A7 n7 c7] 35) := KG11.out.on hb12 KG11.out.lt
 clear hb12 j0 j1 j2
 have KA : Hid (Blk X12 w.heap.size #[.int .i64 f, .slice Ac nc cc, .slice A nf cap] 26) := K3.out.on C12.out K3.out.lt
 have B12 : Hid (Below w.heap.size w X12) := B3.out.trans (C12.out.mono B3.out.size)
 have k0 := KA.out.cell 0 _ rfl
 have k1 := KA.out.cell 1 _ rfl
 have k2 := KA.out.cell 2 _ rfl
 have c1 := toEngine e _ X12 w.heap.size (HV.out.on B12.out) HSh.out B12.out.size
 unfold vE at c1
 go_wp2_with fail
 refine c1.mono ?_
 rintro b X13o ⟨⟨u13, rfl, hE13⟩, hb13⟩
 have C13o : Hid (Below X3.heap.size X3 X13o) := C12.out.trans (hb13.mono C12.out.size)
 have B13o : Hid (Below w.heap.size w X13o) := B3.out.trans (C13o.out.mono B3.out.size)
 have M13o := M12.on hb13
 have KG13o : Hid (Blk X13o X6a.heap.size #[.int .i64 gf, .slice A6 n6 c6, .slice A7 n7 c7] 35) := KG12.out.on hb13 KG12.out.lt
 obtain ⟨vc13, vf13, L13, ev13, hL13, hS13, hT13⟩ := hE13
 obtain ⟨Ar, nr, cr, rfl⟩ := hS13.1.shape
 obtain ⟨As, ns, cs, rfl⟩ := (strs_owns hT13).shape
 unfold vE at ev13
 rw [HFl.out] at ev13
 subst ev13
 have HE13 : Hid (EngO X13o X12.heap.size (.agg #[.int .i64 f, .slice Ar nr cr, .slice As ns cs]) e) := ⟨_, _, L13, by unfold vE; rw [HFl.out], hL13, hS13, hT13⟩
 clear hb13 c1 k0 k1 k2 KA M12 hL13 hS13 hT13
 have cq13 := toPointS p (.slice Al pl cl) X13o w.heap.size (HPt.out.on B13o.out) HP20.out B13o.out.size
 go_wp2_with fail
 refine cq13.mono ?_
 rintro b X13 ⟨up13, rfl, hOp13, hbp13⟩
 have C13 : Hid (Below X3.heap.size X3 X13) := C13o.out.trans (hbp13.mono C13o.out.size)
 have B13 : Hid (Below w.heap.size w X13) := B3.out.trans (C13.out.mono B3.out.size)
 have M13 := M13o.on hbp13
 have KG13 : Hid (Blk X13 X6a.heap.size #[.int .i64 gf, .slice A6 n6 c6, .slice A7 n7 c7] 35) := KG13o.out.on hbp13 KG13o.out.lt
 have c2 := implPutX e key p _ up13 X13 X13.heap.size ((HE13.out.on hbp13).view) HSh.out HKey.out hOp13.lies HP20.out (Nat.le_refl _) (ST.out.on B13.out) a0 a1 a2 (ER.out.on B13.out)
 rw [HCd.out] at c2
 obtain ⟨Aq13, nq13, cq13', rfl⟩ := hOp13.shape
 clear hOp13 hbp13 cq13 HE13 M13o KG13o C13o B13o
 go_wp2_with fail
 refine c2.mono ?_
 rintro b X14a ⟨⟨u14, rfl, hS14⟩, hb14⟩
 have E14a : Hid (EngO X14a X13.heap.size u14 (putX e key p).1) := hS14
 obtain ⟨vc14, vf14, L14, ev14, _, hS14', hT14'⟩ := hS14
 obtain ⟨Ap, np, cp, rfl⟩ := hS14'.1.shape
 obtain ⟨Aq, nq, cq, rfl⟩ := (strs_owns hT14').shape
 unfold vE at ev14
 subst ev14
 generalize hg14 : ((putX e key p).1).floor = gh at *
 clear hg14 hS14' hT14'
 obtain ⟨X14, hX14⟩ : ∃ X14, X14 = X14a.alloc (.cells #[.int .i64 gh, .slice Ap np cp, .slice Aq nq cq] 35) := ⟨_, rfl⟩
 have hbn : Below X14a.heap.size X14a X14 := by rw [hX14]; exact (Below.refl _ _).alloc (Nat.le_refl _) _
 have KH : Hid (Blk X14 X14a.heap.size #[.int .i64 gh, .slice Ap np cp, .slice Aq nq cq] 35) := by unfold Hid; rw [hX14]; exact Blk.new X14a _ _
 have hb14' : Below X13.heap.size X13 X14 := hb14.trans (hbn.mono hb14.size)
 have C14 : Hid (Below X3.heap.size X3 X14) := C13.out.trans (hb14'.mono C13.out.size)
 have M14 := M13.on hb14'
 have KG14 : Hid (Blk X14 X6a.heap.size #[.int .i64 gf, .slice A6 n6 c6, .slice A7 n7 c7] 35) := KG13.out.on hb14' KG13.out.lt
 have E14 : Hid (EngO X14 X13.heap.size (.agg #[.int .i64 gh, .slice Ap np cp, .slice Aq nq cq]) (putX e key p).1) := E14a.out.on hbn
 have ce := eqEngine (putX e key p).1 _ _ X13.heap.size X2p.heap.size X14 E14.out (W3.out.on C14.out) HPs.out
 clear hb14 hbn hb14' c2 M13 E14a
 have KW14 : Hid (Blk X14 X3a.heap.size #[.int .i64 gw, .slice Aw nw cw, .slice Av nv cv] 35) := KW.out.on C14.out KW.out.lt
 have h0 := KW14.out.cell 0 _ rfl
 have h1 := KW14.out.cell 1 _ rfl
 have h2 := KW14.out.cell 2 _ rfl
 have j0 := KH.out.cell 0 _ rfl
 have j1 := KH.out.cell 1 _ rfl
 have j2 := KH.out.cell 2 _ rfl
 rw [hX14] at h0 h1 h2 j0 j1 j2
 go_wp2_with fail
 rw [← hX14]
 clear hX14 h0 h1 h2 j0 j1 j2
 refine ce.mono ?_
 rintro b X15 ⟨rfl, hb15⟩
 have C15 : Hid (Below X3.heap.size X3 X15) := C14.out.trans (hb15.mono C14.out.size)
 have M15 := M14.on hb15
 have KG15 : Hid (Blk X15 X6a.heap.size #[.int .i64 gf, .slice A6 n6 c6, .slice A7 n7 c7] 35) := KG14.out.on hb15 KG14.out.lt
 clear hb15 ce M14
 have j0 := KG15.out.cell 0 _ rfl
 have j1 := KG15.out.cell 1 _ rfl
 have j2 := KG15.out.cell 2 _ rfl
 go_wp2_with fail
 refine (cH _ M15).mono ?_
 rintro b X16 ⟨rfl, hb16⟩
 have B16 : Hid (Below w.heap.size w X16) := B3.out.trans ((C15.out.trans (hb16.mono C15.out.size)).mono B3.out.size)
 clear hb16 cH M15
 go_wp2_with fail
 go_ret
 exact ⟨rfl, B16.out⟩
end Go.Proofs.YtikknmoeefipmaaGreatDoor
