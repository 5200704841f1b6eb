/- StLaw BuOf BoImpl -/
import Derived.Test.YtikknmoeefipmaaGreatDoorRows
import Derived.Test.YtikknmoeefipmaaGreatDoorQs14
import Derived.Test.YtikknmoeefipmaaGreatDoorQs15
import Derived.WalkKit
import Derived.ProofKit
import Derived.OpenShut
import Derived.Below
import Derived.WalkSmall
import Derived.BigQuiet
import Derived.Deep.QuietTactic
import Derived.Deep.RegionWith
import Derived.Handy
import Derived.Test.YtikknmoeefipmaaGreatDoorQs0
import Derived.Test.YtikknmoeefipmaaGreatDoorQs2
import Derived.WalkLawsBesides
import Derived.WalkMore
import Derived.Outline
import Derived.Test.YtikknmoeefipmaaGreatDoorQs1
open List (setIfInBounds_toArray set_cons_zero set_cons_succ)
namespace Go.Proofs.YtikknmoeefipmaaGreatDoor
open Go.ChangeShapes Go.WideShapes Go.ChangeAt Go.RowKit Go.PlainAid
set_option linter.unusedVariables false
theorem res8 {w : World} {g : Nat} {a0 a1 a2 a3 a4 a5 a6 a7 x0 x1 x2 x3 x4 x5 x6 x7 : Value} {t : TypeId} (h0 : Blk w g #[a0, a1, a2, a3, a4, a5, a6, a7] t) :
  (w.cell? ⟨g, 0, none⟩ = some a0 ∧ w.frozen? ⟨g, 0, none⟩ = false) ∧ ((w.setCell ⟨g, 0, none⟩ x0).cell? ⟨g, 1, none⟩ = some a1 ∧ (w.setCell ⟨g, 0, none⟩ x0).frozen? ⟨g, 1, none⟩ = false) ∧ (((w.setCell ⟨g, 0, none⟩ x0).setCell ⟨g, 1, none⟩ x1).cell? ⟨g, 2, none⟩ = some a2 ∧ ((w.setCell ⟨g, 0, none⟩ x0).setCell ⟨g, 1, none⟩ x1).frozen? ⟨g, 2, none⟩ = false) ∧ ((((w.setCell ⟨g, 0, none⟩ x0).setCell ⟨g, 1, none⟩ x1).setCell ⟨g, 2, none⟩ x2).cell? ⟨g, 3, none⟩ = some a3 ∧ (((w.setCell ⟨g, 0, none⟩ x0).setCell ⟨g, 1, none⟩ x1).setCell ⟨g, 2, none⟩ x2).frozen? ⟨g, 3, none⟩ = false) ∧ (((((w.setCell ⟨g, 0, none⟩ x0).setCell ⟨g, 1, none⟩ x1).setCell ⟨g, 2, none⟩ x2).setCell ⟨g, 3, none⟩ x3).cell? ⟨g, 4, none⟩ = some a4 ∧ ((((w.setCell ⟨g, 0, none⟩ x0).setCell ⟨g, 1, none⟩ x1).setCell ⟨g, 2, none⟩ x2).setCell ⟨g, 3, none⟩ x3).frozen? ⟨g, 4, none⟩ = false) ∧ ((((((w.setCell ⟨g, 0, none⟩ x0).setCell ⟨g, 1, none⟩ x1).setCell ⟨g, 2, none⟩ x2).setCell ⟨g, 3, none⟩ x3).setCell ⟨g, 4, none⟩ x4).cell? ⟨g, 5, none⟩ = some a5 ∧ (((((w.setCell ⟨g, 0, none⟩ x0).setCell ⟨g, 1, none⟩ x1).setCell ⟨g, 2, none⟩ x2).setCell ⟨g, 3, none⟩ x3).setCell ⟨g, 4, none⟩ x4).frozen? ⟨g, 5, none⟩ = false) ∧ (((((((w.setCell ⟨g, 0, none⟩ x0).setCell ⟨g, 1, none⟩ x1).setCell ⟨g, 2, none⟩ x2).setCell ⟨g, 3, none⟩ x3).setCell ⟨g, 4, none⟩ x4).setCell ⟨g, 5, none⟩ x5).cell? ⟨g, 6, none⟩ = some a6 ∧ ((((((w.setCell ⟨g, 0, none⟩ x0).setCell ⟨g, 1, none⟩ x1).setCell ⟨g, 2, none⟩ x2).setCell ⟨g, 3, none⟩ x3).setCell ⟨g, 4, none⟩ x4).setCell ⟨g, 5, none⟩ x5).frozen? ⟨g, 6, none⟩ = false) ∧ ((((((((w.setCell ⟨g, 0, none⟩ x0).setCell ⟨g, 1, none⟩ x1).setCell ⟨g, 2, none⟩ x2).setCell ⟨g, 3, none⟩ x3).setCell ⟨g, 4, none⟩ x4).setCell ⟨g, 5, none⟩ x5).setCell ⟨g, 6, none⟩ x6).cell? ⟨g, 7, none⟩ = some a7 ∧ (((((((w.setCell ⟨g, 0, none⟩ x0).setCell ⟨g, 1, none⟩ x1).setCell ⟨g, 2, none⟩ x2).setCell ⟨g, 3, none⟩ x3).setCell ⟨g, 4, none⟩ x4).setCell ⟨g, 5, none⟩ x5).setCell ⟨g, 6, none⟩ x6).frozen? ⟨g, 7, none⟩ = false) ∧ Blk ((((((((w.setCell ⟨g, 0, none⟩ x0).setCell ⟨g, 1, none⟩ x1).setCell ⟨g, 2, none⟩ x2).setCell ⟨g, 3, none⟩ x3).setCell ⟨g, 4, none⟩ x4).setCell ⟨g, 5, none⟩ x5).setCell ⟨g, 6, none⟩ x6).setCell ⟨g, 7, none⟩ x7) g #[x0, x1, x2, x3, x4, x5, x6, x7] t ∧ KeptBut g w ((((((((w.setCell ⟨g, 0, none⟩ x0).setCell ⟨g, 1, none⟩ x1).setCell ⟨g, 2, none⟩ x2).setCell ⟨g, 3, none⟩ x3).setCell ⟨g, 4, none⟩ x4).setCell ⟨g, 5, none⟩ x5).setCell ⟨g, 6, none⟩ x6).setCell ⟨g, 7, none⟩ x7) ∧ (((((((((w.setCell ⟨g, 0, none⟩ x0).setCell ⟨g, 1, none⟩ x1).setCell ⟨g, 2, none⟩ x2).setCell ⟨g, 3, none⟩ x3).setCell ⟨g, 4, none⟩ x4).setCell ⟨g, 5, none⟩ x5).setCell ⟨g, 6, none⟩ x6).setCell ⟨g, 7, none⟩ x7).cell? ⟨g, 0, none⟩ = some x0 ∧ ((((((((w.setCell ⟨g, 0, none⟩ x0).setCell ⟨g, 1, none⟩ x1).setCell ⟨g, 2, none⟩ x2).setCell ⟨g, 3, none⟩ x3).setCell ⟨g, 4, none⟩ x4).setCell ⟨g, 5, none⟩ x5).setCell ⟨g, 6, none⟩ x6).setCell ⟨g, 7, none⟩ x7).cell? ⟨g, 1, none⟩ = some x1 ∧ ((((((((w.setCell ⟨g, 0, none⟩ x0).setCell ⟨g, 1, none⟩ x1).setCell ⟨g, 2, none⟩ x2).setCell ⟨g, 3, none⟩ x3).setCell ⟨g, 4, none⟩ x4).setCell ⟨g, 5, none⟩ x5).setCell ⟨g, 6, none⟩ x6).setCell ⟨g, 7, none⟩ x7).cell? ⟨g, 2, none⟩ = some x2 ∧ ((((((((w.setCell ⟨g, 0, none⟩ x0).setCell ⟨g, 1, none⟩ x1).setCell ⟨g, 2, none⟩ x2).setCell ⟨g, 3, none⟩ x3).setCell ⟨g, 4, none⟩ x4).setCell ⟨g, 5, none⟩ x5).setCell ⟨g, 6, none⟩ x6).setCell ⟨g, 7, none⟩ x7).cell? ⟨g, 3, none⟩ = some x3 ∧ ((((((((w.setCell ⟨g, 0, none⟩ x0).setCell ⟨g, 1, none⟩ x1).setCell ⟨g, 2, none⟩ x2).setCell ⟨g, 3, none⟩ x3).setCell ⟨g, 4, none⟩ x4).setCell ⟨g, 5, none⟩ x5).setCell ⟨g, 6, none⟩ x6).setCell ⟨g, 7, none⟩ x7).cell? ⟨g, 4, none⟩ = some x4 ∧ ((((((((w.setCell ⟨g, 0, none⟩ x0).setCell ⟨g, 1, none⟩ x1).setCell ⟨g, 2, none⟩ x2).setCell ⟨g, 3, none⟩ x3).setCell ⟨g, 4, none⟩ x4).setCell ⟨g, 5, none⟩ x5).setCell ⟨g, 6, none⟩ x6).setCell ⟨g, 7, none⟩ x7).cell? ⟨g, 5, none⟩ = some x5 ∧ ((((((((w.setCell ⟨g, 0, none⟩ x0).setCell ⟨g, 1, none⟩ x1).setCell ⟨g, 2, none⟩ x2).setCell ⟨g, 3, none⟩ x3).setCell ⟨g, 4, none⟩ x4).setCell ⟨g, 5, none⟩ x5).setCell ⟨g, 6, none⟩ x6).setCell ⟨g, 7, none⟩ x7).cell? ⟨g, 6, none⟩ = some x6 ∧ ((((((((w.setCell ⟨g, 0, none⟩ x0).setCell ⟨g, 1, none⟩ x1).setCell ⟨g, 2, none⟩ x2).setCell ⟨g, 3, none⟩ x3).setCell ⟨g, 4, none⟩ x4).setCell ⟨g, 5, none⟩ x5).setCell ⟨g, 6, none⟩ x6).setCell ⟨g, 7, none⟩ x7).cell? ⟨g, 7, none⟩ = some x7) := by
 have h1 : Blk (w.setCell ⟨g, 0, none⟩ x0) g #[x0, a1, a2, a3, a4, a5, a6, a7] t := h0.set 0 x0
 have h2 : Blk ((w.setCell ⟨g, 0, none⟩ x0).setCell ⟨g, 1, none⟩ x1) g #[x0, x1, a2, a3, a4, a5, a6, a7] t := h1.set 1 x1
 have h3 : Blk (((w.setCell ⟨g, 0, none⟩ x0).setCell ⟨g, 1, none⟩ x1).setCell ⟨g, 2, none⟩ x2) g #[x0, x1, x2, a3, a4, a5, a6, a7] t := h2.set 2 x2
 have h4 : Blk ((((w.setCell ⟨g, 0, none⟩ x0).setCell ⟨g, 1, none⟩ x1).setCell ⟨g, 2, none⟩ x2).setCell ⟨g, 3, none⟩ x3) g #[x0, x1, x2, x3, a4, a5, a6, a7] t := h3.set 3 x3
 have h5 : Blk (((((w.setCell ⟨g, 0, none⟩ x0).setCell ⟨g, 1, none⟩ x1).setCell ⟨g, 2, none⟩ x2).setCell ⟨g, 3, none⟩ x3).setCell ⟨g, 4, none⟩ x4) g #[x0, x1, x2, x3, x4, a5, a6, a7] t := h4.set 4 x4
 have h6 : Blk ((((((w.setCell ⟨g, 0, none⟩ x0).setCell ⟨g, 1, none⟩ x1).setCell ⟨g, 2, none⟩ x2).setCell ⟨g, 3, none⟩ x3).setCell ⟨g, 4, none⟩ x4).setCell ⟨g, 5, none⟩ x5) g #[x0, x1, x2, x3, x4, x5, a6, a7] t := h5.set 5 x5
 have h7 : Blk (((((((w.setCell ⟨g, 0, none⟩ x0).setCell ⟨g, 1, none⟩ x1).setCell ⟨g, 2, none⟩ x2).setCell ⟨g, 3, none⟩ x3).setCell ⟨g, 4, none⟩ x4).setCell ⟨g, 5, none⟩ x5).setCell ⟨g, 6, none⟩ x6) g #[x0, x1, x2, x3, x4, x5, x6, a7] t := h6.set 6 x6
 have h8 : Blk ((((((((w.setCell ⟨g, 0, none⟩ x0).setCell ⟨g, 1, none⟩ x1).setCell ⟨g, 2, none⟩ x2).setCell ⟨g, 3, none⟩ x3).setCell ⟨g, 4, none⟩ x4).setCell ⟨g, 5, none⟩ x5).setCell ⟨g, 6, none⟩ x6).setCell ⟨g, 7, none⟩ x7) g #[x0, x1, x2, x3, x4, x5, x6, x7] t := h7.set 7 x7
 exact ⟨⟨h0.cell 0 _ rfl, h0.free 0⟩, ⟨h1.cell 1 _ rfl, h1.free 1⟩, ⟨h2.cell 2 _ rfl, h2.free 2⟩, ⟨h3.cell 3 _ rfl, h3.free 3⟩, ⟨h4.cell 4 _ rfl, h4.free 4⟩, ⟨h5.cell 5 _ rfl, h5.free 5⟩, ⟨h6.cell 6 _ rfl, h6.free 6⟩, ⟨h7.cell 7 _ rfl, h7.free 7⟩, h8, (((((((((KeptBut.refl g w).set 0 x0).set 1 x1).set 2 x2).set 3 x3).set 4 x4).set 5 x5).set 6 x6).set 7 x7), h8.cell 0 _ rfl, h8.cell 1 _ rfl, h8.cell 2 _ rfl, h8.cell 3 _ rfl, h8.cell 4 _ rfl, h8.cell 5 _ rfl, h8.cell 6 _ rfl, h8.cell 7 _ rfl⟩
set_option maxHeartbeats 8000000 in
theorem toState (x : Sta) (v : Value) (w : World) (B : Nat) (hv : StaV w B v x) (hs : StShort x) (hB : B ≤ w.heap.size) :
  Calls Tryz.prog 8 #[v] w fun b w' => (∃ u, b = .returned u ∧ StaO w' w.heap.size u x) ∧ Below w.heap.size w w' := by
 obtain ⟨Ab, nb, cb, Ac, nc, cc, Af, nf, cf, As, ns, cs, rfl⟩ := hv.shape
 obtain ⟨hb0, he0, hs0⟩ := hv.parts
 have HB : Hid (B ≤ w.heap.size) := hB
 have HS : Hid (StShort x) := hs
 have LB : Hid (Lies w B 2 (.slice Ab nb cb) (ptR x.bks)) := hb0
 have LE : Hid (EngV w B (.agg #[.int .i64 x.eng.floor, .slice Ac nc cc, .slice Af nf cf]) x.eng) := he0
 have LQ : Hid (Lies w B 6 (.slice As ns cs) (sesR x.ses)) := hs0
 clear hv hb0 he0 hs0 hB hs
 unfold vSt
 generalize hsk : x.kind = sk at *
 generalize hsh : x.hold = sh at *
 generalize hsm : x.mark = sm at *
 generalize hsf : x.eng.floor = sf at *
 have HX : Hid (x.kind = sk ∧ x.hold = sh ∧ x.mark = sm ∧ x.eng.floor = sf) := ⟨hsk, hsh, hsm, hsf⟩
 clear hsk hsh hsm hsf
 obtain ⟨X1, hX1⟩ : ∃ X1, X1 = w.alloc (.cells #[.int .i64 sk, .int .i64 sh, .int .i64 sm, .slice Ab nb cb, .int .i64 sf, .slice Ac nc cc, .slice Af nf cf, .slice As ns cs] 29) := ⟨_, rfl⟩
 obtain ⟨X2, hX2⟩ : ∃ X2, X2 = X1.alloc (.cells #[.int .i64 0, .int .i64 0, .int .i64 0, .slice none 0 0, .int .i64 0, .slice none 0 0, .slice none 0 0, .slice none 0 0] 38) := ⟨_, rfl⟩
 obtain ⟨X3, hX3⟩ : ∃ X3, X3 = X2.alloc (.cells #[.int .i64 sk, .int .i64 sh, .int .i64 sm, .slice none 0 0, .int .i64 0, .slice none 0 0, .slice none 0 0, .slice none 0 0] 38) := ⟨_, rfl⟩
 have z1 : X1.heap.size = w.heap.size + 1 := by rw [hX1, World.size_alloc]
 have z2 : X2.heap.size = w.heap.size + 1 + 1 := by rw [hX2, World.size_alloc, z1]
 have z3 : X3.heap.size = w.heap.size + 1 + 1 + 1 := by rw [hX3, World.size_alloc, z2]
 have BX : Hid (Below w.heap.size w X3) := by
  unfold Hid
  rw [hX3, hX2, hX1]
  exact below_a3 _ _ _ _
 have KA : Hid (Blk X3 w.heap.size #[.int .i64 sk, .int .i64 sh, .int .i64 sm, .slice Ab nb cb, .int .i64 sf, .slice Ac nc cc, .slice Af nf cf, .slice As ns cs] 29) := by
  unfold Hid
  rw [hX3, hX2, hX1]
  exact ((Blk.new w _ _).alloc _).alloc _
 have KR : Hid (Blk X3 (w.heap.size + 1) #[.int .i64 0, .int .i64 0, .int .i64 0, .slice none 0 0, .int .i64 0, .slice none 0 0, .slice none 0 0, .slice none 0 0] 38) := by
  unfold Hid
  rw [hX3, hX2, ← z1]
  exact (Blk.new X1 _ _).alloc _
 have KO : Hid (Blk X3 (w.heap.size + 1 + 1) #[.int .i64 sk, .int .i64 sh, .int .i64 sm, .slice none 0 0, .int .i64 0, .slice none 0 0, .slice none 0 0, .slice none 0 0] 38) := by
  unfold Hid
  rw [hX3, ← z2]
  exact Blk.new X2 _ _
 have c1 := toBucketS x.bks _ X3 B (LB.out.on (BX.out.mono HB.out)) HS.out.1 (Nat.le_trans HB.out BX.out.size)
 have ka := KA.out.cell 3 _ rfl
 go_enter Tryz.func8, Tryz.ntmps8
 go_wp2_with fail
 rw [← hX1, ← hX2, ← hX3]
 clear hX1 hX2 hX3 z1 z2
 refine c1.mono ?_
 rintro b X4 ⟨u4, rfl, hO4, hb4⟩
 obtain ⟨A4, n4, c4, rfl⟩ := hO4.shape
 have Q4 : Hid (Owns X4 X3.heap.size 67 2 (.slice A4 n4 c4) (ptR x.bks)) := hO4
 have B4 : Hid (Below w.heap.size w X4) := BX.out.trans (hb4.mono BX.out.size)
 have KA4 : Hid (Blk X4 w.heap.size #[.int .i64 sk, .int .i64 sh, .int .i64 sm, .slice Ab nb cb, .int .i64 sf, .slice Ac nc cc, .slice Af nf cf, .slice As ns cs] 29) := KA.out.on hb4 KA.out.lt
 have KR4 : Hid (Blk X4 (w.heap.size + 1) #[.int .i64 0, .int .i64 0, .int .i64 0, .slice none 0 0, .int .i64 0, .slice none 0 0, .slice none 0 0, .slice none 0 0] 38) := KR.out.on hb4 KR.out.lt
 have KO4 : Hid (Blk X4 (w.heap.size + 1 + 1) #[.int .i64 sk, .int .i64 sh, .int .i64 sm, .slice none 0 0, .int .i64 0, .slice none 0 0, .slice none 0 0, .slice none 0 0] 38) := KO.out.on hb4 KO.out.lt
 have HZ : Hid (X3.heap.size = w.heap.size + 1 + 1 + 1) := z3
 clear hO4 hb4 c1 ka KA KR KO z3
 generalize hG : w.heap.size + 1 + 1 = G at *
 generalize hR : w.heap.size + 1 = R at *
 have HG : Hid (R + 1 = G ∧ w.heap.size + 1 = R) := ⟨hG, hR⟩
 clear hG hR
 obtain ⟨X5, hX5⟩ : ∃ X5, X5 = X4.setCell ⟨G, 3, none⟩ (.slice A4 n4 c4) := ⟨_, rfl⟩
 have m1 : _ = some (Value.slice none 0 0) := KO4.out.cell 3 _ rfl
 have f1 := KO4.out.free 3
 have KO5 : Hid (Blk X5 G #[.int .i64 sk, .int .i64 sh, .int .i64 sm, .slice A4 n4 c4, .int .i64 0, .slice none 0 0, .slice none 0 0, .slice none 0 0] 38) := by unfold Hid; rw [hX5]; exact KO4.out.set 3 _
 have KR5 : Hid (Blk X5 R #[.int .i64 0, .int .i64 0, .int .i64 0, .slice none 0 0, .int .i64 0, .slice none 0 0, .slice none 0 0, .slice none 0 0] 38) := by unfold Hid; rw [hX5]; exact KR4.out.other (by have := HG.out; omega) 3 _
 have KA5 : Hid (Blk X5 w.heap.size #[.int .i64 sk, .int .i64 sh, .int .i64 sm, .slice Ab nb cb, .int .i64 sf, .slice Ac nc cc, .slice Af nf cf, .slice As ns cs] 29) := by unfold Hid; rw [hX5]; exact KA4.out.other (by have := HG.out; omega) 3 _
 have Q5 : Hid (Owns X5 X3.heap.size 67 2 (.slice A4 n4 c4) (ptR x.bks)) := by unfold Hid; rw [hX5]; exact ((KeptBut.refl G X4).set 3 _).owns Q4.out (Q4.out.below (by have := HG.out; have := HZ.out; omega))
 have B5 : Hid (Below w.heap.size w X5) := by unfold Hid; rw [hX5]; exact B4.out.setCell (show w.heap.size ≤ G by have := HG.out; omega) _
 have k4 := KA5.out.cell 4 _ rfl
 have k5 := KA5.out.cell 5 _ rfl
 have k6 := KA5.out.cell 6 _ rfl
 have c2 := toEngine x.eng _ X5 B (LE.out.on (B5.out.mono HB.out)) HS.out.2.1 (Nat.le_trans HB.out B5.out.size)
 rw [hX5] at k4 k5 k6
 clear KO4 KR4 KA4 Q4 B4
 go_wp2_with fail
 rw [← hX5]
 clear hX5 m1 f1 k4 k5 k6
 refine c2.mono ?_
 rintro b X6 ⟨⟨u6, rfl, hE6⟩, hb6⟩
 obtain ⟨vc6, vf6, L6, ev6, hL6, hS6, hT6⟩ := hE6
 unfold vE at ev6
 rw [HX.out.2.2.2] at ev6
 subst ev6
 obtain ⟨A6, n6, c6, rfl⟩ := hS6.1.shape
 obtain ⟨A7, n7, c7, rfl⟩ := (strs_owns hT6).shape
 have HL : Hid (L6.map Prod.fst = x.eng.cache) := hL6
 have S6 : Hid (SerO X6 X5.heap.size (.slice A6 n6 c6) L6) := hS6
 have T6 : Hid (Strs X6 X5.heap.size (.slice A7 n7 c7) x.eng.files) := hT6
 have Q6 : Hid (Owns X6 X3.heap.size 67 2 (.slice A4 n4 c4) (ptR x.bks)) := Q5.out.on hb6
 have B6 : Hid (Below w.heap.size w X6) := B5.out.trans (hb6.mono B5.out.size)
 have KA6 : Hid (Blk X6 w.heap.size #[.int .i64 sk, .int .i64 sh, .int .i64 sm, .slice Ab nb cb, .int .i64 sf, .slice Ac nc cc, .slice Af nf cf, .slice As ns cs] 29) := KA5.out.on hb6 KA5.out.lt
 have KR6 : Hid (Blk X6 R #[.int .i64 0, .int .i64 0, .int .i64 0, .slice none 0 0, .int .i64 0, .slice none 0 0, .slice none 0 0, .slice none 0 0] 38) := KR5.out.on hb6 KR5.out.lt
 have KO6 : Hid (Blk X6 G #[.int .i64 sk, .int .i64 sh, .int .i64 sm, .slice A4 n4 c4, .int .i64 0, .slice none 0 0, .slice none 0 0, .slice none 0 0] 38) := KO5.out.on hb6 KO5.out.lt
 have HG5 : Hid (G < X5.heap.size ∧ R < X5.heap.size) := ⟨KO5.out.lt, KR5.out.lt⟩
 clear hL6 hS6 hT6 hb6 c2 KA5 KR5 KO5 Q5 B5
 obtain ⟨X7, hX7⟩ : ∃ X7, X7 = ((X6.setCell ⟨G, 4, none⟩ (.int .i64 sf)).setCell ⟨G, 5, none⟩ (.slice A6 n6 c6)).setCell ⟨G, 6, none⟩ (.slice A7 n7 c7) := ⟨_, rfl⟩
 have m4 : _ = some (Value.int .i64 0) := KO6.out.cell 4 _ rfl
 have f4 := KO6.out.free 4
 have KOa := KO6.out.set 4 (.int .i64 sf)
 have m5 : _ = some (Value.slice none 0 0) := KOa.cell 5 _ rfl
 have f5 := KOa.free 5
 have KOb := KOa.set 5 (.slice A6 n6 c6)
 have m6 : _ = some (Value.slice none 0 0) := KOb.cell 6 _ rfl
 have f6 := KOb.free 6
 have KO7 : Hid (Blk X7 G #[.int .i64 sk, .int .i64 sh, .int .i64 sm, .slice A4 n4 c4, .int .i64 sf, .slice A6 n6 c6, .slice A7 n7 c7, .slice none 0 0] 38) := by unfold Hid; rw [hX7]; exact KOb.set 6 _
 have kG7 : Hid (KeptBut G X6 X7) := by unfold Hid; rw [hX7]; exact (((KeptBut.refl G X6).set 4 _).set 5 _).set 6 _
 have KR7 : Hid (Blk X7 R #[.int .i64 0, .int .i64 0, .int .i64 0, .slice none 0 0, .int .i64 0, .slice none 0 0, .slice none 0 0, .slice none 0 0] 38) := kG7.out.blk KR6.out (by have := HG.out; omega)
 have KA7 : Hid (Blk X7 w.heap.size #[.int .i64 sk, .int .i64 sh, .int .i64 sm, .slice Ab nb cb, .int .i64 sf, .slice Ac nc cc, .slice Af nf cf, .slice As ns cs] 29) := kG7.out.blk KA6.out (by have := HG.out; omega)
 have Q7 : Hid (Owns X7 X3.heap.size 67 2 (.slice A4 n4 c4) (ptR x.bks)) := kG7.out.owns Q6.out (Q6.out.below (by have := HG.out; have := HZ.out; omega))
 have S7 : Hid (SerO X7 X5.heap.size (.slice A6 n6 c6) L6) := S6.out.others kG7.out HG5.out.1
 have T7 : Hid (Strs X7 X5.heap.size (.slice A7 n7 c7) x.eng.files) := owns_strs (kG7.out.owns (strs_owns T6.out) ((strs_owns T6.out).below HG5.out.1))
 have B7 : Hid (Below w.heap.size w X7) := B6.out.trans (kG7.out.1.mono (by have := HG.out; omega))
 have k7 := KA7.out.cell 7 _ rfl
 have c3 := toSessionS x.ses _ X7 B (LQ.out.on (B7.out.mono HB.out)) HS.out.2.2.1 (Nat.le_trans HB.out B7.out.size)
 rw [hX7] at k7
 clear KOa KOb KO6 KR6 KA6 Q6 S6 T6 B6 kG7
 go_wp2_with fail
 rw [← hX7]
 clear hX7 m4 m5 m6 f4 f5 f6 k7
 refine c3.mono ?_
 rintro b X8 ⟨u8, rfl, hO8, hb8⟩
 obtain ⟨A9, n9, c9, rfl⟩ := hO8.shape
 have Y8 : Hid (Owns X8 X7.heap.size 73 6 (.slice A9 n9 c9) (sesR x.ses)) := hO8
 have Q8 : Hid (Owns X8 X3.heap.size 67 2 (.slice A4 n4 c4) (ptR x.bks)) := Q7.out.on hb8
 have S8 : Hid (SerO X8 X5.heap.size (.slice A6 n6 c6) L6) := S7.out.on hb8
 have T8 : Hid (Strs X8 X5.heap.size (.slice A7 n7 c7) x.eng.files) := owns_strs ((strs_owns T7.out).on hb8)
 have B8 : Hid (Below w.heap.size w X8) := B7.out.trans (hb8.mono B7.out.size)
 have KR8 := KR7.out.on hb8 KR7.out.lt
 have KO8 := KO7.out.on hb8 KO7.out.lt
 have HG7 : Hid (G < X7.heap.size ∧ R < X7.heap.size) := ⟨KO7.out.lt, KR7.out.lt⟩
 clear hO8 hb8 c3 KA7 KR7 KO7 Q7 S7 T7 B7
 have m7 : _ = some (Value.slice none 0 0) := KO8.cell 7 _ rfl
 have f7 := KO8.free 7
 have KO9 : Blk (X8.setCell ⟨G, 7, none⟩ (.slice A9 n9 c9)) G #[.int .i64 sk, .int .i64 sh, .int .i64 sm, .slice A4 n4 c4, .int .i64 sf, .slice A6 n6 c6, .slice A7 n7 c7, .slice A9 n9 c9] 38 := KO8.set 7 (.slice A9 n9 c9)
 have o0 := KO9.cell 0 _ rfl
 have o1 := KO9.cell 1 _ rfl
 have o2 := KO9.cell 2 _ rfl
 have o3 := KO9.cell 3 _ rfl
 have o4 := KO9.cell 4 _ rfl
 have o5 := KO9.cell 5 _ rfl
 have o6 := KO9.cell 6 _ rfl
 have o7 := KO9.cell 7 _ rfl
 have KRa : Blk (X8.setCell ⟨G, 7, none⟩ (.slice A9 n9 c9)) R #[.int .i64 0, .int .i64 0, .int .i64 0, .slice none 0 0, .int .i64 0, .slice none 0 0, .slice none 0 0, .slice none 0 0] 38 := KR8.other (show R ≠ G by have := HG.out; omega) 7 (.slice A9 n9 c9)
 obtain ⟨⟨r0, g0⟩, ⟨r1, g1⟩, ⟨r2, g2⟩, ⟨r3, g3⟩, ⟨r4, g4⟩, ⟨r5, g5⟩, ⟨r6, g6⟩, ⟨r7, g7⟩, _, kR, e0, e1, e2, e3, e4, e5, e6, e7⟩ := res8 (w := (X8.setCell ⟨G, 7, none⟩ (.slice A9 n9 c9))) (g := R) (x0 := .int .i64 sk) (x1 := .int .i64 sh) (x2 := .int .i64 sm) (x3 := .slice A4 n4 c4) (x4 := .int .i64 sf) (x5 := .slice A6 n6 c6) (x6 := .slice A7 n7 c7) (x7 := .slice A9 n9 c9) KRa
 have kG : KeptBut G X8 (X8.setCell ⟨G, 7, none⟩ (.slice A9 n9 c9)) := (KeptBut.refl G X8).set 7 _
 have SF : Hid (StaO (((((((((X8.setCell ⟨G, 7, none⟩ (.slice A9 n9 c9)).setCell ⟨R, 0, none⟩ (.int .i64 sk)).setCell ⟨R, 1, none⟩ (.int .i64 sh)).setCell ⟨R, 2, none⟩ (.int .i64 sm)).setCell ⟨R, 3, none⟩ (.slice A4 n4 c4)).setCell ⟨R, 4, none⟩ (.int .i64 sf)).setCell ⟨R, 5, none⟩ (.slice A6 n6 c6)).setCell ⟨R, 6, none⟩ (.slice A7 n7 c7)).setCell ⟨R, 7, none⟩ (.slice A9 n9 c9)) w.heap.size (.agg #[.int .i64 sk, .int .i64 sh, .int .i64 sm, .slice A4 n4 c4, .int .i64 sf, .slice A6 n6 c6, .slice A7 n7 c7, .slice A9 n9 c9]) x) := by
  have q1 := kG.owns Q8.out (Q8.out.below (by have := HG.out; have := HZ.out; omega))
  have q2 := kR.owns q1 (q1.below (by have := HG.out; have := HZ.out; omega))
  have s2 := (S8.out.others kG HG5.out.1).others kR HG5.out.2
  have t1 := kG.owns (strs_owns T8.out) ((strs_owns T8.out).below HG5.out.1)
  have t2 := kR.owns t1 (t1.below HG5.out.2)
  have y1 := kG.owns Y8.out (Y8.out.below HG7.out.1)
  have y2 := kR.owns y1 (y1.below HG7.out.2)
  have hx := HX.out
  have hz := HZ.out
  have hg := HG.out
  have h5 := HG5.out
  have h7 := HG7.out
  exact ⟨_, _, _, _, L6, by unfold vSt; rw [hx.1, hx.2.1, hx.2.2.1, hx.2.2.2], q2.mono (by omega), ⟨HL.out, s2.mono (by omega), owns_strs (t2.mono (by omega))⟩, y2.mono (by omega)⟩
 have BF : Hid (Below w.heap.size w (((((((((X8.setCell ⟨G, 7, none⟩ (.slice A9 n9 c9)).setCell ⟨R, 0, none⟩ (.int .i64 sk)).setCell ⟨R, 1, none⟩ (.int .i64 sh)).setCell ⟨R, 2, none⟩ (.int .i64 sm)).setCell ⟨R, 3, none⟩ (.slice A4 n4 c4)).setCell ⟨R, 4, none⟩ (.int .i64 sf)).setCell ⟨R, 5, none⟩ (.slice A6 n6 c6)).setCell ⟨R, 6, none⟩ (.slice A7 n7 c7)).setCell ⟨R, 7, none⟩ (.slice A9 n9 c9))) := (B8.out.trans (kG.1.mono (by have := HG.out; omega))).trans (kR.1.mono (by have := HG.out; omega))
 clear KO8 KO9 KR8 KRa kG kR
 go_wp2_with fail
 exact bodyPost_ret (v := .agg #[.int .i64 sk, .int .i64 sh, .int .i64 sm, .slice A4 n4 c4, .int .i64 sf, .slice A6 n6 c6, .slice A7 n7 c7, .slice A9 n9 c9]) (by simp [results, go_sem, e0, e1, e2, e3, e4, e5, e6, e7]) rfl ⟨⟨_, rfl, SF.out⟩, BF.out⟩
end Go.Proofs.YtikknmoeefipmaaGreatDoor
namespace Go.Proofs.YtikknmoeefipmaaGreatDoor
open Go.ChangeShapes Go.WideShapes Go.ChangeAt Go.RowKit Go.PlainAid
set_option linter.unusedVariables false
def bkt (t : Int) : Int := if 0 ≤ t ∧ t ≤ 1099511627776 then t / 100 else -1
theorem bkt_in {t : Int} (h0 : 0 ≤ t) (h1 : t ≤ 1099511627776) : bkt t = t / 100 := if_pos ⟨h0, h1⟩
set_option maxHeartbeats 400000 in
theorem implBucket (t : Int) (w : World) :
  Calls Tryz.prog 109 #[.int .i64 t] w fun e w' => e = .returned (.int .i64 (bkt t)) ∧ w = w' := by
 by_cases h0 : t < 0
 ·have e : bkt t = -1 := if_neg (by omega)
  rw [e]
  go_enter Tryz.func109, Tryz.ntmps109
  go_wp2
  go_ret
  exact ⟨rfl, rfl⟩
 ·by_cases h1 : 1099511627776 < t
  ·have e : bkt t = -1 := if_neg (by omega)
   have h2 : ¬ t < 0 := h0
   rw [e]
   go_enter Tryz.func109, Tryz.ntmps109
   go_wp2
   go_ret
   exact ⟨rfl, rfl⟩
  ·have e : bkt t = t / 100 := bkt_in (by omega) (by omega)
   have h2 : decide (1099511627776 < t) = false := by simp; omega
   have h3 : Int.tdiv t 100 = t / 100 := Int.tdiv_eq_ediv_of_nonneg (by omega)
   have h4 : IntKind.i64.wrap (t / 100) = t / 100 := by rw [IntKind.wrap_i64]; omega
   rw [e]
   go_enter Tryz.func109, Tryz.ntmps109
   go_wp2
   go_ret
   exact ⟨rfl, rfl⟩
set_option maxHeartbeats 400000 in
theorem specBucket (t : Int) (w : World) :
  Calls Tryz.prog 33 #[.int .i64 t] w fun e w' => e = .returned (.int .i64 (bkt t)) ∧ w = w' := by
 by_cases h0 : 0 ≤ t ∧ t ≤ 1099511627776
 ·have e : bkt t = t / 100 := if_pos h0
  have cI := in_yes t 0 1099511627776 w h0.1 h0.2
  have h3 : Int.tdiv t 100 = t / 100 := Int.tdiv_eq_ediv_of_nonneg (by omega)
  have h4 : IntKind.i64.wrap (t / 100) = t / 100 := by rw [IntKind.wrap_i64]; omega
  rw [e]
  go_enter Tryz.func33, Tryz.ntmps33
  go_wp2_with fail
  refine cI.mono ?_
  rintro _ _ ⟨rfl, rfl⟩
  go_wp2
  go_ret
  exact ⟨rfl, rfl⟩
 ·have e : bkt t = -1 := if_neg h0
  have cI := in_no t 0 1099511627776 w (by omega)
  rw [e]
  go_enter Tryz.func33, Tryz.ntmps33
  go_wp2_with fail
  refine cI.mono ?_
  rintro _ _ ⟨rfl, rfl⟩
  go_wp2
  go_ret
  exact ⟨rfl, rfl⟩
end Go.Proofs.YtikknmoeefipmaaGreatDoor
namespace Go.Proofs.YtikknmoeefipmaaGreatDoor
open Go.ChangeShapes Go.WideShapes Go.ChangeAt Go.RowKit Go.PlainAid
set_option linter.unusedVariables false
set_option maxRecDepth 20000 in
set_option maxHeartbeats 2000000 in
theorem implBucketsOk (l : List Pnt) (v : Value) (w : World) (B : Nat) (hv : Lies w B 2 v (ptR l)) (hn : l.length ≤ 1048576) (hB : B ≤ w.heap.size) : Calls Tryz.prog 69 #[v] w fun e w' => e = .returned (.bool (bokFrom 0 l)) ∧ Below w.heap.size w w' := by
 obtain ⟨A, cap, rfl, hl⟩ := pt_look hv
 have HL : Hid (∀ j, j < l.length → ∃ g off, A = some ⟨g, off, none⟩ ∧ g < B ∧ _) := hl
 have HB : Hid (B ≤ w.heap.size) := hB
 have HD : Hid (∀ k, k < l.length → ∀ a, bokFrom a (l.drop k) = _) := fun k h a => bok_drop l k h a
 have HE : Hid (∀ a, bokFrom a (l.drop l.length) = true) := fun a => by rw [List.drop_length]; rfl
 have cB := fun wx => implBucket 1099511627776 wx
 rw [show bkt 1099511627776 = 10995116277 from by rw [bkt_in (by omega) (by omega)]; rfl] at cB
 obtain ⟨b0, hb0⟩ : ∃ b, bokFrom 0 l = b := ⟨_, rfl⟩
 have HE0 : Hid (bokFrom 0 (l.drop 0) = b0) := by unfold Hid; rw [List.drop_zero]; exact hb0
 rw [hb0]
 clear hl hB hv hb0
 have q1 : (l.length : Int) ≤ 1048576 := by omega
 generalize hN : l.length = n at *
 go_enter Tryz.func69, Tryz.ntmps69
 go_wp2_with fail
 go_loopw [3, 5, 8] (fun v3 v5 v8 wr => ∃ (k : Nat) (a : Int), k ≤ n ∧ v8 = .int .i64 (k : Int) ∧ v3 = .int .i64 a ∧ Hid ((-1 ≤ a ∧ a ≤ 10995116278) ∧ bokFrom a (l.drop k) = b0) ∧ Below w.heap.size w wr) (fun _ _ i _ => n - (intOf i).toNat)
 case atStart => exact ⟨0, 0, by omega, rfl, rfl, ⟨by omega, HE0.out⟩, Below.refl _ _⟩
 case round =>
  obtain ⟨k, a, hk, rfl, rfl, HA, hb⟩ := hrel
  have HB1 : Hid (Below w.heap.size w wr) := hb
  clear hb
  by_cases hlt : k < n
  ·have q4 : (k : Int) < (n : Int) := by omega
   obtain ⟨g, off, rfl, hg, ha0, ha1⟩ := HL.out k hlt
   have hgw : g < w.heap.size := Nat.lt_of_lt_of_le hg HB.out
   rw [← HB1.out.cell (p := ⟨_, _, none⟩) hgw] at ha0
   rw [← HB1.out.cell (p := ⟨_, _, none⟩) hgw] at ha1
   have hd := HD.out k hlt a
   rw [HA.out.2] at hd
   generalize (l.getD k default).t = x at *
   generalize (l.getD k default).v = y at *
   have H0 : Hid (b0 = _) := hd
   have hsz := HB1.out.size
   obtain ⟨X, hX⟩ : ∃ X, X = wr.alloc (.cells #[.int .i64 x, .int .i64 y] 67) := ⟨_, rfl⟩
   have BX : Hid (Below w.heap.size w X) := by rw [hX]; exact HB1.out.alloc hsz _
   have hR : X.heap[wr.heap.size]? = some (.cells #[.int .i64 x, .int .i64 y] 67 (0, 0)) := by rw [hX]; exact heap_alloc_new wr _
   have e0 : X.cell? ⟨wr.heap.size, 0, none⟩ = some (.int .i64 x) := by rw [cell_of_row _ _ 0 _ _ (0, 0) hR]; rfl
   have e1 : X.cell? ⟨wr.heap.size, 1, none⟩ = some (.int .i64 y) := by rw [cell_of_row _ _ 1 _ _ (0, 0) hR]; rfl
   clear hd hR hsz
   have cN := fun wx => inI x a 10995116277 wx
   have cS := fun wx => inI y 0 1 wx
   have hi1 : Hid (inRg x a 10995116277 = true → a ≤ x ∧ x ≤ 10995116277) := fun h => by unfold inRg at h; simp at h; omega
   have hA := HA.out.1
   obtain ⟨p, hp⟩ : ∃ p, p = wr.heap.size := ⟨_, rfl⟩
   rw [← hp] at e0 e1
   have S0 : Hid (X.drew.cell? ⟨p, 0, none⟩ = some (.int .i64 x) ∧ X.drew.cell? ⟨p, 1, none⟩ = some (.int .i64 y)) := ⟨e0, e1⟩
   have D0 : X.drew.cell? ⟨p, 0, none⟩ = some (.int .i64 x) := e0
   have BD : Hid (Below w.heap.size w X.drew) := BX.out.drew
   clear e0 e1
   cases hc : inRg x a 10995116277 <;> rw [hc] at cN H0 hi1
   ·clear hA
    go_wp2_with fail
    rw [← hX, ← hp]
    clear hX hp
    refine wp_region_until (fun w' => w'.cell? ⟨p, 0, none⟩ = some (.int .i64 x) ∧ w'.cell? ⟨p, 1, none⟩ = some (.int .i64 y)) (fun _ => false) 12 (by rfl) (by kernel_rfl) ?_
    refine tKe 0 (v := ?_) S0.out ?_ ?_; rotate_left; focus (intro w hSw; (try dsimp only at hSw); go_simp; try with_reducible rfl)
    try simp only [Act.put, zQ1, zQ2, zQ3]
    refine tKe 1 (v := ?_) S0.out ?_ ?_; rotate_left; focus (intro w hSw; (try dsimp only at hSw); go_simp; try with_reducible rfl)
    try simp only [Act.put, zQ1, zQ2, zQ3]
    refine tKe 2 (v := ?_) S0.out ?_ ?_; rotate_left; focus (intro w hSw; (try dsimp only at hSw); go_simp; try with_reducible rfl)
    try simp only [Act.put, zQ1, zQ2, zQ3]
    refine uNe 3 (fun K hK => ?_)
    go_simp
    refine (cB _).mono ?_
    rintro e w' ⟨rfl, rfl⟩
    go_wp2_with fail
    refine hK.out _ _ (fun _ h => h) ?_
    clear hK K
    try simp only [Act.put, zQ1, zQ2, zQ3]
    refine uNe 4 (fun K hK => ?_)
    go_simp
    refine (cN _).mono ?_
    rintro e w' ⟨rfl, rfl⟩
    go_wp2_with fail
    refine hK.out _ _ (fun _ h => h) ?_
    clear hK K
    try simp only [Act.put, zQ1, zQ2, zQ3]
    refine tKe 5 (v := ?_) S0.out ?_ ?_; rotate_left; focus (intro w hSw; (try dsimp only at hSw); go_simp; try with_reducible rfl)
    try simp only [Act.put, zQ1, zQ2, zQ3]
    refine tKe 6 (v := ?_) S0.out ?_ ?_; rotate_left; focus (intro w hSw; (try dsimp only at hSw); go_simp; try with_reducible rfl)
    try simp only [Act.put, zQ1, zQ2, zQ3]
    refine sKi 7 ?_
    try simp only [Act.put, zQ1, zQ2, zQ3]
    refine sKi 8 ?_
    try simp only [Act.put, zQ1, zQ2, zQ3]
    refine sKi 9 ?_
    try simp only [Act.put, zQ1, zQ2, zQ3]
    refine sKi 10 ?_
    try simp only [Act.put, zQ1, zQ2, zQ3]
    refine tKe 11 (v := ?_) S0.out ?_ ?_; rotate_left; focus (intro w hSw; (try dsimp only at hSw); go_simp; try with_reducible rfl)
    try simp only [Act.put, zQ1, zQ2, zQ3]
    refine until_done (by kernel_rfl) ?_ _
    go_wp2_with fail
    go_ret
    exact ⟨by rw [H0.out]; rfl, BD.out⟩
   ·have hx := hi1.out rfl
    have e9 : IntKind.i64.wrap (x + 1) = x + 1 := by rw [IntKind.wrap_i64]; omega
    have e8 : wrap64 (x + 1) = x + 1 := by unfold wrap64; omega
    have HX9 : Hid (-1 ≤ x + 1 ∧ x + 1 ≤ 10995116278) := by unfold Hid; omega
    clear hA hi1 hx
    cases hc2 : inRg y 0 1 <;> rw [hc2] at cS H0
    ·go_wp2_with fail
     rw [← hX, ← hp]
     clear hX hp
     refine wp_region_until (fun w' => w'.cell? ⟨p, 0, none⟩ = some (.int .i64 x) ∧ w'.cell? ⟨p, 1, none⟩ = some (.int .i64 y)) (fun _ => false) 12 (by rfl) (by kernel_rfl) ?_
     refine tKe 0 (v := ?_) S0.out ?_ ?_; rotate_left; focus (intro w hSw; (try dsimp only at hSw); go_simp; try with_reducible rfl)
     try simp only [Act.put, zQ1, zQ2, zQ3]
     refine tKe 1 (v := ?_) S0.out ?_ ?_; rotate_left; focus (intro w hSw; (try dsimp only at hSw); go_simp; try with_reducible rfl)
     try simp only [Act.put, zQ1, zQ2, zQ3]
     refine tKe 2 (v := ?_) S0.out ?_ ?_; rotate_left; focus (intro w hSw; (try dsimp only at hSw); go_simp; try with_reducible rfl)
     try simp only [Act.put, zQ1, zQ2, zQ3]
     refine uNe 3 (fun K hK => ?_)
     go_simp
     refine (cB _).mono ?_
     rintro e w' ⟨rfl, rfl⟩
     go_wp2_with fail
     refine hK.out _ _ (fun _ h => h) ?_
     clear hK K
     try simp only [Act.put, zQ1, zQ2, zQ3]
     refine uNe 4 (fun K hK => ?_)
     go_simp
     refine (cN _).mono ?_
     rintro e w' ⟨rfl, rfl⟩
     go_wp2_with fail
     refine hK.out _ _ (fun _ h => h) ?_
     clear hK K
     try simp only [Act.put, zQ1, zQ2, zQ3]
     refine tKe 5 (v := ?_) S0.out ?_ ?_; rotate_left; focus (intro w hSw; (try dsimp only at hSw); go_simp; try with_reducible rfl)
     try simp only [Act.put, zQ1, zQ2, zQ3]
     refine tKe 6 (v := ?_) S0.out ?_ ?_; rotate_left; focus (intro w hSw; (try dsimp only at hSw); go_simp; try with_reducible rfl)
     try simp only [Act.put, zQ1, zQ2, zQ3]
     refine tKe 7 (v := ?_) S0.out ?_ ?_; rotate_left; focus (intro w hSw; (try dsimp only at hSw); go_simp; try with_reducible rfl)
     try simp only [Act.put, zQ1, zQ2, zQ3]
     refine tKe 8 (v := ?_) S0.out ?_ ?_; rotate_left; focus (intro w hSw; (try dsimp only at hSw); go_simp; try with_reducible rfl)
     try simp only [Act.put, zQ1, zQ2, zQ3]
     refine uNe 9 (fun K hK => ?_)
     go_simp
     refine (cS _).mono ?_
     rintro e w' ⟨rfl, rfl⟩
     go_wp2_with fail
     refine hK.out _ _ (fun _ h => h) ?_
     clear hK K
     try simp only [Act.put, zQ1, zQ2, zQ3]
     refine tKe 10 (v := ?_) S0.out ?_ ?_; rotate_left; focus (intro w hSw; (try dsimp only at hSw); go_simp; try with_reducible rfl)
     try simp only [Act.put, zQ1, zQ2, zQ3]
     refine tKe 11 (v := ?_) S0.out ?_ ?_; rotate_left; focus (intro w hSw; (try dsimp only at hSw); go_simp; try with_reducible rfl)
     try simp only [Act.put, zQ1, zQ2, zQ3]
     refine until_done (by kernel_rfl) ?_ _
     go_wp2_with fail
     go_ret
     exact ⟨by rw [H0.out]; rfl, BD.out⟩
    ·go_wp2_with fail
     rw [← hX, ← hp]
     clear hX hp
     refine wp_region_until (fun w' => w'.cell? ⟨p, 0, none⟩ = some (.int .i64 x) ∧ w'.cell? ⟨p, 1, none⟩ = some (.int .i64 y)) (fun _ => false) 12 (by rfl) (by kernel_rfl) ?_
     refine tKe 0 (v := ?_) S0.out ?_ ?_; rotate_left; focus (intro w hSw; (try dsimp only at hSw); go_simp; try with_reducible rfl)
     try simp only [Act.put, zQ1, zQ2, zQ3]
     refine tKe 1 (v := ?_) S0.out ?_ ?_; rotate_left; focus (intro w hSw; (try dsimp only at hSw); go_simp; try with_reducible rfl)
     try simp only [Act.put, zQ1, zQ2, zQ3]
     refine tKe 2 (v := ?_) S0.out ?_ ?_; rotate_left; focus (intro w hSw; (try dsimp only at hSw); go_simp; try with_reducible rfl)
     try simp only [Act.put, zQ1, zQ2, zQ3]
     refine uNe 3 (fun K hK => ?_)
     go_simp
     refine (cB _).mono ?_
     rintro e w' ⟨rfl, rfl⟩
     go_wp2_with fail
     refine hK.out _ _ (fun _ h => h) ?_
     clear hK K
     try simp only [Act.put, zQ1, zQ2, zQ3]
     refine uNe 4 (fun K hK => ?_)
     go_simp
     refine (cN _).mono ?_
     rintro e w' ⟨rfl, rfl⟩
     go_wp2_with fail
     refine hK.out _ _ (fun _ h => h) ?_
     clear hK K
     try simp only [Act.put, zQ1, zQ2, zQ3]
     refine tKe 5 (v := ?_) S0.out ?_ ?_; rotate_left; focus (intro w hSw; (try dsimp only at hSw); go_simp; try with_reducible rfl)
     try simp only [Act.put, zQ1, zQ2, zQ3]
     refine tKe 6 (v := ?_) S0.out ?_ ?_; rotate_left; focus (intro w hSw; (try dsimp only at hSw); go_simp; try with_reducible rfl)
     try simp only [Act.put, zQ1, zQ2, zQ3]
     refine tKe 7 (v := ?_) S0.out ?_ ?_; rotate_left; focus (intro w hSw; (try dsimp only at hSw); go_simp; try with_reducible rfl)
     try simp only [Act.put, zQ1, zQ2, zQ3]
     refine tKe 8 (v := ?_) S0.out ?_ ?_; rotate_left; focus (intro w hSw; (try dsimp only at hSw); go_simp; try with_reducible rfl)
     try simp only [Act.put, zQ1, zQ2, zQ3]
     refine uNe 9 (fun K hK => ?_)
     go_simp
     refine (cS _).mono ?_
     rintro e w' ⟨rfl, rfl⟩
     go_wp2_with fail
     refine hK.out _ _ (fun _ h => h) ?_
     clear hK K
     try simp only [Act.put, zQ1, zQ2, zQ3]
     refine tKe 10 (v := ?_) S0.out ?_ ?_; rotate_left; focus (intro w hSw; (try dsimp only at hSw); go_simp; try with_reducible rfl)
     try simp only [Act.put, zQ1, zQ2, zQ3]
     refine tKe 11 (v := ?_) S0.out ?_ ?_; rotate_left; focus (intro w hSw; (try dsimp only at hSw); go_simp; try with_reducible rfl)
     try simp only [Act.put, zQ1, zQ2, zQ3]
     refine until_done (by kernel_rfl) ?_ _
     go_wp2_with fail
     go_roundw
     case rel => exact ⟨k + 1, x + 1, by omega, by go_num, rfl, ⟨HX9.out, by rw [H0.out]; rfl⟩, BD.out⟩
     case measure => simp [intOf]; omega
  ·obtain rfl : k = n := by omega
   have hz := HA.out.2
   rw [HE.out] at hz
   have HZ : Hid (true = b0) := hz
   clear hz
   go_wp2_with fail
   go_ret
   exact ⟨by rw [← HZ.out]; rfl, HB1.out⟩
end Go.Proofs.YtikknmoeefipmaaGreatDoor
