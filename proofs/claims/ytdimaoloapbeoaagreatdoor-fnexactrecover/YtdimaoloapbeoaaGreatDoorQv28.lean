/- RvSpA RvS0 RvSfno RvStno RvScgt -/
import Derived.Test.YtdimaoloapbeoaaGreatDoorRows
import Derived.Test.YtdimaoloapbeoaaGreatDoorQv27
import Derived.Test.YtdimaoloapbeoaaGreatDoorQv23
import Derived.Test.YtdimaoloapbeoaaGreatDoorQv24
import Derived.Test.YtdimaoloapbeoaaGreatDoorQv12
import Derived.Test.YtdimaoloapbeoaaGreatDoorQv15
import Derived.Test.YtdimaoloapbeoaaGreatDoorQv25
import Derived.Test.YtdimaoloapbeoaaGreatDoorQv6
import Derived.Deep.Cut
import Derived.Deep.CutRange
import Derived.Deep.CutBlock
namespace Go.Proofs.YtdimaoloapbeoaaGreatDoor
open Go.ChangeShapes Go.WideShapes Go.ChangeAt Go.RowKit Go.PlainAid
set_option linter.unusedVariables false
def LiesL (w : World) (lo B : Nat) (v : Value) (rows : List (List Value)) : Prop := Lies w B 2 v rows ∧ ∀ g off sp n c, v = .slice (some ⟨g, off, sp⟩) n c → lo ≤ g
theorem Lies.nilS (w : World) (B : Nat) : Lies w B 2 (.slice none 0 0) (entR []) := ⟨none, 0, rfl, ⟨fun _ => rfl, Nat.le_refl _⟩, fun r hr => (by cases hr), .inl rfl⟩
theorem LiesL.put {w : World} {lo B r : Nat} {v : Value} {rows : List (List Value)} (h : LiesL w lo B v rows) (hr : r < lo) (i : Nat) (x : Value) : LiesL (w.setCell ⟨r, i, none⟩ x) lo B v rows := by
 obtain ⟨⟨A, cap, e, hz, hs, h⟩, hl⟩ := h
 refine ⟨⟨A, cap, e, hz, hs, h.imp id ?_⟩, hl⟩
 rintro ⟨g, off, rfl, hg, hc⟩
 refine ⟨g, off, rfl, hg, fun k y hy => ?_⟩
 rw [← hc k y hy]
 have := hl g off none _ _ e
 exact World.cell?_of_block (w := w) (Below.heap_setCell _ _ _ _ (show g ≠ r by omega))
theorem LiesL.putHi {w : World} {lo B r : Nat} {v : Value} {rows : List (List Value)} (h : LiesL w lo B v rows) (hr : B ≤ r) (i : Nat) (x : Value) : LiesL (w.setCell ⟨r, i, none⟩ x) lo B v rows := by
 obtain ⟨⟨A, cap, e, hz, hs, h⟩, hl⟩ := h
 refine ⟨⟨A, cap, e, hz, hs, h.imp id ?_⟩, hl⟩
 rintro ⟨g, off, rfl, hg, hc⟩
 refine ⟨g, off, rfl, hg, fun k y hy => ?_⟩
 rw [← hc k y hy]
 exact World.cell?_of_block (w := w) (Below.heap_setCell _ _ _ _ (show g ≠ r by omega))
theorem LiesL.on {w w' : World} {lo B : Nat} {v : Value} {rows : List (List Value)} (h : LiesL w lo B v rows) (hb : Below B w w') : LiesL w' lo B v rows := ⟨h.1.on hb, h.2⟩
theorem LiesL.of {w : World} {lo : Nat} {v : Value} {rows : List (List Value)} (h : Owns w lo 59 2 v rows) : LiesL w lo w.heap.size v rows := by
 refine ⟨h.lies, ?_⟩
 intro g off sp n c e
 rcases h.2.2 with ⟨rfl, _⟩ | ⟨g', cap, cur, rfl, hb, _⟩
 ·cases e
 ·cases e; exact hb
theorem LiesL.ofLt {w : World} {lo lo' B : Nat} {v : Value} {rows : List (List Value)} (h : Owns w lo 59 2 v rows) (hb : ∀ g, v.ownBlock = some g → g < B) (hl : lo' ≤ lo) : LiesL w lo' B v rows := by
 have h0 := LiesL.of h
 obtain ⟨⟨A, cap, e, hz, hs, hh⟩, h2⟩ := h0
 refine ⟨⟨A, cap, e, hz, hs, ?_⟩, fun g off sp n c e' => Nat.le_trans hl (h2 g off sp n c e')⟩
 rcases hh with hh | ⟨g, off, rfl, hg, hc⟩
 ·exact .inl hh
 ·refine .inr ⟨g, off, rfl, ?_, hc⟩
  rcases h.2.2 with ⟨e2, _⟩ | ⟨g', cap', cur, e2, _⟩
  ·rw [e] at e2; cases e2
  ·rw [e] at e2
   cases e2
   exact hb g (by rw [e]; rfl)
theorem wraps_sp (si xb : Int) (k k1 : Nat) (hk : si - xb = (k : Int)) (hk1 : k = k1 + 1) (hk2 : k ≤ 200000) : IntKind.i64.wrap (si - xb) = (k : Int) ∧ wrap64 (si - xb) = (k : Int) ∧ IntKind.i64.wrap ((k : Int) - 1) = (k1 : Int) ∧ wrap64 ((k : Int) - 1) = (k1 : Int) := by
 refine ⟨?_, ?_, ?_, ?_⟩
 ·rw [IntKind.wrap_i64]; omega
 ·unfold wrap64; omega
 ·rw [IntKind.wrap_i64]; omega
 ·unfold wrap64; omega
theorem LiesL.mono {w : World} {lo lo' B B' : Nat} {v : Value} {rows : List (List Value)} (h : LiesL w lo B v rows) (h1 : lo' ≤ lo) (h2 : B ≤ B') : LiesL w lo' B' v rows := ⟨h.1.mono h2, fun g off sp n c e => Nat.le_trans h1 (h.2 g off sp n c e)⟩
theorem LiesL.set9S {w : World} {lo B g : Nat} {v : Value} {rows : List (List Value)} (h : LiesL w lo B v rows) (hr : g < lo) (x0 x1 x2 x3 x4 x5 x6 x7 x8 : Value) : LiesL (((((((((w.setCell ⟨g, 0, none⟩ x0).setCell ⟨g, 1, none⟩ x1).setCell ⟨g, 2, none⟩ x2).setCell ⟨g, 3, none⟩ x3).setCell ⟨g, 4, none⟩ x4).setCell ⟨g, 5, none⟩ x5).setCell ⟨g, 6, none⟩ x6).setCell ⟨g, 7, none⟩ x7).setCell ⟨g, 8, none⟩ x8) lo B v rows := (((((((((h.put hr 0 x0).put hr 1 x1).put hr 2 x2).put hr 3 x3).put hr 4 x4).put hr 5 x5).put hr 6 x6).put hr 7 x7).put hr 8 x8)
end Go.Proofs.YtdimaoloapbeoaaGreatDoor
namespace Go.Proofs.YtdimaoloapbeoaaGreatDoor
open Go.ChangeShapes Go.WideShapes Go.ChangeAt Go.RowKit Go.PlainAid
set_option linter.unusedVariables false
set_option maxRecDepth 20000 in
set_option maxHeartbeats 16000000 in
theorem specRec_0 (d : Dsk) (v : Value) (w : World) (B : Nat) (hv : DiskV w B v d) (hf : Fits d) (hw : wtD d ≤ 1048576) (hB : B ≤ w.heap.size) (h0 : diskOk d = true → (loadR d logN).2 = false) :
  Calls Tryz.prog 5 #[v] w fun e w' => (∃ u, e = .returned (.tuple #[u, .int .i64 (recR d).2]) ∧ KptV w' w'.heap.size u (recR d).1) ∧ Below w.heap.size w w' := by
 have H0 : Hid (diskOk d = true → (loadR d logN).2 = false) := h0
 clear h0
 have HV : Hid (DiskV w B v d) := hv
 have HB : Hid (B ≤ w.heap.size) := hB
 have HW : Hid (wtD d ≤ 1048576) := hw
 obtain ⟨v1, v2, v3, rfl, h1, h2, h3⟩ := hv
 have cO := fun wx hx hb => specOkV d (.agg #[.int .i64 d.room, .int .i64 d.next, v1, v2, v3]) wx B hx hf hw hb
 have cL := fun nm wx (h : Below w.heap.size w wx) => specLoadV d (.agg #[.int .i64 d.room, .int .i64 d.next, v1, v2, v3]) nm wx B (HV.out.on (h.mono HB.out)) hf hw (Nat.le_trans HB.out h.size)
 clear h1 h2 h3 hB hf hw
 have hb0 : Below w.heap.size w ((w.alloc (.cells #[.int .i64 d.room, .int .i64 d.next, v1, v2, v3] 41)).alloc (.cells #[.int .i64 0, .int .i64 0, .int .i64 0, .int .i64 0, .slice none 0 0, .int .i64 0, .int .i64 0, .string ⟨#[]⟩, .bool false] 34)) := below_r2 _ _ _
 have k0 := Blk.new (w.alloc (.cells #[.int .i64 d.room, .int .i64 d.next, v1, v2, v3] 41)) #[.int .i64 0, .int .i64 0, .int .i64 0, .int .i64 0, .slice none 0 0, .int .i64 0, .int .i64 0, .string ⟨#[]⟩, .bool false] 34
 rw [World.size_alloc] at k0
 have kd := (Blk.new w #[.int .i64 d.room, .int .i64 d.next, v1, v2, v3] 41).alloc (.cells #[.int .i64 0, .int .i64 0, .int .i64 0, .int .i64 0, .slice none 0 0, .int .i64 0, .int .i64 0, .string ⟨#[]⟩, .bool false] 34)
 have y0 := kd.cell 0 _ rfl
 have y1 := kd.cell 1 _ rfl
 have y2 := kd.cell 2 _ rfl
 have y3 := kd.cell 3 _ rfl
 have y4 := kd.cell 4 _ rfl
 go_enter Tryz.func5, Tryz.ntmps5
 go_wp2_with fail
 clear y0 y1 y2 y3 y4
 generalize (w.alloc (.cells #[.int .i64 d.room, .int .i64 d.next, v1, v2, v3] 41)).alloc (.cells #[.int .i64 0, .int .i64 0, .int .i64 0, .int .i64 0, .slice none 0 0, .int .i64 0, .int .i64 0, .string ⟨#[]⟩, .bool false] 34) = W at *
 have B0 : Hid (Below w.heap.size w W) := hb0
 refine (cO W (HV.out.on (B0.out.mono HB.out)) (Nat.le_trans HB.out B0.out.size)).mono ?_
 rintro e w1 ⟨rfl, hb⟩
 have B1 : Hid (Below w.heap.size w w1) := B0.out.trans (hb.mono B0.out.size)
 have K1 := Hid.mk (k0.on hb k0.lt)
 have D1 := Hid.mk (kd.on hb kd.lt)
 clear hb cO hb0 k0 kd
 cases hok : diskOk d
 ·have HR : Hid (recR d = (kp0, 2)) := recR_bad hok
  clear hok cL
  obtain ⟨⟨r0, f0⟩, ⟨r1, f1⟩, ⟨r2, f2⟩, ⟨r3, f3⟩, ⟨r4, f4⟩, ⟨r5, f5⟩, ⟨r6, f6⟩, ⟨r7, f7⟩, ⟨r8, f8⟩, y0, y1, y2, y3, y4, y5, y6, y7, y8⟩ := resC9 (x0 := .int .i64 0) (x1 := .int .i64 0) (x2 := .int .i64 0) (x3 := .int .i64 0) (x4 := .slice none 0 0) (x5 := .int .i64 0) (x6 := .int .i64 0) (x7 := .string ⟨#[]⟩) (x8 := .bool false) K1.out
  have BE := Hid.mk (belowC9 B1.out (show w.heap.size ≤ w.heap.size + 1 by omega) (.int .i64 0) (.int .i64 0) (.int .i64 0) (.int .i64 0) (.slice none 0 0) (.int .i64 0) (.int .i64 0) (.string ⟨#[]⟩) (.bool false))
  go_wp2_with fail
  exact bodyPost_ret (v := .tuple #[.agg #[.int .i64 0, .int .i64 0, .int .i64 0, .int .i64 0, .slice none 0 0, .int .i64 0, .int .i64 0, .string ⟨#[]⟩, .bool false], .int .i64 2]) (by simp [results, go_sem, y0, y1, y2, y3, y4, y5, y6, y7, y8]) rfl ⟨⟨_, by rw [HR.out], .slice none 0 0, by rw [HR.out]; rfl, by rw [HR.out]; exact Lies.nilS _ _⟩, BE.out⟩
 have HOK : Hid (diskOk d = true) := hok
 clear hok
 have y0 := D1.out.cell 0 _ rfl
 have y1 := D1.out.cell 1 _ rfl
 have y2 := D1.out.cell 2 _ rfl
 have y3 := D1.out.cell 3 _ rfl
 have y4 := D1.out.cell 4 _ rfl
 have c1 := cL ⟨#[108, 111, 103]⟩ w1 B1.out
 rw [show loadR d ⟨#[108, 111, 103]⟩ = loadR d logN from rfl] at c1
 go_wp2_with fail
 refine c1.mono ?_
 rintro e w2 ⟨rfl, hb⟩
 have B2h : Hid (Below w.heap.size w w2) := B1.out.trans (hb.mono B1.out.size)
 have K2 := Hid.mk (K1.out.on hb K1.out.lt)
 have D2 := Hid.mk (D1.out.on hb D1.out.lt)
 clear hb y0 y1 y2 y3 y4 K1 D1 B1 c1
 have hl := H0.out HOK.out
 rw [hl]
 ·have HR : Hid (recR d = (kp0, 1)) := recR_none HOK.out hl
  clear hl cL
  obtain ⟨⟨r0, f0⟩, ⟨r1, f1⟩, ⟨r2, f2⟩, ⟨r3, f3⟩, ⟨r4, f4⟩, ⟨r5, f5⟩, ⟨r6, f6⟩, ⟨r7, f7⟩, ⟨r8, f8⟩, y0, y1, y2, y3, y4, y5, y6, y7, y8⟩ := resC9 (x0 := .int .i64 0) (x1 := .int .i64 0) (x2 := .int .i64 0) (x3 := .int .i64 0) (x4 := .slice none 0 0) (x5 := .int .i64 0) (x6 := .int .i64 0) (x7 := .string ⟨#[]⟩) (x8 := .bool false) K2.out
  have BE := Hid.mk (belowC9 B2h.out (show w.heap.size ≤ w.heap.size + 1 by omega) (.int .i64 0) (.int .i64 0) (.int .i64 0) (.int .i64 0) (.slice none 0 0) (.int .i64 0) (.int .i64 0) (.string ⟨#[]⟩) (.bool false))
  go_wp2_with fail
  exact bodyPost_ret (v := .tuple #[.agg #[.int .i64 0, .int .i64 0, .int .i64 0, .int .i64 0, .slice none 0 0, .int .i64 0, .int .i64 0, .string ⟨#[]⟩, .bool false], .int .i64 1]) (by simp [results, go_sem, y0, y1, y2, y3, y4, y5, y6, y7, y8]) rfl ⟨⟨_, by rw [HR.out], .slice none 0 0, by rw [HR.out]; rfl, by rw [HR.out]; exact Lies.nilS _ _⟩, BE.out⟩
end Go.Proofs.YtdimaoloapbeoaaGreatDoor
namespace Go.Proofs.YtdimaoloapbeoaaGreatDoor
open Go.ChangeShapes Go.WideShapes Go.ChangeAt Go.RowKit Go.PlainAid
set_option linter.unusedVariables false
set_option maxRecDepth 20000 in
set_option maxHeartbeats 16000000 in
theorem specRec_fno (d : Dsk) (v : Value) (w : World) (B : Nat) (hv : DiskV w B v d) (hf : Fits d) (hw : wtD d ≤ 1048576) (hB : B ≤ w.heap.size) (hok : diskOk d = true) (hl : (loadR d logN).2 = true) (hsn : (loadR d snapN).2 = false) (hcs : ((repS (loadR d logN).1).2.2 && (snR d).2) = false) :
  Calls Tryz.prog 5 #[v] w fun e w' => (∃ u, e = .returned (.tuple #[u, .int .i64 (recR d).2]) ∧ KptV w' w'.heap.size u (recR d).1) ∧ Below w.heap.size w w' := by
 have HCS : Hid (((repS (loadR d logN).1).2.2 && (snR d).2) = false) := hcs
 have HOK0 : Hid (diskOk d = true) := hok
 have HL0 : Hid ((loadR d logN).2 = true) := hl
 have HS0 : Hid ((loadR d snapN).2 = false) := hsn
 clear hcs hok hl hsn
 have HV : Hid (DiskV w B v d) := hv
 have HB : Hid (B ≤ w.heap.size) := hB
 have HW : Hid (wtD d ≤ 1048576) := hw
 obtain ⟨v1, v2, v3, rfl, h1, h2, h3⟩ := hv
 have cO := fun wx hx hb => specOkV d (.agg #[.int .i64 d.room, .int .i64 d.next, v1, v2, v3]) wx B hx hf hw hb
 have cL := fun nm wx (h : Below w.heap.size w wx) => specLoadV d (.agg #[.int .i64 d.room, .int .i64 d.next, v1, v2, v3]) nm wx B (HV.out.on (h.mono HB.out)) hf hw (Nat.le_trans HB.out h.size)
 rw [HOK0.out] at cO
 clear h1 h2 h3 hB hf hw
 have hb0 : Below w.heap.size w ((w.alloc (.cells #[.int .i64 d.room, .int .i64 d.next, v1, v2, v3] 41)).alloc (.cells #[.int .i64 0, .int .i64 0, .int .i64 0, .int .i64 0, .slice none 0 0, .int .i64 0, .int .i64 0, .string ⟨#[]⟩, .bool false] 34)) := below_r2 _ _ _
 have k0 := Blk.new (w.alloc (.cells #[.int .i64 d.room, .int .i64 d.next, v1, v2, v3] 41)) #[.int .i64 0, .int .i64 0, .int .i64 0, .int .i64 0, .slice none 0 0, .int .i64 0, .int .i64 0, .string ⟨#[]⟩, .bool false] 34
 rw [World.size_alloc] at k0
 have kd := (Blk.new w #[.int .i64 d.room, .int .i64 d.next, v1, v2, v3] 41).alloc (.cells #[.int .i64 0, .int .i64 0, .int .i64 0, .int .i64 0, .slice none 0 0, .int .i64 0, .int .i64 0, .string ⟨#[]⟩, .bool false] 34)
 have y0 := kd.cell 0 _ rfl
 have y1 := kd.cell 1 _ rfl
 have y2 := kd.cell 2 _ rfl
 have y3 := kd.cell 3 _ rfl
 have y4 := kd.cell 4 _ rfl
 go_enter Tryz.func5, Tryz.ntmps5
 go_wp2_with fail
 clear y0 y1 y2 y3 y4
 generalize (w.alloc (.cells #[.int .i64 d.room, .int .i64 d.next, v1, v2, v3] 41)).alloc (.cells #[.int .i64 0, .int .i64 0, .int .i64 0, .int .i64 0, .slice none 0 0, .int .i64 0, .int .i64 0, .string ⟨#[]⟩, .bool false] 34) = W at *
 have B0 : Hid (Below w.heap.size w W) := hb0
 refine (cO W (HV.out.on (B0.out.mono HB.out)) (Nat.le_trans HB.out B0.out.size)).mono ?_
 rintro e w1 ⟨rfl, hb⟩
 have B1 : Hid (Below w.heap.size w w1) := B0.out.trans (hb.mono B0.out.size)
 have K1 := Hid.mk (k0.on hb k0.lt)
 have D1 := Hid.mk (kd.on hb kd.lt)
 clear hb cO hb0 k0 kd
 have HOK := HOK0
 have y0 := D1.out.cell 0 _ rfl
 have y1 := D1.out.cell 1 _ rfl
 have y2 := D1.out.cell 2 _ rfl
 have y3 := D1.out.cell 3 _ rfl
 have y4 := D1.out.cell 4 _ rfl
 have c1 := cL ⟨#[108, 111, 103]⟩ w1 B1.out
 rw [show loadR d ⟨#[108, 111, 103]⟩ = loadR d logN from rfl, HL0.out] at c1
 go_wp2_with fail
 refine c1.mono ?_
 rintro e w2 ⟨rfl, hb⟩
 have B2h : Hid (Below w.heap.size w w2) := B1.out.trans (hb.mono B1.out.size)
 have K2 := Hid.mk (K1.out.on hb K1.out.lt)
 have D2 := Hid.mk (D1.out.on hb D1.out.lt)
 clear hb y0 y1 y2 y3 y4 K1 D1 B1 c1
 have HRB := Hid.mk (@recR_no d HOK.out HL0.out)
 have HRY := Hid.mk (@recR_yes d HOK.out HL0.out)
 have HSZ : Hid ((loadR d logN).1.size ≤ 1048576) := loadR_size HW.out
 have HSN := Hid.mk (snR_in d)
 have HSD : Hid (snR d = (sn0, true)) := by unfold Hid snR; rw [HS0.out]; rfl
 have HSS : Hid ((loadR d snapN).1.size ≤ 1048576) := loadR_size HW.out
 generalize (loadR d logN).1 = tx at *
 go_wp2_with fail
 refine (specReplay tx w2 HSZ.out).mono ?_
 rintro e w3 ⟨K, vw, hE, rfl, hWO, hb2⟩
 rw [repS_eq hE] at hWO ⊢
 have HRO := Hid.mk (repS_ok tx)
 generalize repS tx = rs at *
 obtain ⟨x, n, ok⟩ := rs
 simp only at *
 obtain ⟨eu, rfl, hOw⟩ := hWO
 obtain ⟨eA, em, ec, rfl⟩ := hOw.shape
 have B3 : Hid (Below w.heap.size w w3) := B2h.out.trans (hb2.mono B2h.out.size)
 have K3 := Hid.mk (K2.out.on hb2 K2.out.lt)
 have D3 := Hid.mk (D2.out.on hb2 D2.out.lt)
 have HK2 : Hid (w.heap.size + 1 < w2.heap.size) := K2.out.lt
 have HP1 : Hid (w2.heap.size ≤ w3.heap.size) := hb2.size
 clear hE hb2 K2 D2 B2h
 have b4 : Below w3.heap.size w3 ((w3.alloc (.cells #[.int .i64 x.term, .int .i64 x.vote, .int .i64 x.base, .int .i64 x.bterm, .slice eA em ec] 30)).alloc (.cells #[.int .i64 0, .int .i64 0, .string ⟨#[]⟩] 32)) := below_r2 _ _ _
 have KW := Hid.mk ((Blk.new w3 #[.int .i64 x.term, .int .i64 x.vote, .int .i64 x.base, .int .i64 x.bterm, .slice eA em ec] 30).alloc (.cells #[.int .i64 0, .int .i64 0, .string ⟨#[]⟩] 32))
 have KS : Hid (Blk ((w3.alloc (.cells #[.int .i64 x.term, .int .i64 x.vote, .int .i64 x.base, .int .i64 x.bterm, .slice eA em ec] 30)).alloc (.cells #[.int .i64 0, .int .i64 0, .string ⟨#[]⟩] 32)) (w3.heap.size + 1) #[.int .i64 0, .int .i64 0, .string ⟨#[]⟩] 32) := by
  have h := Blk.new (w3.alloc (.cells #[.int .i64 x.term, .int .i64 x.vote, .int .i64 x.base, .int .i64 x.bterm, .slice eA em ec] 30)) #[.int .i64 0, .int .i64 0, .string ⟨#[]⟩] 32
  rw [World.size_alloc] at h
  exact h
 have B4 : Hid (Below w.heap.size w ((w3.alloc (.cells #[.int .i64 x.term, .int .i64 x.vote, .int .i64 x.base, .int .i64 x.bterm, .slice eA em ec] 30)).alloc (.cells #[.int .i64 0, .int .i64 0, .string ⟨#[]⟩] 32))) := B3.out.trans (b4.mono B3.out.size)
 have K4 := Hid.mk (K3.out.on b4 K3.out.lt)
 have D4 := Hid.mk (D3.out.on b4 D3.out.lt)
 have O4 := Hid.mk (hOw.on b4)
 have HEB : Hid (∀ g, (Value.slice eA em ec).ownBlock = some g → g < w3.heap.size) := fun g hg => (hOw.lt g hg).2
 clear b4 K3 D3 B3 hOw
 have y0 := D4.out.cell 0 _ rfl
 have y1 := D4.out.cell 1 _ rfl
 have y2 := D4.out.cell 2 _ rfl
 have y3 := D4.out.cell 3 _ rfl
 have y4 := D4.out.cell 4 _ rfl
 have c1 := cL ⟨#[115, 110, 97, 112]⟩ _ B4.out
 rw [show loadR d ⟨#[115, 110, 97, 112]⟩ = loadR d snapN from rfl, HS0.out] at c1
 go_wp2_with fail
 obtain ⟨pw, hpw⟩ : ∃ pw, pw = w3.heap.size := ⟨_, rfl⟩
 obtain ⟨ps, hps⟩ : ∃ ps, ps = w3.heap.size + 1 := ⟨_, rfl⟩
 have HPS : Hid (ps = pw + 1) := by unfold Hid; rw [hps, hpw]
 rw [← hps, ← hpw]
 rw [← hps] at KS
 rw [← hpw] at KW HP1 HEB
 clear hps hpw
 generalize (w3.alloc (.cells #[.int .i64 x.term, .int .i64 x.vote, .int .i64 x.base, .int .i64 x.bterm, .slice eA em ec] 30)).alloc (.cells #[.int .i64 0, .int .i64 0, .string ⟨#[]⟩] 32) = X at *
 refine c1.mono ?_
 rintro e w5 ⟨rfl, hb⟩
 have B5 : Hid (Below w.heap.size w w5) := B4.out.trans (hb.mono B4.out.size)
 have K5 := Hid.mk (K4.out.on hb K4.out.lt)
 have D5 := Hid.mk (D4.out.on hb D4.out.lt)
 have W5 := Hid.mk (KW.out.on hb KW.out.lt)
 have S5 := Hid.mk (KS.out.on hb KS.out.lt)
 have O5 := Hid.mk (O4.out.on hb)
 clear hb y0 y1 y2 y3 y4 K4 D4 B4 O4 KW KS c1
 generalize (loadR d snapN).1 = sx at *
 clear HS0
 generalize snR d = sn at *
 obtain ⟨s, fine⟩ := sn
 simp only at *
 have HSE : Hid (s = sn0) := by have e := HSD.out; simp at e; exact e.1
 obtain rfl : fine = true := by have e := HSD.out; simp at e; exact e.2
 obtain rfl : ok = false := by have := HCS.out; simpa using this
 have HR : Hid (recR d = (kp0, 2)) := HRB.out (by simp)
 have S6 : Hid (Blk w5 ps #[.int .i64 s.index, .int .i64 s.term, .string s.data] 32) := by have e := HSE.out; unfold Hid; rw [e]; exact S5.out
 have W6 := W5
 have O6 := O5
 have K6 := K5
 have D6 := D5
 have B6 := B5
 clear W5 O5 K5 S5 D5 B5
 go_upto_region 13 with fail
 generalize w5 = w6 at *
 clear HRY HRB
 have q0 := W6.out.cell 0 _ rfl
 have q1 := W6.out.cell 1 _ rfl
 have q2 := W6.out.cell 2 _ rfl
 have q3 := W6.out.cell 3 _ rfl
 have q4 := W6.out.cell 4 _ rfl
 have s0 := S6.out.cell 0 _ rfl
 have s1 := S6.out.cell 1 _ rfl
 have s2 := S6.out.cell 2 _ rfl
 obtain ⟨⟨r0, f0⟩, ⟨r1, f1⟩, ⟨r2, f2⟩, ⟨r3, f3⟩, ⟨r4, f4⟩, ⟨r5, f5⟩, ⟨r6, f6⟩, ⟨r7, f7⟩, ⟨r8, f8⟩, y0, y1, y2, y3, y4, y5, y6, y7, y8⟩ := resC9 (x0 := .int .i64 0) (x1 := .int .i64 0) (x2 := .int .i64 0) (x3 := .int .i64 0) (x4 := .slice none 0 0) (x5 := .int .i64 0) (x6 := .int .i64 0) (x7 := .string ⟨#[]⟩) (x8 := .bool false) K6.out
 have BE := Hid.mk (belowC9 B6.out (show w.heap.size ≤ w.heap.size + 1 by omega) (.int .i64 0) (.int .i64 0) (.int .i64 0) (.int .i64 0) (.slice none 0 0) (.int .i64 0) (.int .i64 0) (.string ⟨#[]⟩) (.bool false))
 go_wp2_with fail
 exact bodyPost_ret (v := .tuple #[.agg #[.int .i64 0, .int .i64 0, .int .i64 0, .int .i64 0, .slice none 0 0, .int .i64 0, .int .i64 0, .string ⟨#[]⟩, .bool false], .int .i64 2]) (by simp [results, go_sem, y0, y1, y2, y3, y4, y5, y6, y7, y8]) rfl ⟨⟨_, by rw [HR.out], .slice none 0 0, by rw [HR.out]; rfl, by rw [HR.out]; exact Lies.nilS _ _⟩, BE.out⟩
end Go.Proofs.YtdimaoloapbeoaaGreatDoor
namespace Go.Proofs.YtdimaoloapbeoaaGreatDoor
open Go.ChangeShapes Go.WideShapes Go.ChangeAt Go.RowKit Go.PlainAid
set_option linter.unusedVariables false
set_option maxRecDepth 20000 in
set_option maxHeartbeats 16000000 in
theorem specRec_tno (d : Dsk) (v : Value) (w : World) (B : Nat) (hv : DiskV w B v d) (hf : Fits d) (hw : wtD d ≤ 1048576) (hB : B ≤ w.heap.size) (hok : diskOk d = true) (hl : (loadR d logN).2 = true) (hsn : (loadR d snapN).2 = true) (hcs : ((repS (loadR d logN).1).2.2 && (snR d).2) = false) :
  Calls Tryz.prog 5 #[v] w fun e w' => (∃ u, e = .returned (.tuple #[u, .int .i64 (recR d).2]) ∧ KptV w' w'.heap.size u (recR d).1) ∧ Below w.heap.size w w' := by
 have HCS : Hid (((repS (loadR d logN).1).2.2 && (snR d).2) = false) := hcs
 have HOK0 : Hid (diskOk d = true) := hok
 have HL0 : Hid ((loadR d logN).2 = true) := hl
 have HS0 : Hid ((loadR d snapN).2 = true) := hsn
 clear hcs hok hl hsn
 have HV : Hid (DiskV w B v d) := hv
 have HB : Hid (B ≤ w.heap.size) := hB
 have HW : Hid (wtD d ≤ 1048576) := hw
 obtain ⟨v1, v2, v3, rfl, h1, h2, h3⟩ := hv
 have cO := fun wx hx hb => specOkV d (.agg #[.int .i64 d.room, .int .i64 d.next, v1, v2, v3]) wx B hx hf hw hb
 have cL := fun nm wx (h : Below w.heap.size w wx) => specLoadV d (.agg #[.int .i64 d.room, .int .i64 d.next, v1, v2, v3]) nm wx B (HV.out.on (h.mono HB.out)) hf hw (Nat.le_trans HB.out h.size)
 rw [HOK0.out] at cO
 clear h1 h2 h3 hB hf hw
 have hb0 : Below w.heap.size w ((w.alloc (.cells #[.int .i64 d.room, .int .i64 d.next, v1, v2, v3] 41)).alloc (.cells #[.int .i64 0, .int .i64 0, .int .i64 0, .int .i64 0, .slice none 0 0, .int .i64 0, .int .i64 0, .string ⟨#[]⟩, .bool false] 34)) := below_r2 _ _ _
 have k0 := Blk.new (w.alloc (.cells #[.int .i64 d.room, .int .i64 d.next, v1, v2, v3] 41)) #[.int .i64 0, .int .i64 0, .int .i64 0, .int .i64 0, .slice none 0 0, .int .i64 0, .int .i64 0, .string ⟨#[]⟩, .bool false] 34
 rw [World.size_alloc] at k0
 have kd := (Blk.new w #[.int .i64 d.room, .int .i64 d.next, v1, v2, v3] 41).alloc (.cells #[.int .i64 0, .int .i64 0, .int .i64 0, .int .i64 0, .slice none 0 0, .int .i64 0, .int .i64 0, .string ⟨#[]⟩, .bool false] 34)
 have y0 := kd.cell 0 _ rfl
 have y1 := kd.cell 1 _ rfl
 have y2 := kd.cell 2 _ rfl
 have y3 := kd.cell 3 _ rfl
 have y4 := kd.cell 4 _ rfl
 go_enter Tryz.func5, Tryz.ntmps5
 go_wp2_with fail
 clear y0 y1 y2 y3 y4
 generalize (w.alloc (.cells #[.int .i64 d.room, .int .i64 d.next, v1, v2, v3] 41)).alloc (.cells #[.int .i64 0, .int .i64 0, .int .i64 0, .int .i64 0, .slice none 0 0, .int .i64 0, .int .i64 0, .string ⟨#[]⟩, .bool false] 34) = W at *
 have B0 : Hid (Below w.heap.size w W) := hb0
 refine (cO W (HV.out.on (B0.out.mono HB.out)) (Nat.le_trans HB.out B0.out.size)).mono ?_
 rintro e w1 ⟨rfl, hb⟩
 have B1 : Hid (Below w.heap.size w w1) := B0.out.trans (hb.mono B0.out.size)
 have K1 := Hid.mk (k0.on hb k0.lt)
 have D1 := Hid.mk (kd.on hb kd.lt)
 clear hb cO hb0 k0 kd
 have HOK := HOK0
 have y0 := D1.out.cell 0 _ rfl
 have y1 := D1.out.cell 1 _ rfl
 have y2 := D1.out.cell 2 _ rfl
 have y3 := D1.out.cell 3 _ rfl
 have y4 := D1.out.cell 4 _ rfl
 have c1 := cL ⟨#[108, 111, 103]⟩ w1 B1.out
 rw [show loadR d ⟨#[108, 111, 103]⟩ = loadR d logN from rfl, HL0.out] at c1
 go_wp2_with fail
 refine c1.mono ?_
 rintro e w2 ⟨rfl, hb⟩
 have B2h : Hid (Below w.heap.size w w2) := B1.out.trans (hb.mono B1.out.size)
 have K2 := Hid.mk (K1.out.on hb K1.out.lt)
 have D2 := Hid.mk (D1.out.on hb D1.out.lt)
 clear hb y0 y1 y2 y3 y4 K1 D1 B1 c1
 have HRB := Hid.mk (@recR_no d HOK.out HL0.out)
 have HRY := Hid.mk (@recR_yes d HOK.out HL0.out)
 have HSZ : Hid ((loadR d logN).1.size ≤ 1048576) := loadR_size HW.out
 have HSN := Hid.mk (snR_in d)
 have HSD : Hid (snR d = rdSn (loadR d snapN).1) := by unfold Hid snR; rw [HS0.out]; rfl
 have HSS : Hid ((loadR d snapN).1.size ≤ 1048576) := loadR_size HW.out
 generalize (loadR d logN).1 = tx at *
 go_wp2_with fail
 refine (specReplay tx w2 HSZ.out).mono ?_
 rintro e w3 ⟨K, vw, hE, rfl, hWO, hb2⟩
 rw [repS_eq hE] at hWO ⊢
 have HRO := Hid.mk (repS_ok tx)
 generalize repS tx = rs at *
 obtain ⟨x, n, ok⟩ := rs
 simp only at *
 obtain ⟨eu, rfl, hOw⟩ := hWO
 obtain ⟨eA, em, ec, rfl⟩ := hOw.shape
 have B3 : Hid (Below w.heap.size w w3) := B2h.out.trans (hb2.mono B2h.out.size)
 have K3 := Hid.mk (K2.out.on hb2 K2.out.lt)
 have D3 := Hid.mk (D2.out.on hb2 D2.out.lt)
 have HK2 : Hid (w.heap.size + 1 < w2.heap.size) := K2.out.lt
 have HP1 : Hid (w2.heap.size ≤ w3.heap.size) := hb2.size
 clear hE hb2 K2 D2 B2h
 have b4 : Below w3.heap.size w3 ((w3.alloc (.cells #[.int .i64 x.term, .int .i64 x.vote, .int .i64 x.base, .int .i64 x.bterm, .slice eA em ec] 30)).alloc (.cells #[.int .i64 0, .int .i64 0, .string ⟨#[]⟩] 32)) := below_r2 _ _ _
 have KW := Hid.mk ((Blk.new w3 #[.int .i64 x.term, .int .i64 x.vote, .int .i64 x.base, .int .i64 x.bterm, .slice eA em ec] 30).alloc (.cells #[.int .i64 0, .int .i64 0, .string ⟨#[]⟩] 32))
 have KS : Hid (Blk ((w3.alloc (.cells #[.int .i64 x.term, .int .i64 x.vote, .int .i64 x.base, .int .i64 x.bterm, .slice eA em ec] 30)).alloc (.cells #[.int .i64 0, .int .i64 0, .string ⟨#[]⟩] 32)) (w3.heap.size + 1) #[.int .i64 0, .int .i64 0, .string ⟨#[]⟩] 32) := by
  have h := Blk.new (w3.alloc (.cells #[.int .i64 x.term, .int .i64 x.vote, .int .i64 x.base, .int .i64 x.bterm, .slice eA em ec] 30)) #[.int .i64 0, .int .i64 0, .string ⟨#[]⟩] 32
  rw [World.size_alloc] at h
  exact h
 have B4 : Hid (Below w.heap.size w ((w3.alloc (.cells #[.int .i64 x.term, .int .i64 x.vote, .int .i64 x.base, .int .i64 x.bterm, .slice eA em ec] 30)).alloc (.cells #[.int .i64 0, .int .i64 0, .string ⟨#[]⟩] 32))) := B3.out.trans (b4.mono B3.out.size)
 have K4 := Hid.mk (K3.out.on b4 K3.out.lt)
 have D4 := Hid.mk (D3.out.on b4 D3.out.lt)
 have O4 := Hid.mk (hOw.on b4)
 have HEB : Hid (∀ g, (Value.slice eA em ec).ownBlock = some g → g < w3.heap.size) := fun g hg => (hOw.lt g hg).2
 clear b4 K3 D3 B3 hOw
 have y0 := D4.out.cell 0 _ rfl
 have y1 := D4.out.cell 1 _ rfl
 have y2 := D4.out.cell 2 _ rfl
 have y3 := D4.out.cell 3 _ rfl
 have y4 := D4.out.cell 4 _ rfl
 have c1 := cL ⟨#[115, 110, 97, 112]⟩ _ B4.out
 rw [show loadR d ⟨#[115, 110, 97, 112]⟩ = loadR d snapN from rfl, HS0.out] at c1
 go_wp2_with fail
 obtain ⟨pw, hpw⟩ : ∃ pw, pw = w3.heap.size := ⟨_, rfl⟩
 obtain ⟨ps, hps⟩ : ∃ ps, ps = w3.heap.size + 1 := ⟨_, rfl⟩
 have HPS : Hid (ps = pw + 1) := by unfold Hid; rw [hps, hpw]
 rw [← hps, ← hpw]
 rw [← hps] at KS
 rw [← hpw] at KW HP1 HEB
 clear hps hpw
 generalize (w3.alloc (.cells #[.int .i64 x.term, .int .i64 x.vote, .int .i64 x.base, .int .i64 x.bterm, .slice eA em ec] 30)).alloc (.cells #[.int .i64 0, .int .i64 0, .string ⟨#[]⟩] 32) = X at *
 refine c1.mono ?_
 rintro e w5 ⟨rfl, hb⟩
 have B5 : Hid (Below w.heap.size w w5) := B4.out.trans (hb.mono B4.out.size)
 have K5 := Hid.mk (K4.out.on hb K4.out.lt)
 have D5 := Hid.mk (D4.out.on hb D4.out.lt)
 have W5 := Hid.mk (KW.out.on hb KW.out.lt)
 have S5 := Hid.mk (KS.out.on hb KS.out.lt)
 have O5 := Hid.mk (O4.out.on hb)
 clear hb y0 y1 y2 y3 y4 K4 D4 B4 O4 KW KS c1
 generalize (loadR d snapN).1 = sx at *
 clear HS0
 generalize snR d = sn at *
 obtain ⟨s, fine⟩ := sn
 simp only at *
 have HSX : Hid ((s, fine) = rdSn sx) := HSD.out
 have cR := fun wx => specReadSnap sx wx HSS.out
 rw [readSn_eq, ← HSX.out] at cR
 unfold vSnp at cR
 simp only at cR
 go_wp2_with fail
 refine (cR _).mono ?_
 rintro e wq ⟨rfl, hb⟩
 have B6 : Hid (Below w.heap.size w wq) := B5.out.trans (hb.mono B5.out.size)
 have b7 : Below wq.heap.size wq (wq.alloc (.cells #[.int .i64 s.index, .int .i64 s.term, .string s.data] 32)) := (Below.refl _ _).alloc (Nat.le_refl _) _
 have B7 : Hid (Below w.heap.size w (wq.alloc (.cells #[.int .i64 s.index, .int .i64 s.term, .string s.data] 32))) := B6.out.trans (b7.mono B6.out.size)
 have hx := hb.trans (b7.mono hb.size)
 have K7 := Hid.mk (K5.out.on hx K5.out.lt)
 have D7 := Hid.mk (D5.out.on hx D5.out.lt)
 have W7 := Hid.mk (W5.out.on hx W5.out.lt)
 have S7 := Hid.mk (S5.out.on hx S5.out.lt)
 have O7 := Hid.mk (O5.out.on hx)
 have N7 := Hid.mk (Blk.new wq #[.int .i64 s.index, .int .i64 s.term, .string s.data] 32)
 clear hb b7 hx B6
 have q0 := N7.out.cell 0 _ rfl
 have q1 := N7.out.cell 1 _ rfl
 have q2 := N7.out.cell 2 _ rfl
 have h1 : Blk ((wq.alloc (.cells #[.int .i64 s.index, .int .i64 s.term, .string s.data] 32)).setCell ⟨ps, 0, none⟩ (.int .i64 s.index)) ps #[.int .i64 s.index, .int .i64 0, .string ⟨#[]⟩] 32 := S7.out.set 0 _
 have h2 : Blk (((wq.alloc (.cells #[.int .i64 s.index, .int .i64 s.term, .string s.data] 32)).setCell ⟨ps, 0, none⟩ (.int .i64 s.index)).setCell ⟨ps, 1, none⟩ (.int .i64 s.term)) ps #[.int .i64 s.index, .int .i64 s.term, .string ⟨#[]⟩] 32 := h1.set 1 _
 have h3 : Blk ((((wq.alloc (.cells #[.int .i64 s.index, .int .i64 s.term, .string s.data] 32)).setCell ⟨ps, 0, none⟩ (.int .i64 s.index)).setCell ⟨ps, 1, none⟩ (.int .i64 s.term)).setCell ⟨ps, 2, none⟩ (.string s.data)) ps #[.int .i64 s.index, .int .i64 s.term, .string s.data] 32 := h2.set 2 _
 have r0 := S7.out.cell 0 _ rfl
 have r1 := h1.cell 1 _ rfl
 have r2 := h2.cell 2 _ rfl
 have f0 := S7.out.free 0
 have f1 := h1.free 1
 have f2 := h2.free 2
 have H3 := Hid.mk h3
 have n1 : pw ≠ ps := by have := HPS.out; omega
 have n2 : w.heap.size + 1 ≠ ps := by have := HPS.out; have := HK2.out; have := HP1.out; omega
 have n3 : w.heap.size ≠ ps := by have := HPS.out; have := HK2.out; have := HP1.out; omega
 have n4 : w.heap.size ≤ ps := by have := HPS.out; have := HK2.out; have := HP1.out; omega
 have R := Hid.mk (And.intro (((W7.out.other n1 0 (.int .i64 s.index)).other n1 1 (.int .i64 s.term)).other n1 2 (.string s.data)) (And.intro (((O7.out.other (O7.out.notBlk S7.out (by decide)) 0 (.int .i64 s.index)).other (O7.out.notBlk S7.out (by decide)) 1 (.int .i64 s.term)).other (O7.out.notBlk S7.out (by decide)) 2 (.string s.data)) (And.intro (((K7.out.other n2 0 (.int .i64 s.index)).other n2 1 (.int .i64 s.term)).other n2 2 (.string s.data)) (And.intro (((D7.out.other n3 0 (.int .i64 s.index)).other n3 1 (.int .i64 s.term)).other n3 2 (.string s.data)) (((B7.out.setCell (p := ⟨ps, 0, none⟩) n4 (.int .i64 s.index)).setCell (p := ⟨ps, 1, none⟩) n4 (.int .i64 s.term)).setCell (p := ⟨ps, 2, none⟩) n4 (.string s.data))))))
 clear h1 h2 h3 n1 n2 n3 n4
 cases ok with
 | false =>
  have HR : Hid (recR d = (kp0, 2)) := HRB.out (by simp)
  go_upto_region 13 with fail
  obtain ⟨g1, g2, g3, g4, g5⟩ := R.out
  have W6 := Hid.mk g1
  have O6 := Hid.mk g2
  have K6 := Hid.mk g3
  have S6 := H3
  have D6 := Hid.mk g4
  have B6 := Hid.mk g5
  clear g1 g2 g3 g4 g5 R H3 q0 q1 q2 r0 r1 r2 f0 f1 f2 W5 O5 K5 S5 D5 B5 W7 O7 K7 S7 D7 B7 N7
  generalize ((((wq.alloc (.cells #[.int .i64 s.index, .int .i64 s.term, .string s.data] 32)).setCell ⟨ps, 0, none⟩ (.int .i64 s.index)).setCell ⟨ps, 1, none⟩ (.int .i64 s.term)).setCell ⟨ps, 2, none⟩ (.string s.data)) = w6 at *
  clear HRY HRB
  obtain ⟨⟨r0, f0⟩, ⟨r1, f1⟩, ⟨r2, f2⟩, ⟨r3, f3⟩, ⟨r4, f4⟩, ⟨r5, f5⟩, ⟨r6, f6⟩, ⟨r7, f7⟩, ⟨r8, f8⟩, y0, y1, y2, y3, y4, y5, y6, y7, y8⟩ := resC9 (x0 := .int .i64 0) (x1 := .int .i64 0) (x2 := .int .i64 0) (x3 := .int .i64 0) (x4 := .slice none 0 0) (x5 := .int .i64 0) (x6 := .int .i64 0) (x7 := .string ⟨#[]⟩) (x8 := .bool false) K6.out
  have BE := Hid.mk (belowC9 B6.out (show w.heap.size ≤ w.heap.size + 1 by omega) (.int .i64 0) (.int .i64 0) (.int .i64 0) (.int .i64 0) (.slice none 0 0) (.int .i64 0) (.int .i64 0) (.string ⟨#[]⟩) (.bool false))
  go_wp2_with fail
  exact bodyPost_ret (v := .tuple #[.agg #[.int .i64 0, .int .i64 0, .int .i64 0, .int .i64 0, .slice none 0 0, .int .i64 0, .int .i64 0, .string ⟨#[]⟩, .bool false], .int .i64 2]) (by simp [results, go_sem, y0, y1, y2, y3, y4, y5, y6, y7, y8]) rfl ⟨⟨_, by rw [HR.out], .slice none 0 0, by rw [HR.out]; rfl, by rw [HR.out]; exact Lies.nilS _ _⟩, BE.out⟩
 | true =>
  obtain rfl : fine = false := by have := HCS.out; simpa using this
  have HR : Hid (recR d = (kp0, 2)) := HRB.out (by simp)
  go_upto_region 13 with fail
  obtain ⟨g1, g2, g3, g4, g5⟩ := R.out
  have W6 := Hid.mk g1
  have O6 := Hid.mk g2
  have K6 := Hid.mk g3
  have S6 := H3
  have D6 := Hid.mk g4
  have B6 := Hid.mk g5
  clear g1 g2 g3 g4 g5 R H3 q0 q1 q2 r0 r1 r2 f0 f1 f2 W5 O5 K5 S5 D5 B5 W7 O7 K7 S7 D7 B7 N7
  generalize ((((wq.alloc (.cells #[.int .i64 s.index, .int .i64 s.term, .string s.data] 32)).setCell ⟨ps, 0, none⟩ (.int .i64 s.index)).setCell ⟨ps, 1, none⟩ (.int .i64 s.term)).setCell ⟨ps, 2, none⟩ (.string s.data)) = w6 at *
  clear HRY HRB
  obtain ⟨⟨r0, f0⟩, ⟨r1, f1⟩, ⟨r2, f2⟩, ⟨r3, f3⟩, ⟨r4, f4⟩, ⟨r5, f5⟩, ⟨r6, f6⟩, ⟨r7, f7⟩, ⟨r8, f8⟩, y0, y1, y2, y3, y4, y5, y6, y7, y8⟩ := resC9 (x0 := .int .i64 0) (x1 := .int .i64 0) (x2 := .int .i64 0) (x3 := .int .i64 0) (x4 := .slice none 0 0) (x5 := .int .i64 0) (x6 := .int .i64 0) (x7 := .string ⟨#[]⟩) (x8 := .bool false) K6.out
  have BE := Hid.mk (belowC9 B6.out (show w.heap.size ≤ w.heap.size + 1 by omega) (.int .i64 0) (.int .i64 0) (.int .i64 0) (.int .i64 0) (.slice none 0 0) (.int .i64 0) (.int .i64 0) (.string ⟨#[]⟩) (.bool false))
  go_wp2_with fail
  exact bodyPost_ret (v := .tuple #[.agg #[.int .i64 0, .int .i64 0, .int .i64 0, .int .i64 0, .slice none 0 0, .int .i64 0, .int .i64 0, .string ⟨#[]⟩, .bool false], .int .i64 2]) (by simp [results, go_sem, y0, y1, y2, y3, y4, y5, y6, y7, y8]) rfl ⟨⟨_, by rw [HR.out], .slice none 0 0, by rw [HR.out]; rfl, by rw [HR.out]; exact Lies.nilS _ _⟩, BE.out⟩
end Go.Proofs.YtdimaoloapbeoaaGreatDoor
namespace Go.Proofs.YtdimaoloapbeoaaGreatDoor
open Go.ChangeShapes Go.WideShapes Go.ChangeAt Go.RowKit Go.PlainAid
set_option linter.unusedVariables false
set_option maxRecDepth 20000 in
set_option maxHeartbeats 16000000 in
theorem specRec_cgt (d : Dsk) (v : Value) (w : World) (B : Nat) (hv : DiskV w B v d) (hf : Fits d) (hw : wtD d ≤ 1048576) (hB : B ≤ w.heap.size) (hok : diskOk d = true) (hl : (loadR d logN).2 = true) (hcs : (repS (loadR d logN).1).2.2 = true ∧ (snR d).2 = true ∧ (snR d).1.index < (repS (loadR d logN).1).1.base) :
  Calls Tryz.prog 5 #[v] w fun e w' => (∃ u, e = .returned (.tuple #[u, .int .i64 (recR d).2]) ∧ KptV w' w'.heap.size u (recR d).1) ∧ Below w.heap.size w w' := by
 have HCS : Hid ((repS (loadR d logN).1).2.2 = true ∧ (snR d).2 = true ∧ (snR d).1.index < (repS (loadR d logN).1).1.base) := hcs
 have HOK0 : Hid (diskOk d = true) := hok
 have HL0 : Hid ((loadR d logN).2 = true) := hl
 clear hcs hok hl
 have HV : Hid (DiskV w B v d) := hv
 have HB : Hid (B ≤ w.heap.size) := hB
 have HW : Hid (wtD d ≤ 1048576) := hw
 obtain ⟨v1, v2, v3, rfl, h1, h2, h3⟩ := hv
 have cO := fun wx hx hb => specOkV d (.agg #[.int .i64 d.room, .int .i64 d.next, v1, v2, v3]) wx B hx hf hw hb
 have cL := fun nm wx (h : Below w.heap.size w wx) => specLoadV d (.agg #[.int .i64 d.room, .int .i64 d.next, v1, v2, v3]) nm wx B (HV.out.on (h.mono HB.out)) hf hw (Nat.le_trans HB.out h.size)
 rw [HOK0.out] at cO
 clear h1 h2 h3 hB hf hw
 have hb0 : Below w.heap.size w ((w.alloc (.cells #[.int .i64 d.room, .int .i64 d.next, v1, v2, v3] 41)).alloc (.cells #[.int .i64 0, .int .i64 0, .int .i64 0, .int .i64 0, .slice none 0 0, .int .i64 0, .int .i64 0, .string ⟨#[]⟩, .bool false] 34)) := below_r2 _ _ _
 have k0 := Blk.new (w.alloc (.cells #[.int .i64 d.room, .int .i64 d.next, v1, v2, v3] 41)) #[.int .i64 0, .int .i64 0, .int .i64 0, .int .i64 0, .slice none 0 0, .int .i64 0, .int .i64 0, .string ⟨#[]⟩, .bool false] 34
 rw [World.size_alloc] at k0
 have kd := (Blk.new w #[.int .i64 d.room, .int .i64 d.next, v1, v2, v3] 41).alloc (.cells #[.int .i64 0, .int .i64 0, .int .i64 0, .int .i64 0, .slice none 0 0, .int .i64 0, .int .i64 0, .string ⟨#[]⟩, .bool false] 34)
 have y0 := kd.cell 0 _ rfl
 have y1 := kd.cell 1 _ rfl
 have y2 := kd.cell 2 _ rfl
 have y3 := kd.cell 3 _ rfl
 have y4 := kd.cell 4 _ rfl
 go_enter Tryz.func5, Tryz.ntmps5
 go_wp2_with fail
 clear y0 y1 y2 y3 y4
 generalize (w.alloc (.cells #[.int .i64 d.room, .int .i64 d.next, v1, v2, v3] 41)).alloc (.cells #[.int .i64 0, .int .i64 0, .int .i64 0, .int .i64 0, .slice none 0 0, .int .i64 0, .int .i64 0, .string ⟨#[]⟩, .bool false] 34) = W at *
 have B0 : Hid (Below w.heap.size w W) := hb0
 refine (cO W (HV.out.on (B0.out.mono HB.out)) (Nat.le_trans HB.out B0.out.size)).mono ?_
 rintro e w1 ⟨rfl, hb⟩
 have B1 : Hid (Below w.heap.size w w1) := B0.out.trans (hb.mono B0.out.size)
 have K1 := Hid.mk (k0.on hb k0.lt)
 have D1 := Hid.mk (kd.on hb kd.lt)
 clear hb cO hb0 k0 kd
 have HOK := HOK0
 have y0 := D1.out.cell 0 _ rfl
 have y1 := D1.out.cell 1 _ rfl
 have y2 := D1.out.cell 2 _ rfl
 have y3 := D1.out.cell 3 _ rfl
 have y4 := D1.out.cell 4 _ rfl
 have c1 := cL ⟨#[108, 111, 103]⟩ w1 B1.out
 rw [show loadR d ⟨#[108, 111, 103]⟩ = loadR d logN from rfl, HL0.out] at c1
 go_wp2_with fail
 refine c1.mono ?_
 rintro e w2 ⟨rfl, hb⟩
 have B2h : Hid (Below w.heap.size w w2) := B1.out.trans (hb.mono B1.out.size)
 have K2 := Hid.mk (K1.out.on hb K1.out.lt)
 have D2 := Hid.mk (D1.out.on hb D1.out.lt)
 clear hb y0 y1 y2 y3 y4 K1 D1 B1 c1
 have HRB := Hid.mk (@recR_no d HOK.out HL0.out)
 have HRY := Hid.mk (@recR_yes d HOK.out HL0.out)
 have HSZ : Hid ((loadR d logN).1.size ≤ 1048576) := loadR_size HW.out
 have HSN := Hid.mk (snR_in d)
 have HSD : Hid (snR d = if (loadR d snapN).2 = true then rdSn (loadR d snapN).1 else (sn0, true)) := rfl
 have HSS : Hid ((loadR d snapN).1.size ≤ 1048576) := loadR_size HW.out
 generalize (loadR d logN).1 = tx at *
 go_wp2_with fail
 refine (specReplay tx w2 HSZ.out).mono ?_
 rintro e w3 ⟨K, vw, hE, rfl, hWO, hb2⟩
 rw [repS_eq hE] at hWO ⊢
 have HRO := Hid.mk (repS_ok tx)
 generalize repS tx = rs at *
 obtain ⟨x, n, ok⟩ := rs
 simp only at *
 obtain ⟨eu, rfl, hOw⟩ := hWO
 obtain ⟨eA, em, ec, rfl⟩ := hOw.shape
 have B3 : Hid (Below w.heap.size w w3) := B2h.out.trans (hb2.mono B2h.out.size)
 have K3 := Hid.mk (K2.out.on hb2 K2.out.lt)
 have D3 := Hid.mk (D2.out.on hb2 D2.out.lt)
 have HK2 : Hid (w.heap.size + 1 < w2.heap.size) := K2.out.lt
 have HP1 : Hid (w2.heap.size ≤ w3.heap.size) := hb2.size
 clear hE hb2 K2 D2 B2h
 have b4 : Below w3.heap.size w3 ((w3.alloc (.cells #[.int .i64 x.term, .int .i64 x.vote, .int .i64 x.base, .int .i64 x.bterm, .slice eA em ec] 30)).alloc (.cells #[.int .i64 0, .int .i64 0, .string ⟨#[]⟩] 32)) := below_r2 _ _ _
 have KW := Hid.mk ((Blk.new w3 #[.int .i64 x.term, .int .i64 x.vote, .int .i64 x.base, .int .i64 x.bterm, .slice eA em ec] 30).alloc (.cells #[.int .i64 0, .int .i64 0, .string ⟨#[]⟩] 32))
 have KS : Hid (Blk ((w3.alloc (.cells #[.int .i64 x.term, .int .i64 x.vote, .int .i64 x.base, .int .i64 x.bterm, .slice eA em ec] 30)).alloc (.cells #[.int .i64 0, .int .i64 0, .string ⟨#[]⟩] 32)) (w3.heap.size + 1) #[.int .i64 0, .int .i64 0, .string ⟨#[]⟩] 32) := by
  have h := Blk.new (w3.alloc (.cells #[.int .i64 x.term, .int .i64 x.vote, .int .i64 x.base, .int .i64 x.bterm, .slice eA em ec] 30)) #[.int .i64 0, .int .i64 0, .string ⟨#[]⟩] 32
  rw [World.size_alloc] at h
  exact h
 have B4 : Hid (Below w.heap.size w ((w3.alloc (.cells #[.int .i64 x.term, .int .i64 x.vote, .int .i64 x.base, .int .i64 x.bterm, .slice eA em ec] 30)).alloc (.cells #[.int .i64 0, .int .i64 0, .string ⟨#[]⟩] 32))) := B3.out.trans (b4.mono B3.out.size)
 have K4 := Hid.mk (K3.out.on b4 K3.out.lt)
 have D4 := Hid.mk (D3.out.on b4 D3.out.lt)
 have O4 := Hid.mk (hOw.on b4)
 have HEB : Hid (∀ g, (Value.slice eA em ec).ownBlock = some g → g < w3.heap.size) := fun g hg => (hOw.lt g hg).2
 clear b4 K3 D3 B3 hOw
 have y0 := D4.out.cell 0 _ rfl
 have y1 := D4.out.cell 1 _ rfl
 have y2 := D4.out.cell 2 _ rfl
 have y3 := D4.out.cell 3 _ rfl
 have y4 := D4.out.cell 4 _ rfl
 have c1 := cL ⟨#[115, 110, 97, 112]⟩ _ B4.out
 rw [show loadR d ⟨#[115, 110, 97, 112]⟩ = loadR d snapN from rfl] at c1
 go_wp2_with fail
 obtain ⟨pw, hpw⟩ : ∃ pw, pw = w3.heap.size := ⟨_, rfl⟩
 obtain ⟨ps, hps⟩ : ∃ ps, ps = w3.heap.size + 1 := ⟨_, rfl⟩
 have HPS : Hid (ps = pw + 1) := by unfold Hid; rw [hps, hpw]
 rw [← hps, ← hpw]
 rw [← hps] at KS
 rw [← hpw] at KW HP1 HEB
 clear hps hpw
 generalize (w3.alloc (.cells #[.int .i64 x.term, .int .i64 x.vote, .int .i64 x.base, .int .i64 x.bterm, .slice eA em ec] 30)).alloc (.cells #[.int .i64 0, .int .i64 0, .string ⟨#[]⟩] 32) = X at *
 refine c1.mono ?_
 rintro e w5 ⟨rfl, hb⟩
 have B5 : Hid (Below w.heap.size w w5) := B4.out.trans (hb.mono B4.out.size)
 have K5 := Hid.mk (K4.out.on hb K4.out.lt)
 have D5 := Hid.mk (D4.out.on hb D4.out.lt)
 have W5 := Hid.mk (KW.out.on hb KW.out.lt)
 have S5 := Hid.mk (KS.out.on hb KS.out.lt)
 have O5 := Hid.mk (O4.out.on hb)
 clear hb y0 y1 y2 y3 y4 K4 D4 B4 O4 KW KS c1
 generalize (loadR d snapN).1 = sx at *
 generalize (loadR d snapN).2 = hs at *
 generalize snR d = sn at *
 obtain ⟨s, fine⟩ := sn
 simp only at *
 obtain ⟨rfl, rfl, hc⟩ := HCS.out
 have HC2 := Hid.mk hc
 clear hc
 go_upto_if 44 with fail
 go_cut [8, 12, 13] from 45 to 54 (fun s8 s12 s13 wc => s8 = .bool true ∧ Blk wc pw #[.int .i64 x.term, .int .i64 x.vote, .int .i64 x.base, .int .i64 x.bterm, .slice eA em ec] 30 ∧ Owns wc w2.heap.size 59 2 (.slice eA em ec) (entR x.ents) ∧ Blk wc (w.heap.size + 1) #[.int .i64 0, .int .i64 0, .int .i64 0, .int .i64 0, .slice none 0 0, .int .i64 0, .int .i64 0, .string ⟨#[]⟩, .bool false] 34 ∧ Blk wc ps #[.int .i64 s.index, .int .i64 s.term, .string s.data] 32 ∧ Blk wc w.heap.size #[.int .i64 d.room, .int .i64 d.next, v1, v2, v3] 41 ∧ Below w.heap.size w wc)
 case first =>
  cases hs with
  | false =>
   have hsn : (s, true) = (sn0, true) := HSD.out
   cases hsn
   go_wp2_with fail
   go_meet
   exact ⟨by trivial, W5.out, O5.out, K5.out, S5.out, D5.out, B5.out⟩
  | true =>
   have hsn : (s, true) = rdSn sx := HSD.out
   have cR := fun wx => specReadSnap sx wx HSS.out
   rw [readSn_eq, ← hsn] at cR
   unfold vSnp at cR
   simp only at cR
   clear hsn
   go_wp2_with fail
   refine (cR _).mono ?_
   rintro e w6 ⟨rfl, hb⟩
   have B6 : Hid (Below w.heap.size w w6) := B5.out.trans (hb.mono B5.out.size)
   have b7 : Below w6.heap.size w6 (w6.alloc (.cells #[.int .i64 s.index, .int .i64 s.term, .string s.data] 32)) := (Below.refl _ _).alloc (Nat.le_refl _) _
   have B7 : Hid (Below w.heap.size w (w6.alloc (.cells #[.int .i64 s.index, .int .i64 s.term, .string s.data] 32))) := B6.out.trans (b7.mono B6.out.size)
   have hx := hb.trans (b7.mono hb.size)
   have K7 := Hid.mk (K5.out.on hx K5.out.lt)
   have D7 := Hid.mk (D5.out.on hx D5.out.lt)
   have W7 := Hid.mk (W5.out.on hx W5.out.lt)
   have S7 := Hid.mk (S5.out.on hx S5.out.lt)
   have O7 := Hid.mk (O5.out.on hx)
   have N7 := Hid.mk (Blk.new w6 #[.int .i64 s.index, .int .i64 s.term, .string s.data] 32)
   clear hb b7 hx B6
   have q0 := N7.out.cell 0 _ rfl
   have q1 := N7.out.cell 1 _ rfl
   have q2 := N7.out.cell 2 _ rfl
   have h1 : Blk ((w6.alloc (.cells #[.int .i64 s.index, .int .i64 s.term, .string s.data] 32)).setCell ⟨ps, 0, none⟩ (.int .i64 s.index)) ps #[.int .i64 s.index, .int .i64 0, .string ⟨#[]⟩] 32 := S7.out.set 0 _
   have h2 : Blk (((w6.alloc (.cells #[.int .i64 s.index, .int .i64 s.term, .string s.data] 32)).setCell ⟨ps, 0, none⟩ (.int .i64 s.index)).setCell ⟨ps, 1, none⟩ (.int .i64 s.term)) ps #[.int .i64 s.index, .int .i64 s.term, .string ⟨#[]⟩] 32 := h1.set 1 _
   have h3 : Blk ((((w6.alloc (.cells #[.int .i64 s.index, .int .i64 s.term, .string s.data] 32)).setCell ⟨ps, 0, none⟩ (.int .i64 s.index)).setCell ⟨ps, 1, none⟩ (.int .i64 s.term)).setCell ⟨ps, 2, none⟩ (.string s.data)) ps #[.int .i64 s.index, .int .i64 s.term, .string s.data] 32 := h2.set 2 _
   have r0 := S7.out.cell 0 _ rfl
   have r1 := h1.cell 1 _ rfl
   have r2 := h2.cell 2 _ rfl
   have f0 := S7.out.free 0
   have f1 := h1.free 1
   have f2 := h2.free 2
   have H3 := Hid.mk h3
   have n1 : pw ≠ ps := by have := HPS.out; omega
   have n2 : w.heap.size + 1 ≠ ps := by have := HPS.out; have := HK2.out; have := HP1.out; omega
   have n3 : w.heap.size ≠ ps := by have := HPS.out; have := HK2.out; have := HP1.out; omega
   have n4 : w.heap.size ≤ ps := by have := HPS.out; have := HK2.out; have := HP1.out; omega
   have R := Hid.mk (And.intro (((W7.out.other n1 0 (.int .i64 s.index)).other n1 1 (.int .i64 s.term)).other n1 2 (.string s.data)) (And.intro (((O7.out.other (O7.out.notBlk S7.out (by decide)) 0 (.int .i64 s.index)).other (O7.out.notBlk S7.out (by decide)) 1 (.int .i64 s.term)).other (O7.out.notBlk S7.out (by decide)) 2 (.string s.data)) (And.intro (((K7.out.other n2 0 (.int .i64 s.index)).other n2 1 (.int .i64 s.term)).other n2 2 (.string s.data)) (And.intro (((D7.out.other n3 0 (.int .i64 s.index)).other n3 1 (.int .i64 s.term)).other n3 2 (.string s.data)) (((B7.out.setCell (p := ⟨ps, 0, none⟩) n4 (.int .i64 s.index)).setCell (p := ⟨ps, 1, none⟩) n4 (.int .i64 s.term)).setCell (p := ⟨ps, 2, none⟩) n4 (.string s.data))))))
   clear h1 h2 h3 n1 n2 n3 n4
   go_wp2_with fail
   go_meet
   obtain ⟨g1, g2, g3, g4, g5⟩ := R.out
   exact ⟨by trivial, g1, g2, g3, H3.out, g4, g5⟩
 case rest =>
 obtain ⟨rfl, h1, h2, h3, h4, h5, h6⟩ := hcut
 have W6 := Hid.mk h1
 have O6 := Hid.mk h2
 have K6 := Hid.mk h3
 have S6 := Hid.mk h4
 have D6 := Hid.mk h5
 have B6 := Hid.mk h6
 clear h1 h2 h3 h4 h5 h6 W5 O5 K5 S5 D5 B5
 generalize wc = w6 at *
 have hc := HC2.out
 have HR : Hid (recR d = (kp0, 2)) := HRB.out (by unfold reach; rw [decide_eq_false (show ¬ x.base < s.index by omega), decide_eq_false (show ¬ s.index = x.base by omega)]; rfl)
 clear HRY HRB
 have q0 := W6.out.cell 0 _ rfl
 have q1 := W6.out.cell 1 _ rfl
 have q2 := W6.out.cell 2 _ rfl
 have q3 := W6.out.cell 3 _ rfl
 have q4 := W6.out.cell 4 _ rfl
 have s0 := S6.out.cell 0 _ rfl
 have s1 := S6.out.cell 1 _ rfl
 have s2 := S6.out.cell 2 _ rfl
 have hgt := hc
 obtain ⟨⟨r0, f0⟩, ⟨r1, f1⟩, ⟨r2, f2⟩, ⟨r3, f3⟩, ⟨r4, f4⟩, ⟨r5, f5⟩, ⟨r6, f6⟩, ⟨r7, f7⟩, ⟨r8, f8⟩, y0, y1, y2, y3, y4, y5, y6, y7, y8⟩ := resC9 (x0 := .int .i64 0) (x1 := .int .i64 0) (x2 := .int .i64 0) (x3 := .int .i64 0) (x4 := .slice none 0 0) (x5 := .int .i64 0) (x6 := .int .i64 0) (x7 := .string ⟨#[]⟩) (x8 := .bool false) K6.out
 have BE := Hid.mk (belowC9 B6.out (show w.heap.size ≤ w.heap.size + 1 by omega) (.int .i64 0) (.int .i64 0) (.int .i64 0) (.int .i64 0) (.slice none 0 0) (.int .i64 0) (.int .i64 0) (.string ⟨#[]⟩) (.bool false))
 go_wp2_with fail
 exact bodyPost_ret (v := .tuple #[.agg #[.int .i64 0, .int .i64 0, .int .i64 0, .int .i64 0, .slice none 0 0, .int .i64 0, .int .i64 0, .string ⟨#[]⟩, .bool false], .int .i64 2]) (by simp [results, go_sem, y0, y1, y2, y3, y4, y5, y6, y7, y8]) rfl ⟨⟨_, by rw [HR.out], .slice none 0 0, by rw [HR.out]; rfl, by rw [HR.out]; exact Lies.nilS _ _⟩, BE.out⟩
end Go.Proofs.YtdimaoloapbeoaaGreatDoor
