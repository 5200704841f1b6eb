/- RvSceo RvSces -/
import Derived.Test.YtdimaoloapbeoaaGreatDoorRows
import Derived.Test.YtdimaoloapbeoaaGreatDoorQv28
import Derived.Test.YtdimaoloapbeoaaGreatDoorQv27
import Derived.Test.YtdimaoloapbeoaaGreatDoorQv23
import Derived.Test.YtdimaoloapbeoaaGreatDoorQv24
import Derived.Test.YtdimaoloapbeoaaGreatDoorQv12
import Derived.Test.YtdimaoloapbeoaaGreatDoorQv15
import Derived.Test.YtdimaoloapbeoaaGreatDoorQv25
import Derived.Test.YtdimaoloapbeoaaGreatDoorQv6
import Derived.Deep.Cut
import Derived.Deep.CutRange
import Derived.Deep.CutBlock
namespace Go.Proofs.YtdimaoloapbeoaaGreatDoor
open Go.ChangeShapes Go.WideShapes Go.ChangeAt Go.RowKit Go.PlainAid
set_option linter.unusedVariables false
set_option maxRecDepth 20000 in
set_option maxHeartbeats 16000000 in
theorem specRec_ceo (d : Dsk) (v : Value) (w : World) (B : Nat) (hv : DiskV w B v d) (hf : Fits d) (hw : wtD d ≤ 1048576) (hB : B ≤ w.heap.size) (hok : diskOk d = true) (hl : (loadR d logN).2 = true) (hcs : (repS (loadR d logN).1).2.2 = true ∧ (snR d).2 = true ∧ (repS (loadR d logN).1).1.base = (snR d).1.index ∧ (repS (loadR d logN).1).1.bterm ≠ (snR d).1.term) :
  Calls Tryz.prog 5 #[v] w fun e w' => (∃ u, e = .returned (.tuple #[u, .int .i64 (recR d).2]) ∧ KptV w' w'.heap.size u (recR d).1) ∧ Below w.heap.size w w' := by
 have HCS : Hid ((repS (loadR d logN).1).2.2 = true ∧ (snR d).2 = true ∧ (repS (loadR d logN).1).1.base = (snR d).1.index ∧ (repS (loadR d logN).1).1.bterm ≠ (snR d).1.term) := hcs
 have HOK0 : Hid (diskOk d = true) := hok
 have HL0 : Hid ((loadR d logN).2 = true) := hl
 clear hcs hok hl
 have HV : Hid (DiskV w B v d) := hv
 have HB : Hid (B ≤ w.heap.size) := hB
 have HW : Hid (wtD d ≤ 1048576) := hw
 obtain ⟨v1, v2, v3, rfl, h1, h2, h3⟩ := hv
 have cO := fun wx hx hb => specOkV d (.agg #[.int .i64 d.room, .int .i64 d.next, v1, v2, v3]) wx B hx hf hw hb
 have cL := fun nm wx (h : Below w.heap.size w wx) => specLoadV d (.agg #[.int .i64 d.room, .int .i64 d.next, v1, v2, v3]) nm wx B (HV.out.on (h.mono HB.out)) hf hw (Nat.le_trans HB.out h.size)
 rw [HOK0.out] at cO
 clear h1 h2 h3 hB hf hw
 have hb0 : Below w.heap.size w ((w.alloc (.cells #[.int .i64 d.room, .int .i64 d.next, v1, v2, v3] 41)).alloc (.cells #[.int .i64 0, .int .i64 0, .int .i64 0, .int .i64 0, .slice none 0 0, .int .i64 0, .int .i64 0, .string ⟨#[]⟩, .bool false] 34)) := below_r2 _ _ _
 have k0 := Blk.new (w.alloc (.cells #[.int .i64 d.room, .int .i64 d.next, v1, v2, v3] 41)) #[.int .i64 0, .int .i64 0, .int .i64 0, .int .i64 0, .slice none 0 0, .int .i64 0, .int .i64 0, .string ⟨#[]⟩, .bool false] 34
 rw [World.size_alloc] at k0
 have kd := (Blk.new w #[.int .i64 d.room, .int .i64 d.next, v1, v2, v3] 41).alloc (.cells #[.int .i64 0, .int .i64 0, .int .i64 0, .int .i64 0, .slice none 0 0, .int .i64 0, .int .i64 0, .string ⟨#[]⟩, .bool false] 34)
 have y0 := kd.cell 0 _ rfl
 have y1 := kd.cell 1 _ rfl
 have y2 := kd.cell 2 _ rfl
 have y3 := kd.cell 3 _ rfl
 have y4 := kd.cell 4 _ rfl
 go_enter Tryz.func5, Tryz.ntmps5
 go_wp2_with fail
 clear y0 y1 y2 y3 y4
 generalize (w.alloc (.cells #[.int .i64 d.room, .int .i64 d.next, v1, v2, v3] 41)).alloc (.cells #[.int .i64 0, .int .i64 0, .int .i64 0, .int .i64 0, .slice none 0 0, .int .i64 0, .int .i64 0, .string ⟨#[]⟩, .bool false] 34) = W at *
 have B0 : Hid (Below w.heap.size w W) := hb0
 refine (cO W (HV.out.on (B0.out.mono HB.out)) (Nat.le_trans HB.out B0.out.size)).mono ?_
 rintro e w1 ⟨rfl, hb⟩
 have B1 : Hid (Below w.heap.size w w1) := B0.out.trans (hb.mono B0.out.size)
 have K1 := Hid.mk (k0.on hb k0.lt)
 have D1 := Hid.mk (kd.on hb kd.lt)
 clear hb cO hb0 k0 kd
 have HOK := HOK0
 have y0 := D1.out.cell 0 _ rfl
 have y1 := D1.out.cell 1 _ rfl
 have y2 := D1.out.cell 2 _ rfl
 have y3 := D1.out.cell 3 _ rfl
 have y4 := D1.out.cell 4 _ rfl
 have c1 := cL ⟨#[108, 111, 103]⟩ w1 B1.out
 rw [show loadR d ⟨#[108, 111, 103]⟩ = loadR d logN from rfl, HL0.out] at c1
 go_wp2_with fail
 refine c1.mono ?_
 rintro e w2 ⟨rfl, hb⟩
 have B2h : Hid (Below w.heap.size w w2) := B1.out.trans (hb.mono B1.out.size)
 have K2 := Hid.mk (K1.out.on hb K1.out.lt)
 have D2 := Hid.mk (D1.out.on hb D1.out.lt)
 clear hb y0 y1 y2 y3 y4 K1 D1 B1 c1
 have HRB := Hid.mk (@recR_no d HOK.out HL0.out)
 have HRY := Hid.mk (@recR_yes d HOK.out HL0.out)
 have HSZ : Hid ((loadR d logN).1.size ≤ 1048576) := loadR_size HW.out
 have HSN := Hid.mk (snR_in d)
 have HSD : Hid (snR d = if (loadR d snapN).2 = true then rdSn (loadR d snapN).1 else (sn0, true)) := rfl
 have HSS : Hid ((loadR d snapN).1.size ≤ 1048576) := loadR_size HW.out
 generalize (loadR d logN).1 = tx at *
 go_wp2_with fail
 refine (specReplay tx w2 HSZ.out).mono ?_
 rintro e w3 ⟨K, vw, hE, rfl, hWO, hb2⟩
 rw [repS_eq hE] at hWO ⊢
 have HRO := Hid.mk (repS_ok tx)
 generalize repS tx = rs at *
 obtain ⟨x, n, ok⟩ := rs
 simp only at *
 obtain ⟨eu, rfl, hOw⟩ := hWO
 obtain ⟨eA, em, ec, rfl⟩ := hOw.shape
 have B3 : Hid (Below w.heap.size w w3) := B2h.out.trans (hb2.mono B2h.out.size)
 have K3 := Hid.mk (K2.out.on hb2 K2.out.lt)
 have D3 := Hid.mk (D2.out.on hb2 D2.out.lt)
 have HK2 : Hid (w.heap.size + 1 < w2.heap.size) := K2.out.lt
 have HP1 : Hid (w2.heap.size ≤ w3.heap.size) := hb2.size
 clear hE hb2 K2 D2 B2h
 have b4 : Below w3.heap.size w3 ((w3.alloc (.cells #[.int .i64 x.term, .int .i64 x.vote, .int .i64 x.base, .int .i64 x.bterm, .slice eA em ec] 30)).alloc (.cells #[.int .i64 0, .int .i64 0, .string ⟨#[]⟩] 32)) := below_r2 _ _ _
 have KW := Hid.mk ((Blk.new w3 #[.int .i64 x.term, .int .i64 x.vote, .int .i64 x.base, .int .i64 x.bterm, .slice eA em ec] 30).alloc (.cells #[.int .i64 0, .int .i64 0, .string ⟨#[]⟩] 32))
 have KS : Hid (Blk ((w3.alloc (.cells #[.int .i64 x.term, .int .i64 x.vote, .int .i64 x.base, .int .i64 x.bterm, .slice eA em ec] 30)).alloc (.cells #[.int .i64 0, .int .i64 0, .string ⟨#[]⟩] 32)) (w3.heap.size + 1) #[.int .i64 0, .int .i64 0, .string ⟨#[]⟩] 32) := by
  have h := Blk.new (w3.alloc (.cells #[.int .i64 x.term, .int .i64 x.vote, .int .i64 x.base, .int .i64 x.bterm, .slice eA em ec] 30)) #[.int .i64 0, .int .i64 0, .string ⟨#[]⟩] 32
  rw [World.size_alloc] at h
  exact h
 have B4 : Hid (Below w.heap.size w ((w3.alloc (.cells #[.int .i64 x.term, .int .i64 x.vote, .int .i64 x.base, .int .i64 x.bterm, .slice eA em ec] 30)).alloc (.cells #[.int .i64 0, .int .i64 0, .string ⟨#[]⟩] 32))) := B3.out.trans (b4.mono B3.out.size)
 have K4 := Hid.mk (K3.out.on b4 K3.out.lt)
 have D4 := Hid.mk (D3.out.on b4 D3.out.lt)
 have O4 := Hid.mk (hOw.on b4)
 have HEB : Hid (∀ g, (Value.slice eA em ec).ownBlock = some g → g < w3.heap.size) := fun g hg => (hOw.lt g hg).2
 clear b4 K3 D3 B3 hOw
 have y0 := D4.out.cell 0 _ rfl
 have y1 := D4.out.cell 1 _ rfl
 have y2 := D4.out.cell 2 _ rfl
 have y3 := D4.out.cell 3 _ rfl
 have y4 := D4.out.cell 4 _ rfl
 have c1 := cL ⟨#[115, 110, 97, 112]⟩ _ B4.out
 rw [show loadR d ⟨#[115, 110, 97, 112]⟩ = loadR d snapN from rfl] at c1
 go_wp2_with fail
 obtain ⟨pw, hpw⟩ : ∃ pw, pw = w3.heap.size := ⟨_, rfl⟩
 obtain ⟨ps, hps⟩ : ∃ ps, ps = w3.heap.size + 1 := ⟨_, rfl⟩
 have HPS : Hid (ps = pw + 1) := by unfold Hid; rw [hps, hpw]
 rw [← hps, ← hpw]
 rw [← hps] at KS
 rw [← hpw] at KW HP1 HEB
 clear hps hpw
 generalize (w3.alloc (.cells #[.int .i64 x.term, .int .i64 x.vote, .int .i64 x.base, .int .i64 x.bterm, .slice eA em ec] 30)).alloc (.cells #[.int .i64 0, .int .i64 0, .string ⟨#[]⟩] 32) = X at *
 refine c1.mono ?_
 rintro e w5 ⟨rfl, hb⟩
 have B5 : Hid (Below w.heap.size w w5) := B4.out.trans (hb.mono B4.out.size)
 have K5 := Hid.mk (K4.out.on hb K4.out.lt)
 have D5 := Hid.mk (D4.out.on hb D4.out.lt)
 have W5 := Hid.mk (KW.out.on hb KW.out.lt)
 have S5 := Hid.mk (KS.out.on hb KS.out.lt)
 have O5 := Hid.mk (O4.out.on hb)
 clear hb y0 y1 y2 y3 y4 K4 D4 B4 O4 KW KS c1
 generalize (loadR d snapN).1 = sx at *
 generalize (loadR d snapN).2 = hs at *
 generalize snR d = sn at *
 obtain ⟨s, fine⟩ := sn
 simp only at *
 obtain ⟨rfl, rfl, hc⟩ := HCS.out
 have HC2 := Hid.mk hc
 clear hc
 go_upto_if 44 with fail
 go_cut [8, 12, 13] from 45 to 54 (fun s8 s12 s13 wc => s8 = .bool true ∧ Blk wc pw #[.int .i64 x.term, .int .i64 x.vote, .int .i64 x.base, .int .i64 x.bterm, .slice eA em ec] 30 ∧ Owns wc w2.heap.size 59 2 (.slice eA em ec) (entR x.ents) ∧ Blk wc (w.heap.size + 1) #[.int .i64 0, .int .i64 0, .int .i64 0, .int .i64 0, .slice none 0 0, .int .i64 0, .int .i64 0, .string ⟨#[]⟩, .bool false] 34 ∧ Blk wc ps #[.int .i64 s.index, .int .i64 s.term, .string s.data] 32 ∧ Blk wc w.heap.size #[.int .i64 d.room, .int .i64 d.next, v1, v2, v3] 41 ∧ Below w.heap.size w wc)
 case first =>
  cases hs with
  | false =>
   have hsn : (s, true) = (sn0, true) := HSD.out
   cases hsn
   go_wp2_with fail
   go_meet
   exact ⟨by trivial, W5.out, O5.out, K5.out, S5.out, D5.out, B5.out⟩
  | true =>
   have hsn : (s, true) = rdSn sx := HSD.out
   have cR := fun wx => specReadSnap sx wx HSS.out
   rw [readSn_eq, ← hsn] at cR
   unfold vSnp at cR
   simp only at cR
   clear hsn
   go_wp2_with fail
   refine (cR _).mono ?_
   rintro e w6 ⟨rfl, hb⟩
   have B6 : Hid (Below w.heap.size w w6) := B5.out.trans (hb.mono B5.out.size)
   have b7 : Below w6.heap.size w6 (w6.alloc (.cells #[.int .i64 s.index, .int .i64 s.term, .string s.data] 32)) := (Below.refl _ _).alloc (Nat.le_refl _) _
   have B7 : Hid (Below w.heap.size w (w6.alloc (.cells #[.int .i64 s.index, .int .i64 s.term, .string s.data] 32))) := B6.out.trans (b7.mono B6.out.size)
   have hx := hb.trans (b7.mono hb.size)
   have K7 := Hid.mk (K5.out.on hx K5.out.lt)
   have D7 := Hid.mk (D5.out.on hx D5.out.lt)
   have W7 := Hid.mk (W5.out.on hx W5.out.lt)
   have S7 := Hid.mk (S5.out.on hx S5.out.lt)
   have O7 := Hid.mk (O5.out.on hx)
   have N7 := Hid.mk (Blk.new w6 #[.int .i64 s.index, .int .i64 s.term, .string s.data] 32)
   clear hb b7 hx B6
   have q0 := N7.out.cell 0 _ rfl
   have q1 := N7.out.cell 1 _ rfl
   have q2 := N7.out.cell 2 _ rfl
   have h1 : Blk ((w6.alloc (.cells #[.int .i64 s.index, .int .i64 s.term, .string s.data] 32)).setCell ⟨ps, 0, none⟩ (.int .i64 s.index)) ps #[.int .i64 s.index, .int .i64 0, .string ⟨#[]⟩] 32 := S7.out.set 0 _
   have h2 : Blk (((w6.alloc (.cells #[.int .i64 s.index, .int .i64 s.term, .string s.data] 32)).setCell ⟨ps, 0, none⟩ (.int .i64 s.index)).setCell ⟨ps, 1, none⟩ (.int .i64 s.term)) ps #[.int .i64 s.index, .int .i64 s.term, .string ⟨#[]⟩] 32 := h1.set 1 _
   have h3 : Blk ((((w6.alloc (.cells #[.int .i64 s.index, .int .i64 s.term, .string s.data] 32)).setCell ⟨ps, 0, none⟩ (.int .i64 s.index)).setCell ⟨ps, 1, none⟩ (.int .i64 s.term)).setCell ⟨ps, 2, none⟩ (.string s.data)) ps #[.int .i64 s.index, .int .i64 s.term, .string s.data] 32 := h2.set 2 _
   have r0 := S7.out.cell 0 _ rfl
   have r1 := h1.cell 1 _ rfl
   have r2 := h2.cell 2 _ rfl
   have f0 := S7.out.free 0
   have f1 := h1.free 1
   have f2 := h2.free 2
   have H3 := Hid.mk h3
   have n1 : pw ≠ ps := by have := HPS.out; omega
   have n2 : w.heap.size + 1 ≠ ps := by have := HPS.out; have := HK2.out; have := HP1.out; omega
   have n3 : w.heap.size ≠ ps := by have := HPS.out; have := HK2.out; have := HP1.out; omega
   have n4 : w.heap.size ≤ ps := by have := HPS.out; have := HK2.out; have := HP1.out; omega
   have R := Hid.mk (And.intro (((W7.out.other n1 0 (.int .i64 s.index)).other n1 1 (.int .i64 s.term)).other n1 2 (.string s.data)) (And.intro (((O7.out.other (O7.out.notBlk S7.out (by decide)) 0 (.int .i64 s.index)).other (O7.out.notBlk S7.out (by decide)) 1 (.int .i64 s.term)).other (O7.out.notBlk S7.out (by decide)) 2 (.string s.data)) (And.intro (((K7.out.other n2 0 (.int .i64 s.index)).other n2 1 (.int .i64 s.term)).other n2 2 (.string s.data)) (And.intro (((D7.out.other n3 0 (.int .i64 s.index)).other n3 1 (.int .i64 s.term)).other n3 2 (.string s.data)) (((B7.out.setCell (p := ⟨ps, 0, none⟩) n4 (.int .i64 s.index)).setCell (p := ⟨ps, 1, none⟩) n4 (.int .i64 s.term)).setCell (p := ⟨ps, 2, none⟩) n4 (.string s.data))))))
   clear h1 h2 h3 n1 n2 n3 n4
   go_wp2_with fail
   go_meet
   obtain ⟨g1, g2, g3, g4, g5⟩ := R.out
   exact ⟨by trivial, g1, g2, g3, H3.out, g4, g5⟩
 case rest =>
 obtain ⟨rfl, h1, h2, h3, h4, h5, h6⟩ := hcut
 have W6 := Hid.mk h1
 have O6 := Hid.mk h2
 have K6 := Hid.mk h3
 have S6 := Hid.mk h4
 have D6 := Hid.mk h5
 have B6 := Hid.mk h6
 clear h1 h2 h3 h4 h5 h6 W5 O5 K5 S5 D5 B5
 generalize wc = w6 at *
 obtain ⟨heq, hbt⟩ := HC2.out
 have HR : Hid (recR d = (kp0, 2)) := HRB.out (by unfold reach; rw [decide_eq_false (show ¬ x.base < s.index by omega), decide_eq_false (show ¬ s.term = x.bterm from fun e => hbt e.symm), Bool.and_false]; rfl)
 clear HRY HRB
 have q0 := W6.out.cell 0 _ rfl
 have q1 := W6.out.cell 1 _ rfl
 have q2 := W6.out.cell 2 _ rfl
 have q3 := W6.out.cell 3 _ rfl
 have q4 := W6.out.cell 4 _ rfl
 have s0 := S6.out.cell 0 _ rfl
 have s1 := S6.out.cell 1 _ rfl
 have s2 := S6.out.cell 2 _ rfl
 have hgt : ¬ s.index < x.base := by omega
 have g0 : decide (s.index < x.base) = false := decide_eq_false hgt
 have g3 : (x.base == s.index) = true := by simpa using heq
 have g5 : (x.bterm != s.term) = true := by simpa using hbt
 have g6 : (x.bterm == s.term) = false := by simpa using hbt
 clear heq
 obtain ⟨⟨r0, f0⟩, ⟨r1, f1⟩, ⟨r2, f2⟩, ⟨r3, f3⟩, ⟨r4, f4⟩, ⟨r5, f5⟩, ⟨r6, f6⟩, ⟨r7, f7⟩, ⟨r8, f8⟩, y0, y1, y2, y3, y4, y5, y6, y7, y8⟩ := resC9 (x0 := .int .i64 0) (x1 := .int .i64 0) (x2 := .int .i64 0) (x3 := .int .i64 0) (x4 := .slice none 0 0) (x5 := .int .i64 0) (x6 := .int .i64 0) (x7 := .string ⟨#[]⟩) (x8 := .bool false) K6.out
 have BE := Hid.mk (belowC9 B6.out (show w.heap.size ≤ w.heap.size + 1 by omega) (.int .i64 0) (.int .i64 0) (.int .i64 0) (.int .i64 0) (.slice none 0 0) (.int .i64 0) (.int .i64 0) (.string ⟨#[]⟩) (.bool false))
 go_wp2_with fail
 exact bodyPost_ret (v := .tuple #[.agg #[.int .i64 0, .int .i64 0, .int .i64 0, .int .i64 0, .slice none 0 0, .int .i64 0, .int .i64 0, .string ⟨#[]⟩, .bool false], .int .i64 2]) (by simp [results, go_sem, y0, y1, y2, y3, y4, y5, y6, y7, y8]) rfl ⟨⟨_, by rw [HR.out], .slice none 0 0, by rw [HR.out]; rfl, by rw [HR.out]; exact Lies.nilS _ _⟩, BE.out⟩
end Go.Proofs.YtdimaoloapbeoaaGreatDoor
namespace Go.Proofs.YtdimaoloapbeoaaGreatDoor
open Go.ChangeShapes Go.WideShapes Go.ChangeAt Go.RowKit Go.PlainAid
set_option linter.unusedVariables false
set_option maxRecDepth 20000 in
set_option maxHeartbeats 16000000 in
theorem specRec_ces (d : Dsk) (v : Value) (w : World) (B : Nat) (hv : DiskV w B v d) (hf : Fits d) (hw : wtD d ≤ 1048576) (hB : B ≤ w.heap.size) (hok : diskOk d = true) (hl : (loadR d logN).2 = true) (hcs : (repS (loadR d logN).1).2.2 = true ∧ (snR d).2 = true ∧ (repS (loadR d logN).1).1.base = (snR d).1.index ∧ (repS (loadR d logN).1).1.bterm = (snR d).1.term) :
  Calls Tryz.prog 5 #[v] w fun e w' => (∃ u, e = .returned (.tuple #[u, .int .i64 (recR d).2]) ∧ KptV w' w'.heap.size u (recR d).1) ∧ Below w.heap.size w w' := by
 have HCS : Hid ((repS (loadR d logN).1).2.2 = true ∧ (snR d).2 = true ∧ (repS (loadR d logN).1).1.base = (snR d).1.index ∧ (repS (loadR d logN).1).1.bterm = (snR d).1.term) := hcs
 have HOK0 : Hid (diskOk d = true) := hok
 have HL0 : Hid ((loadR d logN).2 = true) := hl
 clear hcs hok hl
 have HV : Hid (DiskV w B v d) := hv
 have HB : Hid (B ≤ w.heap.size) := hB
 have HW : Hid (wtD d ≤ 1048576) := hw
 obtain ⟨v1, v2, v3, rfl, h1, h2, h3⟩ := hv
 have cO := fun wx hx hb => specOkV d (.agg #[.int .i64 d.room, .int .i64 d.next, v1, v2, v3]) wx B hx hf hw hb
 have cL := fun nm wx (h : Below w.heap.size w wx) => specLoadV d (.agg #[.int .i64 d.room, .int .i64 d.next, v1, v2, v3]) nm wx B (HV.out.on (h.mono HB.out)) hf hw (Nat.le_trans HB.out h.size)
 rw [HOK0.out] at cO
 clear h1 h2 h3 hB hf hw
 have hb0 : Below w.heap.size w ((w.alloc (.cells #[.int .i64 d.room, .int .i64 d.next, v1, v2, v3] 41)).alloc (.cells #[.int .i64 0, .int .i64 0, .int .i64 0, .int .i64 0, .slice none 0 0, .int .i64 0, .int .i64 0, .string ⟨#[]⟩, .bool false] 34)) := below_r2 _ _ _
 have k0 := Blk.new (w.alloc (.cells #[.int .i64 d.room, .int .i64 d.next, v1, v2, v3] 41)) #[.int .i64 0, .int .i64 0, .int .i64 0, .int .i64 0, .slice none 0 0, .int .i64 0, .int .i64 0, .string ⟨#[]⟩, .bool false] 34
 rw [World.size_alloc] at k0
 have kd := (Blk.new w #[.int .i64 d.room, .int .i64 d.next, v1, v2, v3] 41).alloc (.cells #[.int .i64 0, .int .i64 0, .int .i64 0, .int .i64 0, .slice none 0 0, .int .i64 0, .int .i64 0, .string ⟨#[]⟩, .bool false] 34)
 have y0 := kd.cell 0 _ rfl
 have y1 := kd.cell 1 _ rfl
 have y2 := kd.cell 2 _ rfl
 have y3 := kd.cell 3 _ rfl
 have y4 := kd.cell 4 _ rfl
 go_enter Tryz.func5, Tryz.ntmps5
 go_wp2_with fail
 clear y0 y1 y2 y3 y4
 generalize (w.alloc (.cells #[.int .i64 d.room, .int .i64 d.next, v1, v2, v3] 41)).alloc (.cells #[.int .i64 0, .int .i64 0, .int .i64 0, .int .i64 0, .slice none 0 0, .int .i64 0, .int .i64 0, .string ⟨#[]⟩, .bool false] 34) = W at *
 have B0 : Hid (Below w.heap.size w W) := hb0
 refine (cO W (HV.out.on (B0.out.mono HB.out)) (Nat.le_trans HB.out B0.out.size)).mono ?_
 rintro e w1 ⟨rfl, hb⟩
 have B1 : Hid (Below w.heap.size w w1) := B0.out.trans (hb.mono B0.out.size)
 have K1 := Hid.mk (k0.on hb k0.lt)
 have D1 := Hid.mk (kd.on hb kd.lt)
 clear hb cO hb0 k0 kd
 have HOK := HOK0
 have y0 := D1.out.cell 0 _ rfl
 have y1 := D1.out.cell 1 _ rfl
 have y2 := D1.out.cell 2 _ rfl
 have y3 := D1.out.cell 3 _ rfl
 have y4 := D1.out.cell 4 _ rfl
 have c1 := cL ⟨#[108, 111, 103]⟩ w1 B1.out
 rw [show loadR d ⟨#[108, 111, 103]⟩ = loadR d logN from rfl, HL0.out] at c1
 go_wp2_with fail
 refine c1.mono ?_
 rintro e w2 ⟨rfl, hb⟩
 have B2h : Hid (Below w.heap.size w w2) := B1.out.trans (hb.mono B1.out.size)
 have K2 := Hid.mk (K1.out.on hb K1.out.lt)
 have D2 := Hid.mk (D1.out.on hb D1.out.lt)
 clear hb y0 y1 y2 y3 y4 K1 D1 B1 c1
 have HRB := Hid.mk (@recR_no d HOK.out HL0.out)
 have HRY := Hid.mk (@recR_yes d HOK.out HL0.out)
 have HSZ : Hid ((loadR d logN).1.size ≤ 1048576) := loadR_size HW.out
 have HSN := Hid.mk (snR_in d)
 have HSD : Hid (snR d = if (loadR d snapN).2 = true then rdSn (loadR d snapN).1 else (sn0, true)) := rfl
 have HSS : Hid ((loadR d snapN).1.size ≤ 1048576) := loadR_size HW.out
 generalize (loadR d logN).1 = tx at *
 go_wp2_with fail
 refine (specReplay tx w2 HSZ.out).mono ?_
 rintro e w3 ⟨K, vw, hE, rfl, hWO, hb2⟩
 rw [repS_eq hE] at hWO ⊢
 have HRO := Hid.mk (repS_ok tx)
 generalize repS tx = rs at *
 obtain ⟨x, n, ok⟩ := rs
 simp only at *
 obtain ⟨eu, rfl, hOw⟩ := hWO
 obtain ⟨eA, em, ec, rfl⟩ := hOw.shape
 have B3 : Hid (Below w.heap.size w w3) := B2h.out.trans (hb2.mono B2h.out.size)
 have K3 := Hid.mk (K2.out.on hb2 K2.out.lt)
 have D3 := Hid.mk (D2.out.on hb2 D2.out.lt)
 have HK2 : Hid (w.heap.size + 1 < w2.heap.size) := K2.out.lt
 have HP1 : Hid (w2.heap.size ≤ w3.heap.size) := hb2.size
 clear hE hb2 K2 D2 B2h
 have b4 : Below w3.heap.size w3 ((w3.alloc (.cells #[.int .i64 x.term, .int .i64 x.vote, .int .i64 x.base, .int .i64 x.bterm, .slice eA em ec] 30)).alloc (.cells #[.int .i64 0, .int .i64 0, .string ⟨#[]⟩] 32)) := below_r2 _ _ _
 have KW := Hid.mk ((Blk.new w3 #[.int .i64 x.term, .int .i64 x.vote, .int .i64 x.base, .int .i64 x.bterm, .slice eA em ec] 30).alloc (.cells #[.int .i64 0, .int .i64 0, .string ⟨#[]⟩] 32))
 have KS : Hid (Blk ((w3.alloc (.cells #[.int .i64 x.term, .int .i64 x.vote, .int .i64 x.base, .int .i64 x.bterm, .slice eA em ec] 30)).alloc (.cells #[.int .i64 0, .int .i64 0, .string ⟨#[]⟩] 32)) (w3.heap.size + 1) #[.int .i64 0, .int .i64 0, .string ⟨#[]⟩] 32) := by
  have h := Blk.new (w3.alloc (.cells #[.int .i64 x.term, .int .i64 x.vote, .int .i64 x.base, .int .i64 x.bterm, .slice eA em ec] 30)) #[.int .i64 0, .int .i64 0, .string ⟨#[]⟩] 32
  rw [World.size_alloc] at h
  exact h
 have B4 : Hid (Below w.heap.size w ((w3.alloc (.cells #[.int .i64 x.term, .int .i64 x.vote, .int .i64 x.base, .int .i64 x.bterm, .slice eA em ec] 30)).alloc (.cells #[.int .i64 0, .int .i64 0, .string ⟨#[]⟩] 32))) := B3.out.trans (b4.mono B3.out.size)
 have K4 := Hid.mk (K3.out.on b4 K3.out.lt)
 have D4 := Hid.mk (D3.out.on b4 D3.out.lt)
 have O4 := Hid.mk (hOw.on b4)
 have HEB : Hid (∀ g, (Value.slice eA em ec).ownBlock = some g → g < w3.heap.size) := fun g hg => (hOw.lt g hg).2
 clear b4 K3 D3 B3 hOw
 have y0 := D4.out.cell 0 _ rfl
 have y1 := D4.out.cell 1 _ rfl
 have y2 := D4.out.cell 2 _ rfl
 have y3 := D4.out.cell 3 _ rfl
 have y4 := D4.out.cell 4 _ rfl
 have c1 := cL ⟨#[115, 110, 97, 112]⟩ _ B4.out
 rw [show loadR d ⟨#[115, 110, 97, 112]⟩ = loadR d snapN from rfl] at c1
 go_wp2_with fail
 obtain ⟨pw, hpw⟩ : ∃ pw, pw = w3.heap.size := ⟨_, rfl⟩
 obtain ⟨ps, hps⟩ : ∃ ps, ps = w3.heap.size + 1 := ⟨_, rfl⟩
 have HPS : Hid (ps = pw + 1) := by unfold Hid; rw [hps, hpw]
 rw [← hps, ← hpw]
 rw [← hps] at KS
 rw [← hpw] at KW HP1 HEB
 clear hps hpw
 generalize (w3.alloc (.cells #[.int .i64 x.term, .int .i64 x.vote, .int .i64 x.base, .int .i64 x.bterm, .slice eA em ec] 30)).alloc (.cells #[.int .i64 0, .int .i64 0, .string ⟨#[]⟩] 32) = X at *
 refine c1.mono ?_
 rintro e w5 ⟨rfl, hb⟩
 have B5 : Hid (Below w.heap.size w w5) := B4.out.trans (hb.mono B4.out.size)
 have K5 := Hid.mk (K4.out.on hb K4.out.lt)
 have D5 := Hid.mk (D4.out.on hb D4.out.lt)
 have W5 := Hid.mk (KW.out.on hb KW.out.lt)
 have S5 := Hid.mk (KS.out.on hb KS.out.lt)
 have O5 := Hid.mk (O4.out.on hb)
 clear hb y0 y1 y2 y3 y4 K4 D4 B4 O4 KW KS c1
 generalize (loadR d snapN).1 = sx at *
 generalize (loadR d snapN).2 = hs at *
 generalize snR d = sn at *
 obtain ⟨s, fine⟩ := sn
 simp only at *
 obtain ⟨rfl, rfl, hc⟩ := HCS.out
 have HC2 := Hid.mk hc
 clear hc
 go_upto_if 44 with fail
 go_cut [8, 12, 13] from 45 to 54 (fun s8 s12 s13 wc => s8 = .bool true ∧ Blk wc pw #[.int .i64 x.term, .int .i64 x.vote, .int .i64 x.base, .int .i64 x.bterm, .slice eA em ec] 30 ∧ Owns wc w2.heap.size 59 2 (.slice eA em ec) (entR x.ents) ∧ Blk wc (w.heap.size + 1) #[.int .i64 0, .int .i64 0, .int .i64 0, .int .i64 0, .slice none 0 0, .int .i64 0, .int .i64 0, .string ⟨#[]⟩, .bool false] 34 ∧ Blk wc ps #[.int .i64 s.index, .int .i64 s.term, .string s.data] 32 ∧ Blk wc w.heap.size #[.int .i64 d.room, .int .i64 d.next, v1, v2, v3] 41 ∧ Below w.heap.size w wc)
 case first =>
  cases hs with
  | false =>
   have hsn : (s, true) = (sn0, true) := HSD.out
   cases hsn
   go_wp2_with fail
   go_meet
   exact ⟨by trivial, W5.out, O5.out, K5.out, S5.out, D5.out, B5.out⟩
  | true =>
   have hsn : (s, true) = rdSn sx := HSD.out
   have cR := fun wx => specReadSnap sx wx HSS.out
   rw [readSn_eq, ← hsn] at cR
   unfold vSnp at cR
   simp only at cR
   clear hsn
   go_wp2_with fail
   refine (cR _).mono ?_
   rintro e w6 ⟨rfl, hb⟩
   have B6 : Hid (Below w.heap.size w w6) := B5.out.trans (hb.mono B5.out.size)
   have b7 : Below w6.heap.size w6 (w6.alloc (.cells #[.int .i64 s.index, .int .i64 s.term, .string s.data] 32)) := (Below.refl _ _).alloc (Nat.le_refl _) _
   have B7 : Hid (Below w.heap.size w (w6.alloc (.cells #[.int .i64 s.index, .int .i64 s.term, .string s.data] 32))) := B6.out.trans (b7.mono B6.out.size)
   have hx := hb.trans (b7.mono hb.size)
   have K7 := Hid.mk (K5.out.on hx K5.out.lt)
   have D7 := Hid.mk (D5.out.on hx D5.out.lt)
   have W7 := Hid.mk (W5.out.on hx W5.out.lt)
   have S7 := Hid.mk (S5.out.on hx S5.out.lt)
   have O7 := Hid.mk (O5.out.on hx)
   have N7 := Hid.mk (Blk.new w6 #[.int .i64 s.index, .int .i64 s.term, .string s.data] 32)
   clear hb b7 hx B6
   have q0 := N7.out.cell 0 _ rfl
   have q1 := N7.out.cell 1 _ rfl
   have q2 := N7.out.cell 2 _ rfl
   have h1 : Blk ((w6.alloc (.cells #[.int .i64 s.index, .int .i64 s.term, .string s.data] 32)).setCell ⟨ps, 0, none⟩ (.int .i64 s.index)) ps #[.int .i64 s.index, .int .i64 0, .string ⟨#[]⟩] 32 := S7.out.set 0 _
   have h2 : Blk (((w6.alloc (.cells #[.int .i64 s.index, .int .i64 s.term, .string s.data] 32)).setCell ⟨ps, 0, none⟩ (.int .i64 s.index)).setCell ⟨ps, 1, none⟩ (.int .i64 s.term)) ps #[.int .i64 s.index, .int .i64 s.term, .string ⟨#[]⟩] 32 := h1.set 1 _
   have h3 : Blk ((((w6.alloc (.cells #[.int .i64 s.index, .int .i64 s.term, .string s.data] 32)).setCell ⟨ps, 0, none⟩ (.int .i64 s.index)).setCell ⟨ps, 1, none⟩ (.int .i64 s.term)).setCell ⟨ps, 2, none⟩ (.string s.data)) ps #[.int .i64 s.index, .int .i64 s.term, .string s.data] 32 := h2.set 2 _
   have r0 := S7.out.cell 0 _ rfl
   have r1 := h1.cell 1 _ rfl
   have r2 := h2.cell 2 _ rfl
   have f0 := S7.out.free 0
   have f1 := h1.free 1
   have f2 := h2.free 2
   have H3 := Hid.mk h3
   have n1 : pw ≠ ps := by have := HPS.out; omega
   have n2 : w.heap.size + 1 ≠ ps := by have := HPS.out; have := HK2.out; have := HP1.out; omega
   have n3 : w.heap.size ≠ ps := by have := HPS.out; have := HK2.out; have := HP1.out; omega
   have n4 : w.heap.size ≤ ps := by have := HPS.out; have := HK2.out; have := HP1.out; omega
   have R := Hid.mk (And.intro (((W7.out.other n1 0 (.int .i64 s.index)).other n1 1 (.int .i64 s.term)).other n1 2 (.string s.data)) (And.intro (((O7.out.other (O7.out.notBlk S7.out (by decide)) 0 (.int .i64 s.index)).other (O7.out.notBlk S7.out (by decide)) 1 (.int .i64 s.term)).other (O7.out.notBlk S7.out (by decide)) 2 (.string s.data)) (And.intro (((K7.out.other n2 0 (.int .i64 s.index)).other n2 1 (.int .i64 s.term)).other n2 2 (.string s.data)) (And.intro (((D7.out.other n3 0 (.int .i64 s.index)).other n3 1 (.int .i64 s.term)).other n3 2 (.string s.data)) (((B7.out.setCell (p := ⟨ps, 0, none⟩) n4 (.int .i64 s.index)).setCell (p := ⟨ps, 1, none⟩) n4 (.int .i64 s.term)).setCell (p := ⟨ps, 2, none⟩) n4 (.string s.data))))))
   clear h1 h2 h3 n1 n2 n3 n4
   go_wp2_with fail
   go_meet
   obtain ⟨g1, g2, g3, g4, g5⟩ := R.out
   exact ⟨by trivial, g1, g2, g3, H3.out, g4, g5⟩
 case rest =>
 obtain ⟨rfl, h1, h2, h3, h4, h5, h6⟩ := hcut
 have W6 := Hid.mk h1
 have O6 := Hid.mk h2
 have K6 := Hid.mk h3
 have S6 := Hid.mk h4
 have D6 := Hid.mk h5
 have B6 := Hid.mk h6
 clear h1 h2 h3 h4 h5 h6 W5 O5 K5 S5 D5 B5
 generalize wc = w6 at *
 obtain ⟨heq, hbt⟩ := HC2.out
 have HRY2 := Hid.mk (HRY.out (by unfold reach; rw [decide_eq_true heq.symm, decide_eq_true hbt.symm, Bool.and_true, Bool.or_true]; rfl))
 have q0 := W6.out.cell 0 _ rfl
 have q1 := W6.out.cell 1 _ rfl
 have q2 := W6.out.cell 2 _ rfl
 have q3 := W6.out.cell 3 _ rfl
 have q4 := W6.out.cell 4 _ rfl
 have s0 := S6.out.cell 0 _ rfl
 have s1 := S6.out.cell 1 _ rfl
 have s2 := S6.out.cell 2 _ rfl
 have LW : Hid (∀ wx, Owns wx w2.heap.size 59 2 (.slice eA em ec) (entR x.ents) → LiesL wx (w.heap.size + 2) pw (.slice eA em ec) (entR x.ents)) := fun wx ho => LiesL.ofLt ho HEB.out (by have := HK2.out; omega)
 have HOK2 : Hid (walOk x = true) := HRO.out (by trivial)
 clear HRY HRB
 obtain ⟨z1, z2, z3⟩ := wok_sizes HOK2.out
 obtain ⟨i1, i2, i3, i4⟩ := HSN.out
 have HZ : Hid (x.ents.length ≤ 60 ∧ 0 ≤ x.base ∧ x.base ≤ 100000 ∧ s.index ≤ 100000) := ⟨z1, z2, z3, i2⟩
 have qt : (tx.size : Int) ≤ 1048576 := by have := HSZ.out; omega
 clear z1 z2 z3 i1 i2 i3 i4
 have hgt : ¬ s.index < x.base := by omega
 have g0 : decide (s.index < x.base) = false := decide_eq_false hgt
 have g3 : (x.base == s.index) = true := by simpa using heq
 have g5 : (x.bterm != s.term) = false := by simpa using hbt
 have g6 : (x.bterm == s.term) = true := by simpa using hbt
 have HNL : Hid (¬ x.base < s.index) := by unfold Hid; omega
 clear heq hbt
 rw [if_neg HNL.out] at HRY2
 go_upto_if 87 with fail
 generalize hld : decide (x.base < s.index) = ld at *
 have HLD : Hid (decide (x.base < s.index) = ld) := hld
 clear hld
 generalize hdn : decide (n < tx.size) = dn at *
 clear hdn
 obtain rfl : ld = false := by rw [← HLD.out]; exact decide_eq_false HNL.out
 have HBP0 : Hid (w6.heap.size = w6.heap.size) := rfl
 have L6 : Hid (LiesL w6 (w.heap.size + 2) pw (.slice eA em ec) (entR x.ents)) := LW.out w6 O6.out
 have HSP : Hid (ps ≠ pw) := by have := HPS.out; unfold Hid; omega
 have HKP : Hid (w.heap.size + 1 ≠ pw) := by have := HK2.out; have := HP1.out; unfold Hid; omega
 have HDP : Hid (w.heap.size ≠ pw) := by have := HK2.out; have := HP1.out; unfold Hid; omega
 have HWP : Hid (w.heap.size ≤ pw) := by have := HK2.out; have := HP1.out; unfold Hid; omega
 have HBP : Hid (pw ≤ pw) := Nat.le_refl _
 have HPZ : Hid (pw ≤ w6.heap.size) := Nat.le_of_lt W6.out.lt
 obtain ⟨B2, hB2⟩ : ∃ B2, B2 = pw := ⟨_, rfl⟩
 rw [← hB2] at L6 HPZ
 have HBP : Hid (B2 ≤ pw) := by unfold Hid; omega
 clear hB2 HBP0
 have WZ := W6
 have OZ0 := L6
 have KZ0 := K6
 have SZ := S6
 have DZ := D6
 have BZ0 := B6
 have HZ2 := HPZ
 clear q0 q1 q2 q3 q4 s0 s1 s2 W6 L6 K6 S6 D6 B6 O6
 have y0 := DZ.out.cell 0 _ rfl
 have y1 := DZ.out.cell 1 _ rfl
 have y2 := DZ.out.cell 2 _ rfl
 have y3 := DZ.out.cell 3 _ rfl
 have y4 := DZ.out.cell 4 _ rfl
 have c1 := cL ⟨#[108, 111, 103, 46, 110, 101, 119]⟩ w6 BZ0.out
 rw [show loadR d ⟨#[108, 111, 103, 46, 110, 101, 119]⟩ = loadR d logNw from rfl] at c1
 go_wp2_with fail
 refine c1.mono ?_
 rintro e w8 ⟨rfl, hb⟩
 have B8 := Hid.mk (BZ0.out.trans (hb.mono BZ0.out.size))
 have W8 := Hid.mk (WZ.out.on hb WZ.out.lt)
 have K8 := Hid.mk (KZ0.out.on hb KZ0.out.lt)
 have S8 := Hid.mk (SZ.out.on hb SZ.out.lt)
 have D8 := Hid.mk (DZ.out.on hb DZ.out.lt)
 have L8 := Hid.mk (OZ0.out.on (hb.mono HZ2.out))
 have HZ8 : Hid (B2 ≤ w8.heap.size) := Nat.le_trans HZ2.out hb.size
 clear hb c1 y0 y1 y2 y3 y4 WZ KZ0 SZ DZ OZ0 BZ0 HZ2
 have y0 := D8.out.cell 0 _ rfl
 have y1 := D8.out.cell 1 _ rfl
 have y2 := D8.out.cell 2 _ rfl
 have y3 := D8.out.cell 3 _ rfl
 have y4 := D8.out.cell 4 _ rfl
 have c1 := cL ⟨#[115, 110, 97, 112, 46, 110, 101, 119]⟩ w8 B8.out
 rw [show loadR d ⟨#[115, 110, 97, 112, 46, 110, 101, 119]⟩ = loadR d snapNw from rfl] at c1
 go_wp2_with fail
 refine c1.mono ?_
 rintro e w9 ⟨rfl, hb⟩
 have BZ := Hid.mk (B8.out.trans (hb.mono B8.out.size))
 have WZ := Hid.mk (W8.out.on hb W8.out.lt)
 have KZ := Hid.mk (K8.out.on hb K8.out.lt)
 have SZ := Hid.mk (S8.out.on hb S8.out.lt)
 have OZ := Hid.mk (L8.out.on (hb.mono HZ8.out))
 have HZ9 : Hid (B2 ≤ w9.heap.size) := Nat.le_trans HZ8.out hb.size
 clear hb c1 y0 y1 y2 y3 y4 W8 K8 S8 D8 L8 B8 HZ8
 generalize (loadR d logNw).2 = o1 at *
 generalize (loadR d snapNw).2 = o2 at *
 generalize (loadR d logNw).1 = t1 at *
 generalize (loadR d snapNw).1 = t2 at *
 generalize dn = dd at *
 have q0 := WZ.out.cell 0 _ rfl
 have q1 := WZ.out.cell 1 _ rfl
 have q2 := WZ.out.cell 2 _ rfl
 have q3 := WZ.out.cell 3 _ rfl
 have q4 := WZ.out.cell 4 _ rfl
 have s0 := SZ.out.cell 0 _ rfl
 have s1 := SZ.out.cell 1 _ rfl
 have s2 := SZ.out.cell 2 _ rfl
 cases dd with
 | true =>
  have HR : Hid (recR d = (⟨x, s, true⟩, 0)) := by unfold Hid; rw [HRY2.out]; simp
  obtain ⟨⟨r0, f0⟩, ⟨r1, f1⟩, ⟨r2, f2⟩, ⟨r3, f3⟩, ⟨r4, f4⟩, ⟨r5, f5⟩, ⟨r6, f6⟩, ⟨r7, f7⟩, ⟨r8, f8⟩, y0, y1, y2, y3, y4, y5, y6, y7, y8⟩ := resC9 (x0 := .int .i64 x.term) (x1 := .int .i64 x.vote) (x2 := .int .i64 x.base) (x3 := .int .i64 x.bterm) (x4 := .slice eA em ec) (x5 := .int .i64 s.index) (x6 := .int .i64 s.term) (x7 := .string s.data) (x8 := .bool true) KZ.out
  have BE := Hid.mk (belowC9 BZ.out (show w.heap.size ≤ w.heap.size + 1 by omega) (.int .i64 x.term) (.int .i64 x.vote) (.int .i64 x.base) (.int .i64 x.bterm) (.slice eA em ec) (.int .i64 s.index) (.int .i64 s.term) (.string s.data) (.bool true))
  have OE := Hid.mk (OZ.out.set9S (show w.heap.size + 1 < w.heap.size + 2 by omega) (.int .i64 x.term) (.int .i64 x.vote) (.int .i64 x.base) (.int .i64 x.bterm) (.slice eA em ec) (.int .i64 s.index) (.int .i64 s.term) (.string s.data) (.bool true))
  have HSE : Hid (∀ wx : World, w9.heap.size ≤ wx.heap.size → B2 ≤ wx.heap.size) := fun wx h => Nat.le_trans HZ9.out h
  go_wp2_with fail
  exact bodyPost_ret (v := .tuple #[.agg #[.int .i64 x.term, .int .i64 x.vote, .int .i64 x.base, .int .i64 x.bterm, .slice eA em ec, .int .i64 s.index, .int .i64 s.term, .string s.data, .bool true], .int .i64 0]) (by simp [results, go_sem, y0, y1, y2, y3, y4, y5, y6, y7, y8]) rfl ⟨⟨_, by rw [HR.out], .slice eA em ec, by rw [HR.out]; rfl, by rw [HR.out]; exact OE.out.1.mono (HSE.out _ (by simp only [World.size_setCell]; exact Nat.le_refl _))⟩, BE.out⟩
 | false =>
 cases o1 with
 | true =>
  have HR : Hid (recR d = (⟨x, s, true⟩, 0)) := by unfold Hid; rw [HRY2.out]; simp
  obtain ⟨⟨r0, f0⟩, ⟨r1, f1⟩, ⟨r2, f2⟩, ⟨r3, f3⟩, ⟨r4, f4⟩, ⟨r5, f5⟩, ⟨r6, f6⟩, ⟨r7, f7⟩, ⟨r8, f8⟩, y0, y1, y2, y3, y4, y5, y6, y7, y8⟩ := resC9 (x0 := .int .i64 x.term) (x1 := .int .i64 x.vote) (x2 := .int .i64 x.base) (x3 := .int .i64 x.bterm) (x4 := .slice eA em ec) (x5 := .int .i64 s.index) (x6 := .int .i64 s.term) (x7 := .string s.data) (x8 := .bool true) KZ.out
  have BE := Hid.mk (belowC9 BZ.out (show w.heap.size ≤ w.heap.size + 1 by omega) (.int .i64 x.term) (.int .i64 x.vote) (.int .i64 x.base) (.int .i64 x.bterm) (.slice eA em ec) (.int .i64 s.index) (.int .i64 s.term) (.string s.data) (.bool true))
  have OE := Hid.mk (OZ.out.set9S (show w.heap.size + 1 < w.heap.size + 2 by omega) (.int .i64 x.term) (.int .i64 x.vote) (.int .i64 x.base) (.int .i64 x.bterm) (.slice eA em ec) (.int .i64 s.index) (.int .i64 s.term) (.string s.data) (.bool true))
  have HSE : Hid (∀ wx : World, w9.heap.size ≤ wx.heap.size → B2 ≤ wx.heap.size) := fun wx h => Nat.le_trans HZ9.out h
  go_wp2_with fail
  exact bodyPost_ret (v := .tuple #[.agg #[.int .i64 x.term, .int .i64 x.vote, .int .i64 x.base, .int .i64 x.bterm, .slice eA em ec, .int .i64 s.index, .int .i64 s.term, .string s.data, .bool true], .int .i64 0]) (by simp [results, go_sem, y0, y1, y2, y3, y4, y5, y6, y7, y8]) rfl ⟨⟨_, by rw [HR.out], .slice eA em ec, by rw [HR.out]; rfl, by rw [HR.out]; exact OE.out.1.mono (HSE.out _ (by simp only [World.size_setCell]; exact Nat.le_refl _))⟩, BE.out⟩
 | false =>
  have HR : Hid (recR d = (⟨x, s, o2⟩, 0)) := by unfold Hid; rw [HRY2.out]; simp
  obtain ⟨⟨r0, f0⟩, ⟨r1, f1⟩, ⟨r2, f2⟩, ⟨r3, f3⟩, ⟨r4, f4⟩, ⟨r5, f5⟩, ⟨r6, f6⟩, ⟨r7, f7⟩, ⟨r8, f8⟩, y0, y1, y2, y3, y4, y5, y6, y7, y8⟩ := resC9 (x0 := .int .i64 x.term) (x1 := .int .i64 x.vote) (x2 := .int .i64 x.base) (x3 := .int .i64 x.bterm) (x4 := .slice eA em ec) (x5 := .int .i64 s.index) (x6 := .int .i64 s.term) (x7 := .string s.data) (x8 := .bool o2) KZ.out
  have BE := Hid.mk (belowC9 BZ.out (show w.heap.size ≤ w.heap.size + 1 by omega) (.int .i64 x.term) (.int .i64 x.vote) (.int .i64 x.base) (.int .i64 x.bterm) (.slice eA em ec) (.int .i64 s.index) (.int .i64 s.term) (.string s.data) (.bool o2))
  have OE := Hid.mk (OZ.out.set9S (show w.heap.size + 1 < w.heap.size + 2 by omega) (.int .i64 x.term) (.int .i64 x.vote) (.int .i64 x.base) (.int .i64 x.bterm) (.slice eA em ec) (.int .i64 s.index) (.int .i64 s.term) (.string s.data) (.bool o2))
  have HSE : Hid (∀ wx : World, w9.heap.size ≤ wx.heap.size → B2 ≤ wx.heap.size) := fun wx h => Nat.le_trans HZ9.out h
  go_wp2_with fail
  exact bodyPost_ret (v := .tuple #[.agg #[.int .i64 x.term, .int .i64 x.vote, .int .i64 x.base, .int .i64 x.bterm, .slice eA em ec, .int .i64 s.index, .int .i64 s.term, .string s.data, .bool o2], .int .i64 0]) (by simp [results, go_sem, y0, y1, y2, y3, y4, y5, y6, y7, y8]) rfl ⟨⟨_, by rw [HR.out], .slice eA em ec, by rw [HR.out]; rfl, by rw [HR.out]; exact OE.out.1.mono (HSE.out _ (by simp only [World.size_setCell]; exact Nat.le_refl _))⟩, BE.out⟩
end Go.Proofs.YtdimaoloapbeoaaGreatDoor
