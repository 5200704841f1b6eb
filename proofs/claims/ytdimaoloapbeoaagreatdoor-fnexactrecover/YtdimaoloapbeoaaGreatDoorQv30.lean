/- RvSclt -/
import Derived.Test.YtdimaoloapbeoaaGreatDoorRows
import Derived.Test.YtdimaoloapbeoaaGreatDoorQv28
import Derived.Test.YtdimaoloapbeoaaGreatDoorQv27
import Derived.Test.YtdimaoloapbeoaaGreatDoorQv23
import Derived.Test.YtdimaoloapbeoaaGreatDoorQv24
import Derived.Test.YtdimaoloapbeoaaGreatDoorQv12
import Derived.Test.YtdimaoloapbeoaaGreatDoorQv15
import Derived.Test.YtdimaoloapbeoaaGreatDoorQv25
import Derived.Test.YtdimaoloapbeoaaGreatDoorQv6
import Derived.Deep.Cut
import Derived.Deep.CutRange
import Derived.Deep.CutBlock
open List (setIfInBounds_toArray set_cons_zero set_cons_succ)
namespace Go.Proofs.YtdimaoloapbeoaaGreatDoor
open Go.ChangeShapes Go.WideShapes Go.ChangeAt Go.RowKit Go.PlainAid
set_option linter.unusedVariables false
set_option maxRecDepth 20000 in
set_option maxHeartbeats 16000000 in
theorem specRec_clt (d : Dsk) (v : Value) (w : World) (B : Nat) (hv : DiskV w B v d) (hf : Fits d) (hw : wtD d ≤ 1048576) (hB : B ≤ w.heap.size) (hok : diskOk d = true) (hl : (loadR d logN).2 = true) (hcs : (repS (loadR d logN).1).2.2 = true ∧ (snR d).2 = true ∧ (repS (loadR d logN).1).1.base < (snR d).1.index) :
  Calls Tryz.prog 5 #[v] w fun e w' => (∃ u, e = .returned (.tuple #[u, .int .i64 (recR d).2]) ∧ KptV w' w'.heap.size u (recR d).1) ∧ Below w.heap.size w w' := by
 have HCS : Hid ((repS (loadR d logN).1).2.2 = true ∧ (snR d).2 = true ∧ (repS (loadR d logN).1).1.base < (snR d).1.index) := hcs
 have HOK0 : Hid (diskOk d = true) := hok
 have HL0 : Hid ((loadR d logN).2 = true) := hl
 clear hcs hok hl
 have HV : Hid (DiskV w B v d) := hv
 have HB : Hid (B ≤ w.heap.size) := hB
 have HW : Hid (wtD d ≤ 1048576) := hw
 obtain ⟨v1, v2, v3, rfl, h1, h2, h3⟩ := hv
 have cO := fun wx hx hb => specOkV d (.agg #[.int .i64 d.room, .int .i64 d.next, v1, v2, v3]) wx B hx hf hw hb
 have cL := fun nm wx (h : Below w.heap.size w wx) => specLoadV d (.agg #[.int .i64 d.room, .int .i64 d.next, v1, v2, v3]) nm wx B (HV.out.on (h.mono HB.out)) hf hw (Nat.le_trans HB.out h.size)
 rw [HOK0.out] at cO
 clear h1 h2 h3 hB hf hw
 have hb0 : Below w.heap.size w ((w.alloc (.cells #[.int .i64 d.room, .int .i64 d.next, v1, v2, v3] 41)).alloc (.cells #[.int .i64 0, .int .i64 0, .int .i64 0, .int .i64 0, .slice none 0 0, .int .i64 0, .int .i64 0, .string ⟨#[]⟩, .bool false] 34)) := below_r2 _ _ _
 have k0 := Blk.new (w.alloc (.cells #[.int .i64 d.room, .int .i64 d.next, v1, v2, v3] 41)) #[.int .i64 0, .int .i64 0, .int .i64 0, .int .i64 0, .slice none 0 0, .int .i64 0, .int .i64 0, .string ⟨#[]⟩, .bool false] 34
 rw [World.size_alloc] at k0
 have kd := (Blk.new w #[.int .i64 d.room, .int .i64 d.next, v1, v2, v3] 41).alloc (.cells #[.int .i64 0, .int .i64 0, .int .i64 0, .int .i64 0, .slice none 0 0, .int .i64 0, .int .i64 0, .string ⟨#[]⟩, .bool false] 34)
 have y0 := kd.cell 0 _ rfl
 have y1 := kd.cell 1 _ rfl
 have y2 := kd.cell 2 _ rfl
 have y3 := kd.cell 3 _ rfl
 have y4 := kd.cell 4 _ rfl
 go_enter Tryz.func5, Tryz.ntmps5
 go_wp2_with fail
 clear y0 y1 y2 y3 y4
 generalize (w.alloc (.cells #[.int .i64 d.room, .int .i64 d.next, v1, v2, v3] 41)).alloc (.cells #[.int .i64 0, .int .i64 0, .int .i64 0, .int .i64 0, .slice none 0 0, .int .i64 0, .int .i64 0, .string ⟨#[]⟩, .bool false] 34) = W at *
 have B0 : Hid (Below w.heap.size w W) := hb0
 refine (cO W (HV.out.on (B0.out.mono HB.out)) (Nat.le_trans HB.out B0.out.size)).mono ?_
 rintro e w1 ⟨rfl, hb⟩
 have B1 : Hid (Below w.heap.size w w1) := B0.out.trans (hb.mono B0.out.size)
 have K1 := Hid.mk (k0.on hb k0.lt)
 have D1 := Hid.mk (kd.on hb kd.lt)
 clear hb cO hb0 k0 kd
 have HOK := HOK0
 have y0 := D1.out.cell 0 _ rfl
 have y1 := D1.out.cell 1 _ rfl
 have y2 := D1.out.cell 2 _ rfl
 have y3 := D1.out.cell 3 _ rfl
 have y4 := D1.out.cell 4 _ rfl
 have c1 := cL ⟨#[108, 111, 103]⟩ w1 B1.out
 rw [show loadR d ⟨#[108, 111, 103]⟩ = loadR d logN from rfl, HL0.out] at c1
 go_wp2_with fail
 refine c1.mono ?_
 rintro e w2 ⟨rfl, hb⟩
 have B2h : Hid (Below w.heap.size w w2) := B1.out.trans (hb.mono B1.out.size)
 have K2 := Hid.mk (K1.out.on hb K1.out.lt)
 have D2 := Hid.mk (D1.out.on hb D1.out.lt)
 clear hb y0 y1 y2 y3 y4 K1 D1 B1 c1
 have HRB := Hid.mk (@recR_no d HOK.out HL0.out)
 have HRY := Hid.mk (@recR_yes d HOK.out HL0.out)
 have HSZ : Hid ((loadR d logN).1.size ≤ 1048576) := loadR_size HW.out
 have HSN := Hid.mk (snR_in d)
 have HSD : Hid (snR d = if (loadR d snapN).2 = true then rdSn (loadR d snapN).1 else (sn0, true)) := rfl
 have HSS : Hid ((loadR d snapN).1.size ≤ 1048576) := loadR_size HW.out
 generalize (loadR d logN).1 = tx at *
 go_wp2_with fail
 refine (specReplay tx w2 HSZ.out).mono ?_
 rintro e w3 ⟨K, vw, hE, rfl, hWO, hb2⟩
 rw [repS_eq hE] at hWO ⊢
 have HRO := Hid.mk (repS_ok tx)
 generalize repS tx = rs at *
 obtain ⟨x, n, ok⟩ := rs
 simp only at *
 obtain ⟨eu, rfl, hOw⟩ := hWO
 obtain ⟨eA, em, ec, rfl⟩ := hOw.shape
 have B3 : Hid (Below w.heap.size w w3) := B2h.out.trans (hb2.mono B2h.out.size)
 have K3 := Hid.mk (K2.out.on hb2 K2.out.lt)
 have D3 := Hid.mk (D2.out.on hb2 D2.out.lt)
 have HK2 : Hid (w.heap.size + 1 < w2.heap.size) := K2.out.lt
 have HP1 : Hid (w2.heap.size ≤ w3.heap.size) := hb2.size
 clear hE hb2 K2 D2 B2h
 have b4 : Below w3.heap.size w3 ((w3.alloc (.cells #[.int .i64 x.term, .int .i64 x.vote, .int .i64 x.base, .int .i64 x.bterm, .slice eA em ec] 30)).alloc (.cells #[.int .i64 0, .int .i64 0, .string ⟨#[]⟩] 32)) := below_r2 _ _ _
 have KW := Hid.mk ((Blk.new w3 #[.int .i64 x.term, .int .i64 x.vote, .int .i64 x.base, .int .i64 x.bterm, .slice eA em ec] 30).alloc (.cells #[.int .i64 0, .int .i64 0, .string ⟨#[]⟩] 32))
 have KS : Hid (Blk ((w3.alloc (.cells #[.int .i64 x.term, .int .i64 x.vote, .int .i64 x.base, .int .i64 x.bterm, .slice eA em ec] 30)).alloc (.cells #[.int .i64 0, .int .i64 0, .string ⟨#[]⟩] 32)) (w3.heap.size + 1) #[.int .i64 0, .int .i64 0, .string ⟨#[]⟩] 32) := by
  have h := Blk.new (w3.alloc (.cells #[.int .i64 x.term, .int .i64 x.vote, .int .i64 x.base, .int .i64 x.bterm, .slice eA em ec] 30)) #[.int .i64 0, .int .i64 0, .string ⟨#[]⟩] 32
  rw [World.size_alloc] at h
  exact h
 have B4 : Hid (Below w.heap.size w ((w3.alloc (.cells #[.int .i64 x.term, .int .i64 x.vote, .int .i64 x.base, .int .i64 x.bterm, .slice eA em ec] 30)).alloc (.cells #[.int .i64 0, .int .i64 0, .string ⟨#[]⟩] 32))) := B3.out.trans (b4.mono B3.out.size)
 have K4 := Hid.mk (K3.out.on b4 K3.out.lt)
 have D4 := Hid.mk (D3.out.on b4 D3.out.lt)
 have O4 := Hid.mk (hOw.on b4)
 have HEB : Hid (∀ g, (Value.slice eA em ec).ownBlock = some g → g < w3.heap.size) := fun g hg => (hOw.lt g hg).2
 clear b4 K3 D3 B3 hOw
 have y0 := D4.out.cell 0 _ rfl
 have y1 := D4.out.cell 1 _ rfl
 have y2 := D4.out.cell 2 _ rfl
 have y3 := D4.out.cell 3 _ rfl
 have y4 := D4.out.cell 4 _ rfl
 have c1 := cL ⟨#[115, 110, 97, 112]⟩ _ B4.out
 rw [show loadR d ⟨#[115, 110, 97, 112]⟩ = loadR d snapN from rfl] at c1
 go_wp2_with fail
 obtain ⟨pw, hpw⟩ : ∃ pw, pw = w3.heap.size := ⟨_, rfl⟩
 obtain ⟨ps, hps⟩ : ∃ ps, ps = w3.heap.size + 1 := ⟨_, rfl⟩
 have HPS : Hid (ps = pw + 1) := by unfold Hid; rw [hps, hpw]
 rw [← hps, ← hpw]
 rw [← hps] at KS
 rw [← hpw] at KW HP1 HEB
 clear hps hpw
 generalize (w3.alloc (.cells #[.int .i64 x.term, .int .i64 x.vote, .int .i64 x.base, .int .i64 x.bterm, .slice eA em ec] 30)).alloc (.cells #[.int .i64 0, .int .i64 0, .string ⟨#[]⟩] 32) = X at *
 refine c1.mono ?_
 rintro e w5 ⟨rfl, hb⟩
 have B5 : Hid (Below w.heap.size w w5) := B4.out.trans (hb.mono B4.out.size)
 have K5 := Hid.mk (K4.out.on hb K4.out.lt)
 have D5 := Hid.mk (D4.out.on hb D4.out.lt)
 have W5 := Hid.mk (KW.out.on hb KW.out.lt)
 have S5 := Hid.mk (KS.out.on hb KS.out.lt)
 have O5 := Hid.mk (O4.out.on hb)
 clear hb y0 y1 y2 y3 y4 K4 D4 B4 O4 KW KS c1
 generalize (loadR d snapN).1 = sx at *
 generalize (loadR d snapN).2 = hs at *
 generalize snR d = sn at *
 obtain ⟨s, fine⟩ := sn
 simp only at *
 obtain ⟨rfl, rfl, hc⟩ := HCS.out
 have HC2 := Hid.mk hc
 clear hc
 go_upto_if 44 with fail
 go_cut [8, 12, 13] from 45 to 54 (fun s8 s12 s13 wc => s8 = .bool true ∧ Blk wc pw #[.int .i64 x.term, .int .i64 x.vote, .int .i64 x.base, .int .i64 x.bterm, .slice eA em ec] 30 ∧ Owns wc w2.heap.size 59 2 (.slice eA em ec) (entR x.ents) ∧ Blk wc (w.heap.size + 1) #[.int .i64 0, .int .i64 0, .int .i64 0, .int .i64 0, .slice none 0 0, .int .i64 0, .int .i64 0, .string ⟨#[]⟩, .bool false] 34 ∧ Blk wc ps #[.int .i64 s.index, .int .i64 s.term, .string s.data] 32 ∧ Blk wc w.heap.size #[.int .i64 d.room, .int .i64 d.next, v1, v2, v3] 41 ∧ Below w.heap.size w wc)
 case first =>
  cases hs with
  | false =>
   have hsn : (s, true) = (sn0, true) := HSD.out
   cases hsn
   go_wp2_with fail
   go_meet
   exact ⟨by trivial, W5.out, O5.out, K5.out, S5.out, D5.out, B5.out⟩
  | true =>
   have hsn : (s, true) = rdSn sx := HSD.out
   have cR := fun wx => specReadSnap sx wx HSS.out
   rw [readSn_eq, ← hsn] at cR
   unfold vSnp at cR
   simp only at cR
   clear hsn
   go_wp2_with fail
   refine (cR _).mono ?_
   rintro e w6 ⟨rfl, hb⟩
   have B6 : Hid (Below w.heap.size w w6) := B5.out.trans (hb.mono B5.out.size)
   have b7 : Below w6.heap.size w6 (w6.alloc (.cells #[.int .i64 s.index, .int .i64 s.term, .string s.data] 32)) := (Below.refl _ _).alloc (Nat.le_refl _) _
   have B7 : Hid (Below w.heap.size w (w6.alloc (.cells #[.int .i64 s.index, .int .i64 s.term, .string s.data] 32))) := B6.out.trans (b7.mono B6.out.size)
   have hx := hb.trans (b7.mono hb.size)
   have K7 := Hid.mk (K5.out.on hx K5.out.lt)
   have D7 := Hid.mk (D5.out.on hx D5.out.lt)
   have W7 := Hid.mk (W5.out.on hx W5.out.lt)
   have S7 := Hid.mk (S5.out.on hx S5.out.lt)
   have O7 := Hid.mk (O5.out.on hx)
   have N7 := Hid.mk (Blk.new w6 #[.int .i64 s.index, .int .i64 s.term, .string s.data] 32)
   clear hb b7 hx B6
   have q0 := N7.out.cell 0 _ rfl
   have q1 := N7.out.cell 1 _ rfl
   have q2 := N7.out.cell 2 _ rfl
   have h1 : Blk ((w6.alloc (.cells #[.int .i64 s.index, .int .i64 s.term, .string s.data] 32)).setCell ⟨ps, 0, none⟩ (.int .i64 s.index)) ps #[.int .i64 s.index, .int .i64 0, .string ⟨#[]⟩] 32 := S7.out.set 0 _
   have h2 : Blk (((w6.alloc (.cells #[.int .i64 s.index, .int .i64 s.term, .string s.data] 32)).setCell ⟨ps, 0, none⟩ (.int .i64 s.index)).setCell ⟨ps, 1, none⟩ (.int .i64 s.term)) ps #[.int .i64 s.index, .int .i64 s.term, .string ⟨#[]⟩] 32 := h1.set 1 _
   have h3 : Blk ((((w6.alloc (.cells #[.int .i64 s.index, .int .i64 s.term, .string s.data] 32)).setCell ⟨ps, 0, none⟩ (.int .i64 s.index)).setCell ⟨ps, 1, none⟩ (.int .i64 s.term)).setCell ⟨ps, 2, none⟩ (.string s.data)) ps #[.int .i64 s.index, .int .i64 s.term, .string s.data] 32 := h2.set 2 _
   have r0 := S7.out.cell 0 _ rfl
   have r1 := h1.cell 1 _ rfl
   have r2 := h2.cell 2 _ rfl
   have f0 := S7.out.free 0
   have f1 := h1.free 1
   have f2 := h2.free 2
   have H3 := Hid.mk h3
   have n1 : pw ≠ ps := by have := HPS.out; omega
   have n2 : w.heap.size + 1 ≠ ps := by have := HPS.out; have := HK2.out; have := HP1.out; omega
   have n3 : w.heap.size ≠ ps := by have := HPS.out; have := HK2.out; have := HP1.out; omega
   have n4 : w.heap.size ≤ ps := by have := HPS.out; have := HK2.out; have := HP1.out; omega
   have R := Hid.mk (And.intro (((W7.out.other n1 0 (.int .i64 s.index)).other n1 1 (.int .i64 s.term)).other n1 2 (.string s.data)) (And.intro (((O7.out.other (O7.out.notBlk S7.out (by decide)) 0 (.int .i64 s.index)).other (O7.out.notBlk S7.out (by decide)) 1 (.int .i64 s.term)).other (O7.out.notBlk S7.out (by decide)) 2 (.string s.data)) (And.intro (((K7.out.other n2 0 (.int .i64 s.index)).other n2 1 (.int .i64 s.term)).other n2 2 (.string s.data)) (And.intro (((D7.out.other n3 0 (.int .i64 s.index)).other n3 1 (.int .i64 s.term)).other n3 2 (.string s.data)) (((B7.out.setCell (p := ⟨ps, 0, none⟩) n4 (.int .i64 s.index)).setCell (p := ⟨ps, 1, none⟩) n4 (.int .i64 s.term)).setCell (p := ⟨ps, 2, none⟩) n4 (.string s.data))))))
   clear h1 h2 h3 n1 n2 n3 n4
   go_wp2_with fail
   go_meet
   obtain ⟨g1, g2, g3, g4, g5⟩ := R.out
   exact ⟨by trivial, g1, g2, g3, H3.out, g4, g5⟩
 case rest =>
 obtain ⟨rfl, h1, h2, h3, h4, h5, h6⟩ := hcut
 have W6 := Hid.mk h1
 have O6 := Hid.mk h2
 have K6 := Hid.mk h3
 have S6 := Hid.mk h4
 have D6 := Hid.mk h5
 have B6 := Hid.mk h6
 clear h1 h2 h3 h4 h5 h6 W5 O5 K5 S5 D5 B5
 generalize wc = w6 at *
 have hlt := HC2.out
 have HRY2 := Hid.mk (HRY.out (by unfold reach; rw [decide_eq_true hlt]; rfl))
 have q0 := W6.out.cell 0 _ rfl
 have q1 := W6.out.cell 1 _ rfl
 have q2 := W6.out.cell 2 _ rfl
 have q3 := W6.out.cell 3 _ rfl
 have q4 := W6.out.cell 4 _ rfl
 have s0 := S6.out.cell 0 _ rfl
 have s1 := S6.out.cell 1 _ rfl
 have s2 := S6.out.cell 2 _ rfl
 have LW : Hid (∀ wx, Owns wx w2.heap.size 59 2 (.slice eA em ec) (entR x.ents) → LiesL wx (w.heap.size + 2) pw (.slice eA em ec) (entR x.ents)) := fun wx ho => LiesL.ofLt ho HEB.out (by have := HK2.out; omega)
 have HOK2 : Hid (walOk x = true) := HRO.out (by trivial)
 clear HRY HRB
 obtain ⟨z1, z2, z3⟩ := wok_sizes HOK2.out
 obtain ⟨i1, i2, i3, i4⟩ := HSN.out
 have HZ : Hid (x.ents.length ≤ 60 ∧ 0 ≤ x.base ∧ x.base ≤ 100000 ∧ s.index ≤ 100000) := ⟨z1, z2, z3, i2⟩
 have qt : (tx.size : Int) ≤ 1048576 := by have := HSZ.out; omega
 clear z1 z2 z3 i1 i2 i3 i4
 have hgt : ¬ s.index < x.base := by omega
 have g0 : decide (s.index < x.base) = false := decide_eq_false hgt
 have heq : ¬ x.base = s.index := by omega
 have g3 : (x.base == s.index) = false := by simpa using heq
 obtain ⟨y, hy⟩ : ∃ y, y = if x.base < s.index then behW x s else x := ⟨_, rfl⟩
 have HY : Hid (y = if x.base < s.index then behW x s else x) := hy
 rw [← hy] at HRY2
 clear hy
 have HLT0 : Hid (x.base < s.index) := hlt
 clear hlt
 go_upto_if 87 with fail
 generalize hld : decide (x.base < s.index) = ld at *
 have HLD : Hid (decide (x.base < s.index) = ld) := hld
 clear hld
 generalize hdn : decide (n < tx.size) = dn at *
 clear hdn
 obtain rfl : ld = true := by rw [← HLD.out]; exact decide_eq_true HLT0.out
 have HBP0 : Hid (w6.heap.size = w6.heap.size) := rfl
 have L6 : Hid (LiesL w6 (w.heap.size + 2) pw (.slice eA em ec) (entR x.ents)) := LW.out w6 O6.out
 have HSP : Hid (ps ≠ pw) := by have := HPS.out; unfold Hid; omega
 have HKP : Hid (w.heap.size + 1 ≠ pw) := by have := HK2.out; have := HP1.out; unfold Hid; omega
 have HDP : Hid (w.heap.size ≠ pw) := by have := HK2.out; have := HP1.out; unfold Hid; omega
 have HWP : Hid (w.heap.size ≤ pw) := by have := HK2.out; have := HP1.out; unfold Hid; omega
 have HBP : Hid (pw ≤ pw) := Nat.le_refl _
 have HPZ : Hid (pw ≤ w6.heap.size) := Nat.le_of_lt W6.out.lt
 obtain ⟨B2, hB2⟩ : ∃ B2, B2 = pw := ⟨_, rfl⟩
 rw [← hB2] at L6 HPZ
 have HBP : Hid (B2 ≤ pw) := by unfold Hid; omega
 clear hB2 HBP0
 go_cut [14, 15] from 88 to 131 (fun s14 s15 wc => s14 = .bool true ∧ (∃ nA nm nc, Blk wc pw #[.int .i64 y.term, .int .i64 y.vote, .int .i64 y.base, .int .i64 y.bterm, .slice nA nm nc] 30 ∧ LiesL wc (w.heap.size + 2) B2 (.slice nA nm nc) (entR y.ents) ∧ Blk wc (w.heap.size + 1) #[.int .i64 0, .int .i64 0, .int .i64 0, .int .i64 0, .slice none 0 0, .int .i64 0, .int .i64 0, .string ⟨#[]⟩, .bool false] 34 ∧ Blk wc ps #[.int .i64 s.index, .int .i64 s.term, .string s.data] 32 ∧ Blk wc w.heap.size #[.int .i64 d.room, .int .i64 d.next, v1, v2, v3] 41 ∧ Below w.heap.size w wc ∧ B2 ≤ wc.heap.size))
 case first =>
  have HLT : Hid (x.base < s.index) := HLT0.out
  obtain ⟨k, hk⟩ : ∃ k : Nat, s.index - x.base = (k : Int) := ⟨(s.index - x.base).toNat, by have := HLT.out; omega⟩
  obtain ⟨k1, hk1⟩ : ∃ k1 : Nat, k = k1 + 1 := ⟨k - 1, by have := HLT.out; omega⟩
  have HKT : Hid ((s.index - x.base).toNat = k) := by unfold Hid; omega
  have HWR := Hid.mk (wraps_sp s.index x.base k k1 hk hk1 (by have := HZ.out; omega))
  have HKK : Hid (k = k1 + 1) := hk1
  have HKG : Hid (k - 1 = k1) := by unfold Hid; omega
  clear hk hk1
  have qn : (x.ents.length : Int) ≤ 60 := by have := HZ.out.1; omega
  have hLS := L6.out.1
  obtain ⟨eA', cap, heq, hlk⟩ := ent_look hLS
  cases heq
  have HLK := Hid.mk hlk
  have HLL := Hid.mk hLS
  clear hlk hLS
  have HBE : Hid (behE x s = if k ≤ x.ents.length ∧ (x.ents.getD k1 default).term = s.term then x.ents.drop k else []) := by
   unfold Hid behE
   rw [HKT.out, HKG.out]
  by_cases hle : k ≤ x.ents.length
  rotate_left
  ·have HE : Hid (behE x s = []) := by unfold Hid; rw [HBE.out, if_neg (fun h => hle h.1)]
   have p1 : ¬ (k : Int) ≤ (x.ents.length : Int) := by omega
   have p2 : decide ((k : Int) ≤ (x.ents.length : Int)) = false := decide_eq_false p1
   have p4 : decide (k ≤ x.ents.length) = false := decide_eq_false hle
   obtain ⟨w1', w2', w3', w4'⟩ := HWR.out
   go_upto_region 19 with fail
   clear w1' w2' w3' w4'
   go_wp2_with fail
   have SS : Hid (w6.drew.cell? ⟨pw, 4, none⟩ = some (.slice eA x.ents.length ec) ∧ w6.drew.cell? ⟨ps, 1, none⟩ = some (.int .i64 s.term)) := ⟨q4, s1⟩
   refine wp_region_until (fun w' => w'.cell? ⟨pw, 4, none⟩ = some (.slice eA x.ents.length ec) ∧ w'.cell? ⟨ps, 1, none⟩ = some (.int .i64 s.term)) (fun i => false) 17 (by rfl) (by kernel_rfl) ?_
   have WV6 : Hid (Blk w6.drew pw #[.int .i64 x.term, .int .i64 x.vote, .int .i64 x.base, .int .i64 x.bterm, .slice eA x.ents.length ec] 30) := W6.out
   have KV6 : Hid (Blk w6.drew (w.heap.size + 1) #[.int .i64 0, .int .i64 0, .int .i64 0, .int .i64 0, .slice none 0 0, .int .i64 0, .int .i64 0, .string ⟨#[]⟩, .bool false] 34) := K6.out
   have SV6 : Hid (Blk w6.drew ps #[.int .i64 s.index, .int .i64 s.term, .string s.data] 32) := S6.out
   have DV6 : Hid (Blk w6.drew w.heap.size #[.int .i64 d.room, .int .i64 d.next, v1, v2, v3] 41) := D6.out
   have BV6 : Hid (Below w.heap.size w w6.drew) := B6.out.drew
   have LV6 : Hid (LiesL w6.drew (w.heap.size + 2) B2 (.slice eA x.ents.length ec) (entR x.ents)) := ⟨L6.out.1.heap rfl, L6.out.2⟩
   have ZV6 : Hid (B2 ≤ w6.drew.heap.size) := HPZ.out
   generalize w6.drew = V at *
   refine until_pure 0 (v := ?_) (by rfl) (by kernel_rfl) (by exact fun _ _ _ h => h) (by rfl) ?_ ?_
   rotate_left
   ·intro w
    go_simp
    try with_reducible rfl
   try simp only [Act.put, setIfInBounds_toArray, set_cons_zero, set_cons_succ]
   refine until_pure 1 (v := ?_) (by rfl) (by kernel_rfl) (by exact fun _ _ _ h => h) (by rfl) ?_ ?_
   rotate_left
   ·intro w
    go_simp
    try with_reducible rfl
   try simp only [Act.put, setIfInBounds_toArray, set_cons_zero, set_cons_succ]
   refine until_take 2 (v := ?_) (by rfl) (by kernel_rfl) (by exact fun _ _ _ h => h) (by rfl) ?_ SS.out ?_
   rotate_left
   ·intro w hSw
    try dsimp only at hSw
    go_simp
    try with_reducible rfl
   try simp only [Act.put, setIfInBounds_toArray, set_cons_zero, set_cons_succ]
   refine until_pure 3 (v := ?_) (by rfl) (by kernel_rfl) (by exact fun _ _ _ h => h) (by rfl) ?_ ?_
   rotate_left
   ·intro w
    go_simp
    try with_reducible rfl
   try simp only [Act.put, setIfInBounds_toArray, set_cons_zero, set_cons_succ]
   refine until_pure 4 (v := ?_) (by rfl) (by kernel_rfl) (by exact fun _ _ _ h => h) (by rfl) ?_ ?_
   rotate_left
   ·intro w
    go_simp
    try with_reducible rfl
   try simp only [Act.put, setIfInBounds_toArray, set_cons_zero, set_cons_succ]
   refine until_pure 5 (v := ?_) (by rfl) (by kernel_rfl) (by exact fun _ _ _ h => h) (by rfl) ?_ ?_
   rotate_left
   ·intro w
    go_simp
    try with_reducible rfl
   try simp only [Act.put, setIfInBounds_toArray, set_cons_zero, set_cons_succ]
   refine until_skip 6 (by rfl) (by kernel_rfl) (by exact fun _ _ _ h => h) (by rfl) ?_
   try simp only [Act.put, setIfInBounds_toArray, set_cons_zero, set_cons_succ]
   refine until_skip 7 (by rfl) (by kernel_rfl) (by exact fun _ _ _ h => h) (by rfl) ?_
   try simp only [Act.put, setIfInBounds_toArray, set_cons_zero, set_cons_succ]
   refine until_skip 8 (by rfl) (by kernel_rfl) (by exact fun _ _ _ h => h) (by rfl) ?_
   try simp only [Act.put, setIfInBounds_toArray, set_cons_zero, set_cons_succ]
   refine until_skip 9 (by rfl) (by kernel_rfl) (by exact fun _ _ _ h => h) (by rfl) ?_
   try simp only [Act.put, setIfInBounds_toArray, set_cons_zero, set_cons_succ]
   refine until_skip 10 (by rfl) (by kernel_rfl) (by exact fun _ _ _ h => h) (by rfl) ?_
   try simp only [Act.put, setIfInBounds_toArray, set_cons_zero, set_cons_succ]
   refine until_skip 11 (by rfl) (by kernel_rfl) (by exact fun _ _ _ h => h) (by rfl) ?_
   try simp only [Act.put, setIfInBounds_toArray, set_cons_zero, set_cons_succ]
   refine until_skip 12 (by rfl) (by kernel_rfl) (by exact fun _ _ _ h => h) (by rfl) ?_
   try simp only [Act.put, setIfInBounds_toArray, set_cons_zero, set_cons_succ]
   refine until_skip 13 (by rfl) (by kernel_rfl) (by exact fun _ _ _ h => h) (by rfl) ?_
   try simp only [Act.put, setIfInBounds_toArray, set_cons_zero, set_cons_succ]
   refine until_skip 14 (by rfl) (by kernel_rfl) (by exact fun _ _ _ h => h) (by rfl) ?_
   try simp only [Act.put, setIfInBounds_toArray, set_cons_zero, set_cons_succ]
   refine until_skip 15 (by rfl) (by kernel_rfl) (by exact fun _ _ _ h => h) (by rfl) ?_
   try simp only [Act.put, setIfInBounds_toArray, set_cons_zero, set_cons_succ]
   refine until_pure 16 (v := ?_) (by rfl) (by kernel_rfl) (by exact fun _ _ _ h => h) (by rfl) ?_ ?_
   rotate_left
   ·intro w
    go_simp
    try with_reducible rfl
   try simp only [Act.put, setIfInBounds_toArray, set_cons_zero, set_cons_succ]
   refine until_done (by kernel_rfl) ?_ _
   have al := (Below.refl V.heap.size V).alloc (Nat.le_refl _) (.cells #[] 59)
   have WA := WV6.out.on al WV6.out.lt
   have KA := KV6.out.on al KV6.out.lt
   have SA := SV6.out.on al SV6.out.lt
   have DA := DV6.out.on al DV6.out.lt
   have BA := BV6.out.trans (al.mono BV6.out.size)
   have e4 := WA.cell 4 _ rfl
   have f4 := WA.free 4
   have t0' := SA.cell 0 _ rfl
   go_upto_region 22 with fail
   have HNV : Hid (w.heap.size + 2 ≤ V.heap.size) := by have h1 := WV6.out.lt; have := HK2.out; have := HP1.out; unfold Hid; omega
   have KP : Hid (Blk ((V.alloc (.cells #[] 59)).setCell ⟨pw, 4, none⟩ (.slice (some ⟨V.heap.size, 0, none⟩) 0 0)) pw #[.int .i64 x.term, .int .i64 x.vote, .int .i64 x.base, .int .i64 x.bterm, .slice (some ⟨V.heap.size, 0, none⟩) 0 0] 30) := WA.set 4 _
   have KZ0 := Hid.mk (KA.other HKP.out 4 (.slice (some ⟨V.heap.size, 0, none⟩) 0 0))
   have SZ0 := Hid.mk (SA.other HSP.out 4 (.slice (some ⟨V.heap.size, 0, none⟩) 0 0))
   have DZ0 := Hid.mk (DA.other HDP.out 4 (.slice (some ⟨V.heap.size, 0, none⟩) 0 0))
   have BZ0 := Hid.mk (BA.setCell (p := ⟨pw, 4, none⟩) HWP.out (.slice (some ⟨V.heap.size, 0, none⟩) 0 0))
   have HZ2 : Hid (B2 ≤ ((V.alloc (.cells #[] 59)).setCell ⟨pw, 4, none⟩ (.slice (some ⟨V.heap.size, 0, none⟩) 0 0)).heap.size) := by unfold Hid; rw [World.size_setCell]; exact Nat.le_trans ZV6.out al.size
   have LZ : Hid (LiesL ((V.alloc (.cells #[] 59)).setCell ⟨pw, 4, none⟩ (.slice (some ⟨V.heap.size, 0, none⟩) 0 0)) (w.heap.size + 2) B2 (.slice (some ⟨V.heap.size, 0, none⟩) 0 0) (entR [])) := ⟨⟨_, 0, rfl, ⟨fun h => (by cases h), Nat.le_refl _⟩, fun r hr => (by cases hr), .inl rfl⟩, fun g off sp n c e => by cases e; exact HNV.out⟩
   clear al WA KA SA DA BA e4 f4 t0' WV6 KV6 SV6 DV6 BV6 LV6 ZV6 HNV
   generalize (V.alloc (.cells #[] 59)).setCell ⟨pw, 4, none⟩ (.slice (some ⟨V.heap.size, 0, none⟩) 0 0) = Y at *
   generalize V.heap.size = N at *
   have k1 : Blk (Y.setCell ⟨pw, 2, none⟩ (.int .i64 s.index)) pw #[.int .i64 x.term, .int .i64 x.vote, .int .i64 s.index, .int .i64 x.bterm, .slice (some ⟨N, 0, none⟩) 0 0] 30 := KP.out.set 2 _
   have k2 : Blk ((Y.setCell ⟨pw, 2, none⟩ (.int .i64 s.index)).setCell ⟨pw, 3, none⟩ (.int .i64 s.term)) pw #[.int .i64 x.term, .int .i64 x.vote, .int .i64 s.index, .int .i64 s.term, .slice (some ⟨N, 0, none⟩) 0 0] 30 := k1.set 3 _
   have e2 := KP.out.cell 2 _ rfl
   have f2 := KP.out.free 2
   have e3 := k1.cell 3 _ rfl
   have f3 := k1.free 3
   have j0 := k2.cell 0 _ rfl
   have t0 := SZ0.out.cell 0 _ rfl
   have t1 : (Y.setCell ⟨pw, 2, none⟩ (.int .i64 s.index)).cell? ⟨ps, 1, none⟩ = some (.int .i64 s.term) := (SZ0.out.other HSP.out 2 _).cell 1 _ rfl
   have t2 : ((Y.setCell ⟨pw, 2, none⟩ (.int .i64 s.index)).setCell ⟨pw, 3, none⟩ (.int .i64 s.term)).cell? ⟨ps, 1, none⟩ = some (.int .i64 s.term) := ((SZ0.out.other HSP.out 2 _).other HSP.out 3 _).cell 1 _ rfl
   have S2 := Hid.mk ((SZ0.out.other HSP.out 2 (.int .i64 s.index)).other HSP.out 3 (.int .i64 s.term))
   have Z2 := Hid.mk ((KZ0.out.other HKP.out 2 (.int .i64 s.index)).other HKP.out 3 (.int .i64 s.term))
   have D2 := Hid.mk ((DZ0.out.other HDP.out 2 (.int .i64 s.index)).other HDP.out 3 (.int .i64 s.term))
   have L2 := Hid.mk ((LZ.out.putHi HBP.out 2 (.int .i64 s.index)).putHi HBP.out 3 (.int .i64 s.term))
   have B2' := Hid.mk ((BZ0.out.setCell (p := ⟨pw, 2, none⟩) HWP.out (.int .i64 s.index)).setCell (p := ⟨pw, 3, none⟩) HWP.out (.int .i64 s.term))
   by_cases htt : x.term < s.term
   ·have hyy : y = ⟨s.term, -1, s.index, s.term, behE x s⟩ := by rw [HY.out, if_pos HLT.out]; unfold behW; simp only [if_pos htt]
    have k3 : Blk (((Y.setCell ⟨pw, 2, none⟩ (.int .i64 s.index)).setCell ⟨pw, 3, none⟩ (.int .i64 s.term)).setCell ⟨pw, 0, none⟩ (.int .i64 s.term)) pw #[.int .i64 s.term, .int .i64 x.vote, .int .i64 s.index, .int .i64 s.term, .slice (some ⟨N, 0, none⟩) 0 0] 30 := k2.set 0 _
    have k4 : Blk ((((Y.setCell ⟨pw, 2, none⟩ (.int .i64 s.index)).setCell ⟨pw, 3, none⟩ (.int .i64 s.term)).setCell ⟨pw, 0, none⟩ (.int .i64 s.term)).setCell ⟨pw, 1, none⟩ (.int .i64 (-1))) pw #[.int .i64 s.term, .int .i64 (-1), .int .i64 s.index, .int .i64 s.term, .slice (some ⟨N, 0, none⟩) 0 0] 30 := k3.set 1 _
    have f0 := k2.free 0
    have e1 := k3.cell 1 _ rfl
    have f1 := k3.free 1
    have R := Hid.mk (And.intro k4 (And.intro ((L2.out.putHi HBP.out 0 (.int .i64 s.term)).putHi HBP.out 1 (.int .i64 (-1))) (And.intro ((Z2.out.other HKP.out 0 (.int .i64 s.term)).other HKP.out 1 (.int .i64 (-1))) (And.intro ((S2.out.other HSP.out 0 (.int .i64 s.term)).other HSP.out 1 (.int .i64 (-1))) (And.intro ((D2.out.other HDP.out 0 (.int .i64 s.term)).other HDP.out 1 (.int .i64 (-1))) ((B2'.out.setCell (p := ⟨pw, 0, none⟩) HWP.out (.int .i64 s.term)).setCell (p := ⟨pw, 1, none⟩) HWP.out (.int .i64 (-1))))))))
    have HSZ4 : Hid (B2 ≤ ((((Y.setCell ⟨pw, 2, none⟩ (.int .i64 s.index)).setCell ⟨pw, 3, none⟩ (.int .i64 s.term)).setCell ⟨pw, 0, none⟩ (.int .i64 s.term)).setCell ⟨pw, 1, none⟩ (.int .i64 (-1))).heap.size) := by unfold Hid; simp only [World.size_setCell]; exact HZ2.out
    clear k1 k2 k3 k4 S2 Z2 D2 L2 B2'
    go_wp2_with fail
    go_meet
    rw [hyy]
    simp only
    rw [HE.out]
    obtain ⟨g1, g2, g3, g4, g5, g6⟩ := R.out
    exact ⟨by trivial, _, _, _, g1, g2, g3, g4, g5, g6, HSZ4.out⟩
   ·have hyy : y = ⟨x.term, x.vote, s.index, s.term, behE x s⟩ := by rw [HY.out, if_pos HLT.out]; unfold behW; simp only [if_neg htt]
    have htd : decide (x.term < s.term) = false := decide_eq_false htt
    have K2 := Hid.mk k2
    have HSZ4 : Hid (B2 ≤ ((Y.setCell ⟨pw, 2, none⟩ (.int .i64 s.index)).setCell ⟨pw, 3, none⟩ (.int .i64 s.term)).heap.size) := by unfold Hid; simp only [World.size_setCell]; exact HZ2.out
    clear k1 k2
    go_wp2_with fail
    go_meet
    rw [hyy]
    simp only
    rw [HE.out]
    exact ⟨by trivial, _, _, _, K2.out, L2.out, Z2.out, S2.out, D2.out, B2'.out, HSZ4.out⟩
  ·obtain ⟨g, off, rfl, hgB, hc0, _⟩ := HLK.out k1 (by have := HKK.out; omega)
   have p1 : (k : Int) ≤ (x.ents.length : Int) := by omega
   have p3 : (k1 : Int) < (x.ents.length : Int) := by have := HKK.out; omega
   have p5 : k1 < x.ents.length := by omega
   have hC0 := hc0
   generalize (x.ents.getD k1 default).term = et at *
   have HC : Hid (w6.cell? ⟨g, off + k1 * 2, none⟩ = some (.int .i64 et)) := hC0
   clear hc0 hC0 hgB
   by_cases het : et = s.term
   rotate_left
   ·have HE : Hid (behE x s = []) := by unfold Hid; rw [HBE.out, if_neg (fun h => het h.2)]
    have z1 : (et == s.term) = false := by simpa using het
    obtain ⟨w1', w2', w3', w4'⟩ := HWR.out
    go_upto_region 19 with fail
    go_wp2_with fail
    have SS : Hid (w6.drew.cell? ⟨pw, 4, none⟩ = some (.slice (some ⟨g, off, none⟩) x.ents.length ec) ∧ w6.drew.cell? ⟨ps, 1, none⟩ = some (.int .i64 s.term) ∧ w6.drew.cell? ⟨g, off + k1 * 2, none⟩ = some (.int .i64 et)) := ⟨q4, s1, HC.out⟩
    refine wp_region_until (fun w' => w'.cell? ⟨pw, 4, none⟩ = some (.slice (some ⟨g, off, none⟩) x.ents.length ec) ∧ w'.cell? ⟨ps, 1, none⟩ = some (.int .i64 s.term) ∧ w'.cell? ⟨g, off + k1 * 2, none⟩ = some (.int .i64 et)) (fun i => false) 17 (by rfl) (by kernel_rfl) ?_
    have WV6 : Hid (Blk w6.drew pw #[.int .i64 x.term, .int .i64 x.vote, .int .i64 x.base, .int .i64 x.bterm, .slice (some ⟨g, off, none⟩) x.ents.length ec] 30) := W6.out
    have KV6 : Hid (Blk w6.drew (w.heap.size + 1) #[.int .i64 0, .int .i64 0, .int .i64 0, .int .i64 0, .slice none 0 0, .int .i64 0, .int .i64 0, .string ⟨#[]⟩, .bool false] 34) := K6.out
    have SV6 : Hid (Blk w6.drew ps #[.int .i64 s.index, .int .i64 s.term, .string s.data] 32) := S6.out
    have DV6 : Hid (Blk w6.drew w.heap.size #[.int .i64 d.room, .int .i64 d.next, v1, v2, v3] 41) := D6.out
    have BV6 : Hid (Below w.heap.size w w6.drew) := B6.out.drew
    have LV6 : Hid (LiesL w6.drew (w.heap.size + 2) B2 (.slice (some ⟨g, off, none⟩) x.ents.length ec) (entR x.ents)) := ⟨L6.out.1.heap rfl, L6.out.2⟩
    have ZV6 : Hid (B2 ≤ w6.drew.heap.size) := HPZ.out
    generalize w6.drew = V at *
    refine until_pure 0 (v := ?_) (by rfl) (by kernel_rfl) (by exact fun _ _ _ h => h) (by rfl) ?_ ?_
    rotate_left
    ·intro w
     go_simp
     try with_reducible rfl
    try simp only [Act.put, setIfInBounds_toArray, set_cons_zero, set_cons_succ]
    refine until_pure 1 (v := ?_) (by rfl) (by kernel_rfl) (by exact fun _ _ _ h => h) (by rfl) ?_ ?_
    rotate_left
    ·intro w
     go_simp
     try with_reducible rfl
    try simp only [Act.put, setIfInBounds_toArray, set_cons_zero, set_cons_succ]
    refine until_take 2 (v := ?_) (by rfl) (by kernel_rfl) (by exact fun _ _ _ h => h) (by rfl) ?_ SS.out ?_
    rotate_left
    ·intro w hSw
     try dsimp only at hSw
     go_simp
     try with_reducible rfl
    try simp only [Act.put, setIfInBounds_toArray, set_cons_zero, set_cons_succ]
    refine until_pure 3 (v := ?_) (by rfl) (by kernel_rfl) (by exact fun _ _ _ h => h) (by rfl) ?_ ?_
    rotate_left
    ·intro w
     go_simp
     try with_reducible rfl
    try simp only [Act.put, setIfInBounds_toArray, set_cons_zero, set_cons_succ]
    refine until_pure 4 (v := ?_) (by rfl) (by kernel_rfl) (by exact fun _ _ _ h => h) (by rfl) ?_ ?_
    rotate_left
    ·intro w
     go_simp
     try with_reducible rfl
    try simp only [Act.put, setIfInBounds_toArray, set_cons_zero, set_cons_succ]
    refine until_pure 5 (v := ?_) (by rfl) (by kernel_rfl) (by exact fun _ _ _ h => h) (by rfl) ?_ ?_
    rotate_left
    ·intro w
     go_simp
     try with_reducible rfl
    try simp only [Act.put, setIfInBounds_toArray, set_cons_zero, set_cons_succ]
    refine until_pure 6 (v := ?_) (by rfl) (by kernel_rfl) (by exact fun _ _ _ h => h) (by rfl) ?_ ?_
    rotate_left
    ·intro w
     go_simp
     try with_reducible rfl
    try simp only [Act.put, setIfInBounds_toArray, set_cons_zero, set_cons_succ]
    refine until_take 7 (v := ?_) (by rfl) (by kernel_rfl) (by exact fun _ _ _ h => h) (by rfl) ?_ SS.out ?_
    rotate_left
    ·intro w hSw
     try dsimp only at hSw
     go_simp
     try with_reducible rfl
    try simp only [Act.put, setIfInBounds_toArray, set_cons_zero, set_cons_succ]
    refine until_pure 8 (v := ?_) (by rfl) (by kernel_rfl) (by exact fun _ _ _ h => h) (by rfl) ?_ ?_
    rotate_left
    ·intro w
     go_simp
     try with_reducible rfl
    try simp only [Act.put, setIfInBounds_toArray, set_cons_zero, set_cons_succ]
    refine until_pure 9 (v := ?_) (by rfl) (by kernel_rfl) (by exact fun _ _ _ h => h) (by rfl) ?_ ?_
    rotate_left
    ·intro w
     go_simp
     try with_reducible rfl
    try simp only [Act.put, setIfInBounds_toArray, set_cons_zero, set_cons_succ]
    refine until_pure 10 (v := ?_) (by rfl) (by kernel_rfl) (by exact fun _ _ _ h => h) (by rfl) ?_ ?_
    rotate_left
    ·intro w
     go_simp
     try with_reducible rfl
    try simp only [Act.put, setIfInBounds_toArray, set_cons_zero, set_cons_succ]
    refine until_pure 11 (v := ?_) (by rfl) (by kernel_rfl) (by exact fun _ _ _ h => h) (by rfl) ?_ ?_
    rotate_left
    ·intro w
     go_simp
     try with_reducible rfl
    try simp only [Act.put, setIfInBounds_toArray, set_cons_zero, set_cons_succ]
    refine until_take 12 (v := ?_) (by rfl) (by kernel_rfl) (by exact fun _ _ _ h => h) (by rfl) ?_ SS.out ?_
    rotate_left
    ·intro w hSw
     try dsimp only at hSw
     go_simp
     try with_reducible rfl
    try simp only [Act.put, setIfInBounds_toArray, set_cons_zero, set_cons_succ]
    refine until_pure 13 (v := ?_) (by rfl) (by kernel_rfl) (by exact fun _ _ _ h => h) (by rfl) ?_ ?_
    rotate_left
    ·intro w
     go_simp
     try with_reducible rfl
    try simp only [Act.put, setIfInBounds_toArray, set_cons_zero, set_cons_succ]
    refine until_take 14 (v := ?_) (by rfl) (by kernel_rfl) (by exact fun _ _ _ h => h) (by rfl) ?_ SS.out ?_
    rotate_left
    ·intro w hSw
     try dsimp only at hSw
     go_simp
     try with_reducible rfl
    try simp only [Act.put, setIfInBounds_toArray, set_cons_zero, set_cons_succ]
    refine until_pure 15 (v := ?_) (by rfl) (by kernel_rfl) (by exact fun _ _ _ h => h) (by rfl) ?_ ?_
    rotate_left
    ·intro w
     go_simp
     try with_reducible rfl
    try simp only [Act.put, setIfInBounds_toArray, set_cons_zero, set_cons_succ]
    refine until_pure 16 (v := ?_) (by rfl) (by kernel_rfl) (by exact fun _ _ _ h => h) (by rfl) ?_ ?_
    rotate_left
    ·intro w
     go_simp
     try with_reducible rfl
    try simp only [Act.put, setIfInBounds_toArray, set_cons_zero, set_cons_succ]
    refine until_done (by kernel_rfl) ?_ _
    clear w1' w2' w3' w4'
    have al := (Below.refl V.heap.size V).alloc (Nat.le_refl _) (.cells #[] 59)
    have WA := WV6.out.on al WV6.out.lt
    have KA := KV6.out.on al KV6.out.lt
    have SA := SV6.out.on al SV6.out.lt
    have DA := DV6.out.on al DV6.out.lt
    have BA := BV6.out.trans (al.mono BV6.out.size)
    have e4 := WA.cell 4 _ rfl
    have f4 := WA.free 4
    have t0' := SA.cell 0 _ rfl
    go_upto_region 22 with fail
    have HNV : Hid (w.heap.size + 2 ≤ V.heap.size) := by have h1 := WV6.out.lt; have := HK2.out; have := HP1.out; unfold Hid; omega
    have KP : Hid (Blk ((V.alloc (.cells #[] 59)).setCell ⟨pw, 4, none⟩ (.slice (some ⟨V.heap.size, 0, none⟩) 0 0)) pw #[.int .i64 x.term, .int .i64 x.vote, .int .i64 x.base, .int .i64 x.bterm, .slice (some ⟨V.heap.size, 0, none⟩) 0 0] 30) := WA.set 4 _
    have KZ0 := Hid.mk (KA.other HKP.out 4 (.slice (some ⟨V.heap.size, 0, none⟩) 0 0))
    have SZ0 := Hid.mk (SA.other HSP.out 4 (.slice (some ⟨V.heap.size, 0, none⟩) 0 0))
    have DZ0 := Hid.mk (DA.other HDP.out 4 (.slice (some ⟨V.heap.size, 0, none⟩) 0 0))
    have BZ0 := Hid.mk (BA.setCell (p := ⟨pw, 4, none⟩) HWP.out (.slice (some ⟨V.heap.size, 0, none⟩) 0 0))
    have HZ2 : Hid (B2 ≤ ((V.alloc (.cells #[] 59)).setCell ⟨pw, 4, none⟩ (.slice (some ⟨V.heap.size, 0, none⟩) 0 0)).heap.size) := by unfold Hid; rw [World.size_setCell]; exact Nat.le_trans ZV6.out al.size
    have LZ : Hid (LiesL ((V.alloc (.cells #[] 59)).setCell ⟨pw, 4, none⟩ (.slice (some ⟨V.heap.size, 0, none⟩) 0 0)) (w.heap.size + 2) B2 (.slice (some ⟨V.heap.size, 0, none⟩) 0 0) (entR [])) := ⟨⟨_, 0, rfl, ⟨fun h => (by cases h), Nat.le_refl _⟩, fun r hr => (by cases hr), .inl rfl⟩, fun g off sp n c e => by cases e; exact HNV.out⟩
    clear al WA KA SA DA BA e4 f4 t0' WV6 KV6 SV6 DV6 BV6 LV6 ZV6 HNV
    generalize (V.alloc (.cells #[] 59)).setCell ⟨pw, 4, none⟩ (.slice (some ⟨V.heap.size, 0, none⟩) 0 0) = Y at *
    generalize V.heap.size = N at *
    have k1 : Blk (Y.setCell ⟨pw, 2, none⟩ (.int .i64 s.index)) pw #[.int .i64 x.term, .int .i64 x.vote, .int .i64 s.index, .int .i64 x.bterm, .slice (some ⟨N, 0, none⟩) 0 0] 30 := KP.out.set 2 _
    have k2 : Blk ((Y.setCell ⟨pw, 2, none⟩ (.int .i64 s.index)).setCell ⟨pw, 3, none⟩ (.int .i64 s.term)) pw #[.int .i64 x.term, .int .i64 x.vote, .int .i64 s.index, .int .i64 s.term, .slice (some ⟨N, 0, none⟩) 0 0] 30 := k1.set 3 _
    have e2 := KP.out.cell 2 _ rfl
    have f2 := KP.out.free 2
    have e3 := k1.cell 3 _ rfl
    have f3 := k1.free 3
    have j0 := k2.cell 0 _ rfl
    have t0 := SZ0.out.cell 0 _ rfl
    have t1 : (Y.setCell ⟨pw, 2, none⟩ (.int .i64 s.index)).cell? ⟨ps, 1, none⟩ = some (.int .i64 s.term) := (SZ0.out.other HSP.out 2 _).cell 1 _ rfl
    have t2 : ((Y.setCell ⟨pw, 2, none⟩ (.int .i64 s.index)).setCell ⟨pw, 3, none⟩ (.int .i64 s.term)).cell? ⟨ps, 1, none⟩ = some (.int .i64 s.term) := ((SZ0.out.other HSP.out 2 _).other HSP.out 3 _).cell 1 _ rfl
    have S2 := Hid.mk ((SZ0.out.other HSP.out 2 (.int .i64 s.index)).other HSP.out 3 (.int .i64 s.term))
    have Z2 := Hid.mk ((KZ0.out.other HKP.out 2 (.int .i64 s.index)).other HKP.out 3 (.int .i64 s.term))
    have D2 := Hid.mk ((DZ0.out.other HDP.out 2 (.int .i64 s.index)).other HDP.out 3 (.int .i64 s.term))
    have L2 := Hid.mk ((LZ.out.putHi HBP.out 2 (.int .i64 s.index)).putHi HBP.out 3 (.int .i64 s.term))
    have B2' := Hid.mk ((BZ0.out.setCell (p := ⟨pw, 2, none⟩) HWP.out (.int .i64 s.index)).setCell (p := ⟨pw, 3, none⟩) HWP.out (.int .i64 s.term))
    by_cases htt : x.term < s.term
    ·have hyy : y = ⟨s.term, -1, s.index, s.term, behE x s⟩ := by rw [HY.out, if_pos HLT.out]; unfold behW; simp only [if_pos htt]
     have k3 : Blk (((Y.setCell ⟨pw, 2, none⟩ (.int .i64 s.index)).setCell ⟨pw, 3, none⟩ (.int .i64 s.term)).setCell ⟨pw, 0, none⟩ (.int .i64 s.term)) pw #[.int .i64 s.term, .int .i64 x.vote, .int .i64 s.index, .int .i64 s.term, .slice (some ⟨N, 0, none⟩) 0 0] 30 := k2.set 0 _
     have k4 : Blk ((((Y.setCell ⟨pw, 2, none⟩ (.int .i64 s.index)).setCell ⟨pw, 3, none⟩ (.int .i64 s.term)).setCell ⟨pw, 0, none⟩ (.int .i64 s.term)).setCell ⟨pw, 1, none⟩ (.int .i64 (-1))) pw #[.int .i64 s.term, .int .i64 (-1), .int .i64 s.index, .int .i64 s.term, .slice (some ⟨N, 0, none⟩) 0 0] 30 := k3.set 1 _
     have f0 := k2.free 0
     have e1 := k3.cell 1 _ rfl
     have f1 := k3.free 1
     have R := Hid.mk (And.intro k4 (And.intro ((L2.out.putHi HBP.out 0 (.int .i64 s.term)).putHi HBP.out 1 (.int .i64 (-1))) (And.intro ((Z2.out.other HKP.out 0 (.int .i64 s.term)).other HKP.out 1 (.int .i64 (-1))) (And.intro ((S2.out.other HSP.out 0 (.int .i64 s.term)).other HSP.out 1 (.int .i64 (-1))) (And.intro ((D2.out.other HDP.out 0 (.int .i64 s.term)).other HDP.out 1 (.int .i64 (-1))) ((B2'.out.setCell (p := ⟨pw, 0, none⟩) HWP.out (.int .i64 s.term)).setCell (p := ⟨pw, 1, none⟩) HWP.out (.int .i64 (-1))))))))
     have HSZ4 : Hid (B2 ≤ ((((Y.setCell ⟨pw, 2, none⟩ (.int .i64 s.index)).setCell ⟨pw, 3, none⟩ (.int .i64 s.term)).setCell ⟨pw, 0, none⟩ (.int .i64 s.term)).setCell ⟨pw, 1, none⟩ (.int .i64 (-1))).heap.size) := by unfold Hid; simp only [World.size_setCell]; exact HZ2.out
     clear k1 k2 k3 k4 S2 Z2 D2 L2 B2'
     go_wp2_with fail
     go_meet
     rw [hyy]
     simp only
     rw [HE.out]
     obtain ⟨g1, g2, g3, g4, g5, g6⟩ := R.out
     exact ⟨by trivial, _, _, _, g1, g2, g3, g4, g5, g6, HSZ4.out⟩
    ·have hyy : y = ⟨x.term, x.vote, s.index, s.term, behE x s⟩ := by rw [HY.out, if_pos HLT.out]; unfold behW; simp only [if_neg htt]
     have htd : decide (x.term < s.term) = false := decide_eq_false htt
     have K2 := Hid.mk k2
     have HSZ4 : Hid (B2 ≤ ((Y.setCell ⟨pw, 2, none⟩ (.int .i64 s.index)).setCell ⟨pw, 3, none⟩ (.int .i64 s.term)).heap.size) := by unfold Hid; simp only [World.size_setCell]; exact HZ2.out
     clear k1 k2
     go_wp2_with fail
     go_meet
     rw [hyy]
     simp only
     rw [HE.out]
     exact ⟨by trivial, _, _, _, K2.out, L2.out, Z2.out, S2.out, D2.out, B2'.out, HSZ4.out⟩
   ·have HE : Hid (behE x s = x.ents.drop k) := by unfold Hid; rw [HBE.out, if_pos ⟨hle, het⟩]
    subst het
    obtain ⟨w1', w2', w3', w4'⟩ := HWR.out
    go_upto_region 19 with fail
    go_wp2_with fail
    have SS : Hid (w6.drew.cell? ⟨pw, 4, none⟩ = some (.slice (some ⟨g, off, none⟩) x.ents.length ec) ∧ w6.drew.cell? ⟨ps, 1, none⟩ = some (.int .i64 s.term) ∧ w6.drew.cell? ⟨g, off + k1 * 2, none⟩ = some (.int .i64 s.term)) := ⟨q4, s1, HC.out⟩
    refine wp_region_until (fun w' => w'.cell? ⟨pw, 4, none⟩ = some (.slice (some ⟨g, off, none⟩) x.ents.length ec) ∧ w'.cell? ⟨ps, 1, none⟩ = some (.int .i64 s.term) ∧ w'.cell? ⟨g, off + k1 * 2, none⟩ = some (.int .i64 s.term)) (fun i => false) 17 (by rfl) (by kernel_rfl) ?_
    have WV6 : Hid (Blk w6.drew pw #[.int .i64 x.term, .int .i64 x.vote, .int .i64 x.base, .int .i64 x.bterm, .slice (some ⟨g, off, none⟩) x.ents.length ec] 30) := W6.out
    have KV6 : Hid (Blk w6.drew (w.heap.size + 1) #[.int .i64 0, .int .i64 0, .int .i64 0, .int .i64 0, .slice none 0 0, .int .i64 0, .int .i64 0, .string ⟨#[]⟩, .bool false] 34) := K6.out
    have SV6 : Hid (Blk w6.drew ps #[.int .i64 s.index, .int .i64 s.term, .string s.data] 32) := S6.out
    have DV6 : Hid (Blk w6.drew w.heap.size #[.int .i64 d.room, .int .i64 d.next, v1, v2, v3] 41) := D6.out
    have BV6 : Hid (Below w.heap.size w w6.drew) := B6.out.drew
    have LV6 : Hid (LiesL w6.drew (w.heap.size + 2) B2 (.slice (some ⟨g, off, none⟩) x.ents.length ec) (entR x.ents)) := ⟨L6.out.1.heap rfl, L6.out.2⟩
    have ZV6 : Hid (B2 ≤ w6.drew.heap.size) := HPZ.out
    generalize w6.drew = V at *
    refine until_pure 0 (v := ?_) (by rfl) (by kernel_rfl) (by exact fun _ _ _ h => h) (by rfl) ?_ ?_
    rotate_left
    ·intro w
     go_simp
     try with_reducible rfl
    try simp only [Act.put, setIfInBounds_toArray, set_cons_zero, set_cons_succ]
    refine until_pure 1 (v := ?_) (by rfl) (by kernel_rfl) (by exact fun _ _ _ h => h) (by rfl) ?_ ?_
    rotate_left
    ·intro w
     go_simp
     try with_reducible rfl
    try simp only [Act.put, setIfInBounds_toArray, set_cons_zero, set_cons_succ]
    refine until_take 2 (v := ?_) (by rfl) (by kernel_rfl) (by exact fun _ _ _ h => h) (by rfl) ?_ SS.out ?_
    rotate_left
    ·intro w hSw
     try dsimp only at hSw
     go_simp
     try with_reducible rfl
    try simp only [Act.put, setIfInBounds_toArray, set_cons_zero, set_cons_succ]
    refine until_pure 3 (v := ?_) (by rfl) (by kernel_rfl) (by exact fun _ _ _ h => h) (by rfl) ?_ ?_
    rotate_left
    ·intro w
     go_simp
     try with_reducible rfl
    try simp only [Act.put, setIfInBounds_toArray, set_cons_zero, set_cons_succ]
    refine until_pure 4 (v := ?_) (by rfl) (by kernel_rfl) (by exact fun _ _ _ h => h) (by rfl) ?_ ?_
    rotate_left
    ·intro w
     go_simp
     try with_reducible rfl
    try simp only [Act.put, setIfInBounds_toArray, set_cons_zero, set_cons_succ]
    refine until_pure 5 (v := ?_) (by rfl) (by kernel_rfl) (by exact fun _ _ _ h => h) (by rfl) ?_ ?_
    rotate_left
    ·intro w
     go_simp
     try with_reducible rfl
    try simp only [Act.put, setIfInBounds_toArray, set_cons_zero, set_cons_succ]
    refine until_pure 6 (v := ?_) (by rfl) (by kernel_rfl) (by exact fun _ _ _ h => h) (by rfl) ?_ ?_
    rotate_left
    ·intro w
     go_simp
     try with_reducible rfl
    try simp only [Act.put, setIfInBounds_toArray, set_cons_zero, set_cons_succ]
    refine until_take 7 (v := ?_) (by rfl) (by kernel_rfl) (by exact fun _ _ _ h => h) (by rfl) ?_ SS.out ?_
    rotate_left
    ·intro w hSw
     try dsimp only at hSw
     go_simp
     try with_reducible rfl
    try simp only [Act.put, setIfInBounds_toArray, set_cons_zero, set_cons_succ]
    refine until_pure 8 (v := ?_) (by rfl) (by kernel_rfl) (by exact fun _ _ _ h => h) (by rfl) ?_ ?_
    rotate_left
    ·intro w
     go_simp
     try with_reducible rfl
    try simp only [Act.put, setIfInBounds_toArray, set_cons_zero, set_cons_succ]
    refine until_pure 9 (v := ?_) (by rfl) (by kernel_rfl) (by exact fun _ _ _ h => h) (by rfl) ?_ ?_
    rotate_left
    ·intro w
     go_simp
     try with_reducible rfl
    try simp only [Act.put, setIfInBounds_toArray, set_cons_zero, set_cons_succ]
    refine until_pure 10 (v := ?_) (by rfl) (by kernel_rfl) (by exact fun _ _ _ h => h) (by rfl) ?_ ?_
    rotate_left
    ·intro w
     go_simp
     try with_reducible rfl
    try simp only [Act.put, setIfInBounds_toArray, set_cons_zero, set_cons_succ]
    refine until_pure 11 (v := ?_) (by rfl) (by kernel_rfl) (by exact fun _ _ _ h => h) (by rfl) ?_ ?_
    rotate_left
    ·intro w
     go_simp
     try with_reducible rfl
    try simp only [Act.put, setIfInBounds_toArray, set_cons_zero, set_cons_succ]
    refine until_take 12 (v := ?_) (by rfl) (by kernel_rfl) (by exact fun _ _ _ h => h) (by rfl) ?_ SS.out ?_
    rotate_left
    ·intro w hSw
     try dsimp only at hSw
     go_simp
     try with_reducible rfl
    try simp only [Act.put, setIfInBounds_toArray, set_cons_zero, set_cons_succ]
    refine until_pure 13 (v := ?_) (by rfl) (by kernel_rfl) (by exact fun _ _ _ h => h) (by rfl) ?_ ?_
    rotate_left
    ·intro w
     go_simp
     try with_reducible rfl
    try simp only [Act.put, setIfInBounds_toArray, set_cons_zero, set_cons_succ]
    refine until_take 14 (v := ?_) (by rfl) (by kernel_rfl) (by exact fun _ _ _ h => h) (by rfl) ?_ SS.out ?_
    rotate_left
    ·intro w hSw
     try dsimp only at hSw
     go_simp
     try with_reducible rfl
    try simp only [Act.put, setIfInBounds_toArray, set_cons_zero, set_cons_succ]
    refine until_pure 15 (v := ?_) (by rfl) (by kernel_rfl) (by exact fun _ _ _ h => h) (by rfl) ?_ ?_
    rotate_left
    ·intro w
     go_simp
     try with_reducible rfl
    try simp only [Act.put, setIfInBounds_toArray, set_cons_zero, set_cons_succ]
    refine until_pure 16 (v := ?_) (by rfl) (by kernel_rfl) (by exact fun _ _ _ h => h) (by rfl) ?_ ?_
    rotate_left
    ·intro w
     go_simp
     try with_reducible rfl
    try simp only [Act.put, setIfInBounds_toArray, set_cons_zero, set_cons_succ]
    refine until_done (by kernel_rfl) ?_ _
    clear w1' w2' w3' w4'
    obtain ⟨cA, cc, hcut, hcl, hcA⟩ := cut_ents LV6.out.1 k (by rw [entR_length]; exact hle)
    have HCL : Hid (LiesL V (w.heap.size + 2) B2 (.slice cA (x.ents.length - k) cc) (entR (x.ents.drop k))) := by
     refine ⟨?_, ?_⟩
     ·unfold entR; rw [List.map_drop]; exact hcl
     ·intro g' off' sp n c e
      injection e with e1 e2 e3
      rw [hcA] at e1
      split at e1
      ·cases e1; exact LV6.out.2 _ _ _ _ _ rfl
      ·rw [Option.map_some] at e1
       have hb : (Addr.add ⟨g, off, none⟩ (k * 2)).block = g := by generalize k * 2 = j; cases j <;> simp [Addr.add]
       injection e1 with e1
       rw [e1] at hb
       simp only at hb
       rw [hb]
       exact LV6.out.2 _ _ _ _ _ rfl
    clear hcl hcA
    have e4 := WV6.out.cell 4 _ rfl
    have f4 := WV6.out.free 4
    go_upto_region 22 with fail
    have KP : Hid (Blk (V.setCell ⟨pw, 4, none⟩ (.slice cA (x.ents.length - k) cc)) pw #[.int .i64 x.term, .int .i64 x.vote, .int .i64 x.base, .int .i64 x.bterm, .slice cA (x.ents.length - k) cc] 30) := WV6.out.set 4 _
    have KZ0 := Hid.mk (KV6.out.other HKP.out 4 (.slice cA (x.ents.length - k) cc))
    have SZ0 := Hid.mk (SV6.out.other HSP.out 4 (.slice cA (x.ents.length - k) cc))
    have DZ0 := Hid.mk (DV6.out.other HDP.out 4 (.slice cA (x.ents.length - k) cc))
    have BZ0 := Hid.mk (BV6.out.setCell (p := ⟨pw, 4, none⟩) HWP.out (.slice cA (x.ents.length - k) cc))
    have HZ2 : Hid (B2 ≤ (V.setCell ⟨pw, 4, none⟩ (.slice cA (x.ents.length - k) cc)).heap.size) := by unfold Hid; rw [World.size_setCell]; exact ZV6.out
    have LZ := Hid.mk (HCL.out.putHi HBP.out 4 (.slice cA (x.ents.length - k) cc))
    clear e4 f4 hcut HCL WV6 KV6 SV6 DV6 BV6 LV6 ZV6
    generalize V.setCell ⟨pw, 4, none⟩ (.slice cA (x.ents.length - k) cc) = Y at *
    generalize x.ents.length - k = cm at *
    have k1 : Blk (Y.setCell ⟨pw, 2, none⟩ (.int .i64 s.index)) pw #[.int .i64 x.term, .int .i64 x.vote, .int .i64 s.index, .int .i64 x.bterm, .slice cA cm cc] 30 := KP.out.set 2 _
    have k2 : Blk ((Y.setCell ⟨pw, 2, none⟩ (.int .i64 s.index)).setCell ⟨pw, 3, none⟩ (.int .i64 s.term)) pw #[.int .i64 x.term, .int .i64 x.vote, .int .i64 s.index, .int .i64 s.term, .slice cA cm cc] 30 := k1.set 3 _
    have e2 := KP.out.cell 2 _ rfl
    have f2 := KP.out.free 2
    have e3 := k1.cell 3 _ rfl
    have f3 := k1.free 3
    have j0 := k2.cell 0 _ rfl
    have t0 := SZ0.out.cell 0 _ rfl
    have t1 : (Y.setCell ⟨pw, 2, none⟩ (.int .i64 s.index)).cell? ⟨ps, 1, none⟩ = some (.int .i64 s.term) := (SZ0.out.other HSP.out 2 _).cell 1 _ rfl
    have t2 : ((Y.setCell ⟨pw, 2, none⟩ (.int .i64 s.index)).setCell ⟨pw, 3, none⟩ (.int .i64 s.term)).cell? ⟨ps, 1, none⟩ = some (.int .i64 s.term) := ((SZ0.out.other HSP.out 2 _).other HSP.out 3 _).cell 1 _ rfl
    have S2 := Hid.mk ((SZ0.out.other HSP.out 2 (.int .i64 s.index)).other HSP.out 3 (.int .i64 s.term))
    have Z2 := Hid.mk ((KZ0.out.other HKP.out 2 (.int .i64 s.index)).other HKP.out 3 (.int .i64 s.term))
    have D2 := Hid.mk ((DZ0.out.other HDP.out 2 (.int .i64 s.index)).other HDP.out 3 (.int .i64 s.term))
    have L2 := Hid.mk ((LZ.out.putHi HBP.out 2 (.int .i64 s.index)).putHi HBP.out 3 (.int .i64 s.term))
    have B2' := Hid.mk ((BZ0.out.setCell (p := ⟨pw, 2, none⟩) HWP.out (.int .i64 s.index)).setCell (p := ⟨pw, 3, none⟩) HWP.out (.int .i64 s.term))
    by_cases htt : x.term < s.term
    ·have hyy : y = ⟨s.term, -1, s.index, s.term, behE x s⟩ := by rw [HY.out, if_pos HLT.out]; unfold behW; simp only [if_pos htt]
     have k3 : Blk (((Y.setCell ⟨pw, 2, none⟩ (.int .i64 s.index)).setCell ⟨pw, 3, none⟩ (.int .i64 s.term)).setCell ⟨pw, 0, none⟩ (.int .i64 s.term)) pw #[.int .i64 s.term, .int .i64 x.vote, .int .i64 s.index, .int .i64 s.term, .slice cA cm cc] 30 := k2.set 0 _
     have k4 : Blk ((((Y.setCell ⟨pw, 2, none⟩ (.int .i64 s.index)).setCell ⟨pw, 3, none⟩ (.int .i64 s.term)).setCell ⟨pw, 0, none⟩ (.int .i64 s.term)).setCell ⟨pw, 1, none⟩ (.int .i64 (-1))) pw #[.int .i64 s.term, .int .i64 (-1), .int .i64 s.index, .int .i64 s.term, .slice cA cm cc] 30 := k3.set 1 _
     have f0 := k2.free 0
     have e1 := k3.cell 1 _ rfl
     have f1 := k3.free 1
     have R := Hid.mk (And.intro k4 (And.intro ((L2.out.putHi HBP.out 0 (.int .i64 s.term)).putHi HBP.out 1 (.int .i64 (-1))) (And.intro ((Z2.out.other HKP.out 0 (.int .i64 s.term)).other HKP.out 1 (.int .i64 (-1))) (And.intro ((S2.out.other HSP.out 0 (.int .i64 s.term)).other HSP.out 1 (.int .i64 (-1))) (And.intro ((D2.out.other HDP.out 0 (.int .i64 s.term)).other HDP.out 1 (.int .i64 (-1))) ((B2'.out.setCell (p := ⟨pw, 0, none⟩) HWP.out (.int .i64 s.term)).setCell (p := ⟨pw, 1, none⟩) HWP.out (.int .i64 (-1))))))))
     have HSZ4 : Hid (B2 ≤ ((((Y.setCell ⟨pw, 2, none⟩ (.int .i64 s.index)).setCell ⟨pw, 3, none⟩ (.int .i64 s.term)).setCell ⟨pw, 0, none⟩ (.int .i64 s.term)).setCell ⟨pw, 1, none⟩ (.int .i64 (-1))).heap.size) := by unfold Hid; simp only [World.size_setCell]; exact HZ2.out
     clear k1 k2 k3 k4 S2 Z2 D2 L2 B2'
     go_wp2_with fail
     go_meet
     rw [hyy]
     simp only
     rw [HE.out]
     obtain ⟨g1, g2, g3, g4, g5, g6⟩ := R.out
     exact ⟨by trivial, _, _, _, g1, g2, g3, g4, g5, g6, HSZ4.out⟩
    ·have hyy : y = ⟨x.term, x.vote, s.index, s.term, behE x s⟩ := by rw [HY.out, if_pos HLT.out]; unfold behW; simp only [if_neg htt]
     have htd : decide (x.term < s.term) = false := decide_eq_false htt
     have K2 := Hid.mk k2
     have HSZ4 : Hid (B2 ≤ ((Y.setCell ⟨pw, 2, none⟩ (.int .i64 s.index)).setCell ⟨pw, 3, none⟩ (.int .i64 s.term)).heap.size) := by unfold Hid; simp only [World.size_setCell]; exact HZ2.out
     clear k1 k2
     go_wp2_with fail
     go_meet
     rw [hyy]
     simp only
     rw [HE.out]
     exact ⟨by trivial, _, _, _, K2.out, L2.out, Z2.out, S2.out, D2.out, B2'.out, HSZ4.out⟩
 case rest =>
 obtain ⟨rfl, nA, nm, nc, h1, h2, h3, h4, h5, h6, h7⟩ := hcut
 have WZ := Hid.mk h1
 have OZ0 := Hid.mk h2
 have KZ0 := Hid.mk h3
 have SZ := Hid.mk h4
 have DZ := Hid.mk h5
 have BZ0 := Hid.mk h6
 have HZ2 := Hid.mk h7
 clear h1 h2 h3 h4 h5 h6 h7
 clear q0 q1 q2 q3 q4 s0 s1 s2 W6 L6 K6 S6 D6 B6 O6
 have y0 := DZ.out.cell 0 _ rfl
 have y1 := DZ.out.cell 1 _ rfl
 have y2 := DZ.out.cell 2 _ rfl
 have y3 := DZ.out.cell 3 _ rfl
 have y4 := DZ.out.cell 4 _ rfl
 have c1 := cL ⟨#[108, 111, 103, 46, 110, 101, 119]⟩ wc BZ0.out
 rw [show loadR d ⟨#[108, 111, 103, 46, 110, 101, 119]⟩ = loadR d logNw from rfl] at c1
 go_wp2_with fail
 refine c1.mono ?_
 rintro e w8 ⟨rfl, hb⟩
 have B8 := Hid.mk (BZ0.out.trans (hb.mono BZ0.out.size))
 have W8 := Hid.mk (WZ.out.on hb WZ.out.lt)
 have K8 := Hid.mk (KZ0.out.on hb KZ0.out.lt)
 have S8 := Hid.mk (SZ.out.on hb SZ.out.lt)
 have D8 := Hid.mk (DZ.out.on hb DZ.out.lt)
 have L8 := Hid.mk (OZ0.out.on (hb.mono HZ2.out))
 have HZ8 : Hid (B2 ≤ w8.heap.size) := Nat.le_trans HZ2.out hb.size
 clear hb c1 y0 y1 y2 y3 y4 WZ KZ0 SZ DZ OZ0 BZ0 HZ2
 have y0 := D8.out.cell 0 _ rfl
 have y1 := D8.out.cell 1 _ rfl
 have y2 := D8.out.cell 2 _ rfl
 have y3 := D8.out.cell 3 _ rfl
 have y4 := D8.out.cell 4 _ rfl
 have c1 := cL ⟨#[115, 110, 97, 112, 46, 110, 101, 119]⟩ w8 B8.out
 rw [show loadR d ⟨#[115, 110, 97, 112, 46, 110, 101, 119]⟩ = loadR d snapNw from rfl] at c1
 go_wp2_with fail
 refine c1.mono ?_
 rintro e w9 ⟨rfl, hb⟩
 have BZ := Hid.mk (B8.out.trans (hb.mono B8.out.size))
 have WZ := Hid.mk (W8.out.on hb W8.out.lt)
 have KZ := Hid.mk (K8.out.on hb K8.out.lt)
 have SZ := Hid.mk (S8.out.on hb S8.out.lt)
 have OZ := Hid.mk (L8.out.on (hb.mono HZ8.out))
 have HZ9 : Hid (B2 ≤ w9.heap.size) := Nat.le_trans HZ8.out hb.size
 clear hb c1 y0 y1 y2 y3 y4 W8 K8 S8 D8 L8 B8 HZ8
 generalize (loadR d logNw).2 = o1 at *
 generalize (loadR d snapNw).2 = o2 at *
 generalize (loadR d logNw).1 = t1 at *
 generalize (loadR d snapNw).1 = t2 at *
 have q0 := WZ.out.cell 0 _ rfl
 have q1 := WZ.out.cell 1 _ rfl
 have q2 := WZ.out.cell 2 _ rfl
 have q3 := WZ.out.cell 3 _ rfl
 have q4 := WZ.out.cell 4 _ rfl
 have s0 := SZ.out.cell 0 _ rfl
 have s1 := SZ.out.cell 1 _ rfl
 have s2 := SZ.out.cell 2 _ rfl
 have HR : Hid (recR d = (⟨y, s, true⟩, 0)) := by unfold Hid; rw [HRY2.out]; simp
 obtain ⟨⟨r0, f0⟩, ⟨r1, f1⟩, ⟨r2, f2⟩, ⟨r3, f3⟩, ⟨r4, f4⟩, ⟨r5, f5⟩, ⟨r6, f6⟩, ⟨r7, f7⟩, ⟨r8, f8⟩, y0, y1, y2, y3, y4, y5, y6, y7, y8⟩ := resC9 (x0 := .int .i64 y.term) (x1 := .int .i64 y.vote) (x2 := .int .i64 y.base) (x3 := .int .i64 y.bterm) (x4 := .slice nA nm nc) (x5 := .int .i64 s.index) (x6 := .int .i64 s.term) (x7 := .string s.data) (x8 := .bool true) KZ.out
 have BE := Hid.mk (belowC9 BZ.out (show w.heap.size ≤ w.heap.size + 1 by omega) (.int .i64 y.term) (.int .i64 y.vote) (.int .i64 y.base) (.int .i64 y.bterm) (.slice nA nm nc) (.int .i64 s.index) (.int .i64 s.term) (.string s.data) (.bool true))
 have OE := Hid.mk (OZ.out.set9S (show w.heap.size + 1 < w.heap.size + 2 by omega) (.int .i64 y.term) (.int .i64 y.vote) (.int .i64 y.base) (.int .i64 y.bterm) (.slice nA nm nc) (.int .i64 s.index) (.int .i64 s.term) (.string s.data) (.bool true))
 have HSE : Hid (∀ wx : World, w9.heap.size ≤ wx.heap.size → B2 ≤ wx.heap.size) := fun wx h => Nat.le_trans HZ9.out h
 go_wp2_with fail
 exact bodyPost_ret (v := .tuple #[.agg #[.int .i64 y.term, .int .i64 y.vote, .int .i64 y.base, .int .i64 y.bterm, .slice nA nm nc, .int .i64 s.index, .int .i64 s.term, .string s.data, .bool true], .int .i64 0]) (by simp [results, go_sem, y0, y1, y2, y3, y4, y5, y6, y7, y8]) rfl ⟨⟨_, by rw [HR.out], .slice nA nm nc, by rw [HR.out]; rfl, by rw [HR.out]; exact OE.out.1.mono (HSE.out _ (by simp only [World.size_setCell]; exact Nat.le_refl _))⟩, BE.out⟩
end Go.Proofs.YtdimaoloapbeoaaGreatDoor
