/- LawFnTurned -/
import Derived.Test.YtifmjdakefkbiaaGreatDoorQt0
import Derived.Test.YtifmjdakefkbiaaGreatDoorQt1
import Derived.Test.YtifmjdakefkbiaaGreatDoorQt9
import Derived.Test.YtifmjdakefkbiaaGreatDoorQt12
import Derived.Test.YtifmjdakefkbiaaGreatDoorQt13
import Derived.Test.YtifmjdakefkbiaaGreatDoorQt6
import Derived.Handy
open List (setIfInBounds_toArray set_cons_zero set_cons_succ)
namespace Go.Proofs.YtifmjdakefkbiaaGreatDoor
open Go.ChangeShapes Go.WideShapes Go.ChangeAt Go.RowKit Go.PlainAid
set_option linter.unusedVariables false
theorem wtE_few : ∀ (l : List Ent), (∀ y ∈ l, y.data.size ≤ 1000) → wtE l ≤ 1000 * l.length
 | [], _ => by unfold wtE; omega
 | x :: l, h => by
  have h1 := wtE_few l (fun y hy => h y (by simp [hy]))
  have h2 := h x (by simp)
  unfold wtE wtE1
  simp only [List.length_cons]
  omega
theorem msgT_few {x : Mg} (h : x.data.size ≤ 3001) (ho : msgOk x = true) : 13 ≤ (msgT x).size ∧ (msgT x).size ≤ 7000 := by
 have hi := msgOk_in ho
 have hR := (msgT_rd ho)
 obtain ⟨yn, n1, n2, hP, _⟩ := hR
 have h13 := hP.inS
 refine ⟨by omega, ?_⟩
 have h4 := fixed_size4 (crc (bodT x)) (crc_lt _)
 rw [msgT_yes ho, ByteArray.size_append, h4]
 have h5 := hdT_size x
 have h6 := catE_few x.ents hi.2.2.2.2.2.2.2.1 (fun y hy => (hi.2.2.2.2.2.2.2.2 y hy).2.2) x.ents.length
 rw [List.take_length] at h6
 unfold bodT
 simp only [ByteArray.size_append]
 omega
theorem drawShowMsg (w : World) (ao : Option Addr) (len cap : Nat) (cs : Nat → Nat) (hl : len ≤ 1048576) (h : CodeIs w w.heap.size ao len cs) :
  Calls Tryz.prog 11 #[.slice ao len cap] w fun e w' => (∃ (x : Mg) (u : Value), e = .returned u ∧ MgO w' w.heap.size u x ∧ x.ents.length ≤ 9 ∧ (∀ y ∈ x.ents, y.data.size ≤ 1000) ∧ x.data.size ≤ 3001) ∧ Below w.heap.size w w' := by
 have HC : Hid (CodeIs w w.heap.size ao len cs) := h
 clear h
 have al : Below w.heap.size w (w.alloc (.cells #[.int .i64 0, .int .i64 0, .int .i64 0, .int .i64 0, .int .i64 0, .int .i64 0, .int .i64 0, .bool false, .slice none 0 0, .string ⟨#[]⟩] 31)) := (Below.refl _ _).alloc (Nat.le_refl _) _
 have B0 := Hid.mk al
 have K0 : Hid (Blk (w.alloc (.cells #[.int .i64 0, .int .i64 0, .int .i64 0, .int .i64 0, .int .i64 0, .int .i64 0, .int .i64 0, .bool false, .slice none 0 0, .string ⟨#[]⟩] 31)) w.heap.size #[.int .i64 0, .int .i64 0, .int .i64 0, .int .i64 0, .int .i64 0, .int .i64 0, .int .i64 0, .bool false, .slice none 0 0, .string ⟨#[]⟩] 31) := Blk.new w _ _
 have C0 := Hid.mk (HC.out.on al)
 clear al
 go_enter Tryz.func11, Tryz.ntmps11
 go_wp2_with fail
 generalize w.alloc (.cells #[.int .i64 0, .int .i64 0, .int .i64 0, .int .i64 0, .int .i64 0, .int .i64 0, .int .i64 0, .bool false, .slice none 0 0, .string ⟨#[]⟩] 31) = w0 at *
 refine (new_any w0 ao len cap cs hl C0.out).mono ?_
 rintro e w1 ⟨rfl, hA1, hb1⟩
 have HB1 := Hid.mk hb1
 have HA1 := Hid.mk (show AtS w1 w0.heap.size from ⟨_, _, _, _, _, hA1⟩)
 clear hb1 hA1
 go_wp2_with fail
 refine (anyMsg_any w1 w0.heap.size HA1.out).mono ?_
 rintro e w2 ⟨x, u, rfl, hO, hl, hd, hz, -, hm⟩
 have HB2 : Hid (Below w0.heap.size w0 w2) := HB1.out.trans ((hm.mono HB1.out.size).below (Nat.le_refl _))
 have HBB : Hid (Below w.heap.size w w2) := B0.out.trans (HB2.out.mono B0.out.size)
 obtain ⟨A, m, c, rfl, hOw⟩ := hO.shape
 have hK := K0.out.on HB2.out K0.out.lt
 have HO := Hid.mk (ownsC10n hOw (hOw.notBlk hK (by decide)) (.int .i64 x.kind) (.int .i64 x.frm) (.int .i64 x.dst) (.int .i64 x.term) (.int .i64 x.index) (.int .i64 x.iterm) (.int .i64 x.commit) (.bool x.yes) (.slice A m c) (.string x.data))
 have HLo : Hid (w.heap.size ≤ w1.heap.size) := Nat.le_trans B0.out.size HB1.out.size
 have HBE := Hid.mk (belowC10 HBB.out (Nat.le_refl _) (.int .i64 x.kind) (.int .i64 x.frm) (.int .i64 x.dst) (.int .i64 x.term) (.int .i64 x.index) (.int .i64 x.iterm) (.int .i64 x.commit) (.bool x.yes) (.slice A m c) (.string x.data))
 have HX := Hid.mk (And.intro hl (And.intro hd hz))
 obtain ⟨⟨r0, q0⟩, ⟨r1, q1⟩, ⟨r2, q2⟩, ⟨r3, q3⟩, ⟨r4, q4⟩, ⟨r5, q5⟩, ⟨r6, q6⟩, ⟨r7, q7⟩, ⟨r8, q8⟩, ⟨r9, q9⟩, n0, n1, n2, n3, n4, n5, n6, n7, n8, n9⟩ := resC10 (x0 := .int .i64 x.kind) (x1 := .int .i64 x.frm) (x2 := .int .i64 x.dst) (x3 := .int .i64 x.term) (x4 := .int .i64 x.index) (x5 := .int .i64 x.iterm) (x6 := .int .i64 x.commit) (x7 := .bool x.yes) (x8 := .slice A m c) (x9 := .string x.data) hK
 clear hO hl hd hz hm hOw hK B0 K0 C0 HB1 HA1 HB2 HBB
 go_wp2_with fail
 exact bodyPost_ret (v := .agg #[.int .i64 x.kind, .int .i64 x.frm, .int .i64 x.dst, .int .i64 x.term, .int .i64 x.index, .int .i64 x.iterm, .int .i64 x.commit, .bool x.yes, .slice A m c, .string x.data]) (by simp [results, go_sem, n0, n1, n2, n3, n4, n5, n6, n7, n8, n9]) rfl ⟨⟨x, _, rfl, ⟨_, rfl, HO.out.mono HLo.out⟩, HX.out⟩, HBE.out⟩
set_option maxRecDepth 20000 in
set_option maxHeartbeats 8000000 in
theorem law_fnTurned (ao : Option Addr) (len cap : Nat) (cs : Nat → Nat) (w : World) (h : CodeIs w w.heap.size ao len cs) (hl : len ≤ 9223372036854775807) (ht : SumTab w) (a0 a1 a2 : Addr) (he : Errs w a0 a1 a2) : Calls Tryz.prog 3 #[.slice ao len cap] w fun e w' => e = .returned (.bool true) ∧ Below w.heap.size w w' := by
 have ST : Hid (SumTab w) := ht
 have ER : Hid (Errs w a0 a1 a2) := he
 have HC : Hid (CodeIs w w.heap.size ao len cs) := h
 clear ht he h
 by_cases hbig : 1048576 < len
 ·go_enter Tryz.func3, Tryz.ntmps3
  go_wp2_with fail
  refine (big_yes w ao len cap hbig hl).mono ?_
  rintro e w' ⟨rfl, rfl⟩
  go_wp2_with fail
  go_ret
  exact ⟨rfl, Below.refl _ _⟩
 have HL : Hid (len ≤ 1048576) := by unfold Hid; omega
 have q0 : (len : Int) ≤ 1048576 := by omega
 clear hbig hl
 have x2 := fun wx (hx : CodeIs wx wx.heap.size ao len cs) => at_any wx ao len cap cs 2 HL.out (by omega) hx
 have x0 := fun wx (hx : CodeIs wx wx.heap.size ao len cs) => at_any wx ao len cap cs 0 HL.out (by omega) hx
 have x1 := fun wx (hx : CodeIs wx wx.heap.size ao len cs) => at_any wx ao len cap cs 1 HL.out (by omega) hx
 have x4 := fun wx (hx : CodeIs wx wx.heap.size ao len cs) => at_any wx ao len cap cs 3 HL.out (by omega) hx
 have y0 := atV_lt HC.out 0
 have y1 := atV_lt HC.out 1
 have y2 := atV_lt HC.out 2
 have y3 := atV_lt HC.out 3
 have cD := drawHex w ao len cap cs HL.out HC.out
 have hd0 := textV_length len cs 40 (newP len cs) (by omega)
 have hds : (txt (textV len cs 40 (newP len cs))).size ≤ 40 := by rw [txt_size]; omega
 generalize txt (textV len cs 40 (newP len cs)) = d at *
 clear hd0
 generalize atV len cs 0 = b0 at *
 generalize atV len cs 1 = b1 at *
 generalize atV len cs 2 = b2 at *
 generalize atV len cs 3 = b3q at *
 go_enter Tryz.func3, Tryz.ntmps3
 go_wp2_with fail
 refine (big_no w ao len cap HL.out).mono ?_
 rintro e w' ⟨rfl, rfl⟩
 have ss : ¬ 9223372036854775807 < (⟨#[121]⟩ : ByteArray).size + d.size := by have : (⟨#[121]⟩ : ByteArray).size = 1 := rfl; omega
 obtain ⟨b, hb⟩ : ∃ b, b = (⟨#[121]⟩ : ByteArray) ++ d := ⟨_, rfl⟩
 have hbz : b.size = 1 + d.size := by rw [hb, ByteArray.size_append]; rfl
 go_wp2_with fail
 refine cD.mono ?_
 rintro e w1 ⟨rfl, hb1⟩
 have B1 := Hid.mk hb1
 clear hb1 cD
 go_wp2_with fail
 rw [← hb]
 clear hb ss
 refine (impl_frame b w1 (by omega) (ST.out.on B1.out)).mono ?_
 rintro e w2 ⟨rfl, hb2⟩
 have B2 : Hid (Below w.heap.size w w2) := B1.out.trans (hb2.mono B1.out.size)
 have hfr : frame b = frameOf b := by unfold frame; rw [if_neg (by omega)]
 rw [hfr]
 have hsz := frameOf_size b
 have HTu : Hid (∀ k z, (4 ≤ k ∧ k < (frameOf b).size) → z < 256 → z ≠ bn (frameOf b) k → code (turnT (frameOf b) k z) = 2) := fun k z hk hz hne => by
  obtain ⟨h1, h2, h3⟩ := turn_facts (frameOf b) k z hk.2 hz
  exact code_turned (by omega) (by omega) (by rw [h1, hsz]) k hk.1 (by omega) (by rw [h2]; exact fun e => hne e.symm) (fun i _ hi => h3 i hi)
 clear hb2 B1 hfr
 have sz9 : 9 ≤ (frameOf b).size := by omega
 have sz49 : (frameOf b).size ≤ 49 := by omega
 clear hsz hbz hds
 generalize frameOf b = s at *
 have d9 : decide ((s.size : Int) < 9) = false := decide_eq_false (by omega)
 have d9n : decide (s.size < 9) = false := decide_eq_false (by omega)
 go_wp2_with fail
 refine (x0 w2 (HC.out.on B2.out)).mono ?_
 rintro e w' ⟨rfl, rfl⟩
 go_wp2_with fail
 refine (x1 w2 (HC.out.on B2.out)).mono ?_
 rintro e w' ⟨rfl, rfl⟩
 have hkl : (b0 * 256 + b1) % (s.size - 4) < s.size - 4 := Nat.mod_lt _ (by omega)
 have esz : ((s.size - 4 : Nat) : Int) = (s.size : Int) - 4 := by omega
 have ws4 : IntKind.i64.wrap ((s.size : Int) - 4) = (s.size : Int) - 4 := by rw [IntKind.wrap_i64]; omega
 have em1 : ((b0 : Int) * 256 + (b1 : Int)).tmod ((s.size : Int) - 4) = (((b0 * 256 + b1) % (s.size - 4) : Nat) : Int) := by
  rw [Int.tmod_eq_emod_of_nonneg (by omega), ← esz]
  push_cast
  rfl
 have em2 : ((b0 : Int) * 256 + (b1 : Int)) % ((s.size : Int) - 4) = (((b0 * 256 + b1) % (s.size - 4) : Nat) : Int) := by
  rw [← esz]
  push_cast
  rfl
 have sn0 : ¬ (s.size : Int) - 4 = 0 := by omega
 have bq0 : (b0 : Int) < 256 := by omega
 have bq1 : (b1 : Int) < 256 := by omega
 have sz5 : (s.size : Int) ≤ 49 := by omega
 have sz6 : (9 : Int) ≤ (s.size : Int) := by omega
 generalize (b0 * 256 + b1) % (s.size - 4) = rr at *
 obtain ⟨kt, hkt⟩ : ∃ kt : Nat, kt = 4 + rr := ⟨_, rfl⟩
 have HK4 : Hid (4 ≤ kt ∧ kt < s.size) := by unfold Hid; omega
 have ekw : IntKind.i64.wrap ((4 : Int) + (rr : Int)) = (kt : Int) := by rw [IntKind.wrap_i64]; omega
 have wkt : wrap64 ((4 : Int) + (rr : Int)) = (kt : Int) := by unfold wrap64; omega
 clear hkl hkt esz
 go_upto_region 7 with fail
 clear em1 em2 ekw ws4 wkt sn0
 have hbt := get_bn s
 have xk := bn_lt s kt
 have hxor := xor_i64 (bn s kt) (1 + b2 % 255) (by omega) (by omega)
 have hz256 : bn s kt ^^^ (1 + b2 % 255) < 256 := Nat.xor_lt_two_pow (n := 8) xk (by omega)
 have hzne : bn s kt ^^^ (1 + b2 % 255) ≠ bn s kt := xor_ne _ _ (by omega)
 have er1 : (b2 : Int).tmod 255 = ((b2 % 255 : Nat) : Int) := by
  rw [Int.tmod_eq_emod_of_nonneg (by omega)]
  push_cast
  rfl
 have er2 : (b2 : Int) % 255 = ((b2 % 255 : Nat) : Int) := by
  push_cast
  rfl
 have er3 : (1 : Int) + ((b2 % 255 : Nat) : Int) = ((1 + b2 % 255 : Nat) : Int) := by omega
 have er4 : IntKind.i64.wrap ((1 : Int) + ((b2 % 255 : Nat) : Int)) = ((1 + b2 % 255 : Nat) : Int) := by rw [IntKind.wrap_i64]; omega
 have HTk := Hid.mk (HTu.out kt _ HK4.out hz256 hzne)
 generalize b2 % 255 = b3 at *
 have ew : IntKind.u8.wrap ((bn s kt ^^^ (1 + b3) : Nat) : Int) = ((bn s kt ^^^ (1 + b3) : Nat) : Int) := by rw [IntKind.wrap_u8']; omega
 generalize hzz : bn s kt ^^^ (1 + b3) = z at *
 generalize hyy : 1 + b3 = y at *
 clear hzz hzne er3 hyy
 have HTT : Hid (turnT s kt z = s.extract 0 kt ++ txt [byt z] ++ s.extract (kt + 1) s.size) := rfl
 have ew2 : IntKind.i64.wrap (bn s kt : Int) = (bn s kt : Int) := by rw [IntKind.wrap_i64]; omega
 have ks1 : (kt : Int) < (s.size : Int) := by have := HK4.out.2; omega
 have ks2 : (kt : Int) + 1 ≤ (s.size : Int) := by omega
 have ks3 : ((kt : Int) + 1).toNat = kt + 1 := by omega
 have ks4 : IntKind.i64.wrap ((kt : Int) + 1) = (kt : Int) + 1 := by rw [IntKind.wrap_i64]; omega
 have ks5 : (kt : Int) ≤ (s.size : Int) := by omega
 have ks6 : (0 : Int) ≤ (kt : Int) + 1 := by omega
 have zA : (s.extract 0 kt).size = kt := by rw [ByteArray.size_extract]; omega
 have zB : (s.extract (kt + 1) s.size).size = s.size - (kt + 1) := by rw [ByteArray.size_extract]; omega
 have zC : (txt [byt z]).size = 1 := rfl
 generalize hta : s.extract 0 kt = ta at *
 generalize htb : s.extract (kt + 1) s.size = tb at *
 generalize htz : txt [byt z] = tz at *
 have n1 : ¬ 9223372036854775807 < ta.size + tz.size := by omega
 have n2 : ¬ 9223372036854775807 < ta.size + tz.size + tb.size := by omega
 have BYd : Hid (Below w.heap.size w w2.drew) := B2.out.drew
 have x3 := x2 w2.drew (HC.out.on BYd.out)
 clear zA zB zC
 refine wp_region_until (fun _ => True) (fun _ => false) 22 (by rfl) (by kernel_rfl) ?_
 refine pF 0 ?_
 refine pF 1 ?_
 refine pF 2 ?_
 refine pF 3 ?_
 refine pF 4 ?_
 refine pF 5 ?_
 refine pUr 6 (v := .int .i64 (bn s kt : Int)) ?_ ?_
 ·intro w
  go_simp
  try rw [ew2]
 try simp only [Act.put, zQ1, zQ2, zQ3]
 refine pF 7 ?_
 refine pF 16 ?_
 refine pF 17 ?_
 refine pUr 18 (v := .int .i64 ((kt : Int) + 1)) ?_ ?_
 ·intro w
  go_simp
  try rw [ks4]
 try simp only [Act.put, zQ1, zQ2, zQ3]
 refine pF 19 ?_
 refine uNe 8 (fun K hK => ?_)
 go_simp
 refine x3.mono ?_
 rintro e w' ⟨rfl, rfl⟩
 go_wp2_with fail
 refine hK.out _ _ (fun _ _ => trivial) ?_
 clear hK K
 try simp only [Act.put, zQ1, zQ2, zQ3]
 refine pF 9 ?_
 refine pUr 10 (v := .int .i64 (y : Int)) ?_ ?_
 ·intro w
  go_simp
  try rw [er4]
 try simp only [Act.put, zQ1, zQ2, zQ3]
 refine pUr 11 (v := .int .i64 (z : Int)) ?_ ?_
 ·intro w
  go_simp
  try rw [hxor]
 try simp only [Act.put, zQ1, zQ2, zQ3]
 refine pUr 12 (v := .int .u8 (z : Int)) ?_ ?_
 ·intro w
  go_simp
  try rw [ew]
 try simp only [Act.put, zQ1, zQ2, zQ3]
 refine uNe 13 (fun K hK => ?_)
 go_simp
 refine hK.out _ _ (fun _ _ => trivial) ?_
 clear hK K
 try simp only [Act.put, zQ1, zQ2, zQ3]
 refine uNe 14 (fun K hK => ?_)
 have hcv := conv_one z w2.heap.size 1 (w2.drew.alloc (.cells #[.int .u8 (z : Int)] 5)) ((Blk.new w2.drew #[.int .u8 (z : Int)] 5).cell 0 _ rfl) hz256
 have hcv2 := conv_one z w2.heap.size 1 (w2.alloc (.cells #[.int .u8 (z : Int)] 5)).drew ((Blk.new w2 #[.int .u8 (z : Int)] 5).cell 0 _ rfl) hz256
 rw [htz] at hcv hcv2
 go_simp
 refine hK.out _ _ (fun _ _ => trivial) ?_
 clear hK K hcv hcv2
 try simp only [Act.put, zQ1, zQ2, zQ3]
 refine pF 15 ?_
 refine pF 20 ?_
 refine pF 21 ?_
 refine until_done (by kernel_rfl) ?_ _
 have HTe : Hid (ta ++ tz ++ tb = turnT s kt z) := HTT.out.symm
 have HTz : Hid ((turnT s kt z).size ≤ 49) := by unfold Hid; rw [(turn_facts s kt z HK4.out.2 hz256).1]; exact sz49
 have B3 : Hid (Below w.heap.size w (w2.alloc (.cells #[.int .u8 (z : Int)] 5)).drew) := (B2.out.alloc B2.out.size _).drew
 generalize (w2.alloc (.cells #[.int .u8 (z : Int)] 5)).drew = w3 at *
 clear hbt xk hxor hz256 er1 er2 er4 ew ew2 ks1 ks2 ks3 ks4 ks5 ks6 hta htb htz n1 n2 BYd x3 HTT HTu HK4 sz9 sz49 sz5 sz6 d9 d9n B2 x1 y1 bq1
 rw [HTe.out]
 generalize turnT s kt z = tt at *
 have hun : unf tt = #[.string ⟨#[]⟩, .int .i64 0, .int .i64 2] := by unfold unf; rw [HTk.out]; rfl
 have cU := impl_unframe tt w3 (by have := HTz.out; omega) (ST.out.on B3.out) a0 a1 a2 (ER.out.on B3.out)
 rw [hun] at cU
 clear hun HTe HTk HTz
 go_wp2_with fail
 refine cU.mono ?_
 rintro e w4 ⟨rfl, hb4⟩
 have B4 : Hid (Below w.heap.size w w4) := B3.out.trans (hb4.mono B3.out.size)
 clear hb4 cU B3
 go_wp2_with fail
 refine (drawShowMsg w4 ao len cap cs HL.out (HC.out.on B4.out)).mono ?_
 rintro e w5 ⟨⟨x, u, rfl, hO, hl, hd, hz⟩, hb5⟩
 obtain ⟨A, m, c, rfl, hOw⟩ := hO.shape
 have B5 : Hid (Below w.heap.size w w5) := B4.out.trans (hb5.mono B4.out.size)
 have al : Below w5.heap.size w5 (w5.alloc (.cells #[.int .i64 x.kind, .int .i64 x.frm, .int .i64 x.dst, .int .i64 x.term, .int .i64 x.index, .int .i64 x.iterm, .int .i64 x.commit, .bool x.yes, .slice A m c, .string x.data] 31)) := (Below.refl _ _).alloc (Nat.le_refl _) _
 have K6 : Hid (Blk (w5.alloc (.cells #[.int .i64 x.kind, .int .i64 x.frm, .int .i64 x.dst, .int .i64 x.term, .int .i64 x.index, .int .i64 x.iterm, .int .i64 x.commit, .bool x.yes, .slice A m c, .string x.data] 31)) w5.heap.size #[.int .i64 x.kind, .int .i64 x.frm, .int .i64 x.dst, .int .i64 x.term, .int .i64 x.index, .int .i64 x.iterm, .int .i64 x.commit, .bool x.yes, .slice A m c, .string x.data] 31) := Blk.new w5 _ _
 have V6 : Hid (MgV (w5.alloc (.cells #[.int .i64 x.kind, .int .i64 x.frm, .int .i64 x.dst, .int .i64 x.term, .int .i64 x.index, .int .i64 x.iterm, .int .i64 x.commit, .bool x.yes, .slice A m c, .string x.data] 31)) w5.heap.size (.agg #[.int .i64 x.kind, .int .i64 x.frm, .int .i64 x.dst, .int .i64 x.term, .int .i64 x.index, .int .i64 x.iterm, .int .i64 x.commit, .bool x.yes, .slice A m c, .string x.data]) x) := hO.lies.on al
 have B6 : Hid (Below w.heap.size w (w5.alloc (.cells #[.int .i64 x.kind, .int .i64 x.frm, .int .i64 x.dst, .int .i64 x.term, .int .i64 x.index, .int .i64 x.iterm, .int .i64 x.commit, .bool x.yes, .slice A m c, .string x.data] 31))) := B5.out.trans (al.mono B5.out.size)
 have HFi : Hid (FitsM x) := ⟨by unfold maxLen; omega, fun y hy => by have := hd y hy; unfold maxLen; omega, by unfold maxLen; omega⟩
 have HWt : Hid (wtM x ≤ 1048576) := by have := wtE_few x.ents hd; unfold Hid wtM; omega
 have HDz : Hid (x.data.size ≤ 3001) := hz
 have HBw : Hid (w5.heap.size ≤ (w5.alloc (.cells #[.int .i64 x.kind, .int .i64 x.frm, .int .i64 x.dst, .int .i64 x.term, .int .i64 x.index, .int .i64 x.iterm, .int .i64 x.commit, .bool x.yes, .slice A m c, .string x.data] 31)).heap.size) := al.size
 clear hO hl hd hz hb5 hOw al B4
 go_wp2_with fail
 generalize w5.alloc (.cells #[.int .i64 x.kind, .int .i64 x.frm, .int .i64 x.dst, .int .i64 x.term, .int .i64 x.index, .int .i64 x.iterm, .int .i64 x.commit, .bool x.yes, .slice A m c, .string x.data] 31) = w6 at *
 have k6 := cellsC10 K6.out
 obtain ⟨e0, e1, e2, e3, e4, e5, e6, e7, e8, e9⟩ := k6
 go_wp2_with fail
 refine (implShowMsg x (.agg #[.int .i64 x.kind, .int .i64 x.frm, .int .i64 x.dst, .int .i64 x.term, .int .i64 x.index, .int .i64 x.iterm, .int .i64 x.commit, .bool x.yes, .slice A m c, .string x.data]) w6 w5.heap.size V6.out HFi.out (by have := HDz.out; omega) HBw.out (ST.out.on B6.out) a0 a1 a2 (ER.out.on B6.out)).mono ?_
 rintro e w7 ⟨rfl, hb7⟩
 have B7 : Hid (Below w.heap.size w w7) := B6.out.trans (hb7.mono B6.out.size)
 clear e0 e1 e2 e3 e4 e5 e6 e7 e8 e9
 by_cases ho : msgOk x = true
 rotate_left
 ·have hf : msgOk x = false := by simpa using ho
  rw [msgT_no hf]
  have cS := specMsgOk x (.agg #[.int .i64 x.kind, .int .i64 x.frm, .int .i64 x.dst, .int .i64 x.term, .int .i64 x.index, .int .i64 x.iterm, .int .i64 x.commit, .bool x.yes, .slice A m c, .string x.data]) w7 w5.heap.size (V6.out.on (hb7.mono HBw.out)) HFi.out HWt.out (Nat.le_trans HBw.out hb7.size)
  rw [hf] at cS
  obtain ⟨e0, e1, e2, e3, e4, e5, e6, e7, e8, e9⟩ := cellsC10 (K6.out.on hb7 K6.out.lt)
  clear hb7 ho hf
  go_wp2_with fail
  refine cS.mono ?_
  rintro e w8 ⟨rfl, hb8⟩
  have B8 : Hid (Below w.heap.size w w8) := B7.out.trans (hb8.mono B7.out.size)
  clear e0 e1 e2 e3 e4 e5 e6 e7 e8 e9 cS hb8
  go_wp2_with fail
  go_ret
  exact ⟨rfl, B8.out⟩
 obtain ⟨u13, u70⟩ := msgT_few HDz.out ho
 have HTu : Hid (∀ k z, k < (msgT x).size → z < 256 → z ≠ bn (msgT x) k → ∀ y, ¬ MgRd (turnT (msgT x) k z) y) := fun k z hk hz hne => by
  obtain ⟨h1, h2, h3⟩ := turn_facts (msgT x) k z hk hz
  exact (msgT_rd ho).turned (by omega) h1 k hk (by rw [h2]; exact fun e => hne e.symm) (fun i _ hi => h3 i hi)
 clear hb7 ho K6 V6 HFi HWt HDz HBw B6 B5
 generalize msgT x = s2 at *
 have g1 : ¬ s2 = ByteArray.empty := by intro h; rw [h] at u13; simp at u13
 have g2 : s2.toList.isEmpty = false := by cases h : s2.toList.isEmpty with | false => rfl | true => rw [List.isEmpty_iff, Lib.toList_data] at h; have : s2.size = 0 := (by show s2.data.size = 0; rw [← Array.length_toList, h]; rfl); omega
 have g3 : (s2.toList == []) = false := by rw [List.beq_nil_eq]; exact g2
 clear g1 
 go_wp2_with fail
 refine (x0 w7 (HC.out.on B7.out)).mono ?_
 rintro e w' ⟨rfl, rfl⟩
 go_wp2_with fail
 refine (x4 w7 (HC.out.on B7.out)).mono ?_
 rintro e w' ⟨rfl, rfl⟩
 have hkl : (b0 * 256 + b3q) % s2.size < s2.size := Nat.mod_lt _ (by omega)
 have em1 : ((b0 : Int) * 256 + (b3q : Int)).tmod (s2.size : Int) = (((b0 * 256 + b3q) % s2.size : Nat) : Int) := by
  rw [Int.tmod_eq_emod_of_nonneg (by omega)]
  push_cast
  rfl
 have em2 : ((b0 : Int) * 256 + (b3q : Int)) % (s2.size : Int) = (((b0 * 256 + b3q) % s2.size : Nat) : Int) := by
  push_cast
  rfl
 have sn0 : ¬ (s2.size : Int) = 0 := by omega
 have sn1 : s2.size ≠ 0 := by omega
 have sqz : (s2.size : Int) ≤ 7000 := by omega
 have bq1 : (b3q : Int) < 256 := by omega
 have HK7 : Hid ((b0 * 256 + b3q) % s2.size < s2.size) := hkl
 generalize (b0 * 256 + b3q) % s2.size = kt2 at *
 clear hkl g2 g3
 go_upto_region 16 with fail
 clear em1 em2 sn0 sn1
 have hbt := get_bn s2
 have xk := bn_lt s2 kt2
 have hxor := xor_i64 (bn s2 kt2) (1 + b2 % 255) (by omega) (by omega)
 have hz256 : bn s2 kt2 ^^^ (1 + b2 % 255) < 256 := Nat.xor_lt_two_pow (n := 8) xk (by omega)
 have hzne : bn s2 kt2 ^^^ (1 + b2 % 255) ≠ bn s2 kt2 := xor_ne _ _ (by omega)
 have er1 : (b2 : Int).tmod 255 = ((b2 % 255 : Nat) : Int) := by
  rw [Int.tmod_eq_emod_of_nonneg (by omega)]
  push_cast
  rfl
 have er2 : (b2 : Int) % 255 = ((b2 % 255 : Nat) : Int) := by
  push_cast
  rfl
 have er3 : (1 : Int) + ((b2 % 255 : Nat) : Int) = ((1 + b2 % 255 : Nat) : Int) := by omega
 have er4 : IntKind.i64.wrap ((1 : Int) + ((b2 % 255 : Nat) : Int)) = ((1 + b2 % 255 : Nat) : Int) := by rw [IntKind.wrap_i64]; omega
 have HTk := Hid.mk (HTu.out kt2 _ HK7.out hz256 hzne)
 generalize b2 % 255 = b3 at *
 have ew : IntKind.u8.wrap ((bn s2 kt2 ^^^ (1 + b3) : Nat) : Int) = ((bn s2 kt2 ^^^ (1 + b3) : Nat) : Int) := by rw [IntKind.wrap_u8']; omega
 generalize hzz : bn s2 kt2 ^^^ (1 + b3) = z at *
 generalize hyy : 1 + b3 = y at *
 clear hzz hzne er3 hyy
 have HTT : Hid (turnT s2 kt2 z = s2.extract 0 kt2 ++ txt [byt z] ++ s2.extract (kt2 + 1) s2.size) := rfl
 have ew2 : IntKind.i64.wrap (bn s2 kt2 : Int) = (bn s2 kt2 : Int) := by rw [IntKind.wrap_i64]; omega
 have ks1 : (kt2 : Int) < (s2.size : Int) := by have := HK7.out; omega
 have ks2 : (kt2 : Int) + 1 ≤ (s2.size : Int) := by omega
 have ks3 : ((kt2 : Int) + 1).toNat = kt2 + 1 := by omega
 have ks4 : IntKind.i64.wrap ((kt2 : Int) + 1) = (kt2 : Int) + 1 := by rw [IntKind.wrap_i64]; omega
 have ks5 : (kt2 : Int) ≤ (s2.size : Int) := by omega
 have ks6 : (0 : Int) ≤ (kt2 : Int) + 1 := by omega
 have zA : (s2.extract 0 kt2).size = kt2 := by rw [ByteArray.size_extract]; omega
 have zB : (s2.extract (kt2 + 1) s2.size).size = s2.size - (kt2 + 1) := by rw [ByteArray.size_extract]; omega
 have zC : (txt [byt z]).size = 1 := rfl
 generalize hta : s2.extract 0 kt2 = ta at *
 generalize htb : s2.extract (kt2 + 1) s2.size = tb at *
 generalize htz : txt [byt z] = tz at *
 have n1 : ¬ 9223372036854775807 < ta.size + tz.size := by omega
 have n2 : ¬ 9223372036854775807 < ta.size + tz.size + tb.size := by omega
 have BYd : Hid (Below w.heap.size w w7.drew) := B7.out.drew
 have x3 := x2 w7.drew (HC.out.on BYd.out)
 clear zA zB zC
 refine wp_region_until (fun _ => True) (fun _ => false) 22 (by rfl) (by kernel_rfl) ?_
 refine pF 0 ?_
 refine pF 1 ?_
 refine pF 2 ?_
 refine pF 3 ?_
 refine pF 4 ?_
 refine pF 5 ?_
 refine pUr 6 (v := .int .i64 (bn s2 kt2 : Int)) ?_ ?_
 ·intro w
  go_simp
  try rw [ew2]
 try simp only [Act.put, zQ1, zQ2, zQ3]
 refine pF 7 ?_
 refine pF 16 ?_
 refine pF 17 ?_
 refine pUr 18 (v := .int .i64 ((kt2 : Int) + 1)) ?_ ?_
 ·intro w
  go_simp
  try rw [ks4]
 try simp only [Act.put, zQ1, zQ2, zQ3]
 refine pF 19 ?_
 refine uNe 8 (fun K hK => ?_)
 go_simp
 refine x3.mono ?_
 rintro e w' ⟨rfl, rfl⟩
 go_wp2_with fail
 refine hK.out _ _ (fun _ _ => trivial) ?_
 clear hK K
 try simp only [Act.put, zQ1, zQ2, zQ3]
 refine pF 9 ?_
 refine pUr 10 (v := .int .i64 (y : Int)) ?_ ?_
 ·intro w
  go_simp
  try rw [er4]
 try simp only [Act.put, zQ1, zQ2, zQ3]
 refine pUr 11 (v := .int .i64 (z : Int)) ?_ ?_
 ·intro w
  go_simp
  try rw [hxor]
 try simp only [Act.put, zQ1, zQ2, zQ3]
 refine pUr 12 (v := .int .u8 (z : Int)) ?_ ?_
 ·intro w
  go_simp
  try rw [ew]
 try simp only [Act.put, zQ1, zQ2, zQ3]
 refine uNe 13 (fun K hK => ?_)
 go_simp
 refine hK.out _ _ (fun _ _ => trivial) ?_
 clear hK K
 try simp only [Act.put, zQ1, zQ2, zQ3]
 refine uNe 14 (fun K hK => ?_)
 have hcv := conv_one z w7.heap.size 1 (w7.drew.alloc (.cells #[.int .u8 (z : Int)] 5)) ((Blk.new w7.drew #[.int .u8 (z : Int)] 5).cell 0 _ rfl) hz256
 have hcv2 := conv_one z w7.heap.size 1 (w7.alloc (.cells #[.int .u8 (z : Int)] 5)).drew ((Blk.new w7 #[.int .u8 (z : Int)] 5).cell 0 _ rfl) hz256
 rw [htz] at hcv hcv2
 go_simp
 refine hK.out _ _ (fun _ _ => trivial) ?_
 clear hK K hcv hcv2
 try simp only [Act.put, zQ1, zQ2, zQ3]
 refine pF 15 ?_
 refine pF 20 ?_
 refine pF 21 ?_
 refine until_done (by kernel_rfl) ?_ _
 have HTe : Hid (ta ++ tz ++ tb = turnT s2 kt2 z) := HTT.out.symm
 have HTz : Hid ((turnT s2 kt2 z).size ≤ 7000) := by unfold Hid; rw [(turn_facts s2 kt2 z HK7.out hz256).1]; exact u70
 have B8 : Hid (Below w.heap.size w (w7.alloc (.cells #[.int .u8 (z : Int)] 5)).drew) := (B7.out.alloc B7.out.size _).drew
 generalize (w7.alloc (.cells #[.int .u8 (z : Int)] 5)).drew = w8 at *
 clear hbt xk hxor hz256 er1 er2 er4 ew ew2 ks1 ks2 ks3 ks4 ks5 ks6 hta htb htz n1 n2 BYd x3 HTT HTu B7
 rw [HTe.out]
 generalize turnT s2 kt2 z = t2 at *
 clear HTe
 go_wp2_with fail
 refine (implReadMsg t2 w8 (by have := HTz.out; omega) (ST.out.on B8.out) a0 a1 a2 (ER.out.on B8.out)).mono ?_
 rintro e w9 ⟨⟨x', u', b', hN, rfl, hO⟩, hb9⟩
 have B9 : Hid (Below w.heap.size w w9) := B8.out.trans (hb9.mono B8.out.size)
 obtain ⟨A', m', c', rfl, hOw⟩ := hO.shape
 rcases hN with ⟨hR, rfl⟩ | ⟨_, _, rfl⟩
 ·exact absurd hR (HTk.out _)
 clear hO hOw hb9 B8
 go_wp2_with fail
 go_ret
 exact ⟨rfl, B9.out.alloc B9.out.size _⟩
end Go.Proofs.YtifmjdakefkbiaaGreatDoor
