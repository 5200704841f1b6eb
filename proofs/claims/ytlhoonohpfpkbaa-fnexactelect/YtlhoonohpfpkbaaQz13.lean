/- CoA0 -/
import Derived.Test.YtlhoonohpfpkbaaRows
import Derived.Test.YtlhoonohpfpkbaaQz12
import Derived.Deep.Cut
import Derived.Deep.CutRange
import Derived.Handy
import Derived.Test.YtlhoonohpfpkbaaQp0
import Derived.Test.YtlhoonohpfpkbaaQp1
import Derived.Test.YtlhoonohpfpkbaaQp2
import Derived.Test.YtlhoonohpfpkbaaQp3
import Derived.Test.YtlhoonohpfpkbaaQp4
import Derived.Test.YtlhoonohpfpkbaaQp5
import Derived.Test.YtlhoonohpfpkbaaQp6
import Derived.Test.YtlhoonohpfpkbaaQp7
import Derived.Test.YtlhoonohpfpkbaaQp8
import Derived.Test.YtlhoonohpfpkbaaQp9
import Derived.Test.YtlhoonohpfpkbaaQp10
import Derived.Test.YtlhoonohpfpkbaaQp11
import Derived.Test.YtlhoonohpfpkbaaQp12
open List (setIfInBounds_toArray set_cons_zero set_cons_succ)
namespace Go.Proofs.Ytlhoonohpfpkbaa
open Go.ChangeShapes Go.WideShapes Go.ChangeAt Go.RowKit Go.PlainAid
set_option linter.unusedVariables false
set_option maxRecDepth 20000 in
set_option maxHeartbeats 16000000 in
theorem advI0 (ci ct cv cr cd cb cbt : Int) (lg : List Ent) (cc : Int) (ys ns ms : List Int) (da : ByteArray) (w : World) (base p : Nat) (hsp : SpkW w base p ⟨ci, 1, ct, cv, cr, cd, cb, cbt, lg, cc, ys, ns, ms⟩ []) (hso : SendOk (leadC ⟨ci, 1, ct, cv, cr, cd, cb, cbt, lg, cc, ys, ns, ms⟩)) (hd9 : da.size ≤ 1048576) (hbs : base ≤ w.heap.size) :
  Calls Try.prog 66 #[.pointer (some ⟨p, 0, none⟩), .int .i64 0, .string da] w fun e w' => e = .returned (.tuple #[]) ∧ Spk w' base p (putC (leadC ⟨ci, 1, ct, cv, cr, cd, cb, cbt, lg, cc, ys, ns, ms⟩) da) [] ∧ Below base w w' := by
 obtain ⟨A0, An0, Ac0, A1, An1, Ac1, A2, An2, Ac2, A3, An3, Ac3, A4, An4, Ac4, h1, h2⟩ := hsp.nil
 have HS0 := Hid.mk h1
 have HO0 : Hid (Owns w base 71 2 (.slice A0 An0 Ac0) (entR lg)) := h2
 have PW : Hid (Blk w p #[.int .i64 ci, .int .i64 1, .int .i64 ct, .int .i64 cv, .int .i64 cr, .int .i64 cd, .int .i64 cb, .int .i64 cbt, .slice A0 An0 Ac0, .int .i64 cc, .slice A1 An1 Ac1, .slice A2 An2 Ac2, .slice A3 An3 Ac3, .slice A4 An4 Ac4] 74) := h1.b
 have HBW : Hid (base ≤ w.heap.size) := hbs
 have hln : An0 = lg.length := by
  obtain ⟨A', c', e⟩ := h1.r.l.shape
  rw [entR_length] at e
  cases e
  rfl
 have hb0 : 0 ≤ cb := hso.b0
 have hb1 : cb ≤ 100000 := hso.b1
 have hn60 : lg.length ≤ 60 := hso.n
 rw [← hln] at hn60
 have HLd : Hid (leadC ⟨ci, 1, ct, cv, cr, cd, cb, cbt, lg, cc, ys, ns, ms⟩ = ⟨ci, 1, ct, cv, 3, ci, cb, cbt, lg, cc, [], [cb + (An0 : Int) + 1], [0]⟩) := by unfold Hid leadC cLast; simp only; rw [hln]; rfl
 have HSo0 := Hid.mk hso
 have cL := fun wx => lastI ci 1 ct cv 3 ci cb cbt cc A0 An0 Ac0 (.slice none 0 0) (.slice A2 An2 Ac2) (.slice A3 An3 Ac3) wx (by omega) (by omega) (by omega)
 have wz : IntKind.i64.wrap (cb + (An0 : Int) + 1) = cb + (An0 : Int) + 1 := by rw [IntKind.wrap_i64]; omega
 obtain ⟨i0, hi, hz0, hz1, hz2⟩ := info_parts Try.infoInt
 have hmk : ∀ wx : World, (Instr.makeSlice 23 (.int .i64 1) (.int .i64 1)).run Try.prog wx = .ok (.slice (some ⟨wx.heap.size, 0, none⟩) 1 1) (wx.alloc (.cells #[.int .i64 0] 3)) := fun wx => by
  have h := run_make (P := Try.prog) wx 23 3 i0 _ Try.underlying23 hi hz0 .i64 .i64 1 1 (by omega) (by omega) (by rw [hz2]; omega) (by omega)
  rw [hz1] at h
  have e : (Value.int .i64 0).cells = #[.int .i64 0] := rfl
  rw [e, show ((1 : Int)).toNat = 1 from rfl, num_made] at h
  exact h
 clear hi hz0 hz1 hz2 hsp h1 h2 hso hbs hln
 have k0 := PW.out.cell 0 _ rfl
 have qf0 := PW.out.free 4
 have qo0 := PW.out.cell 4 _ rfl
 have qf1 := (PW.out.set 4 (.int .i64 3)).free 5
 have qo1 := (PW.out.set 4 (.int .i64 3)).cell 5 _ rfl
 have qf2 := ((PW.out.set 4 (.int .i64 3)).set 5 (.int .i64 ci)).free 10
 have qo2 := ((PW.out.set 4 (.int .i64 3)).set 5 (.int .i64 ci)).cell 10 _ rfl
 obtain ⟨W4, hW4⟩ : ∃ W4, W4 = (((w.setCell ⟨p, 4, none⟩ (.int .i64 3)).setCell ⟨p, 5, none⟩ (.int .i64 ci)).setCell ⟨p, 10, none⟩ (.slice none 0 0)) := ⟨_, rfl⟩
 have P4 : Hid (Blk W4 p #[.int .i64 ci, .int .i64 1, .int .i64 ct, .int .i64 cv, .int .i64 3, .int .i64 ci, .int .i64 cb, .int .i64 cbt, .slice A0 An0 Ac0, .int .i64 cc, .slice none 0 0, .slice A2 An2 Ac2, .slice A3 An3 Ac3, .slice A4 An4 Ac4] 74) := by unfold Hid; rw [hW4]; exact (((PW.out.set 4 (.int .i64 3)).set 5 (.int .i64 ci)).set 10 (.slice none 0 0))
 have L4 : Hid (Owns W4 base 71 2 (.slice A0 An0 Ac0) (entR lg)) := by unfold Hid; rw [hW4]; exact (((HO0.out.ownP PW.out 4 (.int .i64 3)).ownP (PW.out.set 4 (.int .i64 3)) 5 (.int .i64 ci)).ownP ((PW.out.set 4 (.int .i64 3)).set 5 (.int .i64 ci)) 10 (.slice none 0 0))
 have M4 : Hid (MsO W4 base (.slice A4 An4 Ac4) []) := by unfold Hid; rw [hW4]; exact (((HS0.out.m.atP PW.out 4 (.int .i64 3)).atP (PW.out.set 4 (.int .i64 3)) 5 (.int .i64 ci)).atP ((PW.out.set 4 (.int .i64 3)).set 5 (.int .i64 ci)) 10 (.slice none 0 0))
 have B4 : Hid (Below base w W4) := by unfold Hid; rw [hW4]; exact ((((Below.refl _ _).setCell HS0.out.p _).setCell HS0.out.p _).setCell HS0.out.p _)
 have HPp : Hid (base ≤ p) := HS0.out.p
 go_enter Try.func66, Try.ntmps66
 go_upto_region 5 with fail
 rw [← hW4]
 clear hW4 k0 qf0 qo0 qf1 qo1 qf2 qo2 PW HS0 HO0
 have HB4 : Hid (base ≤ W4.heap.size) := Nat.le_trans HBW.out B4.out.size
 refine wp_region_until (fun w' => w'.cell? ⟨p, 0, none⟩ = some (.int .i64 ci) ∧ w'.cell? ⟨p, 1, none⟩ = some (.int .i64 1) ∧ w'.cell? ⟨p, 2, none⟩ = some (.int .i64 ct) ∧ w'.cell? ⟨p, 3, none⟩ = some (.int .i64 cv) ∧ w'.cell? ⟨p, 4, none⟩ = some (.int .i64 3) ∧ w'.cell? ⟨p, 5, none⟩ = some (.int .i64 ci) ∧ w'.cell? ⟨p, 6, none⟩ = some (.int .i64 cb) ∧ w'.cell? ⟨p, 7, none⟩ = some (.int .i64 cbt) ∧ w'.cell? ⟨p, 8, none⟩ = some (.slice A0 An0 Ac0) ∧ w'.cell? ⟨p, 9, none⟩ = some (.int .i64 cc) ∧ w'.cell? ⟨p, 10, none⟩ = some (.slice none 0 0) ∧ w'.cell? ⟨p, 11, none⟩ = some (.slice A2 An2 Ac2) ∧ w'.cell? ⟨p, 12, none⟩ = some (.slice A3 An3 Ac3) ∧ w'.cell? ⟨p, 13, none⟩ = some (.slice A4 An4 Ac4)) (fun i => i == 17) 18 (by rfl) (by kernel_rfl) ?_
 have V0 : Hid (Below W4.heap.size W4 W4.drew) := (Below.refl _ _).drew
 generalize W4.drew = Y0 at *
 have P0 := Hid.mk (P4.out.on V0.out P4.out.lt)
 have SS0 := Hid.mk (show (fun w' => w'.cell? ⟨p, 0, none⟩ = some (.int .i64 ci) ∧ w'.cell? ⟨p, 1, none⟩ = some (.int .i64 1) ∧ w'.cell? ⟨p, 2, none⟩ = some (.int .i64 ct) ∧ w'.cell? ⟨p, 3, none⟩ = some (.int .i64 cv) ∧ w'.cell? ⟨p, 4, none⟩ = some (.int .i64 3) ∧ w'.cell? ⟨p, 5, none⟩ = some (.int .i64 ci) ∧ w'.cell? ⟨p, 6, none⟩ = some (.int .i64 cb) ∧ w'.cell? ⟨p, 7, none⟩ = some (.int .i64 cbt) ∧ w'.cell? ⟨p, 8, none⟩ = some (.slice A0 An0 Ac0) ∧ w'.cell? ⟨p, 9, none⟩ = some (.int .i64 cc) ∧ w'.cell? ⟨p, 10, none⟩ = some (.slice none 0 0) ∧ w'.cell? ⟨p, 11, none⟩ = some (.slice A2 An2 Ac2) ∧ w'.cell? ⟨p, 12, none⟩ = some (.slice A3 An3 Ac3) ∧ w'.cell? ⟨p, 13, none⟩ = some (.slice A4 An4 Ac4)) Y0 from ⟨P0.out.cell 0 _ rfl, P0.out.cell 1 _ rfl, P0.out.cell 2 _ rfl, P0.out.cell 3 _ rfl, P0.out.cell 4 _ rfl, P0.out.cell 5 _ rfl, P0.out.cell 6 _ rfl, P0.out.cell 7 _ rfl, P0.out.cell 8 _ rfl, P0.out.cell 9 _ rfl, P0.out.cell 10 _ rfl, P0.out.cell 11 _ rfl, P0.out.cell 12 _ rfl, P0.out.cell 13 _ rfl⟩)
 refine tF 0 SS0.out ?_
 refine tF 1 SS0.out ?_
 refine tF 2 SS0.out ?_
 refine tF 3 SS0.out ?_
 refine tF 4 SS0.out ?_
 refine tF 8 SS0.out ?_
 refine tF 9 SS0.out ?_
 refine tF 10 SS0.out ?_
 refine tF 11 SS0.out ?_
 refine tF 12 SS0.out ?_
 refine uNe 5 (fun K hK => ?_)
 go_simp
 refine (cL Y0).mono ?_
 rintro e Y1 ⟨rfl, hb⟩
 have V1 : Hid (Below W4.heap.size W4 Y1) := V0.out.trans (hb.mono V0.out.size)
 have P1 := Hid.mk (P4.out.on V1.out P4.out.lt)
 clear hb
 refine hK.out _ _ (fun _ _ => ⟨P1.out.cell 0 _ rfl, P1.out.cell 1 _ rfl, P1.out.cell 2 _ rfl, P1.out.cell 3 _ rfl, P1.out.cell 4 _ rfl, P1.out.cell 5 _ rfl, P1.out.cell 6 _ rfl, P1.out.cell 7 _ rfl, P1.out.cell 8 _ rfl, P1.out.cell 9 _ rfl, P1.out.cell 10 _ rfl, P1.out.cell 11 _ rfl, P1.out.cell 12 _ rfl, P1.out.cell 13 _ rfl⟩) ?_
 clear hK K
 try simp only [Act.put, zQ1, zQ2, zQ3]
 refine pF 6 ?_
 have bz : Below Y1.heap.size Y1 (Y1.alloc (.cells #[.int .i64 (cb + (An0 : Int) + 1)] 3)) := (Below.refl _ _).alloc (Nat.le_refl _) _
 have hbk := Blk.new Y1 #[.int .i64 (cb + (An0 : Int) + 1)] 3
 refine uNe 7 (fun K hK => ?_)
 go_simp
 generalize hg1 : Y1.heap.size = gn at *
 have V2 : Hid (Below W4.heap.size W4 (Y1.alloc (.cells #[.int .i64 (cb + (An0 : Int) + 1)] 3))) := V1.out.trans (bz.mono (by have := V1.out.size; omega))
 clear hg1
 generalize Y1.alloc (.cells #[.int .i64 (cb + (An0 : Int) + 1)] 3) = Y2 at *
 have P2 := Hid.mk (P4.out.on V2.out P4.out.lt)
 refine hK.out _ _ (fun _ _ => ⟨P2.out.cell 0 _ rfl, P2.out.cell 1 _ rfl, P2.out.cell 2 _ rfl, P2.out.cell 3 _ rfl, P2.out.cell 4 _ rfl, P2.out.cell 5 _ rfl, P2.out.cell 6 _ rfl, P2.out.cell 7 _ rfl, P2.out.cell 8 _ rfl, P2.out.cell 9 _ rfl, P2.out.cell 10 _ rfl, P2.out.cell 11 _ rfl, P2.out.cell 12 _ rfl, P2.out.cell 13 _ rfl⟩) ?_
 clear hK K bz
 try simp only [Act.put, zQ1, zQ2, zQ3]
 refine uNe 13 (fun K hK => ?_)
 go_simp
 refine (rep_1 gn (cb + (An0 : Int) + 1) Y2 hbk).mono ?_
 rintro e Y3 ⟨⟨un, rfl, hN⟩, hb⟩
 have V3 : Hid (Below W4.heap.size W4 Y3) := V2.out.trans (hb.mono V2.out.size)
 have P3 := Hid.mk (P4.out.on V3.out P4.out.lt)
 have N3 : Hid (Nums Y3 W4.heap.size un [cb + (An0 : Int) + 1]) := hN.mono V2.out.size
 obtain ⟨N2, n2, k2, rfl⟩ := hN.sh3
 clear hb hN hbk
 refine hK.out _ _ (fun _ _ => ⟨P3.out.cell 0 _ rfl, P3.out.cell 1 _ rfl, P3.out.cell 2 _ rfl, P3.out.cell 3 _ rfl, P3.out.cell 4 _ rfl, P3.out.cell 5 _ rfl, P3.out.cell 6 _ rfl, P3.out.cell 7 _ rfl, P3.out.cell 8 _ rfl, P3.out.cell 9 _ rfl, P3.out.cell 10 _ rfl, P3.out.cell 11 _ rfl, P3.out.cell 12 _ rfl, P3.out.cell 13 _ rfl⟩) ?_
 clear hK K
 try simp only [Act.put, zQ1, zQ2, zQ3]
 have SS3 := Hid.mk (show (fun w' => w'.cell? ⟨p, 0, none⟩ = some (.int .i64 ci) ∧ w'.cell? ⟨p, 1, none⟩ = some (.int .i64 1) ∧ w'.cell? ⟨p, 2, none⟩ = some (.int .i64 ct) ∧ w'.cell? ⟨p, 3, none⟩ = some (.int .i64 cv) ∧ w'.cell? ⟨p, 4, none⟩ = some (.int .i64 3) ∧ w'.cell? ⟨p, 5, none⟩ = some (.int .i64 ci) ∧ w'.cell? ⟨p, 6, none⟩ = some (.int .i64 cb) ∧ w'.cell? ⟨p, 7, none⟩ = some (.int .i64 cbt) ∧ w'.cell? ⟨p, 8, none⟩ = some (.slice A0 An0 Ac0) ∧ w'.cell? ⟨p, 9, none⟩ = some (.int .i64 cc) ∧ w'.cell? ⟨p, 10, none⟩ = some (.slice none 0 0) ∧ w'.cell? ⟨p, 11, none⟩ = some (.slice A2 An2 Ac2) ∧ w'.cell? ⟨p, 12, none⟩ = some (.slice A3 An3 Ac3) ∧ w'.cell? ⟨p, 13, none⟩ = some (.slice A4 An4 Ac4)) Y3 from ⟨P3.out.cell 0 _ rfl, P3.out.cell 1 _ rfl, P3.out.cell 2 _ rfl, P3.out.cell 3 _ rfl, P3.out.cell 4 _ rfl, P3.out.cell 5 _ rfl, P3.out.cell 6 _ rfl, P3.out.cell 7 _ rfl, P3.out.cell 8 _ rfl, P3.out.cell 9 _ rfl, P3.out.cell 10 _ rfl, P3.out.cell 11 _ rfl, P3.out.cell 12 _ rfl, P3.out.cell 13 _ rfl⟩)
 refine tF 14 SS3.out ?_
 refine tF 15 SS3.out ?_
 refine tF 16 SS3.out ?_
 have f11 := P3.out.free 11
 have o11 := P3.out.cell 11 _ rfl
 refine uNe 17 (fun K hK => ?_)
 go_simp
 refine hK.out _ _ (fun h => by cases h) ?_
 clear hK K f11 o11
 try simp only [Act.put, zQ1, zQ2, zQ3]
 refine until_done (by kernel_rfl) ?_ _
 obtain ⟨W5, hW5⟩ : ∃ W5, W5 = Y3.setCell ⟨p, 11, none⟩ (.slice N2 n2 k2) := ⟨_, rfl⟩
 rw [← hW5]
 have P5 : Hid (Blk W5 p #[.int .i64 ci, .int .i64 1, .int .i64 ct, .int .i64 cv, .int .i64 3, .int .i64 ci, .int .i64 cb, .int .i64 cbt, .slice A0 An0 Ac0, .int .i64 cc, .slice none 0 0, .slice N2 n2 k2, .slice A3 An3 Ac3, .slice A4 An4 Ac4] 74) := by unfold Hid; rw [hW5]; exact P3.out.set 11 _
 have L5 : Hid (Owns W5 base 71 2 (.slice A0 An0 Ac0) (entR lg)) := by unfold Hid; rw [hW5]; exact (L4.out.on V3.out).ownP P3.out 11 _
 have M5 : Hid (MsO W5 base (.slice A4 An4 Ac4) []) := by unfold Hid; rw [hW5]; exact (M4.out.on V3.out).atP P3.out 11 _
 have N5 : Hid (Nums W5 base (.slice N2 n2 k2) [cb + (An0 : Int) + 1]) := by unfold Hid; rw [hW5]; exact (N3.out.mono HB4.out).other (N3.out.notBlk P3.out (by decide)) _ _
 have B5 : Hid (Below base w W5) := by unfold Hid; rw [hW5]; exact (B4.out.trans (V3.out.mono HB4.out)).setCell HPp.out _
 clear hW5 P0 P1 P2 P3 P4 L4 M4 B4 N3 V0 V1 V2 V3 SS0 SS3 HB4
 have k1 := P5.out.cell 1 _ rfl
 obtain ⟨W6, hW6⟩ : ∃ W6, W6 = W5.alloc (.cells #[.int .i64 0] 3) := ⟨_, rfl⟩
 have hb6 : Below W5.heap.size W5 W6 := by rw [hW6]; exact (Below.refl _ _).alloc (Nat.le_refl _) _
 have N6 : Hid (Nums W6 W5.heap.size (.slice (some ⟨W5.heap.size, 0, none⟩) 1 1) [0]) := by unfold Hid; rw [hW6]; exact Nums.one W5 W5.heap.size 0 (Nat.le_refl _)
 have P6 := Hid.mk (P5.out.on hb6 P5.out.lt)
 have f12 := P6.out.free 12
 have o12 := P6.out.cell 12 _ rfl
 have HB5 : Hid (base ≤ W5.heap.size) := Nat.le_trans HBW.out B5.out.size
 have SW7 : Hid (SpkW (W6.setCell ⟨p, 12, none⟩ (.slice (some ⟨W5.heap.size, 0, none⟩) 1 1)) base p (leadC ⟨ci, 1, ct, cv, cr, cd, cb, cbt, lg, cc, ys, ns, ms⟩) []) := by
  unfold Hid
  rw [HLd.out]
  exact ⟨_, _, _, _, _, [], ⟨P6.out.set 12 _, ⟨((L5.out.on hb6).ownP P6.out 12 _).toF, Nums.nil _ _, (N5.out.on hb6).other ((N5.out.on hb6).notBlk P6.out (by decide)) _ _, (N6.out.mono HB5.out).other (N6.out.notBlk P6.out (by decide)) _ _, fun g h => (by cases h), fun g h => (by cases h), N5.out.apart N6.out (Nat.le_refl _)⟩, (M5.out.on hb6).atP P6.out 12 _, fun q hq => (by cases hq), HPp.out⟩, rfl, (L5.out.on hb6).ownP P6.out 12 _⟩
 have B7 : Hid (Below base w (W6.setCell ⟨p, 12, none⟩ (.slice (some ⟨W5.heap.size, 0, none⟩) 1 1))) := (B5.out.trans (hb6.mono HB5.out)).setCell HPp.out _
 obtain ⟨W7, hW7⟩ : ∃ W7, W7 = W6.setCell ⟨p, 12, none⟩ (.slice (some ⟨W5.heap.size, 0, none⟩) 1 1) := ⟨_, rfl⟩
 rw [← hW7] at SW7 B7
 rw [hW6] at hW7 f12 o12
 clear P5 L5 M5 N5 B5 N6 P6 hb6 HB5 HPp cL HLd
 go_upto_region 7 with fail
 rw [← hW7]
 clear hW7 hW6 f12 o12 k1 hmk wz hb0 hb1 hn60
 obtain ⟨xl, hxl⟩ : ∃ xl, xl = leadC ⟨ci, 1, ct, cv, cr, cd, cb, cbt, lg, cc, ys, ns, ms⟩ := ⟨_, rfl⟩
 have HEQ : Hid (putC (leadC ⟨ci, 1, ct, cv, cr, cd, cb, cbt, lg, cc, ys, ns, ms⟩) da = putC xl da) := by unfold Hid; rw [hxl]
 rw [← hxl] at HSo0 SW7
 clear hxl
 have HSo := HSo0
 clear HSo0
 have BW := B7
 clear B7
 obtain ⟨ci, cp, ct, cv, cr, cd, cb, cbt, lg, cc, ys, ns, ms⟩ := xl
 obtain ⟨A0, An0, Ac0, A1, An1, Ac1, A2, An2, Ac2, A3, An3, Ac3, A4, An4, Ac4, h1, h2⟩ := SW7.out.nil
 have HS0 := Hid.mk h1
 have HO0 : Hid (Owns W7 base 71 2 (.slice A0 An0 Ac0) (entR lg)) := h2
 clear h1 h2 SW7
 have PW : Hid (Blk W7 p #[.int .i64 ci, .int .i64 cp, .int .i64 ct, .int .i64 cv, .int .i64 cr, .int .i64 cd, .int .i64 cb, .int .i64 cbt, .slice A0 An0 Ac0, .int .i64 cc, .slice A1 An1 Ac1, .slice A2 An2 Ac2, .slice A3 An3 Ac3, .slice A4 An4 Ac4] 74) := HS0.out.b
 have hln : An0 = lg.length := by
  obtain ⟨A', c', e⟩ := HS0.out.r.l.shape
  rw [entR_length] at e
  cases e
  rfl
 have hb0 := HSo.out.b0
 have hb1 := HSo.out.b1
 have hn60 := HSo.out.n
 simp only at hb0 hb1 hn60
 have HLe : Hid ((entR lg).length ≤ 2097152) := by unfold Hid; rw [entR_length]; omega
 rw [← hln] at hn60
 have HRm : Hid (RoomP ⟨ci, cp, ct, cv, cr, cd, cb, cbt, lg, cc, ys, ns, ms⟩ ↔ (An0 < 60 ∧ cb + (An0 : Int) < 100000)) := by unfold Hid RoomP cLast; simp only; rw [← hln]
 have HPw : Hid (∀ d, putC ⟨ci, cp, ct, cv, cr, cd, cb, cbt, lg, cc, ys, ns, ms⟩ d = ownX (addX ⟨ci, cp, ct, cv, cr, cd, cb, cbt, lg, cc, ys, ns, ms⟩ d)) := fun d => rfl
 have HSa : Hid (SendOk (addX ⟨ci, cp, ct, cv, cr, cd, cb, cbt, lg, cc, ys, ns, ms⟩ da)) := HSo.out.add da hd9
 have cH := roomI ci cp ct cv cr cd cb cbt cc A0 An0 Ac0 (.slice A1 An1 Ac1) (.slice A2 An2 Ac2) (.slice A3 An3 Ac3) W7 (by omega) (by omega) (by omega)
 obtain ⟨k0, k1, k2, k3, k4, k5, k6, k7, k8, k9, k10, k11, k12, k13⟩ := cells14 PW.out
 clear hln hb0 hb1 hn60
 by_cases hroom : An0 < 60 ∧ cb + (An0 : Int) < 100000
 rotate_left
 ·rw [decide_eq_false hroom] at cH
  have HX : Hid (addX ⟨ci, cp, ct, cv, cr, cd, cb, cbt, lg, cc, ys, ns, ms⟩ da = ⟨ci, cp, ct, cv, cr, cd, cb, cbt, lg, cc, ys, ns, ms⟩) := addX_no (fun h => hroom (HRm.out.1 h))
  clear hroom HRm HLe
  go_wp2_with fail
  refine cH.mono ?_
  rintro e WR ⟨rfl, hb⟩
  have HPx0 := Hid.mk (HPw.out da)
  have SA0 : Hid (Spk WR base p (addX ⟨ci, cp, ct, cv, cr, cd, cb, cbt, lg, cc, ys, ns, ms⟩ da) []) := by unfold Hid; rw [HX.out]; exact ⟨_, _, _, _, _, [], HS0.out.on hb, rfl⟩
  have BA : Hid (Below base w WR) := BW.out.trans (hb.mono (Nat.le_trans HBW.out BW.out.size))
  clear hb cH k0 k1 k2 k3 k4 k5 k6 k7 k8 k9 k10 k11 k12 k13 PW HX HPw HS0 HO0 HSo
  generalize addX ⟨ci, cp, ct, cv, cr, cd, cb, cbt, lg, cc, ys, ns, ms⟩ da = xc at *
  have SA := SA0
  have HSx := HSa
  have HPx := HPx0
  clear SA0 HSa HPx0
  obtain ⟨ul, uy, un, um, us, L, hso, hLM⟩ := SA.out
  obtain ⟨G0, Gn0, Gc0, G1, Gn1, Gc1, G2, Gn2, Gc2, G3, Gn3, Gc3, G4, Gn4, Gc4, rfl, rfl, rfl, rfl, rfl⟩ := hso.shape
  obtain ⟨e0, e1, e2, e3, e4, e5, e6, e7, el, e9, ey, en, em⟩ := xc
  have SX := Hid.mk hso
  have PX : Hid (Blk WR p #[.int .i64 e0, .int .i64 e1, .int .i64 e2, .int .i64 e3, .int .i64 e4, .int .i64 e5, .int .i64 e6, .int .i64 e7, .slice G0 Gn0 Gc0, .int .i64 e9, .slice G1 Gn1 Gc1, .slice G2 Gn2 Gc2, .slice G3 Gn3 Gc3, .slice G4 Gn4 Gc4] 74) := hso.b
  have HLX : Hid (L.map Prod.fst = []) := hLM
  have hgl : Gn0 = el.length := by
   obtain ⟨A', c', e⟩ := hso.r.l.shape
   rw [entR_length] at e
   cases e
   rfl
  have hb0 := HSx.out.b0
  have hb1 := HSx.out.b1
  have hn6 := HSx.out.n
  simp only at hb0 hb1 hn6
  rw [← hgl] at hn6
  have cL := fun wx => lastI e0 e1 e2 e3 e4 e5 e6 e7 e9 G0 Gn0 Gc0 (.slice G1 Gn1 Gc1) (.slice G2 Gn2 Gc2) (.slice G3 Gn3 Gc3) wx (by omega) (by omega) (by omega)
  have HLs : Hid (cLast ⟨e0, e1, e2, e3, e4, e5, e6, e7, el, e9, ey, en, em⟩ = e6 + (Gn0 : Int)) := by unfold Hid cLast; simp only; rw [hgl]
  have cM := fun wx h hb => matchedV ⟨e0, e1, e2, e3, e4, e5, e6, e7, el, e9, ey, en, em⟩ [] e0 (e6 + (Gn0 : Int)) wx base p h HSx.out.i0 (by have h1 := HSx.out.l; have h2 := HSx.out.i1; have h3 := HSx.out.i0; simp only at h1 h2 h3 ⊢; omega) (by have h1 := HSx.out.m; have h2 := HSx.out.i1; have h3 := HSx.out.i0; simp only at h1 h2 h3 ⊢; omega) (by omega) (by omega) hb
  have HMx : Hid (SendOk (matX ⟨e0, e1, e2, e3, e4, e5, e6, e7, el, e9, ey, en, em⟩ e0.toNat (e6 + (Gn0 : Int)))) := by
   have := HSx.out.mat
   rw [HLs.out] at this
   exact this
  have HPy : Hid (putC ⟨ci, cp, ct, cv, cr, cd, cb, cbt, lg, cc, ys, ns, ms⟩ da = countX (matX ⟨e0, e1, e2, e3, e4, e5, e6, e7, el, e9, ey, en, em⟩ e0.toNat (e6 + (Gn0 : Int)))) := by
   unfold Hid
   rw [HPx.out]
   unfold ownX
   rw [HLs.out]
  clear hso hLM hgl hb0 hb1 hn6
  go_wp2_with fail
  refine wp_region_until (fun w' => w'.cell? ⟨p, 0, none⟩ = some (.int .i64 e0) ∧ w'.cell? ⟨p, 1, none⟩ = some (.int .i64 e1) ∧ w'.cell? ⟨p, 2, none⟩ = some (.int .i64 e2) ∧ w'.cell? ⟨p, 3, none⟩ = some (.int .i64 e3) ∧ w'.cell? ⟨p, 4, none⟩ = some (.int .i64 e4) ∧ w'.cell? ⟨p, 5, none⟩ = some (.int .i64 e5) ∧ w'.cell? ⟨p, 6, none⟩ = some (.int .i64 e6) ∧ w'.cell? ⟨p, 7, none⟩ = some (.int .i64 e7) ∧ w'.cell? ⟨p, 8, none⟩ = some (.slice G0 Gn0 Gc0) ∧ w'.cell? ⟨p, 9, none⟩ = some (.int .i64 e9) ∧ w'.cell? ⟨p, 10, none⟩ = some (.slice G1 Gn1 Gc1) ∧ w'.cell? ⟨p, 11, none⟩ = some (.slice G2 Gn2 Gc2) ∧ w'.cell? ⟨p, 12, none⟩ = some (.slice G3 Gn3 Gc3) ∧ w'.cell? ⟨p, 13, none⟩ = some (.slice G4 Gn4 Gc4)) (fun i => i == 11) 12 (by rfl) (by kernel_rfl) ?_
  have U0 : Hid (Below (WR).heap.size (WR) (WR).drew) := (Below.refl _ _).drew
  have hsz0 : (WR).drew.heap.size = (WR).heap.size := rfl
  generalize (WR).drew = Z0 at *
  have PZ0 := Hid.mk (PX.out.on U0.out PX.out.lt)
  have SZ0 := Hid.mk (show (fun w' => w'.cell? ⟨p, 0, none⟩ = some (.int .i64 e0) ∧ w'.cell? ⟨p, 1, none⟩ = some (.int .i64 e1) ∧ w'.cell? ⟨p, 2, none⟩ = some (.int .i64 e2) ∧ w'.cell? ⟨p, 3, none⟩ = some (.int .i64 e3) ∧ w'.cell? ⟨p, 4, none⟩ = some (.int .i64 e4) ∧ w'.cell? ⟨p, 5, none⟩ = some (.int .i64 e5) ∧ w'.cell? ⟨p, 6, none⟩ = some (.int .i64 e6) ∧ w'.cell? ⟨p, 7, none⟩ = some (.int .i64 e7) ∧ w'.cell? ⟨p, 8, none⟩ = some (.slice G0 Gn0 Gc0) ∧ w'.cell? ⟨p, 9, none⟩ = some (.int .i64 e9) ∧ w'.cell? ⟨p, 10, none⟩ = some (.slice G1 Gn1 Gc1) ∧ w'.cell? ⟨p, 11, none⟩ = some (.slice G2 Gn2 Gc2) ∧ w'.cell? ⟨p, 12, none⟩ = some (.slice G3 Gn3 Gc3) ∧ w'.cell? ⟨p, 13, none⟩ = some (.slice G4 Gn4 Gc4)) Z0 from ⟨PZ0.out.cell 0 _ rfl, PZ0.out.cell 1 _ rfl, PZ0.out.cell 2 _ rfl, PZ0.out.cell 3 _ rfl, PZ0.out.cell 4 _ rfl, PZ0.out.cell 5 _ rfl, PZ0.out.cell 6 _ rfl, PZ0.out.cell 7 _ rfl, PZ0.out.cell 8 _ rfl, PZ0.out.cell 9 _ rfl, PZ0.out.cell 10 _ rfl, PZ0.out.cell 11 _ rfl, PZ0.out.cell 12 _ rfl, PZ0.out.cell 13 _ rfl⟩)
  refine tF 0 SZ0.out ?_
  refine tF 1 SZ0.out ?_
  refine tF 2 SZ0.out ?_
  refine tF 3 SZ0.out ?_
  refine tF 4 SZ0.out ?_
  refine tF 5 SZ0.out ?_
  refine tF 6 SZ0.out ?_
  refine tF 7 SZ0.out ?_
  refine tF 8 SZ0.out ?_
  refine tF 9 SZ0.out ?_
  refine uNe 10 (fun K hK => ?_)
  go_simp
  refine (cL Z0).mono ?_
  rintro e Z1 ⟨rfl, hb⟩
  have U1 : Hid (Below (WR).heap.size (WR) Z1) := U0.out.trans (hb.mono U0.out.size)
  have PZ1 := Hid.mk (PX.out.on U1.out PX.out.lt)
  clear hb
  refine hK.out _ _ (fun _ _ => ⟨PZ1.out.cell 0 _ rfl, PZ1.out.cell 1 _ rfl, PZ1.out.cell 2 _ rfl, PZ1.out.cell 3 _ rfl, PZ1.out.cell 4 _ rfl, PZ1.out.cell 5 _ rfl, PZ1.out.cell 6 _ rfl, PZ1.out.cell 7 _ rfl, PZ1.out.cell 8 _ rfl, PZ1.out.cell 9 _ rfl, PZ1.out.cell 10 _ rfl, PZ1.out.cell 11 _ rfl, PZ1.out.cell 12 _ rfl, PZ1.out.cell 13 _ rfl⟩) ?_
  clear hK K
  try simp only [Act.put, zQ1, zQ2, zQ3]
  have HBc : Hid (base ≤ Z1.heap.size) := Nat.le_trans (Nat.le_trans HBW.out BA.out.size) U1.out.size
  refine uNe 11 (fun K hK => ?_)
  go_simp
  refine (cM Z1 (SA.out.on U1.out) HBc.out).mono ?_
  rintro e Z2 ⟨rfl, hS, hb⟩
  have SZ2 := Hid.mk hS
  have BZ2 : Hid (Below base w Z2) := (BA.out.trans (U1.out.mono (Nat.le_trans HBW.out BA.out.size))).trans hb
  refine hK.out _ _ (fun h => by cases h) ?_
  clear hK K hS hb
  try simp only [Act.put, zQ1, zQ2, zQ3]
  refine until_done (by kernel_rfl) ?_ _
  have cC := countV _ [] Z2 base p SZ2.out HMx.out (Nat.le_trans HBW.out BZ2.out.size)
  rw [← HPy.out] at cC
  clear PZ0 PZ1 SZ0 PX SX cL cM
  try go_wp2_with fail
  refine cC.mono ?_
  rintro e Z3 ⟨rfl, hS, hb⟩
  have FS := Hid.mk hS
  have FB : Hid (Below base w Z3) := BZ2.out.trans hb
  clear hS hb cC
  go_wp2_with fail
  exact bodyPost_end (v := .tuple #[]) (by simp [results, go_sem]) rfl ⟨rfl, by rw [HEQ.out]; exact FS.out, FB.out⟩
 rw [decide_eq_true hroom] at cH
 have HX : Hid (addX ⟨ci, cp, ct, cv, cr, cd, cb, cbt, lg, cc, ys, ns, ms⟩ da = ⟨ci, cp, ct, cv, cr, cd, cb, cbt, (lg ++ [⟨ct, da⟩]), cc, ys, ns, ms⟩) := addX_yes (HRm.out.2 hroom)
 have HAq : Hid (∀ q ∈ ([] : List (Mg × Value)), ∀ g, q.2.ownBlock = some g → (Value.slice A0 An0 Ac0).ownBlock ≠ some g) := fun q hq => (by cases hq)
 clear hroom HRm
 go_wp2_with fail
 refine cH.mono ?_
 rintro e WR ⟨rfl, hb⟩
 have PR := Hid.mk (PW.out.on hb PW.out.lt)
 have SR := Hid.mk (HS0.out.on hb)
 have OR := Hid.mk (HO0.out.on hb)
 have BR : Hid (Below base w WR) := BW.out.trans (hb.mono (Nat.le_trans HBW.out BW.out.size))
 have HBR : Hid (base ≤ WR.heap.size) := Nat.le_trans HBW.out BR.out.size
 have HPx0 := Hid.mk (HPw.out da)
 clear hb cH k0 k1 k2 k3 k4 k5 k6 k7 k8 k9 k10 k11 k12 k13 PW HPw HS0 HO0 HSo
 go_wp2_with fail
 refine wp_region_until (fun w' => w'.cell? ⟨p, 0, none⟩ = some (.int .i64 ci) ∧ w'.cell? ⟨p, 1, none⟩ = some (.int .i64 cp) ∧ w'.cell? ⟨p, 2, none⟩ = some (.int .i64 ct) ∧ w'.cell? ⟨p, 3, none⟩ = some (.int .i64 cv) ∧ w'.cell? ⟨p, 4, none⟩ = some (.int .i64 cr) ∧ w'.cell? ⟨p, 5, none⟩ = some (.int .i64 cd) ∧ w'.cell? ⟨p, 6, none⟩ = some (.int .i64 cb) ∧ w'.cell? ⟨p, 7, none⟩ = some (.int .i64 cbt) ∧ w'.cell? ⟨p, 8, none⟩ = some (.slice A0 An0 Ac0) ∧ w'.cell? ⟨p, 9, none⟩ = some (.int .i64 cc) ∧ w'.cell? ⟨p, 10, none⟩ = some (.slice A1 An1 Ac1) ∧ w'.cell? ⟨p, 11, none⟩ = some (.slice A2 An2 Ac2) ∧ w'.cell? ⟨p, 12, none⟩ = some (.slice A3 An3 Ac3) ∧ w'.cell? ⟨p, 13, none⟩ = some (.slice A4 An4 Ac4)) (fun i => i == 19) 20 (by rfl) (by kernel_rfl) ?_
 have V0 : Hid (Below WR.heap.size WR WR.drew) := (Below.refl _ _).drew
 generalize WR.drew = Y0 at *
 have P0 := Hid.mk (PR.out.on V0.out PR.out.lt)
 have SS0 := Hid.mk (show (fun w' => w'.cell? ⟨p, 0, none⟩ = some (.int .i64 ci) ∧ w'.cell? ⟨p, 1, none⟩ = some (.int .i64 cp) ∧ w'.cell? ⟨p, 2, none⟩ = some (.int .i64 ct) ∧ w'.cell? ⟨p, 3, none⟩ = some (.int .i64 cv) ∧ w'.cell? ⟨p, 4, none⟩ = some (.int .i64 cr) ∧ w'.cell? ⟨p, 5, none⟩ = some (.int .i64 cd) ∧ w'.cell? ⟨p, 6, none⟩ = some (.int .i64 cb) ∧ w'.cell? ⟨p, 7, none⟩ = some (.int .i64 cbt) ∧ w'.cell? ⟨p, 8, none⟩ = some (.slice A0 An0 Ac0) ∧ w'.cell? ⟨p, 9, none⟩ = some (.int .i64 cc) ∧ w'.cell? ⟨p, 10, none⟩ = some (.slice A1 An1 Ac1) ∧ w'.cell? ⟨p, 11, none⟩ = some (.slice A2 An2 Ac2) ∧ w'.cell? ⟨p, 12, none⟩ = some (.slice A3 An3 Ac3) ∧ w'.cell? ⟨p, 13, none⟩ = some (.slice A4 An4 Ac4)) Y0 from ⟨P0.out.cell 0 _ rfl, P0.out.cell 1 _ rfl, P0.out.cell 2 _ rfl, P0.out.cell 3 _ rfl, P0.out.cell 4 _ rfl, P0.out.cell 5 _ rfl, P0.out.cell 6 _ rfl, P0.out.cell 7 _ rfl, P0.out.cell 8 _ rfl, P0.out.cell 9 _ rfl, P0.out.cell 10 _ rfl, P0.out.cell 11 _ rfl, P0.out.cell 12 _ rfl, P0.out.cell 13 _ rfl⟩)
 refine tF 0 SS0.out ?_
 refine tF 1 SS0.out ?_
 refine tF 2 SS0.out ?_
 refine tF 3 SS0.out ?_
 refine tF 4 SS0.out ?_
 refine tF 5 SS0.out ?_
 refine tF 6 SS0.out ?_
 refine tF 7 SS0.out ?_
 refine tF 8 SS0.out ?_
 refine tF 9 SS0.out ?_
 refine tF 10 SS0.out ?_
 refine pF 11 ?_
 refine uNe 12 (fun K hK => ?_)
 go_simp
 refine (clone da Y0 (by omega)).mono ?_
 rintro e Y1 ⟨rfl, hb⟩
 have V1 : Hid (Below WR.heap.size WR Y1) := V0.out.trans (hb.mono V0.out.size)
 have P1 := Hid.mk (PR.out.on V1.out PR.out.lt)
 clear hb
 refine hK.out _ _ (fun _ _ => ⟨P1.out.cell 0 _ rfl, P1.out.cell 1 _ rfl, P1.out.cell 2 _ rfl, P1.out.cell 3 _ rfl, P1.out.cell 4 _ rfl, P1.out.cell 5 _ rfl, P1.out.cell 6 _ rfl, P1.out.cell 7 _ rfl, P1.out.cell 8 _ rfl, P1.out.cell 9 _ rfl, P1.out.cell 10 _ rfl, P1.out.cell 11 _ rfl, P1.out.cell 12 _ rfl, P1.out.cell 13 _ rfl⟩) ?_
 clear hK K
 try simp only [Act.put, zQ1, zQ2, zQ3]
 refine pF 13 ?_
 have S1 := Hid.mk (SR.out.on V1.out)
 have O1 := Hid.mk (OR.out.on V1.out)
 have bz : Below Y1.heap.size Y1 (Y1.alloc (.cells #[.int .i64 ct, .string da] 71)) := (Below.refl _ _).alloc (Nat.le_refl _) _
 obtain ⟨nA, nm, nc, Y2, r5, hO5, hb5, hk5, -⟩ := run_append_row (P := Try.prog) Y1 27 27 71 (.agg #[.int .i64 0, .string ⟨#[]⟩]) 2 24 Try.underlying27 Try.infoEnt rfl (by omega) base (.slice A0 An0 Ac0) (entR lg) O1.out [.int .i64 ct, .string da] rfl (ent_cellsC _ _) HLe.out (by omega) (Nat.le_trans HBR.out V1.out.size)
 refine uNe 14 (fun K hK => ?_)
 go_simp
 refine hK.out _ _ (fun _ _ => ⟨(P1.out.on bz P1.out.lt).cell 0 _ rfl, (P1.out.on bz P1.out.lt).cell 1 _ rfl, (P1.out.on bz P1.out.lt).cell 2 _ rfl, (P1.out.on bz P1.out.lt).cell 3 _ rfl, (P1.out.on bz P1.out.lt).cell 4 _ rfl, (P1.out.on bz P1.out.lt).cell 5 _ rfl, (P1.out.on bz P1.out.lt).cell 6 _ rfl, (P1.out.on bz P1.out.lt).cell 7 _ rfl, (P1.out.on bz P1.out.lt).cell 8 _ rfl, (P1.out.on bz P1.out.lt).cell 9 _ rfl, (P1.out.on bz P1.out.lt).cell 10 _ rfl, (P1.out.on bz P1.out.lt).cell 11 _ rfl, (P1.out.on bz P1.out.lt).cell 12 _ rfl, (P1.out.on bz P1.out.lt).cell 13 _ rfl⟩) ?_
 clear hK K bz
 try simp only [Act.put, zQ1, zQ2, zQ3]
 refine uNe 15 (fun K hK => ?_)
 refine step_append_run (by rfl) (.tmp 67) (.tmp 76) 27 (by rfl) _ _ _ _ (by rfl) (by rfl) r5 ?_
 have HK5 : Hid (∀ g, g < Y1.heap.size → (Value.slice A0 An0 Ac0).ownBlock ≠ some g → Y2.heap[g]? = Y1.heap[g]?) := hk5
 have B2 : Hid (Below base Y1 Y2) := hb5
 have O2 : Hid (Owns Y2 base 71 2 (.slice nA nm nc) (entR (lg ++ [⟨ct, da⟩]))) := by unfold Hid; rw [entR_append]; exact hO5
 have P2 : Hid (Blk Y2 p #[.int .i64 ci, .int .i64 cp, .int .i64 ct, .int .i64 cv, .int .i64 cr, .int .i64 cd, .int .i64 cb, .int .i64 cbt, .slice A0 An0 Ac0, .int .i64 cc, .slice A1 An1 Ac1, .slice A2 An2 Ac2, .slice A3 An3 Ac3, .slice A4 An4 Ac4] 74) := (hk5 p P1.out.lt (O1.out.notBlk P1.out (by decide))).trans P1.out
 refine hK.out _ _ (fun _ _ => ⟨P2.out.cell 0 _ rfl, P2.out.cell 1 _ rfl, P2.out.cell 2 _ rfl, P2.out.cell 3 _ rfl, P2.out.cell 4 _ rfl, P2.out.cell 5 _ rfl, P2.out.cell 6 _ rfl, P2.out.cell 7 _ rfl, P2.out.cell 8 _ rfl, P2.out.cell 9 _ rfl, P2.out.cell 10 _ rfl, P2.out.cell 11 _ rfl, P2.out.cell 12 _ rfl, P2.out.cell 13 _ rfl⟩) ?_
 clear hK K hO5 hb5 hk5 r5
 try simp only [Act.put, zQ1, zQ2, zQ3]
 have SS2 := Hid.mk (show (fun w' => w'.cell? ⟨p, 0, none⟩ = some (.int .i64 ci) ∧ w'.cell? ⟨p, 1, none⟩ = some (.int .i64 cp) ∧ w'.cell? ⟨p, 2, none⟩ = some (.int .i64 ct) ∧ w'.cell? ⟨p, 3, none⟩ = some (.int .i64 cv) ∧ w'.cell? ⟨p, 4, none⟩ = some (.int .i64 cr) ∧ w'.cell? ⟨p, 5, none⟩ = some (.int .i64 cd) ∧ w'.cell? ⟨p, 6, none⟩ = some (.int .i64 cb) ∧ w'.cell? ⟨p, 7, none⟩ = some (.int .i64 cbt) ∧ w'.cell? ⟨p, 8, none⟩ = some (.slice A0 An0 Ac0) ∧ w'.cell? ⟨p, 9, none⟩ = some (.int .i64 cc) ∧ w'.cell? ⟨p, 10, none⟩ = some (.slice A1 An1 Ac1) ∧ w'.cell? ⟨p, 11, none⟩ = some (.slice A2 An2 Ac2) ∧ w'.cell? ⟨p, 12, none⟩ = some (.slice A3 An3 Ac3) ∧ w'.cell? ⟨p, 13, none⟩ = some (.slice A4 An4 Ac4)) Y2 from ⟨P2.out.cell 0 _ rfl, P2.out.cell 1 _ rfl, P2.out.cell 2 _ rfl, P2.out.cell 3 _ rfl, P2.out.cell 4 _ rfl, P2.out.cell 5 _ rfl, P2.out.cell 6 _ rfl, P2.out.cell 7 _ rfl, P2.out.cell 8 _ rfl, P2.out.cell 9 _ rfl, P2.out.cell 10 _ rfl, P2.out.cell 11 _ rfl, P2.out.cell 12 _ rfl, P2.out.cell 13 _ rfl⟩)
 refine tF 16 SS2.out ?_
 refine tF 17 SS2.out ?_
 refine tF 18 SS2.out ?_
 have f8 := P2.out.free 8
 have o8 := P2.out.cell 8 _ rfl
 refine uNe 19 (fun K hK => ?_)
 go_simp
 refine hK.out _ _ (fun h => by cases h) ?_
 clear hK K f8 o8
 try simp only [Act.put, zQ1, zQ2, zQ3]
 refine until_done (by kernel_rfl) ?_ _
 have SA : Hid (Spk (Y2.setCell ⟨p, 8, none⟩ (.slice nA nm nc)) base p ⟨ci, cp, ct, cv, cr, cd, cb, cbt, (lg ++ [⟨ct, da⟩]), cc, ys, ns, ms⟩ []) := by
  have hn : ∀ (v : Value) (l : List Int), Nums Y1 base v l → Nums Y2 base v l := fun v l hv => hv.kept fun g hg e => by
   obtain ⟨cs, fz, e1⟩ := hv.kind e
   exact HK5.out g hg (O1.out.notBlk e1 (by decide))
  have hm2 : MsO Y2 base (.slice A4 An4 Ac4) [] := ⟨S1.out.m.r.kept fun g hg e => HK5.out g hg (by
   obtain ⟨cs, fz, e1⟩ := S1.out.m.r.kind e
   exact O1.out.notBlk e1 (by decide)), fun q hq => (S1.out.m.e q hq).kept fun g hg e => HK5.out g hg (HAq.out q hq g e), S1.out.m.a⟩
  have hr2 : CoRows Y2 base ⟨ci, cp, ct, cv, cr, cd, cb, cbt, (lg ++ [⟨ct, da⟩]), cc, ys, ns, ms⟩ (.slice nA nm nc) (.slice A1 An1 Ac1) (.slice A2 An2 Ac2) (.slice A3 An3 Ac3) := ⟨O2.out.toF, hn _ _ S1.out.r.y, hn _ _ S1.out.r.n, hn _ _ S1.out.r.m, S1.out.r.yn, S1.out.r.ym, S1.out.r.nm⟩
  exact ⟨_, _, _, _, _, [], ⟨P2.out.set 8 _, hr2.atP P2.out 8 _, hm2.atP P2.out 8 _, (fun q hq => (by cases hq)), S1.out.p⟩, rfl⟩
 have BA : Hid (Below base WR (Y2.setCell ⟨p, 8, none⟩ (.slice nA nm nc))) := ((V1.out.mono HBR.out).trans B2.out).setCell S1.out.p _
 obtain ⟨WS, hWS⟩ : ∃ WS, WS = Y2.setCell ⟨p, 8, none⟩ (.slice nA nm nc) := ⟨_, rfl⟩
 rw [← hWS] at SA BA ⊢
 have SA0 : Hid (Spk WS base p (addX ⟨ci, cp, ct, cv, cr, cd, cb, cbt, lg, cc, ys, ns, ms⟩ da) []) := by unfold Hid; rw [HX.out]; exact SA.out
 have BA0 : Hid (Below base w WS) := BR.out.trans BA.out
 clear SA BA hWS P2 O2 B2 P1 P0 S1 O1 V1 V0 SS0 SS2 HX HK5 HAq PR SR OR BR
 generalize addX ⟨ci, cp, ct, cv, cr, cd, cb, cbt, lg, cc, ys, ns, ms⟩ da = xc at *
 have SA := SA0
 have BA := BA0
 have HSx := HSa
 have HPx := HPx0
 clear SA0 BA0 HSa HPx0
 obtain ⟨ul, uy, un, um, us, L, hso, hLM⟩ := SA.out
 obtain ⟨G0, Gn0, Gc0, G1, Gn1, Gc1, G2, Gn2, Gc2, G3, Gn3, Gc3, G4, Gn4, Gc4, rfl, rfl, rfl, rfl, rfl⟩ := hso.shape
 obtain ⟨e0, e1, e2, e3, e4, e5, e6, e7, el, e9, ey, en, em⟩ := xc
 have SX := Hid.mk hso
 have PX : Hid (Blk WS p #[.int .i64 e0, .int .i64 e1, .int .i64 e2, .int .i64 e3, .int .i64 e4, .int .i64 e5, .int .i64 e6, .int .i64 e7, .slice G0 Gn0 Gc0, .int .i64 e9, .slice G1 Gn1 Gc1, .slice G2 Gn2 Gc2, .slice G3 Gn3 Gc3, .slice G4 Gn4 Gc4] 74) := hso.b
 have HLX : Hid (L.map Prod.fst = []) := hLM
 have hgl : Gn0 = el.length := by
  obtain ⟨A', c', e⟩ := hso.r.l.shape
  rw [entR_length] at e
  cases e
  rfl
 have hb0 := HSx.out.b0
 have hb1 := HSx.out.b1
 have hn6 := HSx.out.n
 simp only at hb0 hb1 hn6
 rw [← hgl] at hn6
 have cL := fun wx => lastI e0 e1 e2 e3 e4 e5 e6 e7 e9 G0 Gn0 Gc0 (.slice G1 Gn1 Gc1) (.slice G2 Gn2 Gc2) (.slice G3 Gn3 Gc3) wx (by omega) (by omega) (by omega)
 have HLs : Hid (cLast ⟨e0, e1, e2, e3, e4, e5, e6, e7, el, e9, ey, en, em⟩ = e6 + (Gn0 : Int)) := by unfold Hid cLast; simp only; rw [hgl]
 have cM := fun wx h hb => matchedV ⟨e0, e1, e2, e3, e4, e5, e6, e7, el, e9, ey, en, em⟩ [] e0 (e6 + (Gn0 : Int)) wx base p h HSx.out.i0 (by have h1 := HSx.out.l; have h2 := HSx.out.i1; have h3 := HSx.out.i0; simp only at h1 h2 h3 ⊢; omega) (by have h1 := HSx.out.m; have h2 := HSx.out.i1; have h3 := HSx.out.i0; simp only at h1 h2 h3 ⊢; omega) (by omega) (by omega) hb
 have HMx : Hid (SendOk (matX ⟨e0, e1, e2, e3, e4, e5, e6, e7, el, e9, ey, en, em⟩ e0.toNat (e6 + (Gn0 : Int)))) := by
  have := HSx.out.mat
  rw [HLs.out] at this
  exact this
 have HPy : Hid (putC ⟨ci, cp, ct, cv, cr, cd, cb, cbt, lg, cc, ys, ns, ms⟩ da = countX (matX ⟨e0, e1, e2, e3, e4, e5, e6, e7, el, e9, ey, en, em⟩ e0.toNat (e6 + (Gn0 : Int)))) := by
  unfold Hid
  rw [HPx.out]
  unfold ownX
  rw [HLs.out]
 clear hso hLM hgl hb0 hb1 hn6
 go_wp2_with fail
 refine wp_region_until (fun w' => w'.cell? ⟨p, 0, none⟩ = some (.int .i64 e0) ∧ w'.cell? ⟨p, 1, none⟩ = some (.int .i64 e1) ∧ w'.cell? ⟨p, 2, none⟩ = some (.int .i64 e2) ∧ w'.cell? ⟨p, 3, none⟩ = some (.int .i64 e3) ∧ w'.cell? ⟨p, 4, none⟩ = some (.int .i64 e4) ∧ w'.cell? ⟨p, 5, none⟩ = some (.int .i64 e5) ∧ w'.cell? ⟨p, 6, none⟩ = some (.int .i64 e6) ∧ w'.cell? ⟨p, 7, none⟩ = some (.int .i64 e7) ∧ w'.cell? ⟨p, 8, none⟩ = some (.slice G0 Gn0 Gc0) ∧ w'.cell? ⟨p, 9, none⟩ = some (.int .i64 e9) ∧ w'.cell? ⟨p, 10, none⟩ = some (.slice G1 Gn1 Gc1) ∧ w'.cell? ⟨p, 11, none⟩ = some (.slice G2 Gn2 Gc2) ∧ w'.cell? ⟨p, 12, none⟩ = some (.slice G3 Gn3 Gc3) ∧ w'.cell? ⟨p, 13, none⟩ = some (.slice G4 Gn4 Gc4)) (fun i => i == 11) 12 (by rfl) (by kernel_rfl) ?_
 have U0 : Hid (Below (WS).heap.size (WS) (WS).drew) := (Below.refl _ _).drew
 have hsz0 : (WS).drew.heap.size = (WS).heap.size := rfl
 generalize (WS).drew = Z0 at *
 have PZ0 := Hid.mk (PX.out.on U0.out PX.out.lt)
 have SZ0 := Hid.mk (show (fun w' => w'.cell? ⟨p, 0, none⟩ = some (.int .i64 e0) ∧ w'.cell? ⟨p, 1, none⟩ = some (.int .i64 e1) ∧ w'.cell? ⟨p, 2, none⟩ = some (.int .i64 e2) ∧ w'.cell? ⟨p, 3, none⟩ = some (.int .i64 e3) ∧ w'.cell? ⟨p, 4, none⟩ = some (.int .i64 e4) ∧ w'.cell? ⟨p, 5, none⟩ = some (.int .i64 e5) ∧ w'.cell? ⟨p, 6, none⟩ = some (.int .i64 e6) ∧ w'.cell? ⟨p, 7, none⟩ = some (.int .i64 e7) ∧ w'.cell? ⟨p, 8, none⟩ = some (.slice G0 Gn0 Gc0) ∧ w'.cell? ⟨p, 9, none⟩ = some (.int .i64 e9) ∧ w'.cell? ⟨p, 10, none⟩ = some (.slice G1 Gn1 Gc1) ∧ w'.cell? ⟨p, 11, none⟩ = some (.slice G2 Gn2 Gc2) ∧ w'.cell? ⟨p, 12, none⟩ = some (.slice G3 Gn3 Gc3) ∧ w'.cell? ⟨p, 13, none⟩ = some (.slice G4 Gn4 Gc4)) Z0 from ⟨PZ0.out.cell 0 _ rfl, PZ0.out.cell 1 _ rfl, PZ0.out.cell 2 _ rfl, PZ0.out.cell 3 _ rfl, PZ0.out.cell 4 _ rfl, PZ0.out.cell 5 _ rfl, PZ0.out.cell 6 _ rfl, PZ0.out.cell 7 _ rfl, PZ0.out.cell 8 _ rfl, PZ0.out.cell 9 _ rfl, PZ0.out.cell 10 _ rfl, PZ0.out.cell 11 _ rfl, PZ0.out.cell 12 _ rfl, PZ0.out.cell 13 _ rfl⟩)
 refine tF 0 SZ0.out ?_
 refine tF 1 SZ0.out ?_
 refine tF 2 SZ0.out ?_
 refine tF 3 SZ0.out ?_
 refine tF 4 SZ0.out ?_
 refine tF 5 SZ0.out ?_
 refine tF 6 SZ0.out ?_
 refine tF 7 SZ0.out ?_
 refine tF 8 SZ0.out ?_
 refine tF 9 SZ0.out ?_
 refine uNe 10 (fun K hK => ?_)
 go_simp
 refine (cL Z0).mono ?_
 rintro e Z1 ⟨rfl, hb⟩
 have U1 : Hid (Below (WS).heap.size (WS) Z1) := U0.out.trans (hb.mono U0.out.size)
 have PZ1 := Hid.mk (PX.out.on U1.out PX.out.lt)
 clear hb
 refine hK.out _ _ (fun _ _ => ⟨PZ1.out.cell 0 _ rfl, PZ1.out.cell 1 _ rfl, PZ1.out.cell 2 _ rfl, PZ1.out.cell 3 _ rfl, PZ1.out.cell 4 _ rfl, PZ1.out.cell 5 _ rfl, PZ1.out.cell 6 _ rfl, PZ1.out.cell 7 _ rfl, PZ1.out.cell 8 _ rfl, PZ1.out.cell 9 _ rfl, PZ1.out.cell 10 _ rfl, PZ1.out.cell 11 _ rfl, PZ1.out.cell 12 _ rfl, PZ1.out.cell 13 _ rfl⟩) ?_
 clear hK K
 try simp only [Act.put, zQ1, zQ2, zQ3]
 have HBc : Hid (base ≤ Z1.heap.size) := Nat.le_trans (Nat.le_trans HBW.out BA.out.size) U1.out.size
 refine uNe 11 (fun K hK => ?_)
 go_simp
 refine (cM Z1 (SA.out.on U1.out) HBc.out).mono ?_
 rintro e Z2 ⟨rfl, hS, hb⟩
 have SZ2 := Hid.mk hS
 have BZ2 : Hid (Below base w Z2) := (BA.out.trans (U1.out.mono (Nat.le_trans HBW.out BA.out.size))).trans hb
 refine hK.out _ _ (fun h => by cases h) ?_
 clear hK K hS hb
 try simp only [Act.put, zQ1, zQ2, zQ3]
 refine until_done (by kernel_rfl) ?_ _
 have cC := countV _ [] Z2 base p SZ2.out HMx.out (Nat.le_trans HBW.out BZ2.out.size)
 rw [← HPy.out] at cC
 clear PZ0 PZ1 SZ0 PX SX cL cM
 try go_wp2_with fail
 refine cC.mono ?_
 rintro e Z3 ⟨rfl, hS, hb⟩
 have FS := Hid.mk hS
 have FB : Hid (Below base w Z3) := BZ2.out.trans hb
 clear hS hb cC
 go_wp2_with fail
 exact bodyPost_end (v := .tuple #[]) (by simp [results, go_sem]) rfl ⟨rfl, by rw [HEQ.out]; exact FS.out, FB.out⟩
theorem leadI (ci ct cv cr cd cb cbt : Int) (lg : List Ent) (cc : Int) (ys ns ms : List Int) (w : World) (base p : Nat) (hsp : SpkW w base p ⟨ci, 1, ct, cv, cr, cd, cb, cbt, lg, cc, ys, ns, ms⟩ []) (hso : SendOk (leadC ⟨ci, 1, ct, cv, cr, cd, cb, cbt, lg, cc, ys, ns, ms⟩)) (hbs : base ≤ w.heap.size) :
  Calls Try.prog 56 #[.pointer (some ⟨p, 0, none⟩)] w fun e w' => e = .returned (.tuple #[]) ∧ Spk w' base p (putC (leadC ⟨ci, 1, ct, cv, cr, cd, cb, cbt, lg, cc, ys, ns, ms⟩) ⟨#[]⟩) (toAll (putC (leadC ⟨ci, 1, ct, cv, cr, cd, cb, cbt, lg, cc, ys, ns, ms⟩) ⟨#[]⟩)) ∧ Below base w w' := by
 have cA := advI0 ci ct cv cr cd cb cbt lg cc ys ns ms ⟨#[]⟩ w base p hsp hso (Nat.zero_le _) hbs
 have HSp : Hid (SendOk (putC (leadC ⟨ci, 1, ct, cv, cr, cd, cb, cbt, lg, cc, ys, ns, ms⟩) ⟨#[]⟩)) := hso.put ⟨#[]⟩ (Nat.zero_le _)
 have HBW : Hid (base ≤ w.heap.size) := hbs
 clear hsp hso hbs
 go_enter Try.func56, Try.ntmps56
 go_wp2_with fail
 refine cA.mono ?_
 rintro e w2 ⟨rfl, hS, hb⟩
 have B2 := Hid.mk hb
 have cS := sendV _ [] w2 base p hS HSp.out (by simp) (Nat.le_trans HBW.out B2.out.size)
 rw [List.nil_append] at cS
 clear hS hb cA
 go_wp2_with fail
 refine cS.mono ?_
 rintro e w3 ⟨rfl, hS, hb⟩
 have FS := Hid.mk hS
 have FB : Hid (Below base w w3) := B2.out.trans hb
 clear hS hb cS
 go_wp2_with fail
 exact bodyPost_end (v := .tuple #[]) (by simp [results, go_sem]) rfl ⟨rfl, FS.out, FB.out⟩
end Go.Proofs.Ytlhoonohpfpkbaa
