/- EgID EgSE StrLaw -/
import Derived.Test.YtikknmoeefipmaaGreatDoorQp22
import Derived.Test.YtikknmoeefipmaaGreatDoorQp27
import Derived.Test.YtikknmoeefipmaaGreatDoorQp26
import Derived.Test.YtikknmoeefipmaaGreatDoorQp3
import Derived.Test.YtikknmoeefipmaaGreatDoorQp4
import Derived.WalkKit
import Derived.ProofKit
import Derived.OpenShut
import Derived.Below
import Derived.WalkSmall
import Derived.BigQuiet
import Derived.Deep.QuietTactic
import Derived.Deep.RegionWith
import Derived.Handy
import Derived.Test.YtikknmoeefipmaaGreatDoorQp21
import Derived.Test.YtikknmoeefipmaaGreatDoorRows
import Derived.Test.YtikknmoeefipmaaGreatDoorQp0
import Derived.Test.YtikknmoeefipmaaGreatDoorQp2
import Derived.WalkLawsBesides
import Derived.Outline
open List (setIfInBounds_toArray set_cons_zero set_cons_succ)
namespace Go.Proofs.YtikknmoeefipmaaGreatDoor
open Go.ChangeShapes Go.WideShapes Go.ChangeAt Go.RowKit Go.PlainAid
set_option linter.unusedVariables false
theorem lok_of {ls : List (List Ser)} (hn : ls.length ≤ 10) (h : ∀ l ∈ ls, COk l) : LOk ls :=
 ⟨⟨hn, fun l hl => ⟨(h l hl).1, fun x hx => ((h l hl).2 x hx).1⟩⟩, fun l hl x hx => ((h l hl).2 x hx).2.1, fun l hl x hx => ((h l hl).2 x hx).2.2.1⟩
theorem one_col {k : ByteArray} {p : List Pnt} (h : PutOk k p) : COk [⟨k, p⟩] := by
 obtain ⟨p1, p2, p3⟩ := (POk_iff _).1 h.2.1
 refine ⟨by simp, fun x hx => ?_⟩
 rw [List.mem_singleton.1 hx]
 exact ⟨by show p.length ≤ 200; omega, p2, p3, by have := h.1.2.1; show k.size ≤ 1000; omega⟩
theorem two_srcs {w : World} {B : Nat} {ua ub : Value} {la lb : List Ser} (ha : SerV w B ua la) (hb : SerV w B ub lb) (hB : B ≤ w.heap.size) : SrcsV (w.alloc (.cells #[.iface 99 ua, .iface 99 ub] 168)) (w.heap.size + 1) (.slice (some ⟨w.heap.size, 0, none⟩) 2 2) [la, lb] := by
 have hal : Below w.heap.size w (w.alloc (.cells #[.iface 99 ua, .iface 99 ub] 168)) := (Below.refl _ _).alloc (Nat.le_refl _) _
 refine ⟨[.iface 99 ua, .iface 99 ub], ⟨_, 2, rfl, ⟨fun e => (by cases e), Nat.le_refl _⟩, fun r hr => ?_, .inr ⟨w.heap.size, 0, rfl, Nat.lt_succ_self _, fun k x hx => ?_⟩⟩, rfl, fun j hj => ?_⟩
 ·simp [laR] at hr
  rcases hr with rfl | rfl <;> rfl
 ·have h : (w.alloc (.cells #[.iface 99 ua, .iface 99 ub] 168)).heap[w.heap.size]? = some (.cells #[.iface 99 ua, .iface 99 ub] 168 (0, 0)) := heap_alloc_new w _
  rw [Nat.zero_add, cell_of_row _ _ k _ _ (0, 0) h]
  simpa [laR] using hx
 ·have hab := hal.mono hB
  match j, hj with
  | 0, _ => exact .inl ⟨ua, rfl, (ha.on hab).mono (Nat.le_succ_of_le hB)⟩
  | 1, _ => exact .inl ⟨ub, rfl, (hb.on hab).mono (Nat.le_succ_of_le hB)⟩
theorem fresh_view {w : World} {B : Nat} {key : ByteArray} {p : List Pnt} {vp : Value} (hp : Lies w B 2 vp (ptR p)) (hB : B ≤ w.heap.size) : SerV (w.alloc (.cells #[.string key, vp] 98)) (w.heap.size + 1) (.slice (some ⟨w.heap.size, 0, none⟩) 1 1) [⟨key, p⟩] := by
 have hal : Below w.heap.size w (w.alloc (.cells #[.string key, vp] 98)) := (Below.refl _ _).alloc (Nat.le_refl _) _
 refine ⟨[(⟨key, p⟩, vp)], rfl, ⟨_, 1, rfl, ⟨fun e => (by cases e), Nat.le_refl _⟩, srR_sz _, .inr ⟨w.heap.size, 0, rfl, Nat.lt_succ_self _, fun k x hx => ?_⟩⟩, fun q hq => ?_⟩
 ·have h : (w.alloc (.cells #[.string key, vp] 98)).heap[w.heap.size]? = some (.cells #[.string key, vp] 98 (0, 0)) := heap_alloc_new w _
  rw [Nat.zero_add, cell_of_row _ _ k _ _ (0, 0) h]
  simpa [srR, srC] using hx
 ·rw [List.mem_singleton.1 hq]
  exact (hp.on (hal.mono hB)).mono (Nat.le_succ_of_le hB)
set_option maxRecDepth 100000 in
set_option maxHeartbeats 8000000 in
theorem implPutX (e : Eng) (key : ByteArray) (p : List Pnt) (v vp : Value) (w : World) (B : Nat) (hv : EngV w B v e) (hs : EShort e) (hk : key.size ≤ maxLen) (hp : Lies w B 2 vp (ptR p)) (hn : p.length ≤ 1048576) (hB : B ≤ w.heap.size) (hst : SumTab w) (a0 a1 a2 : Addr) (he : Errs w a0 a1 a2) :
  Calls Tryz.prog 16 #[v, .string key, vp] w fun b w' => (∃ u, b = .returned (.tuple #[u, .int .i64 (putX e key p).2]) ∧ EngO w' w.heap.size u (putX e key p).1) ∧ Below w.heap.size w w' := by
 have ST : Hid (SumTab w) := hst
 have ER : Hid (Errs w a0 a1 a2) := he
 clear hst he
 obtain ⟨vc, vf, rfl, hc, hl⟩ := hv
 unfold vE
 obtain ⟨Ac, cc, rfl, _⟩ := hc.look
 obtain ⟨Af, cf, rfl, _⟩ := st_look hl
 obtain ⟨Ap, cp, rfl, _⟩ := pt_look hp
 have HV0 : Hid (EngV w B (vE e.floor (.slice Ac e.cache.length cc) (.slice Af e.files.length cf)) e) := ⟨_, _, rfl, hc, hl⟩
 have HB : Hid (B ≤ w.heap.size) := hB
 have HSh : Hid (EShort e) := hs
 have HP : Hid (Lies w B 2 (.slice Ap p.length cp) (ptR p)) := hp
 have HNP : Hid (p.length ≤ 1048576) := hn
 have HK : Hid (key.size ≤ maxLen) := hk
 clear hc hl hB hs hp hk
 obtain ⟨f, hf⟩ : ∃ f, e.floor = f := ⟨_, rfl⟩
 have HFe : Hid (e.floor = f) := hf
 unfold vE at HV0
 rw [hf] at HV0 ⊢
 clear hf
 generalize e.cache.length = nc at *
 generalize e.files.length = nf at *
 have HV : Hid (EngV w B (.agg #[.int .i64 f, .slice Ac nc cc, .slice Af nf cf]) e) := HV0.out
 clear HV0
 have qn : (p.length : Int) ≤ 1048576 := by omega
 generalize hpl : p.length = pl at *
 have HPl : Hid (p.length = pl) := hpl
 clear hpl hn
 obtain ⟨X0, hX0⟩ : ∃ X0, X0 = (w.alloc (.cells #[.int .i64 f, .slice Ac nc cc, .slice Af nf cf] 35)).alloc (.cells #[.int .i64 0, .slice none 0 0, .slice none 0 0] 35) := ⟨_, rfl⟩
 have BX : Hid (Below w.heap.size w X0) := by unfold Hid; rw [hX0]; exact below_alloc2 _ _ _
 have KX : Hid (Blk X0 w.heap.size #[.int .i64 f, .slice Ac nc cc, .slice Af nf cf] 35) := by unfold Hid; rw [hX0]; exact (Blk.new w _ _).alloc _
 have KR0 : Hid (Blk X0 (w.heap.size + 1) #[.int .i64 0, .slice none 0 0, .slice none 0 0] 35) := by
  unfold Hid
  rw [hX0]
  have := Blk.new (w.alloc (.cells #[.int .i64 f, .slice Ac nc cc, .slice Af nf cf] 35)) #[.int .i64 0, .slice none 0 0, .slice none 0 0] 35
  rw [World.size_alloc] at this
  exact this
 have ZB : Hid (B ≤ X0.heap.size) := Nat.le_trans HB.out BX.out.size
 have k0 := KX.out.cell 0 _ rfl
 have k1 := KX.out.cell 1 _ rfl
 have k2 := KX.out.cell 2 _ rfl
 have c1 := implContents e _ X0 B (HV.out.on (BX.out.mono HB.out)) HSh.out ZB.out (ST.out.on BX.out) a0 a1 a2 (ER.out.on BX.out)
 by_cases hok : EOk e
 ·rw [decide_eq_true hok] at c1
  have HOk : Hid (EOk e) := hok
  have HPX : Hid (putX e key p = putA e key p) := by unfold Hid putX; rw [if_pos hok]
  have HPlx : Hid (plainX e = plainE e) := by unfold Hid plainX; rw [if_pos hok]
  have HCk : Hid (∀ x ∈ e.cache, 1 ≤ x.pts.length ∧ x.key.size ≤ 1000) := fun x hx => by
   obtain ⟨j, hj, rfl⟩ := List.getElem_of_mem hx
   have h := hok.1.2.2.1.2 j hj
   have e1 : sAt e.cache j = e.cache[j] := by simp [sAt, List.getD_eq_getElem?_getD, hj]
   rw [e1] at h
   have := h.1.1.2.1
   exact ⟨h.2.1, by omega⟩
  rw [HPX.out]
  clear hok
  go_enter Tryz.func16, Tryz.ntmps16
  go_wp2_with fail
  rw [← hX0]
  clear hX0
  refine c1.mono ?_
  rintro b X1 ⟨⟨u1, L1, rfl, hL1, hS1⟩, hb1⟩
  have B1 : Hid (Below w.heap.size w X1) := BX.out.trans (hb1.mono BX.out.size)
  have K1 : Hid (Blk X1 w.heap.size #[.int .i64 f, .slice Ac nc cc, .slice Af nf cf] 35) := KX.out.on hb1 KX.out.lt
  have KR1 : Hid (Blk X1 (w.heap.size + 1) #[.int .i64 0, .slice none 0 0, .slice none 0 0] 35) := KR0.out.on hb1 KR0.out.lt
  have m0 := K1.out.cell 0 _ rfl
  have m1 := K1.out.cell 1 _ rfl
  have m2 := K1.out.cell 2 _ rfl
  have HLA : Hid (L1.map Prod.fst = plainE e) := hL1.trans HPlx.out
  have HZ0 : Hid (w.heap.size + 1 < X0.heap.size) := KR0.out.lt
  have c2 := implCopy e _ X1 B (HV.out.on (B1.out.mono HB.out)) HSh.out HCk.out (Nat.le_trans HB.out B1.out.size)
  obtain ⟨Au, nu, cu, rfl⟩ := hS1.1.shape
  have SA1 : Hid (SerO X1 X0.heap.size (.slice Au nu cu) L1) := hS1
  clear hL1 hS1 hb1 c1 k0 k1 k2 KX KR0 HPlx
  go_wp2_with fail
  refine c2.mono ?_
  rintro b X2 ⟨⟨u2, rfl, hE2⟩, hb2⟩
  obtain ⟨vc2, vf2, L, ev2, hL2, hS2, hT2⟩ := hE2
  have B2 : Hid (Below w.heap.size w X2) := B1.out.trans (hb2.mono B1.out.size)
  have K2 : Hid (Blk X2 w.heap.size #[.int .i64 f, .slice Ac nc cc, .slice Af nf cf] 35) := K1.out.on hb2 K1.out.lt
  have KR2 : Hid (Blk X2 (w.heap.size + 1) #[.int .i64 0, .slice none 0 0, .slice none 0 0] 35) := KR1.out.on hb2 KR1.out.lt
  obtain ⟨A3, n3, c3, rfl⟩ := hS2.1.shape
  obtain ⟨A4, n4, c4, rfl⟩ := (strs_owns hT2).shape
  have HZ1 : Hid (w.heap.size ≤ X1.heap.size ∧ w.heap.size + 1 < X1.heap.size) := ⟨B1.out.size, KR1.out.lt⟩
  unfold vE at ev2
  rw [HFe.out] at ev2
  subst ev2
  have HL : Hid (L.map Prod.fst = e.cache) := hL2
  have S2 : Hid (SerO X2 X1.heap.size (.slice A3 n3 c3) L) := hS2
  have T2 : Hid (Strs X2 X1.heap.size (.slice A4 n4 c4) e.files) := hT2
  have SA2 : Hid (SerO X2 X0.heap.size (.slice Au nu cu) L1) := SA1.out.on hb2
  have D2 : Hid (X1.heap.size ≤ X2.heap.size) := hb2.size
  clear hL2 hS2 hT2 hb2 c2 m0 m1 m2 K1 KR1 SA1
  generalize hR : w.heap.size + 1 = R at *
  have HR : Hid (w.heap.size + 1 = R) := hR
  have HRw : Hid (w.heap.size ≤ R) := by unfold Hid; omega
  clear hR
  obtain ⟨⟨r0, g0⟩, ⟨r1, g1⟩, ⟨r2, g2⟩, e0, e1, e2⟩ := res3 (x := .int .i64 f) (y := .slice A3 n3 c3) (z := .slice A4 n4 c4) K2.out
  obtain ⟨X3, hX3⟩ : ∃ X3, X3 = ((((X2).setCell ⟨w.heap.size, 0, none⟩ (.int .i64 f)).setCell ⟨w.heap.size, 1, none⟩ (.slice A3 n3 c3)).setCell ⟨w.heap.size, 2, none⟩ (.slice A4 n4 c4)) := ⟨_, rfl⟩
  have kb3 : Hid (KeptBut w.heap.size X2 X3) := by unfold Hid; rw [hX3]; exact KeptBut.set3 _ _ _ _
  have KA3 : Hid (Blk X3 w.heap.size #[.int .i64 f, .slice A3 n3 c3, .slice A4 n4 c4] 35) := by unfold Hid; rw [hX3]; exact K2.out.set3
  have KR3 : Hid (Blk X3 R #[.int .i64 0, .slice none 0 0, .slice none 0 0] 35) := kb3.out.blk KR2.out (by have := HR.out; omega)
  have S3 : Hid (SerO X3 X1.heap.size (.slice A3 n3 c3) L) := S2.out.others kb3.out (by have := HZ1.out; have := HR.out; omega)
  have T3 : Hid (Strs X3 X1.heap.size (.slice A4 n4 c4) e.files) := owns_strs (kb3.out.owns (strs_owns T2.out) ((strs_owns T2.out).below (by have := HZ1.out; have := HR.out; omega)))
  have B3 : Hid (Below w.heap.size w X3) := B2.out.trans kb3.out.1
  have HZ3 : Hid (X2.heap.size ≤ X3.heap.size ∧ w.heap.size < X2.heap.size) := ⟨kb3.out.size, K2.out.lt⟩
  have SA3 : Hid (SerO X3 X0.heap.size (.slice Au nu cu) L1) := SA2.out.others kb3.out (by have := HZ0.out; have := HR.out; omega)
  have D3 : Hid (X1.heap.size ≤ X3.heap.size) := Nat.le_trans D2.out kb3.out.size
  have cK := fun wx => implIsKey key wx HK.out
  have j0 := KA3.out.cell 0 _ rfl
  rw [hX3] at j0
  go_wp2_with fail
  try rw [← hX3]
  refine (cK X3).mono ?_
  rintro b w' ⟨rfl, rfl⟩
  clear hX3 r0 g0 r1 g1 r2 g2 e0 e1 e2 j0 K2 KR2 S2 T2 SA2 kb3 cK
  rcases Classical.em (¬ KOk key) with h1 | h1
  ·have HPA : Hid (putA e key p = (e, 1)) := by unfold Hid putA; rw [if_pos (fun h => h1 h.1)]
   rw [decide_eq_false h1]
   clear h1
   have k0 := KA3.out.cell 0 _ rfl
   have k1 := KA3.out.cell 1 _ rfl
   have k2 := KA3.out.cell 2 _ rfl
   obtain ⟨⟨r0, g0⟩, ⟨r1, g1⟩, ⟨r2, g2⟩, e0, e1, e2⟩ := res3 (x := .int .i64 f) (y := .slice A3 n3 c3) (z := .slice A4 n4 c4) KR3.out
   have SF : Hid (EngO ((((X3).setCell ⟨R, 0, none⟩ (.int .i64 f)).setCell ⟨R, 1, none⟩ (.slice A3 n3 c3)).setCell ⟨R, 2, none⟩ (.slice A4 n4 c4)) w.heap.size (.agg #[.int .i64 f, .slice A3 n3 c3, .slice A4 n4 c4]) (e)) := EngO.end3 KR3.out HFe.out HL.out (S3.out.mono HZ1.out.1) (owns_strs ((strs_owns T3.out).mono HZ1.out.1))
   have BF : Hid (Below w.heap.size w ((((X3).setCell ⟨R, 0, none⟩ (.int .i64 f)).setCell ⟨R, 1, none⟩ (.slice A3 n3 c3)).setCell ⟨R, 2, none⟩ (.slice A4 n4 c4))) := below_set3 B3.out HRw.out _ _ _
   go_wp2_with fail
   exact bodyPost_ret (v := .tuple #[.agg #[.int .i64 f, .slice A3 n3 c3, .slice A4 n4 c4], .int .i64 1]) (by simp [results, go_sem, e0, e1, e2]) rfl ⟨⟨_, by rw [HPA.out], by rw [HPA.out]; exact SF.out⟩, BF.out⟩
  replace h1 : KOk key := Classical.byContradiction h1
  rw [decide_eq_true h1]
  by_cases h3 : pl = 0
  ·have HPA : Hid (putA e key p = (e, 1)) := by unfold Hid putA; rw [if_pos (fun h => h.2.2 (List.eq_nil_of_length_eq_zero (by rw [HPl.out]; exact h3)))]
   subst h3
   clear h1
   have k0 := KA3.out.cell 0 _ rfl
   have k1 := KA3.out.cell 1 _ rfl
   have k2 := KA3.out.cell 2 _ rfl
   obtain ⟨⟨r0, g0⟩, ⟨r1, g1⟩, ⟨r2, g2⟩, e0, e1, e2⟩ := res3 (x := .int .i64 f) (y := .slice A3 n3 c3) (z := .slice A4 n4 c4) KR3.out
   have SF : Hid (EngO ((((X3).setCell ⟨R, 0, none⟩ (.int .i64 f)).setCell ⟨R, 1, none⟩ (.slice A3 n3 c3)).setCell ⟨R, 2, none⟩ (.slice A4 n4 c4)) w.heap.size (.agg #[.int .i64 f, .slice A3 n3 c3, .slice A4 n4 c4]) (e)) := EngO.end3 KR3.out HFe.out HL.out (S3.out.mono HZ1.out.1) (owns_strs ((strs_owns T3.out).mono HZ1.out.1))
   have BF : Hid (Below w.heap.size w ((((X3).setCell ⟨R, 0, none⟩ (.int .i64 f)).setCell ⟨R, 1, none⟩ (.slice A3 n3 c3)).setCell ⟨R, 2, none⟩ (.slice A4 n4 c4))) := below_set3 B3.out HRw.out _ _ _
   go_wp2_with fail
   exact bodyPost_ret (v := .tuple #[.agg #[.int .i64 f, .slice A3 n3 c3, .slice A4 n4 c4], .int .i64 1]) (by simp [results, go_sem, e0, e1, e2]) rfl ⟨⟨_, by rw [HPA.out], by rw [HPA.out]; exact SF.out⟩, BF.out⟩
  have d3 : ((pl : Int) == 0) = false := by simp; omega
  have q3 : (0 : Int) < (pl : Int) := by omega
  have q3n : 0 < pl := by omega
  have cP := implPointsOk p (.slice Ap pl cp) X3 B (HP.out.on (B3.out.mono HB.out)) (by rw [HPl.out]; exact HNP.out) (Nat.le_trans HB.out B3.out.size)
  go_wp2_with fail
  refine cP.mono ?_
  rintro b X4 ⟨rfl, hb4⟩
  have KA4 : Hid (Blk X4 w.heap.size #[.int .i64 f, .slice A3 n3 c3, .slice A4 n4 c4] 35) := KA3.out.on hb4 KA3.out.lt
  have KR4 : Hid (Blk X4 R #[.int .i64 0, .slice none 0 0, .slice none 0 0] 35) := KR3.out.on hb4 KR3.out.lt
  have S4 : Hid (SerO X4 X1.heap.size (.slice A3 n3 c3) L) := S3.out.on hb4
  have T4 : Hid (Strs X4 X1.heap.size (.slice A4 n4 c4) e.files) := owns_strs ((strs_owns T3.out).on hb4)
  have B4 : Hid (Below w.heap.size w X4) := B3.out.trans (hb4.mono B3.out.size)
  have D4 : Hid (X1.heap.size ≤ X4.heap.size) := Nat.le_trans D3.out (hb4).size
  have SA4 : Hid (SerO X4 X0.heap.size (.slice Au nu cu) L1) := SA3.out.on hb4
  clear hb4 cP KA3 KR3 S3 T3 SA3
  rcases Classical.em (¬ POk p) with h2 | h2
  ·have HPA : Hid (putA e key p = (e, 1)) := by unfold Hid putA; rw [if_pos (fun h => h2 h.2.1)]
   rw [decide_eq_false h2]
   clear h1 h2
   have k0 := KA4.out.cell 0 _ rfl
   have k1 := KA4.out.cell 1 _ rfl
   have k2 := KA4.out.cell 2 _ rfl
   obtain ⟨⟨r0, g0⟩, ⟨r1, g1⟩, ⟨r2, g2⟩, e0, e1, e2⟩ := res3 (x := .int .i64 f) (y := .slice A3 n3 c3) (z := .slice A4 n4 c4) KR4.out
   have SF : Hid (EngO ((((X4).setCell ⟨R, 0, none⟩ (.int .i64 f)).setCell ⟨R, 1, none⟩ (.slice A3 n3 c3)).setCell ⟨R, 2, none⟩ (.slice A4 n4 c4)) w.heap.size (.agg #[.int .i64 f, .slice A3 n3 c3, .slice A4 n4 c4]) (e)) := EngO.end3 KR4.out HFe.out HL.out (S4.out.mono HZ1.out.1) (owns_strs ((strs_owns T4.out).mono HZ1.out.1))
   have BF : Hid (Below w.heap.size w ((((X4).setCell ⟨R, 0, none⟩ (.int .i64 f)).setCell ⟨R, 1, none⟩ (.slice A3 n3 c3)).setCell ⟨R, 2, none⟩ (.slice A4 n4 c4))) := below_set3 B4.out HRw.out _ _ _
   go_wp2_with fail
   exact bodyPost_ret (v := .tuple #[.agg #[.int .i64 f, .slice A3 n3 c3, .slice A4 n4 c4], .int .i64 1]) (by simp [results, go_sem, e0, e1, e2]) rfl ⟨⟨_, by rw [HPA.out], by rw [HPA.out]; exact SF.out⟩, BF.out⟩
  replace h2 : POk p := Classical.byContradiction h2
  rw [decide_eq_true h2]
  have HPO : Hid (PutOk key p) := ⟨h1, h2, fun h => h3 (by rw [← HPl.out, h]; rfl)⟩
  obtain ⟨Ap', cp', ep, hlk⟩ := pt_look (HP.out.on (B4.out.mono HB.out))
  rw [HPl.out] at ep hlk
  cases ep
  obtain ⟨gp, op, rfl, hgp, ht0, _⟩ := hlk 0 (by omega)
  rw [Nat.zero_mul, Nat.add_zero] at ht0
  have HT0 : Hid (tAt p 0 = (p.getD 0 default).t) := rfl
  generalize htt : (p.getD 0 default).t = t0 at *
  have S0 : Hid (X4.drew.cell? ⟨gp, op, none⟩ = some (.int .i64 t0) ∧ X4.drew.cell? ⟨w.heap.size, 0, none⟩ = some (.int .i64 f)) := ⟨ht0, KA4.out.cell 0 _ rfl⟩
  have hbd : Below X4.heap.size X4 X4.drew := (Below.refl _ _).drew
  clear h1 h2 h3 hlk hgp ht0 htt
  go_wp2_with fail
  refine wp_region_until (fun w' => w'.cell? ⟨gp, op, none⟩ = some (.int .i64 t0) ∧ w'.cell? ⟨w.heap.size, 0, none⟩ = some (.int .i64 f)) (fun _ => false) 7 (by rfl) (by kernel_rfl) ?_
  refine tKe 0 (v := ?_) S0.out ?_ ?_; rotate_left; focus (intro w hSw; (try dsimp only at hSw); go_simp; try with_reducible rfl)
  try simp only [Act.put, zQ1, zQ2, zQ3]
  refine tKe 1 (v := ?_) S0.out ?_ ?_; rotate_left; focus (intro w hSw; (try dsimp only at hSw); go_simp; try with_reducible rfl)
  try simp only [Act.put, zQ1, zQ2, zQ3]
  refine tKe 2 (v := ?_) S0.out ?_ ?_; rotate_left; focus (intro w hSw; (try dsimp only at hSw); go_simp; try with_reducible rfl)
  try simp only [Act.put, zQ1, zQ2, zQ3]
  refine tKe 3 (v := ?_) S0.out ?_ ?_; rotate_left; focus (intro w hSw; (try dsimp only at hSw); go_simp; try with_reducible rfl)
  try simp only [Act.put, zQ1, zQ2, zQ3]
  refine tKe 4 (v := ?_) S0.out ?_ ?_; rotate_left; focus (intro w hSw; (try dsimp only at hSw); go_simp; try with_reducible rfl)
  try simp only [Act.put, zQ1, zQ2, zQ3]
  refine tKe 5 (v := ?_) S0.out ?_ ?_; rotate_left; focus (intro w hSw; (try dsimp only at hSw); go_simp; try with_reducible rfl)
  try simp only [Act.put, zQ1, zQ2, zQ3]
  refine tKe 6 (v := ?_) S0.out ?_ ?_; rotate_left; focus (intro w hSw; (try dsimp only at hSw); go_simp; try with_reducible rfl)
  try simp only [Act.put, zQ1, zQ2, zQ3]
  refine until_done (by kernel_rfl) ?_ _
  generalize X4.drew = X5 at *
  have KA5 : Hid (Blk X5 w.heap.size #[.int .i64 f, .slice A3 n3 c3, .slice A4 n4 c4] 35) := KA4.out.on hbd KA4.out.lt
  have KR5 : Hid (Blk X5 R #[.int .i64 0, .slice none 0 0, .slice none 0 0] 35) := KR4.out.on hbd KR4.out.lt
  have S5 : Hid (SerO X5 X1.heap.size (.slice A3 n3 c3) L) := S4.out.on hbd
  have T5 : Hid (Strs X5 X1.heap.size (.slice A4 n4 c4) e.files) := owns_strs ((strs_owns T4.out).on hbd)
  have B5 : Hid (Below w.heap.size w X5) := B4.out.trans (hbd.mono B4.out.size)
  have D5 : Hid (X1.heap.size ≤ X5.heap.size) := Nat.le_trans D4.out (hbd).size
  have SA5 : Hid (SerO X5 X0.heap.size (.slice Au nu cu) L1) := SA4.out.on hbd
  clear hbd S0 KA4 KR4 S4 T4 SA4
  by_cases h4 : t0 < f
  ·have HPA : Hid (putA e key p = (e, 2)) := by unfold Hid putA; rw [if_neg (fun h => h HPO.out), if_pos (by rw [HT0.out, HFe.out]; exact h4)]
   have k0 := KA5.out.cell 0 _ rfl
   have k1 := KA5.out.cell 1 _ rfl
   have k2 := KA5.out.cell 2 _ rfl
   obtain ⟨⟨r0, g0⟩, ⟨r1, g1⟩, ⟨r2, g2⟩, e0, e1, e2⟩ := res3 (x := .int .i64 f) (y := .slice A3 n3 c3) (z := .slice A4 n4 c4) KR5.out
   have SF : Hid (EngO ((((X5).setCell ⟨R, 0, none⟩ (.int .i64 f)).setCell ⟨R, 1, none⟩ (.slice A3 n3 c3)).setCell ⟨R, 2, none⟩ (.slice A4 n4 c4)) w.heap.size (.agg #[.int .i64 f, .slice A3 n3 c3, .slice A4 n4 c4]) (e)) := EngO.end3 KR5.out HFe.out HL.out (S5.out.mono HZ1.out.1) (owns_strs ((strs_owns T5.out).mono HZ1.out.1))
   have BF : Hid (Below w.heap.size w ((((X5).setCell ⟨R, 0, none⟩ (.int .i64 f)).setCell ⟨R, 1, none⟩ (.slice A3 n3 c3)).setCell ⟨R, 2, none⟩ (.slice A4 n4 c4))) := below_set3 B5.out HRw.out _ _ _
   go_wp2_with fail
   exact bodyPost_ret (v := .tuple #[.agg #[.int .i64 f, .slice A3 n3 c3, .slice A4 n4 c4], .int .i64 2]) (by simp [results, go_sem, e0, e1, e2]) rfl ⟨⟨_, by rw [HPA.out], by rw [HPA.out]; exact SF.out⟩, BF.out⟩
  have d4 : decide (t0 < f) = false := decide_eq_false h4
  have HFl : Hid (e.floor ≤ tAt p 0) := by unfold Hid; rw [HT0.out, HFe.out]; omega
  have HRp : Hid (Rising p) := ((POk_iff _).1 HPO.out.2.1).2.1
  obtain ⟨X6, hX6⟩ : ∃ X6, X6 = X5.alloc (.cells #[.string key, .slice (some ⟨gp, op, none⟩) pl cp] 98) := ⟨_, rfl⟩
  have b6 : Hid (Below X5.heap.size X5 X6) := by unfold Hid; rw [hX6]; exact (Below.refl _ _).alloc (Nat.le_refl _) _
  have HZ6 : Hid (X6.heap.size = X5.heap.size + 1) := by unfold Hid; rw [hX6, World.size_alloc]
  have VF6 : Hid (SerV X6 X6.heap.size (.slice (some ⟨X5.heap.size, 0, none⟩) 1 1) [⟨key, p⟩]) := by
   unfold Hid
   rw [HZ6.out, hX6]
   exact fresh_view (HP.out.on (B5.out.mono HB.out)) (Nat.le_trans HB.out B5.out.size)
  have KA6 : Hid (Blk X6 w.heap.size #[.int .i64 f, .slice A3 n3 c3, .slice A4 n4 c4] 35) := KA5.out.on b6.out KA5.out.lt
  have KR6 : Hid (Blk X6 R #[.int .i64 0, .slice none 0 0, .slice none 0 0] 35) := KR5.out.on b6.out KR5.out.lt
  have S6 : Hid (SerO X6 X1.heap.size (.slice A3 n3 c3) L) := S5.out.on b6.out
  have T6 : Hid (Strs X6 X1.heap.size (.slice A4 n4 c4) e.files) := owns_strs ((strs_owns T5.out).on b6.out)
  have B6 : Hid (Below w.heap.size w X6) := B5.out.trans (b6.out.mono B5.out.size)
  have D6 : Hid (X1.heap.size ≤ X6.heap.size) := Nat.le_trans D5.out (b6.out).size
  have VA6 : Hid (SerV X6 X6.heap.size (.slice Au nu cu) (plainE e)) := by unfold Hid; rw [← HLA.out]; exact (SA5.out.on b6.out).view
  obtain ⟨pf, hpf⟩ : ∃ pf, X5.heap.size = pf := ⟨_, rfl⟩
  rw [hpf] at VF6
  obtain ⟨X7, hX7⟩ : ∃ X7, X7 = X6.alloc (.cells #[.iface 99 (.slice Au nu cu), .iface 99 (.slice (some ⟨pf, 0, none⟩) 1 1)] 168) := ⟨_, rfl⟩
  have b7 : Hid (Below X6.heap.size X6 X7) := by unfold Hid; rw [hX7]; exact (Below.refl _ _).alloc (Nat.le_refl _) _
  have HZ7 : Hid (X7.heap.size = X6.heap.size + 1) := by unfold Hid; rw [hX7, World.size_alloc]
  have VS7 : Hid (SrcsV X7 X7.heap.size (.slice (some ⟨X6.heap.size, 0, none⟩) 2 2) [plainE e, [⟨key, p⟩]]) := by
   unfold Hid
   rw [HZ7.out, hX7]
   exact two_srcs VA6.out VF6.out (Nat.le_refl _)
  have KA7 : Hid (Blk X7 w.heap.size #[.int .i64 f, .slice A3 n3 c3, .slice A4 n4 c4] 35) := KA6.out.on b7.out KA6.out.lt
  have KR7 : Hid (Blk X7 R #[.int .i64 0, .slice none 0 0, .slice none 0 0] 35) := KR6.out.on b7.out KR6.out.lt
  have S7 : Hid (SerO X7 X1.heap.size (.slice A3 n3 c3) L) := S6.out.on b7.out
  have T7 : Hid (Strs X7 X1.heap.size (.slice A4 n4 c4) e.files) := owns_strs ((strs_owns T6.out).on b7.out)
  have B7 : Hid (Below w.heap.size w X7) := B6.out.trans (b7.out.mono B6.out.size)
  have D7 : Hid (X1.heap.size ≤ X7.heap.size) := Nat.le_trans D6.out (b7.out).size
  have VF7 : Hid (SerV X7 X7.heap.size (.slice (some ⟨pf, 0, none⟩) 1 1) [⟨key, p⟩]) := (VF6.out.on b7.out).mono b7.out.size
  have HC2 : Hid (∀ l ∈ [plainE e, [⟨key, p⟩]], COk l) := fun l hl => by
   simp only [List.mem_cons, List.not_mem_nil, or_false] at hl
   rcases hl with rfl | rfl
   ·exact HOk.out.2.2.col
   ·exact one_col HPO.out
  have cG := implGathered [plainE e, [⟨key, p⟩]] f _ X7 X7.heap.size VS7.out (lok_of (by simp) HC2.out) HC2.out (Nat.le_refl _) (ST.out.on B7.out) a0 a1 a2 (ER.out.on B7.out)
  have HPI : Hid (plainR [plainE e, [⟨key, p⟩]] f = plainE (intoE e key p)) := by unfold Hid; rw [← HFe.out]; exact plainE_into HOk.out.neat HRp.out
  rw [HPI.out] at cG
  have l0 := KA5.out.cell 0 _ rfl
  have l1 := KA6.out.cell 0 _ rfl
  have l2 : X6.heap.size = pf + 1 := by rw [HZ6.out, hpf]
  rw [l2] at cG VS7
  rw [hX6] at l1
  go_wp2_with fail
  rw [← hX6]
  try rw [hpf]
  rw [← hX7]
  clear hX6 hX7 l0 l1 l2 VS7 HC2
  refine cG.mono ?_
  rintro b X8 ⟨⟨u8, L8, rfl, hL8, hS8⟩, hb8⟩
  have KA8 : Hid (Blk X8 w.heap.size #[.int .i64 f, .slice A3 n3 c3, .slice A4 n4 c4] 35) := KA7.out.on hb8 KA7.out.lt
  have KR8 : Hid (Blk X8 R #[.int .i64 0, .slice none 0 0, .slice none 0 0] 35) := KR7.out.on hb8 KR7.out.lt
  have S8 : Hid (SerO X8 X1.heap.size (.slice A3 n3 c3) L) := S7.out.on hb8
  have T8 : Hid (Strs X8 X1.heap.size (.slice A4 n4 c4) e.files) := owns_strs ((strs_owns T7.out).on hb8)
  have B8 : Hid (Below w.heap.size w X8) := B7.out.trans (hb8.mono B7.out.size)
  have D8 : Hid (X1.heap.size ≤ X8.heap.size) := Nat.le_trans D7.out (hb8).size
  have VF8 : Hid (SerV X8 X8.heap.size (.slice (some ⟨pf, 0, none⟩) 1 1) [⟨key, p⟩]) := (VF7.out.on hb8).mono hb8.size
  have HLB : Hid (L8.map Prod.fst = plainE (intoE e key p)) := hL8
  have HCo : Hid (COk (intoE e key p).cache) := into_col HOk.out HPO.out
  have HLok : Hid (LOk (lays (intoE e key p))) := lays_ok (by have := HOk.out.1.2.1; show e.files.length ≤ 9; omega) HCo.out HOk.out.2.1
  have HCol : Hid (∀ l ∈ lays (intoE e key p), COk l) := lays_col HCo.out HOk.out.2.1
  have HShp : Hid (SShort (plainE (intoE e key p))) := plainE_short HLok.out
  have HKs : Hid (∀ x ∈ plainE (intoE e key p), x.key.size ≤ maxLen) := plain_keys HCol.out
  have cO := implSeriesOk (plainE (intoE e key p)) u8 X8 X8.heap.size (by rw [← hL8]; exact hS8.view) HShp.out HKs.out (Nat.le_refl _)
  obtain ⟨A8, n8, c8, rfl⟩ := hS8.1.shape
  have SB8 : Hid (SerO X8 X7.heap.size (.slice A8 n8 c8) L8) := hS8
  have HZ7b : Hid (w.heap.size < X7.heap.size) := KA7.out.lt
  clear hL8 hS8 hb8 cG KA5 KR5 S5 T5 KA6 KR6 S6 T6 KA7 KR7 S7 T7 SA5 VA6 VF6 VF7 b6 b7
  go_wp2_with fail
  refine cO.mono ?_
  rintro b X9 ⟨rfl, hb9⟩
  have KA9 : Hid (Blk X9 w.heap.size #[.int .i64 f, .slice A3 n3 c3, .slice A4 n4 c4] 35) := KA8.out.on hb9 KA8.out.lt
  have KR9 : Hid (Blk X9 R #[.int .i64 0, .slice none 0 0, .slice none 0 0] 35) := KR8.out.on hb9 KR8.out.lt
  have S9 : Hid (SerO X9 X1.heap.size (.slice A3 n3 c3) L) := S8.out.on hb9
  have T9 : Hid (Strs X9 X1.heap.size (.slice A4 n4 c4) e.files) := owns_strs ((strs_owns T8.out).on hb9)
  have B9 : Hid (Below w.heap.size w X9) := B8.out.trans (hb9.mono B8.out.size)
  have D9 : Hid (X1.heap.size ≤ X9.heap.size) := Nat.le_trans D8.out (hb9).size
  have VF9 : Hid (SerV X9 X9.heap.size (.slice (some ⟨pf, 0, none⟩) 1 1) [⟨key, p⟩]) := (VF8.out.on hb9).mono hb9.size
  have SB9 : Hid (SerO X9 X7.heap.size (.slice A8 n8 c8) L8) := SB8.out.on hb9
  clear hb9 cO KA8 KR8 S8 T8 VF8 SB8
  rcases Classical.em (¬ SOk (plainE (intoE e key p))) with h5 | h5
  ·have HPA : Hid (putA e key p = (e, 3)) := by unfold Hid putA; rw [if_neg (fun h => h HPO.out), if_neg (by have := HFl.out; omega), if_pos h5]
   rw [decide_eq_false h5]
   clear h5
   have k0 := KA9.out.cell 0 _ rfl
   have k1 := KA9.out.cell 1 _ rfl
   have k2 := KA9.out.cell 2 _ rfl
   obtain ⟨⟨r0, g0⟩, ⟨r1, g1⟩, ⟨r2, g2⟩, e0, e1, e2⟩ := res3 (x := .int .i64 f) (y := .slice A3 n3 c3) (z := .slice A4 n4 c4) KR9.out
   have SF : Hid (EngO ((((X9).setCell ⟨R, 0, none⟩ (.int .i64 f)).setCell ⟨R, 1, none⟩ (.slice A3 n3 c3)).setCell ⟨R, 2, none⟩ (.slice A4 n4 c4)) w.heap.size (.agg #[.int .i64 f, .slice A3 n3 c3, .slice A4 n4 c4]) (e)) := EngO.end3 KR9.out HFe.out HL.out (S9.out.mono HZ1.out.1) (owns_strs ((strs_owns T9.out).mono HZ1.out.1))
   have BF : Hid (Below w.heap.size w ((((X9).setCell ⟨R, 0, none⟩ (.int .i64 f)).setCell ⟨R, 1, none⟩ (.slice A3 n3 c3)).setCell ⟨R, 2, none⟩ (.slice A4 n4 c4))) := below_set3 B9.out HRw.out _ _ _
   go_wp2_with fail
   exact bodyPost_ret (v := .tuple #[.agg #[.int .i64 f, .slice A3 n3 c3, .slice A4 n4 c4], .int .i64 3]) (by simp [results, go_sem, e0, e1, e2]) rfl ⟨⟨_, by rw [HPA.out], by rw [HPA.out]; exact SF.out⟩, BF.out⟩
  replace h5 : SOk (plainE (intoE e key p)) := Classical.byContradiction h5
  rw [decide_eq_true h5]
  have H5 : Hid (SOk (plainE (intoE e key p))) := h5
  have HIo : Hid (SOk (intoR e.cache key p)) := into_ok HOk.out HPO.out HFl.out h5
  have HE6 : Hid (putA e key p = if 40 < cntS (intoR e.cache key p) then (flushA (intoE e key p) (plainE (intoE e key p)), 0) else (intoE e key p, 0)) := by
   unfold Hid putA
   rw [if_neg (fun h => h HPO.out), if_neg (by have := HFl.out; omega), if_neg (fun h => h H5.out)]
  clear h5
  obtain ⟨Xa, hXa⟩ : ∃ Xa, Xa = X9.alloc (.cells #[.iface 99 (.slice A3 n3 c3), .iface 99 (.slice (some ⟨pf, 0, none⟩) 1 1)] 168) := ⟨_, rfl⟩
  have ba : Hid (Below X9.heap.size X9 Xa) := by unfold Hid; rw [hXa]; exact (Below.refl _ _).alloc (Nat.le_refl _) _
  have HZa : Hid (Xa.heap.size = X9.heap.size + 1) := by unfold Hid; rw [hXa, World.size_alloc]
  have VSa : Hid (SrcsV Xa Xa.heap.size (.slice (some ⟨X9.heap.size, 0, none⟩) 2 2) [e.cache, [⟨key, p⟩]]) := by
   unfold Hid
   rw [HZa.out, hXa]
   exact two_srcs (by rw [← HL.out]; exact S9.out.view) VF9.out (Nat.le_refl _)
  have KAa : Hid (Blk Xa w.heap.size #[.int .i64 f, .slice A3 n3 c3, .slice A4 n4 c4] 35) := KA9.out.on ba.out KA9.out.lt
  have KRa : Hid (Blk Xa R #[.int .i64 0, .slice none 0 0, .slice none 0 0] 35) := KR9.out.on ba.out KR9.out.lt
  have Sa : Hid (SerO Xa X1.heap.size (.slice A3 n3 c3) L) := S9.out.on ba.out
  have Ta : Hid (Strs Xa X1.heap.size (.slice A4 n4 c4) e.files) := owns_strs ((strs_owns T9.out).on ba.out)
  have Ba : Hid (Below w.heap.size w Xa) := B9.out.trans (ba.out.mono B9.out.size)
  have Da : Hid (X1.heap.size ≤ Xa.heap.size) := Nat.le_trans D9.out (ba.out).size
  have SBa : Hid (SerO Xa X7.heap.size (.slice A8 n8 c8) L8) := SB9.out.on ba.out
  have HC3 : Hid (∀ l ∈ [e.cache, [⟨key, p⟩]], COk l) := fun l hl => by
   simp only [List.mem_cons, List.not_mem_nil, or_false] at hl
   rcases hl with rfl | rfl
   ·exact HOk.out.1.2.2.1.col
   ·exact one_col HPO.out
  have cH := implGathered [e.cache, [⟨key, p⟩]] f _ Xa Xa.heap.size VSa.out (lok_of (by simp) HC3.out) HC3.out (Nat.le_refl _) (ST.out.on Ba.out) a0 a1 a2 (ER.out.on Ba.out)
  have HPJ : Hid (plainR [e.cache, [⟨key, p⟩]] f = intoR e.cache key p) := by unfold Hid; rw [← HFe.out]; exact plain_into1 HOk.out.neat HRp.out HPO.out.2.2 (from_first HPO.out.2.1 HFl.out)
  rw [HPJ.out] at cH
  have l0 := KA9.out.cell 0 _ rfl
  have l1 := KA9.out.cell 1 _ rfl
  go_wp2_with fail
  rw [← hXa]
  clear hXa l0 l1 VSa HC3
  refine cH.mono ?_
  rintro b Xb ⟨⟨ub, M, rfl, hM, hSb⟩, hbb⟩
  have KAb : Hid (Blk Xb w.heap.size #[.int .i64 f, .slice A3 n3 c3, .slice A4 n4 c4] 35) := KAa.out.on hbb KAa.out.lt
  have KRb : Hid (Blk Xb R #[.int .i64 0, .slice none 0 0, .slice none 0 0] 35) := KRa.out.on hbb KRa.out.lt
  have Sb : Hid (SerO Xb X1.heap.size (.slice A3 n3 c3) L) := Sa.out.on hbb
  have Tb : Hid (Strs Xb X1.heap.size (.slice A4 n4 c4) e.files) := owns_strs ((strs_owns Ta.out).on hbb)
  have Bb : Hid (Below w.heap.size w Xb) := Ba.out.trans (hbb.mono Ba.out.size)
  have Db : Hid (X1.heap.size ≤ Xb.heap.size) := Nat.le_trans Da.out (hbb).size
  have SBb : Hid (SerO Xb X7.heap.size (.slice A8 n8 c8) L8) := SBa.out.on hbb
  obtain ⟨A5, n5, c5, rfl⟩ := hSb.1.shape
  have HM : Hid (M.map Prod.fst = intoR e.cache key p) := hM
  have Q0 : Hid (SerO Xb X1.heap.size (.slice A5 n5 c5) M) := hSb.mono Da.out
  clear hM hSb hbb cH KA9 KR9 S9 T9 KAa KRa Sa Ta SB9 VF9 SBa ba
  obtain ⟨Xc, hXc⟩ : ∃ Xc, Xc = Xb.setCell ⟨w.heap.size, 1, none⟩ (.slice A5 n5 c5) := ⟨_, rfl⟩
  have o1 : _ = some (Value.slice A3 n3 c3) := KAb.out.cell 1 _ rfl
  have f1 := KAb.out.free 1
  have kbc : Hid (KeptBut w.heap.size Xb Xc) := by unfold Hid; rw [hXc]; exact (KeptBut.refl _ Xb).set 1 _
  have KAc : Hid (Blk Xc w.heap.size #[.int .i64 f, .slice A5 n5 c5, .slice A4 n4 c4] 35) := by unfold Hid; rw [hXc]; exact KAb.out.set 1 _
  have KRc : Hid (Blk Xc R #[.int .i64 0, .slice none 0 0, .slice none 0 0] 35) := kbc.out.blk KRb.out (by have := HR.out; omega)
  have Qc : Hid (SerO Xc X1.heap.size (.slice A5 n5 c5) M) := Q0.out.others kbc.out (by have := HZ1.out; have := HR.out; omega)
  have Tc : Hid (Strs Xc X1.heap.size (.slice A4 n4 c4) e.files) := owns_strs (kbc.out.owns (strs_owns Tb.out) ((strs_owns Tb.out).below (by have := HZ1.out; have := HR.out; omega)))
  have Bc : Hid (Below w.heap.size w Xc) := Bb.out.trans kbc.out.1
  have SBc : Hid (SerO Xc X7.heap.size (.slice A8 n8 c8) L8) := SBb.out.others kbc.out HZ7b.out
  have Dc : Hid (X1.heap.size ≤ Xc.heap.size) := Nat.le_trans Db.out kbc.out.size
  have hio := (SOk_iff _).1 HIo.out
  have cN := implHowMany (intoR e.cache key p) (.slice A5 n5 c5) Xc Xc.heap.size (by rw [← HM.out]; exact Qc.out.view) (by have := hio.1; omega) (fun x hx => by have := ((POk_iff _).1 (hio.2.2 x hx).2.2).1; omega) (Nat.le_refl _)
  have HCn : Hid (cntS (intoR e.cache key p) ≤ 100000) := cnt_small hio.1 (fun x hx => ((POk_iff _).1 (hio.2.2 x hx).2.2).1)
  have l1 := KAc.out.cell 1 _ rfl
  rw [hXc] at l1
  clear hio
  generalize hcn : cntS (intoR e.cache key p) = cn at *
  go_wp2_with fail
  rw [← hXc]
  clear hXc o1 f1 l1 kbc KAb KRb Sb Tb Q0 SBb
  refine cN.mono ?_
  rintro b Xd ⟨rfl, hbd⟩
  have KAd : Hid (Blk Xd w.heap.size #[.int .i64 f, .slice A5 n5 c5, .slice A4 n4 c4] 35) := KAc.out.on hbd KAc.out.lt
  have KRd : Hid (Blk Xd R #[.int .i64 0, .slice none 0 0, .slice none 0 0] 35) := KRc.out.on hbd KRc.out.lt
  have Qd : Hid (SerO Xd X1.heap.size (.slice A5 n5 c5) M) := Qc.out.on hbd
  have Td : Hid (Strs Xd X1.heap.size (.slice A4 n4 c4) e.files) := owns_strs ((strs_owns Tc.out).on hbd)
  have Bd : Hid (Below w.heap.size w Xd) := Bc.out.trans (hbd.mono Bc.out.size)
  have SBd : Hid (SerO Xd X7.heap.size (.slice A8 n8 c8) L8) := SBc.out.on hbd
  have Dd : Hid (X1.heap.size ≤ Xd.heap.size) := Nat.le_trans Dc.out hbd.size
  clear hbd KAc KRc Qc Tc SBc
  have qc : (cn : Int) ≤ 100000 := by have := HCn.out; omega
  clear cN hcn
  have i0 := KAd.out.cell 0 _ rfl
  have i1 := KAd.out.cell 1 _ rfl
  have i2 := KAd.out.cell 2 _ rfl
  by_cases h6 : 40 < cn
  ·have q6 : (40 : Int) < (cn : Int) := by omega
   have HPA : Hid (putA e key p = (flushA (intoE e key p) (plainE (intoE e key p)), 0)) := by unfold Hid; rw [HE6.out, if_pos h6]
   clear h6
   have cF := implFlushed (intoE e key p) (plainE (intoE e key p)) (.agg #[.int .i64 f, .slice A5 n5 c5, .slice A4 n4 c4]) (.slice A5 n5 c5) (.slice A4 n4 c4) (.slice A8 n8 c8) M X1.heap.size Xd (by unfold vE; rw [show (intoE e key p).floor = f from HFe.out]) HM.out Qd.out Td.out (by rw [← HLB.out]; exact SBd.out.view) ⟨by have := H5.out.1; omega, fun x hx => by have := (H5.out.col.2 x hx).1; omega⟩ HKs.out HIo.out (by have := HOk.out.1.2.1; exact this) Dd.out (ST.out.on Bd.out)
   go_wp2_with fail
   refine cF.mono ?_
   rintro b Xe ⟨⟨ue, rfl, hEe⟩, hbe⟩
   obtain ⟨vce, vfe, Le, eve, hLe, hSe, hTe⟩ := hEe
   have Be : Hid (Below w.heap.size w Xe) := Bd.out.trans (hbe.mono HZ1.out.1)
   have KAe : Hid (Blk Xe w.heap.size #[.int .i64 f, .slice A5 n5 c5, .slice A4 n4 c4] 35) := KAd.out.on hbe (by have := HZ1.out; have := HR.out; omega)
   have KRe : Hid (Blk Xe R #[.int .i64 0, .slice none 0 0, .slice none 0 0] 35) := KRd.out.on hbe (by have := HZ1.out; have := HR.out; omega)
   obtain ⟨A9, n9, c9, rfl⟩ := hSe.1.shape
   obtain ⟨Ag, ng, cg, rfl⟩ := (strs_owns hTe).shape
   unfold vE at eve
   obtain ⟨fe, hfe⟩ : ∃ fe, (flushA (intoE e key p) (plainE (intoE e key p))).floor = fe := ⟨_, rfl⟩
   rw [hfe] at eve
   subst eve
   have HFf : Hid ((flushA (intoE e key p) (plainE (intoE e key p))).floor = fe) := hfe
   have HLf : Hid (Le.map Prod.fst = (flushA (intoE e key p) (plainE (intoE e key p))).cache) := hLe
   have Qe : Hid (SerO Xe X1.heap.size (.slice A9 n9 c9) Le) := hSe
   have Te : Hid (Strs Xe X1.heap.size (.slice Ag ng cg) (flushA (intoE e key p) (plainE (intoE e key p))).files) := hTe
   clear hfe hLe hSe hTe hbe cF i0 i1 i2 KAd KRd Qd Td SBd
   obtain ⟨⟨r0, g0⟩, ⟨r1, g1⟩, ⟨r2, g2⟩, e0, e1, e2⟩ := res3 (x := .int .i64 fe) (y := .slice A9 n9 c9) (z := .slice Ag ng cg) KAe.out
   obtain ⟨Xg, hXg⟩ : ∃ Xg, Xg = ((((Xe).setCell ⟨w.heap.size, 0, none⟩ (.int .i64 fe)).setCell ⟨w.heap.size, 1, none⟩ (.slice A9 n9 c9)).setCell ⟨w.heap.size, 2, none⟩ (.slice Ag ng cg)) := ⟨_, rfl⟩
   have kbg : Hid (KeptBut w.heap.size Xe Xg) := by unfold Hid; rw [hXg]; exact KeptBut.set3 _ _ _ _
   have KAg : Hid (Blk Xg w.heap.size #[.int .i64 fe, .slice A9 n9 c9, .slice Ag ng cg] 35) := by unfold Hid; rw [hXg]; exact KAe.out.set3
   have KRg : Hid (Blk Xg R #[.int .i64 0, .slice none 0 0, .slice none 0 0] 35) := kbg.out.blk KRe.out (by have := HR.out; omega)
   have Qg : Hid (SerO Xg X1.heap.size (.slice A9 n9 c9) Le) := Qe.out.others kbg.out (by have := HZ1.out; have := HR.out; omega)
   have Tg : Hid (Strs Xg X1.heap.size (.slice Ag ng cg) (flushA (intoE e key p) (plainE (intoE e key p))).files) := owns_strs (kbg.out.owns (strs_owns Te.out) ((strs_owns Te.out).below (by have := HZ1.out; have := HR.out; omega)))
   have Bg : Hid (Below w.heap.size w Xg) := Be.out.trans kbg.out.1
   have v0 := KAg.out.cell 0 _ rfl
   have v1 := KAg.out.cell 1 _ rfl
   have v2 := KAg.out.cell 2 _ rfl
   obtain ⟨⟨s0, y0⟩, ⟨s1, y1⟩, ⟨s2, y2⟩, z0, z1, z2⟩ := res3 (x := .int .i64 fe) (y := .slice A9 n9 c9) (z := .slice Ag ng cg) KRg.out
   have SF : Hid (EngO ((((Xg).setCell ⟨R, 0, none⟩ (.int .i64 fe)).setCell ⟨R, 1, none⟩ (.slice A9 n9 c9)).setCell ⟨R, 2, none⟩ (.slice Ag ng cg)) w.heap.size (.agg #[.int .i64 fe, .slice A9 n9 c9, .slice Ag ng cg]) (flushA (intoE e key p) (plainE (intoE e key p)))) := EngO.end3 KRg.out HFf.out HLf.out (Qg.out.mono HZ1.out.1) (owns_strs ((strs_owns Tg.out).mono HZ1.out.1))
   have BF : Hid (Below w.heap.size w ((((Xg).setCell ⟨R, 0, none⟩ (.int .i64 fe)).setCell ⟨R, 1, none⟩ (.slice A9 n9 c9)).setCell ⟨R, 2, none⟩ (.slice Ag ng cg))) := below_set3 Bg.out HRw.out _ _ _
   rw [hXg] at v0 v1 v2 s0 y0 s1 y1 s2 y2 z0 z1 z2 SF BF
   clear hXg kbg KAe KRe Qe Te Be
   go_wp2_with fail
   exact bodyPost_ret (v := .tuple #[.agg #[.int .i64 fe, .slice A9 n9 c9, .slice Ag ng cg], .int .i64 0]) (by simp [results, go_sem, z0, z1, z2]) rfl ⟨⟨_, by rw [HPA.out], by rw [HPA.out]; exact SF.out⟩, BF.out⟩
  ·have d6 : decide ((40 : Int) < (cn : Int)) = false := decide_eq_false (by omega)
   have HPA : Hid (putA e key p = (intoE e key p, 0)) := by unfold Hid; rw [HE6.out, if_neg h6]
   clear i0 i1 i2
   have k0 := KAd.out.cell 0 _ rfl
   have k1 := KAd.out.cell 1 _ rfl
   have k2 := KAd.out.cell 2 _ rfl
   obtain ⟨⟨r0, g0⟩, ⟨r1, g1⟩, ⟨r2, g2⟩, e0, e1, e2⟩ := res3 (x := .int .i64 f) (y := .slice A5 n5 c5) (z := .slice A4 n4 c4) KRd.out
   have SF : Hid (EngO ((((Xd).setCell ⟨R, 0, none⟩ (.int .i64 f)).setCell ⟨R, 1, none⟩ (.slice A5 n5 c5)).setCell ⟨R, 2, none⟩ (.slice A4 n4 c4)) w.heap.size (.agg #[.int .i64 f, .slice A5 n5 c5, .slice A4 n4 c4]) (intoE e key p)) := EngO.end3 KRd.out HFe.out HM.out (Qd.out.mono HZ1.out.1) (owns_strs ((strs_owns Td.out).mono HZ1.out.1))
   have BF : Hid (Below w.heap.size w ((((Xd).setCell ⟨R, 0, none⟩ (.int .i64 f)).setCell ⟨R, 1, none⟩ (.slice A5 n5 c5)).setCell ⟨R, 2, none⟩ (.slice A4 n4 c4))) := below_set3 Bd.out HRw.out _ _ _
   go_wp2_with fail
   exact bodyPost_ret (v := .tuple #[.agg #[.int .i64 f, .slice A5 n5 c5, .slice A4 n4 c4], .int .i64 0]) (by simp [results, go_sem, e0, e1, e2]) rfl ⟨⟨_, by rw [HPA.out], by rw [HPA.out]; exact SF.out⟩, BF.out⟩
 ·rw [decide_eq_false hok] at c1
  have HPX : Hid (putX e key p = (zeroE, 1)) := by unfold Hid putX; rw [if_neg hok]
  clear hok
  go_enter Tryz.func16, Tryz.ntmps16
  go_wp2_with fail
  rw [← hX0]
  clear hX0
  refine c1.mono ?_
  rintro b X1 ⟨⟨u1, L1, rfl, hL1, hS1⟩, hb1⟩
  have B1 : Hid (Below w.heap.size w X1) := BX.out.trans (hb1.mono BX.out.size)
  have KR1 : Hid (Blk X1 (w.heap.size + 1) #[.int .i64 0, .slice none 0 0, .slice none 0 0] 35) := KR0.out.on hb1 KR0.out.lt
  obtain ⟨Au, nu, cu, rfl⟩ := hS1.1.shape
  clear hb1 hL1 hS1 c1 k0 k1 k2 KX KR0
  generalize hR : w.heap.size + 1 = R at *
  have HR : Hid (w.heap.size + 1 = R) := hR
  have HRw : Hid (w.heap.size ≤ R) := by unfold Hid; omega
  clear hR
  obtain ⟨⟨r0, g0⟩, ⟨r1, g1⟩, ⟨r2, g2⟩, e0, e1, e2⟩ := res3 (x := .int .i64 0) (y := .slice none 0 0) (z := .slice none 0 0) KR1.out
  have SF : Hid (EngO ((((X1).setCell ⟨R, 0, none⟩ (.int .i64 0)).setCell ⟨R, 1, none⟩ (.slice none 0 0)).setCell ⟨R, 2, none⟩ (.slice none 0 0)) w.heap.size (.agg #[.int .i64 0, .slice none 0 0, .slice none 0 0]) zeroE) := EngO.end3 (L := []) KR1.out rfl rfl (SerO.nilE _ _) (owns_strs (Owns.nil _ _ _ _))
  have BF : Hid (Below w.heap.size w ((((X1).setCell ⟨R, 0, none⟩ (.int .i64 0)).setCell ⟨R, 1, none⟩ (.slice none 0 0)).setCell ⟨R, 2, none⟩ (.slice none 0 0))) := below_set3 B1.out HRw.out _ _ _
  go_wp2_with fail
  exact bodyPost_ret (v := .tuple #[.agg #[.int .i64 0, .slice none 0 0, .slice none 0 0], .int .i64 1]) (by simp [results, go_sem, e0, e1, e2]) rfl ⟨⟨_, by rw [HPX.out], by rw [HPX.out]; exact SF.out⟩, BF.out⟩
end Go.Proofs.YtikknmoeefipmaaGreatDoor
namespace Go.Proofs.YtikknmoeefipmaaGreatDoor
open Go.ChangeShapes Go.WideShapes Go.ChangeAt Go.RowKit Go.PlainAid
set_option linter.unusedVariables false
set_option maxRecDepth 100000 in
set_option maxHeartbeats 8000000 in
theorem specPutX (e : Eng) (key : ByteArray) (p : List Pnt) (v vp : Value) (w : World) (B : Nat) (hv : EngV w B v e) (hs : EShort e) (hk : key.size ≤ maxLen) (hp : Lies w B 2 vp (ptR p)) (hn : p.length ≤ 1048576) (hB : B ≤ w.heap.size) :
  Calls Tryz.prog 13 #[v, .string key, vp] w fun b w' => (∃ u, b = .returned (.tuple #[u, .int .i64 (putX e key p).2]) ∧ EngO w' w.heap.size u (putX e key p).1) ∧ Below w.heap.size w w' := by
 obtain ⟨vc, vf, rfl, hc, hl⟩ := hv
 unfold vE
 obtain ⟨Ac, cc, rfl, _⟩ := hc.look
 obtain ⟨Af, cf, rfl, _⟩ := st_look hl
 obtain ⟨Ap, cp, rfl, _⟩ := pt_look hp
 have HV0 : Hid (EngV w B (vE e.floor (.slice Ac e.cache.length cc) (.slice Af e.files.length cf)) e) := ⟨_, _, rfl, hc, hl⟩
 have HB : Hid (B ≤ w.heap.size) := hB
 have HSh : Hid (EShort e) := hs
 have HP : Hid (Lies w B 2 (.slice Ap p.length cp) (ptR p)) := hp
 have HNP : Hid (p.length ≤ 1048576) := hn
 have HK : Hid (key.size ≤ maxLen) := hk
 clear hc hl hB hs hp hk
 obtain ⟨f, hf⟩ : ∃ f, e.floor = f := ⟨_, rfl⟩
 have HFe : Hid (e.floor = f) := hf
 unfold vE at HV0
 rw [hf] at HV0 ⊢
 clear hf
 generalize e.cache.length = nc at *
 generalize e.files.length = nf at *
 have HV : Hid (EngV w B (.agg #[.int .i64 f, .slice Ac nc cc, .slice Af nf cf]) e) := HV0.out
 clear HV0
 have qn : (p.length : Int) ≤ 1048576 := by omega
 generalize hpl : p.length = pl at *
 have HPl : Hid (p.length = pl) := hpl
 clear hpl hn
 obtain ⟨X0, hX0⟩ : ∃ X0, X0 = (w.alloc (.cells #[.int .i64 f, .slice Ac nc cc, .slice Af nf cf] 35)).alloc (.cells #[.int .i64 0, .slice none 0 0, .slice none 0 0] 35) := ⟨_, rfl⟩
 have BX : Hid (Below w.heap.size w X0) := by unfold Hid; rw [hX0]; exact below_alloc2 _ _ _
 have KX : Hid (Blk X0 w.heap.size #[.int .i64 f, .slice Ac nc cc, .slice Af nf cf] 35) := by unfold Hid; rw [hX0]; exact (Blk.new w _ _).alloc _
 have KR0 : Hid (Blk X0 (w.heap.size + 1) #[.int .i64 0, .slice none 0 0, .slice none 0 0] 35) := by
  unfold Hid
  rw [hX0]
  have := Blk.new (w.alloc (.cells #[.int .i64 f, .slice Ac nc cc, .slice Af nf cf] 35)) #[.int .i64 0, .slice none 0 0, .slice none 0 0] 35
  rw [World.size_alloc] at this
  exact this
 have ZB : Hid (B ≤ X0.heap.size) := Nat.le_trans HB.out BX.out.size
 have k0 := KX.out.cell 0 _ rfl
 have k1 := KX.out.cell 1 _ rfl
 have k2 := KX.out.cell 2 _ rfl
 have c1 := specEngineOk e _ X0 B (HV.out.on (BX.out.mono HB.out)) HSh.out ZB.out
 by_cases hok : EOk e
 ·rw [decide_eq_true hok] at c1
  have HOk : Hid (EOk e) := hok
  have HPX : Hid (putX e key p = putA e key p) := by unfold Hid putX; rw [if_pos hok]
  clear hok
  go_enter Tryz.func13, Tryz.ntmps13
  go_wp2_with fail
  rw [← hX0]
  clear hX0
  refine c1.mono ?_
  rintro b X1 ⟨rfl, hb1⟩
  have B1 : Hid (Below w.heap.size w X1) := BX.out.trans (hb1.mono BX.out.size)
  have K1 : Hid (Blk X1 w.heap.size #[.int .i64 f, .slice Ac nc cc, .slice Af nf cf] 35) := KX.out.on hb1 KX.out.lt
  have KR1 : Hid (Blk X1 (w.heap.size + 1) #[.int .i64 0, .slice none 0 0, .slice none 0 0] 35) := KR0.out.on hb1 KR0.out.lt
  have m0 := K1.out.cell 0 _ rfl
  have m1 := K1.out.cell 1 _ rfl
  have m2 := K1.out.cell 2 _ rfl
  have c2 := specCopy e _ X1 B (HV.out.on (B1.out.mono HB.out)) HSh.out (Nat.le_trans HB.out B1.out.size)
  clear hb1 c1 k0 k1 k2 KX KR0
  go_wp2_with fail
  refine c2.mono ?_
  rintro b X2 ⟨⟨u2, rfl, hE2⟩, hb2⟩
  obtain ⟨vc2, vf2, L2, ev2, hL2, hS2, hT2⟩ := hE2
  have B2 : Hid (Below w.heap.size w X2) := B1.out.trans (hb2.mono B1.out.size)
  have KR2 : Hid (Blk X2 (w.heap.size + 1) #[.int .i64 0, .slice none 0 0, .slice none 0 0] 35) := KR1.out.on hb2 KR1.out.lt
  have c3 := specPutIn e key p u2 (.slice Ap pl cp) vc2 vf2 L2 X1.heap.size B X2 ev2 hL2 hS2 hT2 HOk.out HK.out (HP.out.on (B2.out.mono HB.out)) (by rw [HPl.out]; exact HNP.out) (Nat.le_trans HB.out B2.out.size) hb2.size
  rw [← HPX.out] at c3
  obtain ⟨A3, n3, c3', rfl⟩ := hS2.1.shape
  obtain ⟨A4, n4, c4', rfl⟩ := (strs_owns hT2).shape
  have HZ1 : Hid (w.heap.size ≤ X1.heap.size ∧ w.heap.size + 1 < X1.heap.size) := ⟨B1.out.size, KR1.out.lt⟩
  unfold vE at ev2
  subst ev2
  clear hL2 hS2 hT2 hb2 c2 m0 m1 m2 K1 KR1
  go_wp2_with fail
  refine c3.mono ?_
  rintro b X3 ⟨⟨u3, rfl, hE3⟩, hb3⟩
  obtain ⟨vc3, vf3, L3, ev3, hL3, hS3, hT3⟩ := hE3
  have B3 : Hid (Below w.heap.size w X3) := B2.out.trans (hb3.mono HZ1.out.1)
  have KR3 : Hid (Blk X3 (w.heap.size + 1) #[.int .i64 0, .slice none 0 0, .slice none 0 0] 35) := KR2.out.on hb3 HZ1.out.2
  obtain ⟨A5, n5, c5', rfl⟩ := hS3.1.shape
  obtain ⟨A6, n6, c6', rfl⟩ := (strs_owns hT3).shape
  unfold vE at ev3
  obtain ⟨f3, hf3⟩ : ∃ f3, (putX e key p).1.floor = f3 := ⟨_, rfl⟩
  rw [hf3] at ev3
  subst ev3
  have HF3 : Hid ((putX e key p).1.floor = f3) := hf3
  have HL3 : Hid (L3.map Prod.fst = (putX e key p).1.cache) := hL3
  have S3 : Hid (SerO X3 w.heap.size (.slice A5 n5 c5') L3) := hS3.mono HZ1.out.1
  have T3 : Hid (Strs X3 w.heap.size (.slice A6 n6 c6') (putX e key p).1.files) := owns_strs ((strs_owns hT3).mono HZ1.out.1)
  clear hf3 hL3 hS3 hT3 hb3 c3 KR2
  generalize hcode : (putX e key p).2 = cd at *
  have HCd : Hid ((putX e key p).2 = cd) := hcode
  clear hcode
  generalize hR : w.heap.size + 1 = R at *
  have HR : Hid (w.heap.size + 1 = R) := hR
  have HRw : Hid (w.heap.size ≤ R) := by unfold Hid; omega
  clear hR
  obtain ⟨X4, hX4⟩ : ∃ X4, X4 = X3.alloc (.cells #[.int .i64 f3, .slice A5 n5 c5', .slice A6 n6 c6'] 35) := ⟨_, rfl⟩
  have b4 : Hid (Below X3.heap.size X3 X4) := by unfold Hid; rw [hX4]; exact (Below.refl _ _).alloc (Nat.le_refl _) _
  have B4 : Hid (Below w.heap.size w X4) := B3.out.trans (b4.out.mono B3.out.size)
  have KR4 : Hid (Blk X4 R #[.int .i64 0, .slice none 0 0, .slice none 0 0] 35) := KR3.out.on b4.out KR3.out.lt
  have S4 : Hid (SerO X4 w.heap.size (.slice A5 n5 c5') L3) := S3.out.on b4.out
  have T4 : Hid (Strs X4 w.heap.size (.slice A6 n6 c6') (putX e key p).1.files) := owns_strs ((strs_owns T3.out).on b4.out)
  obtain ⟨⟨r0, g0⟩, ⟨r1, g1⟩, ⟨r2, g2⟩, e0, e1, e2⟩ := res3 (x := .int .i64 f3) (y := .slice A5 n5 c5') (z := .slice A6 n6 c6') KR4.out
  have SF : Hid (EngO ((((X4).setCell ⟨R, 0, none⟩ (.int .i64 f3)).setCell ⟨R, 1, none⟩ (.slice A5 n5 c5')).setCell ⟨R, 2, none⟩ (.slice A6 n6 c6')) w.heap.size (.agg #[.int .i64 f3, .slice A5 n5 c5', .slice A6 n6 c6']) (putX e key p).1) := EngO.end3 KR4.out HF3.out HL3.out S4.out T4.out
  have BF : Hid (Below w.heap.size w ((((X4).setCell ⟨R, 0, none⟩ (.int .i64 f3)).setCell ⟨R, 1, none⟩ (.slice A5 n5 c5')).setCell ⟨R, 2, none⟩ (.slice A6 n6 c6'))) := below_set3 B4.out HRw.out _ _ _
  rw [hX4] at r0 g0 r1 g1 r2 g2 e0 e1 e2 SF BF
  clear hX4
  go_wp2_with fail
  exact bodyPost_ret (v := .tuple #[.agg #[.int .i64 f3, .slice A5 n5 c5', .slice A6 n6 c6'], .int .i64 cd]) (by simp [results, go_sem, e0, e1, e2]) rfl ⟨⟨_, by rw [HCd.out], SF.out⟩, BF.out⟩
 ·rw [decide_eq_false hok] at c1
  have HPX : Hid (putX e key p = (zeroE, 1)) := by unfold Hid putX; rw [if_neg hok]
  clear hok
  go_enter Tryz.func13, Tryz.ntmps13
  go_wp2_with fail
  rw [← hX0]
  clear hX0
  refine c1.mono ?_
  rintro b X1 ⟨rfl, hb1⟩
  have B1 : Hid (Below w.heap.size w X1) := BX.out.trans (hb1.mono BX.out.size)
  have KR1 : Hid (Blk X1 (w.heap.size + 1) #[.int .i64 0, .slice none 0 0, .slice none 0 0] 35) := KR0.out.on hb1 KR0.out.lt
  clear hb1 c1 k0 k1 k2 KX KR0
  generalize hR : w.heap.size + 1 = R at *
  have HR : Hid (w.heap.size + 1 = R) := hR
  have HRw : Hid (w.heap.size ≤ R) := by unfold Hid; omega
  clear hR
  obtain ⟨⟨r0, g0⟩, ⟨r1, g1⟩, ⟨r2, g2⟩, e0, e1, e2⟩ := res3 (x := .int .i64 0) (y := .slice none 0 0) (z := .slice none 0 0) KR1.out
  have SF : Hid (EngO ((((X1).setCell ⟨R, 0, none⟩ (.int .i64 0)).setCell ⟨R, 1, none⟩ (.slice none 0 0)).setCell ⟨R, 2, none⟩ (.slice none 0 0)) w.heap.size (.agg #[.int .i64 0, .slice none 0 0, .slice none 0 0]) zeroE) := EngO.end3 (L := []) KR1.out rfl rfl (SerO.nilE _ _) (owns_strs (Owns.nil _ _ _ _))
  have BF : Hid (Below w.heap.size w ((((X1).setCell ⟨R, 0, none⟩ (.int .i64 0)).setCell ⟨R, 1, none⟩ (.slice none 0 0)).setCell ⟨R, 2, none⟩ (.slice none 0 0))) := below_set3 B1.out HRw.out _ _ _
  go_wp2_with fail
  exact bodyPost_ret (v := .tuple #[.agg #[.int .i64 0, .slice none 0 0, .slice none 0 0], .int .i64 1]) (by simp [results, go_sem, e0, e1, e2]) rfl ⟨⟨_, by rw [HPX.out], by rw [HPX.out]; exact SF.out⟩, BF.out⟩
end Go.Proofs.YtikknmoeefipmaaGreatDoor
namespace Go.Proofs.YtikknmoeefipmaaGreatDoor
open Go.ChangeShapes Go.WideShapes Go.ChangeAt Go.RowKit Go.PlainAid
set_option linter.unusedVariables false
set_option maxHeartbeats 400000 in
theorem markText (k : Nat) (w : World) (h1 : 1 ≤ k) (h2 : k ≤ 1000000000) :
  Calls Tryz.prog 96 #[.int .i64 (k : Int)] w fun e w' => e = .returned (.string (mark k)) ∧ Below w.heap.size w w' := by
 have q1 : (1 : Int) ≤ (k : Int) := by omega
 have q0 : decide ((k : Int) ≤ 0) = false := decide_eq_false (by omega)
 have q2 : ¬ (k : Int) ≤ 0 := by omega
 go_enter Tryz.func96, Tryz.ntmps96
 go_wp2
 go_loopw [0, 3] (fun v0 v3 wr => ∃ (m f : Nat) (out : List UInt8), v0 = .int .i64 m ∧ m ≤ 1000000000 ∧ m < 10 ^ f ∧ v3 = .string (txt out) ∧ dg f m ++ out = dg 20 k ∧ f + out.length ≤ 20 ∧ Below w.heap.size w wr) (fun i _ _ => (intOf i).toNat)
 case atStart => exact ⟨k, 20, [], rfl, h2, by omega, rfl, by simp, by simp, Below.refl _ _⟩
 case round =>
  obtain ⟨m, f, out, rfl, hm, hf, rfl, hd, hl, hb⟩ := hrel
  have HD : Hid (dg f m ++ out = dg 20 k) := hd
  have HF : Hid (m < 10 ^ f) := hf
  clear hd hf
  by_cases hp : (0 : Int) < (m : Int)
  ·obtain ⟨f', rfl⟩ : ∃ f', f = f' + 1 := by
    cases f with
    | zero => have := HF.out; simp at this; omega
    | succ f' => exact ⟨f', rfl⟩
   have e1 : (48 + (m : Int) % 10) % 256 = (((48 + m % 10) % 256 : Nat) : Int) := by omega
   have e2 : (48 + (m : Int) % 10) = (((48 + m % 10) % 256 : Nat) : Int) := by omega
   have hc : ∀ wx : World, (convert 55 9 (.slice (some ⟨wx.heap.size, 0, none⟩) 1 1)).run Tryz.prog (wx.alloc (.cells #[.int .u8 (48 + (m : Int) % 10)] 5)) = .ok (.string (txt [byt (48 + m % 10)])) (wx.alloc (.cells #[.int .u8 (48 + (m : Int) % 10)] 5)) := by
    intro wx; rw [e2]; exact run_one_byte wx 55 9 5 Tryz.underlying55 Tryz.underlying5 Tryz.underlying9 (48 + m % 10) 1
   clear e1 e2
   have hz1 : (txt [byt (48 + m % 10)]).size = 1 := rfl
   have hz2 : (txt out).size = out.length := txt_size out
   have hsum : (txt [byt (48 + m % 10)]).size + (txt out).size ≤ 9223372036854775807 := by omega
   clear hz1 hz2
   go_wp2
   go_roundw
   case rel =>
    refine ⟨m / 10, f', [byt (48 + m % 10)] ++ out, by go_num, by omega, ?_, by rw [txt_cat], ?_, by simp; omega, hb.alloc (by have := hb.size; omega) _⟩
    ·have := HF.out
     rw [Nat.pow_succ] at this
     omega
    ·have := HD.out
     rw [dg, if_neg (by omega)] at this
     rw [← this]
     simp
   case measure => simp [intOf]; omega
  ·have hm0 : m = 0 := by omega
   subst hm0
   have hz2 : (txt out).size = out.length := txt_size out
   have hz3 : (⟨#[109]⟩ : ByteArray).size = 1 := rfl
   have hsum : (⟨#[109]⟩ : ByteArray).size + (txt out).size ≤ 9223372036854775807 := by omega
   clear hz2 hz3
   go_wp2
   go_ret
   refine ⟨?_, hb⟩
   have := HD.out
   rw [dg_zero, List.nil_append] at this
   rw [this]
   rfl
end Go.Proofs.YtikknmoeefipmaaGreatDoor
