/- CoSv -/
import Derived.Test.YtlhoonohpfpkbaaRows
import Derived.Deep.Cut
import Derived.Deep.CutRange
import Derived.Handy
import Derived.Test.YtlhoonohpfpkbaaQp0
import Derived.Test.YtlhoonohpfpkbaaQp1
import Derived.Test.YtlhoonohpfpkbaaQp2
import Derived.Test.YtlhoonohpfpkbaaQp3
import Derived.Test.YtlhoonohpfpkbaaQp4
import Derived.Test.YtlhoonohpfpkbaaQp5
import Derived.Test.YtlhoonohpfpkbaaQp6
import Derived.Test.YtlhoonohpfpkbaaQp7
import Derived.Test.YtlhoonohpfpkbaaQp8
import Derived.Test.YtlhoonohpfpkbaaQp9
import Derived.Test.YtlhoonohpfpkbaaQp10
import Derived.Test.YtlhoonohpfpkbaaQp11
import Derived.Test.YtlhoonohpfpkbaaQp12
open List (setIfInBounds_toArray set_cons_zero set_cons_succ)
namespace Go.Proofs.Ytlhoonohpfpkbaa
open Go.ChangeShapes Go.WideShapes Go.ChangeAt Go.RowKit Go.PlainAid
set_option linter.unusedVariables false
theorem heap_lt {w : World} {g : Nat} {o : Obj} (e : w.heap[g]? = some o) : g < w.heap.size := (Array.getElem?_eq_some_iff.1 e).1
structure BelowK (B : Nat) (w w' : World) : Prop where
 b : Below B w w'
 k : ∀ (g : Nat) (cs : Array Value) (fz : Nat × Nat), w.heap[g]? = some (.cells cs 29 fz) → w'.heap[g]? = some (.cells cs 29 fz)
theorem BelowK.size {B : Nat} {w w' : World} (h : BelowK B w w') : w.heap.size ≤ w'.heap.size := h.b.size
theorem BelowK.of {B : Nat} {w w' : World} (h : Below w.heap.size w w') (hB : B ≤ w.heap.size) : BelowK B w w' := ⟨h.mono hB, fun g cs fz e => by rw [h.block g (heap_lt e)]; exact e⟩
theorem BelowK.andB {B : Nat} {w w' z : World} (h : BelowK B w w') (hu : Below w'.heap.size w' z) (hB : B ≤ w'.heap.size) : BelowK B w z := ⟨h.b.trans (hu.mono hB), fun g cs fz e => by
 have e2 := h.k g cs fz e
 rw [hu.block g (heap_lt e2)]
 exact e2⟩
theorem BelowK.setK {B : Nat} {w w' : World} (h : BelowK B w w') (hB : B ≤ w.heap.size) {p : Nat} (hp : w.heap.size ≤ p) (j : Nat) (v : Value) : BelowK B w (w'.setCell ⟨p, j, none⟩ v) := ⟨h.b.setCell (p := ⟨p, j, none⟩) (Nat.le_trans hB hp) v, fun g cs fz e => by
 rw [Below.heap_setCell _ _ _ _ (show g ≠ p by have := heap_lt e; omega)]
 exact h.k g cs fz e⟩
theorem BelowK.setN {B b g n c : Nat} {l : List Int} {w w' : World} (h : BelowK B w w') (hB : B ≤ g) (hn : Nums w' b (.slice (some ⟨g, 0, none⟩) n c) l) (j : Nat) (v : Value) : BelowK B w (w'.setCell ⟨g, j, none⟩ v) := ⟨h.b.setCell (p := ⟨g, j, none⟩) hB v, fun k cs fz e => by
 have e2 := h.k k cs fz e
 rw [Below.heap_setCell _ _ _ _ (show k ≠ g from fun q => hn.notBlk e2 (by decide) (by subst q; rfl))]
 exact e2⟩
theorem BelowK.app {B : Nat} {w x y : World} {v : Value} {R : List (List Value)} (hv : Below w.heap.size w x) (hB : B ≤ w.heap.size) (hb : Below B x y) (hk : ∀ g, g < x.heap.size → v.ownBlock ≠ some g → y.heap[g]? = x.heap[g]?) (ho : Owns x B 71 2 v R) : BelowK B w y := ⟨(hv.mono hB).trans hb, fun g cs fz e => by
 have e2 : x.heap[g]? = some (.cells cs 29 fz) := by rw [hv.block g (heap_lt e)]; exact e
 rw [hk g (heap_lt e2) (ho.notBlk e2 (by decide))]
 exact e2⟩
theorem belowK13 {w w' : World} {B g : Nat} (h : BelowK B w w') (hB : B ≤ w.heap.size) (hg : w.heap.size ≤ g) (x0 x1 x2 x3 x4 x5 x6 x7 x8 x9 x10 x11 x12 : Value) : BelowK B w (((((((((((((w'.setCell ⟨g, 0, none⟩ x0).setCell ⟨g, 1, none⟩ x1).setCell ⟨g, 2, none⟩ x2).setCell ⟨g, 3, none⟩ x3).setCell ⟨g, 4, none⟩ x4).setCell ⟨g, 5, none⟩ x5).setCell ⟨g, 6, none⟩ x6).setCell ⟨g, 7, none⟩ x7).setCell ⟨g, 8, none⟩ x8).setCell ⟨g, 9, none⟩ x9).setCell ⟨g, 10, none⟩ x10).setCell ⟨g, 11, none⟩ x11).setCell ⟨g, 12, none⟩ x12) := (((((((((((((h.setK hB hg 0 x0).setK hB hg 1 x1).setK hB hg 2 x2).setK hB hg 3 x3).setK hB hg 4 x4).setK hB hg 5 x5).setK hB hg 6 x6).setK hB hg 7 x7).setK hB hg 8 x8).setK hB hg 9 x9).setK hB hg 10 x10).setK hB hg 11 x11).setK hB hg 12 x12)
set_option maxRecDepth 20000 in
set_option maxHeartbeats 16000000 in
theorem putK (ci cp ct cv cr cd cb cbt : Int) (lg : List Ent) (cc : Int) (ys ns ms : List Int) (A0 : Option Addr) (An0 Ac0 : Nat) (A1 : Option Addr) (An1 Ac1 : Nat) (A2 : Option Addr) (An2 Ac2 : Nat) (A3 : Option Addr) (An3 Ac3 : Nat) (da : ByteArray) (w : World) (base0 : Nat) (hr : CoRows w base0 ⟨ci, cp, ct, cv, cr, cd, cb, cbt, lg, cc, ys, ns, ms⟩ (.slice A0 An0 Ac0) (.slice A1 An1 Ac1) (.slice A2 An2 Ac2) (.slice A3 An3 Ac3)) (ho : Owns w base0 71 2 (.slice A0 An0 Ac0) (entR lg)) (hso : SendOk ⟨ci, cp, ct, cv, cr, cd, cb, cbt, lg, cc, ys, ns, ms⟩) (hd9 : da.size ≤ 1048576) (hbs : base0 ≤ w.heap.size) :
  Calls Try.prog 43 #[.agg #[.int .i64 ci, .int .i64 cp, .int .i64 ct, .int .i64 cv, .int .i64 cr, .int .i64 cd, .int .i64 cb, .int .i64 cbt, .slice A0 An0 Ac0, .int .i64 cc, .slice A1 An1 Ac1, .slice A2 An2 Ac2, .slice A3 An3 Ac3], .string da] w fun e w' => (∃ ul, e = .returned (vCo (putC ⟨ci, cp, ct, cv, cr, cd, cb, cbt, lg, cc, ys, ns, ms⟩ da) ul (.slice A1 An1 Ac1) (.slice A2 An2 Ac2) (.slice A3 An3 Ac3)) ∧ CoRows w' base0 (putC ⟨ci, cp, ct, cv, cr, cd, cb, cbt, lg, cc, ys, ns, ms⟩ da) ul (.slice A1 An1 Ac1) (.slice A2 An2 Ac2) (.slice A3 An3 Ac3)) ∧ BelowK base0 w w' := by
 have hln : An0 = lg.length := by
  obtain ⟨A', c', e⟩ := hr.l.shape
  rw [entR_length] at e
  cases e
  rfl
 have HR := Hid.mk hr
 have HO := Hid.mk ho
 have HSo := Hid.mk hso
 have HBW : Hid (base0 ≤ w.heap.size) := hbs
 have hb0 := hso.b0
 have hb1 := hso.b1
 have hn60 := hso.n
 simp only at hb0 hb1 hn60
 have HLe : Hid ((entR lg).length ≤ 2097152) := by unfold Hid; rw [entR_length]; omega
 rw [← hln] at hn60
 have HRm : Hid (RoomP ⟨ci, cp, ct, cv, cr, cd, cb, cbt, lg, cc, ys, ns, ms⟩ ↔ (An0 < 60 ∧ cb + (An0 : Int) < 100000)) := by unfold Hid RoomP cLast; simp only; rw [← hln]
 have HPx0 : Hid (putC ⟨ci, cp, ct, cv, cr, cd, cb, cbt, lg, cc, ys, ns, ms⟩ da = ownX (addX ⟨ci, cp, ct, cv, cr, cd, cb, cbt, lg, cc, ys, ns, ms⟩ da)) := rfl
 have HSa : Hid (SendOk (addX ⟨ci, cp, ct, cv, cr, cd, cb, cbt, lg, cc, ys, ns, ms⟩ da)) := hso.add da hd9
 have cLl := fun wx => lastS ci cp ct cv cr cd cb cbt cc A0 An0 Ac0 (.slice A1 An1 Ac1) (.slice A2 An2 Ac2) (.slice A3 An3 Ac3) wx (by omega) (by omega) (by omega)
 have qn : (An0 : Int) ≤ 60 := by omega
 clear hr ho hso hln hn60 hbs hb0 hb1
 obtain ⟨X0, hX0⟩ : ∃ X0, X0 = (w.alloc (.cells #[.int .i64 ci, .int .i64 cp, .int .i64 ct, .int .i64 cv, .int .i64 cr, .int .i64 cd, .int .i64 cb, .int .i64 cbt, .slice A0 An0 Ac0, .int .i64 cc, .slice A1 An1 Ac1, .slice A2 An2 Ac2, .slice A3 An3 Ac3] 29)).alloc (.cells #[.int .i64 0, .int .i64 0, .int .i64 0, .int .i64 0, .int .i64 0, .int .i64 0, .int .i64 0, .int .i64 0, .slice none 0 0, .int .i64 0, .slice none 0 0, .slice none 0 0, .slice none 0 0] 29) := ⟨_, rfl⟩
 have B0 : Hid (Below w.heap.size w X0) := by unfold Hid; rw [hX0]; exact ((Below.refl _ w).alloc (Nat.le_refl _) _).alloc (by simp) _
 have K0 : Hid (Blk X0 w.heap.size #[.int .i64 ci, .int .i64 cp, .int .i64 ct, .int .i64 cv, .int .i64 cr, .int .i64 cd, .int .i64 cb, .int .i64 cbt, .slice A0 An0 Ac0, .int .i64 cc, .slice A1 An1 Ac1, .slice A2 An2 Ac2, .slice A3 An3 Ac3] 29) := by unfold Hid; rw [hX0]; exact (Blk.new w _ _).alloc _
 have R0 : Hid (Blk X0 (w.heap.size + 1) #[.int .i64 0, .int .i64 0, .int .i64 0, .int .i64 0, .int .i64 0, .int .i64 0, .int .i64 0, .int .i64 0, .slice none 0 0, .int .i64 0, .slice none 0 0, .slice none 0 0, .slice none 0 0] 29) := by unfold Hid; rw [hX0]; have := Blk.new (w.alloc (.cells #[.int .i64 ci, .int .i64 cp, .int .i64 ct, .int .i64 cv, .int .i64 cr, .int .i64 cd, .int .i64 cb, .int .i64 cbt, .slice A0 An0 Ac0, .int .i64 cc, .slice A1 An1 Ac1, .slice A2 An2 Ac2, .slice A3 An3 Ac3] 29)) #[.int .i64 0, .int .i64 0, .int .i64 0, .int .i64 0, .int .i64 0, .int .i64 0, .int .i64 0, .int .i64 0, .slice none 0 0, .int .i64 0, .slice none 0 0, .slice none 0 0, .slice none 0 0] 29; simp only [World.size_alloc] at this; exact this
 obtain ⟨k0, k1, k2, k3, k4, k5, k6, k7, k8, k9, k10, k11, k12⟩ := cellsC13 K0.out
 rw [hX0] at k0 k1 k2 k3 k4 k5 k6 k7 k8 k9 k10 k11 k12
 by_cases ha : An0 < 60
 rotate_left
 ·have z1 : decide ((An0 : Int) < 60) = false := decide_eq_false (by omega)
  have HX : Hid (addX ⟨ci, cp, ct, cv, cr, cd, cb, cbt, lg, cc, ys, ns, ms⟩ da = ⟨ci, cp, ct, cv, cr, cd, cb, cbt, lg, cc, ys, ns, ms⟩) := addX_no (fun h => ha (HRm.out.1 h).1)
  clear ha HRm HLe cLl
  go_enter Try.func43, Try.ntmps43
  go_upto_region 3 with fail
  rw [← hX0]
  clear hX0 k0 k1 k2 k3 k4 k5 k6 k7 k8 k9 k10 k11 k12
  have BV := B0
  have KV := K0
  have RV := R0
  have RW := RV
  have BW : Hid (BelowK base0 w X0) := BelowK.of BV.out HBW.out
  obtain ⟨xc, hxc⟩ : ∃ xc, xc = addX ⟨ci, cp, ct, cv, cr, cd, cb, cbt, lg, cc, ys, ns, ms⟩ da := ⟨_, rfl⟩
  have OW0 : Hid (CoRows X0 base0 xc (.slice A0 An0 Ac0) (.slice A1 An1 Ac1) (.slice A2 An2 Ac2) (.slice A3 An3 Ac3)) := by unfold Hid; rw [hxc, HX.out]; exact HR.out.on BV.out
  have KW0 : Hid (Blk X0 w.heap.size #[.int .i64 xc.id, .int .i64 xc.peers, .int .i64 xc.term, .int .i64 xc.vote, .int .i64 xc.role, .int .i64 xc.lead, .int .i64 xc.base, .int .i64 xc.bterm, .slice A0 An0 Ac0, .int .i64 xc.commit, .slice A1 An1 Ac1, .slice A2 An2 Ac2, .slice A3 An3 Ac3] 29) := by unfold Hid; rw [hxc, HX.out]; exact KV.out
  rw [← hxc] at HSa HPx0
  have HSx := HSa
  have HPx := HPx0
  clear HX hxc HR HO HSo BV KV RV B0 K0 R0 HSa HPx0
  obtain ⟨e0, e1, e2, e3, e4, e5, e6, e7, el, e9, ey, en, em⟩ := xc
  have OW := OW0
  have KW := KW0
  clear OW0 KW0
  simp only at OW KW
  obtain ⟨ga, e2', hg2b, hg2⟩ := OW.out.n.block (by have h1 := HSx.out.l; have h2 := HSx.out.p0; simp only at h1 h2 ⊢; omega)
  obtain ⟨gb, e3', hg3b, hg3⟩ := OW.out.m.block (by have h1 := HSx.out.m; have h2 := HSx.out.p0; simp only at h1 h2 ⊢; omega)
  subst e2'
  subst e3'
  obtain ⟨j, hj⟩ : ∃ j : Nat, e0 = (j : Int) := ⟨e0.toNat, by have h1 := HSx.out.i0; simp only at h1; omega⟩
  subst hj
  have hgl : An0 = el.length := by
   obtain ⟨A', c', e⟩ := OW.out.l.shape
   rw [entR_length] at e
   cases e
   rfl
  have hb0 := HSx.out.b0
  have hb1 := HSx.out.b1
  have hn6 := HSx.out.n
  simp only at hb0 hb1 hn6
  rw [← hgl] at hn6
  have cL := fun wx => lastS (j : Int) e1 e2 e3 e4 e5 e6 e7 e9 A0 An0 Ac0 (.slice A1 An1 Ac1) (.slice (some ⟨ga, 0, none⟩) An2 Ac2) (.slice (some ⟨gb, 0, none⟩) An3 Ac3) wx (by omega) (by omega) (by omega)
  have HLs : Hid (cLast ⟨(j : Int), e1, e2, e3, e4, e5, e6, e7, el, e9, ey, en, em⟩ = e6 + (An0 : Int)) := by unfold Hid cLast; simp only; rw [hgl]
  have HMx : Hid (SendOk (matX ⟨(j : Int), e1, e2, e3, e4, e5, e6, e7, el, e9, ey, en, em⟩ j (e6 + (An0 : Int)))) := by
   have := HSx.out.mat
   rw [HLs.out] at this
   exact this
  have HPy : Hid (putC ⟨ci, cp, ct, cv, cr, cd, cb, cbt, lg, cc, ys, ns, ms⟩ da = countX (matX ⟨(j : Int), e1, e2, e3, e4, e5, e6, e7, el, e9, ey, en, em⟩ j (e6 + (An0 : Int)))) := by
   unfold Hid
   rw [HPx.out]
   unfold ownX
   rw [HLs.out]
   rfl
  have hjn : j < en.length := by have h1 := HSx.out.l; have h2 := HSx.out.i1; simp only at h1 h2; omega
  have hjm : j < em.length := by have h1 := HSx.out.m; have h2 := HSx.out.i1; simp only at h1 h2; omega
  have q2 : (j : Int) < (An2 : Int) := by have h0 : An2 = en.length := OW.out.n.len; omega
  have q3 : (j : Int) < (An3 : Int) := by have h0 : An3 = em.length := OW.out.m.len; omega
  have wz : IntKind.i64.wrap (e6 + (An0 : Int) + 1) = e6 + (An0 : Int) + 1 := by rw [IntKind.wrap_i64]; omega
  have HB2 : Hid (base0 ≤ ga) := hg2b
  have HB3 : Hid (base0 ≤ gb) := hg3b
  clear hgl hb0 hb1 hn6
  go_wp2_with fail
  refine wp_region_until (fun w' => w'.cell? ⟨w.heap.size, 0, none⟩ = some (.int .i64 (j : Int)) ∧ w'.cell? ⟨w.heap.size, 1, none⟩ = some (.int .i64 e1) ∧ w'.cell? ⟨w.heap.size, 2, none⟩ = some (.int .i64 e2) ∧ w'.cell? ⟨w.heap.size, 3, none⟩ = some (.int .i64 e3) ∧ w'.cell? ⟨w.heap.size, 4, none⟩ = some (.int .i64 e4) ∧ w'.cell? ⟨w.heap.size, 5, none⟩ = some (.int .i64 e5) ∧ w'.cell? ⟨w.heap.size, 6, none⟩ = some (.int .i64 e6) ∧ w'.cell? ⟨w.heap.size, 7, none⟩ = some (.int .i64 e7) ∧ w'.cell? ⟨w.heap.size, 8, none⟩ = some (.slice A0 An0 Ac0) ∧ w'.cell? ⟨w.heap.size, 9, none⟩ = some (.int .i64 e9) ∧ w'.cell? ⟨w.heap.size, 10, none⟩ = some (.slice A1 An1 Ac1) ∧ w'.cell? ⟨w.heap.size, 11, none⟩ = some (.slice (some ⟨ga, 0, none⟩) An2 Ac2) ∧ w'.cell? ⟨w.heap.size, 12, none⟩ = some (.slice (some ⟨gb, 0, none⟩) An3 Ac3)) (fun _ => false) 8 (by rfl) (by kernel_rfl) ?_
  have U0 : Hid (Below X0.heap.size X0 X0.drew) := (Below.refl _ _).drew
  generalize X0.drew = Z0 at *
  have KZ0 := Hid.mk (KW.out.on U0.out KW.out.lt)
  have SZ0 := Hid.mk (show (fun w' => w'.cell? ⟨w.heap.size, 0, none⟩ = some (.int .i64 (j : Int)) ∧ w'.cell? ⟨w.heap.size, 1, none⟩ = some (.int .i64 e1) ∧ w'.cell? ⟨w.heap.size, 2, none⟩ = some (.int .i64 e2) ∧ w'.cell? ⟨w.heap.size, 3, none⟩ = some (.int .i64 e3) ∧ w'.cell? ⟨w.heap.size, 4, none⟩ = some (.int .i64 e4) ∧ w'.cell? ⟨w.heap.size, 5, none⟩ = some (.int .i64 e5) ∧ w'.cell? ⟨w.heap.size, 6, none⟩ = some (.int .i64 e6) ∧ w'.cell? ⟨w.heap.size, 7, none⟩ = some (.int .i64 e7) ∧ w'.cell? ⟨w.heap.size, 8, none⟩ = some (.slice A0 An0 Ac0) ∧ w'.cell? ⟨w.heap.size, 9, none⟩ = some (.int .i64 e9) ∧ w'.cell? ⟨w.heap.size, 10, none⟩ = some (.slice A1 An1 Ac1) ∧ w'.cell? ⟨w.heap.size, 11, none⟩ = some (.slice (some ⟨ga, 0, none⟩) An2 Ac2) ∧ w'.cell? ⟨w.heap.size, 12, none⟩ = some (.slice (some ⟨gb, 0, none⟩) An3 Ac3)) Z0 from ⟨KZ0.out.cell 0 _ rfl, KZ0.out.cell 1 _ rfl, KZ0.out.cell 2 _ rfl, KZ0.out.cell 3 _ rfl, KZ0.out.cell 4 _ rfl, KZ0.out.cell 5 _ rfl, KZ0.out.cell 6 _ rfl, KZ0.out.cell 7 _ rfl, KZ0.out.cell 8 _ rfl, KZ0.out.cell 9 _ rfl, KZ0.out.cell 10 _ rfl, KZ0.out.cell 11 _ rfl, KZ0.out.cell 12 _ rfl⟩)
  refine tF 0 SZ0.out ?_
  refine tF 1 SZ0.out ?_
  refine tF 2 SZ0.out ?_
  refine tF 3 SZ0.out ?_
  refine tF 4 SZ0.out ?_
  refine uNe 5 (fun K hK => ?_)
  go_simp
  refine (cL Z0).mono ?_
  rintro e Z1 ⟨rfl, hb⟩
  have U1 : Hid (Below X0.heap.size X0 Z1) := U0.out.trans (hb.mono U0.out.size)
  have KZ1 := Hid.mk (KW.out.on U1.out KW.out.lt)
  have RZ1 := Hid.mk (RW.out.on U1.out RW.out.lt)
  have OZ1 := Hid.mk (OW.out.on U1.out)
  have BZ1 : Hid (BelowK base0 w Z1) := BW.out.andB U1.out (Nat.le_trans HBW.out BW.out.size)
  clear hb
  refine hK.out _ _ (fun _ _ => ⟨KZ1.out.cell 0 _ rfl, KZ1.out.cell 1 _ rfl, KZ1.out.cell 2 _ rfl, KZ1.out.cell 3 _ rfl, KZ1.out.cell 4 _ rfl, KZ1.out.cell 5 _ rfl, KZ1.out.cell 6 _ rfl, KZ1.out.cell 7 _ rfl, KZ1.out.cell 8 _ rfl, KZ1.out.cell 9 _ rfl, KZ1.out.cell 10 _ rfl, KZ1.out.cell 11 _ rfl, KZ1.out.cell 12 _ rfl⟩) ?_
  clear hK K
  try simp only [Act.put, zQ1, zQ2, zQ3]
  have SZ1 := Hid.mk (show (fun w' => w'.cell? ⟨w.heap.size, 0, none⟩ = some (.int .i64 (j : Int)) ∧ w'.cell? ⟨w.heap.size, 1, none⟩ = some (.int .i64 e1) ∧ w'.cell? ⟨w.heap.size, 2, none⟩ = some (.int .i64 e2) ∧ w'.cell? ⟨w.heap.size, 3, none⟩ = some (.int .i64 e3) ∧ w'.cell? ⟨w.heap.size, 4, none⟩ = some (.int .i64 e4) ∧ w'.cell? ⟨w.heap.size, 5, none⟩ = some (.int .i64 e5) ∧ w'.cell? ⟨w.heap.size, 6, none⟩ = some (.int .i64 e6) ∧ w'.cell? ⟨w.heap.size, 7, none⟩ = some (.int .i64 e7) ∧ w'.cell? ⟨w.heap.size, 8, none⟩ = some (.slice A0 An0 Ac0) ∧ w'.cell? ⟨w.heap.size, 9, none⟩ = some (.int .i64 e9) ∧ w'.cell? ⟨w.heap.size, 10, none⟩ = some (.slice A1 An1 Ac1) ∧ w'.cell? ⟨w.heap.size, 11, none⟩ = some (.slice (some ⟨ga, 0, none⟩) An2 Ac2) ∧ w'.cell? ⟨w.heap.size, 12, none⟩ = some (.slice (some ⟨gb, 0, none⟩) An3 Ac3)) Z1 from ⟨KZ1.out.cell 0 _ rfl, KZ1.out.cell 1 _ rfl, KZ1.out.cell 2 _ rfl, KZ1.out.cell 3 _ rfl, KZ1.out.cell 4 _ rfl, KZ1.out.cell 5 _ rfl, KZ1.out.cell 6 _ rfl, KZ1.out.cell 7 _ rfl, KZ1.out.cell 8 _ rfl, KZ1.out.cell 9 _ rfl, KZ1.out.cell 10 _ rfl, KZ1.out.cell 11 _ rfl, KZ1.out.cell 12 _ rfl⟩)
  refine tF 6 SZ1.out ?_
  have o3 := OZ1.out.m.cell j (by simp only; exact hjm)
  have f3 := OZ1.out.m.frozen j
  have OZ2 := Hid.mk (OZ1.out.setM (j := j) (z := e6 + (An0 : Int)))
  have KZ2 := Hid.mk (KZ1.out.setJ (j := j) (v := .int .i64 (e6 + (An0 : Int))) (by decide) OZ1.out.m)
  have RZ2 := Hid.mk (RZ1.out.setJ (j := j) (v := .int .i64 (e6 + (An0 : Int))) (by decide) OZ1.out.m)
  have BZ2 := Hid.mk (BZ1.out.setN HB3.out OZ1.out.m j (.int .i64 (e6 + (An0 : Int))))
  refine uNe 7 (fun K hK => ?_)
  go_simp
  refine hK.out _ _ (fun _ _ => ⟨KZ2.out.cell 0 _ rfl, KZ2.out.cell 1 _ rfl, KZ2.out.cell 2 _ rfl, KZ2.out.cell 3 _ rfl, KZ2.out.cell 4 _ rfl, KZ2.out.cell 5 _ rfl, KZ2.out.cell 6 _ rfl, KZ2.out.cell 7 _ rfl, KZ2.out.cell 8 _ rfl, KZ2.out.cell 9 _ rfl, KZ2.out.cell 10 _ rfl, KZ2.out.cell 11 _ rfl, KZ2.out.cell 12 _ rfl⟩) ?_
  clear hK K KZ1 RZ1 OZ1 BZ1 SZ1 SZ0 KZ0 o3 f3
  try simp only [Act.put, zQ1, zQ2, zQ3]
  refine until_done (by kernel_rfl) ?_ _
  generalize Z1.setCell ⟨gb, j, none⟩ (.int .i64 (e6 + (An0 : Int))) = Z2 at *
  try go_wp2_with fail
  refine wp_region_until (fun w' => w'.cell? ⟨w.heap.size, 0, none⟩ = some (.int .i64 (j : Int)) ∧ w'.cell? ⟨w.heap.size, 1, none⟩ = some (.int .i64 e1) ∧ w'.cell? ⟨w.heap.size, 2, none⟩ = some (.int .i64 e2) ∧ w'.cell? ⟨w.heap.size, 3, none⟩ = some (.int .i64 e3) ∧ w'.cell? ⟨w.heap.size, 4, none⟩ = some (.int .i64 e4) ∧ w'.cell? ⟨w.heap.size, 5, none⟩ = some (.int .i64 e5) ∧ w'.cell? ⟨w.heap.size, 6, none⟩ = some (.int .i64 e6) ∧ w'.cell? ⟨w.heap.size, 7, none⟩ = some (.int .i64 e7) ∧ w'.cell? ⟨w.heap.size, 8, none⟩ = some (.slice A0 An0 Ac0) ∧ w'.cell? ⟨w.heap.size, 9, none⟩ = some (.int .i64 e9) ∧ w'.cell? ⟨w.heap.size, 10, none⟩ = some (.slice A1 An1 Ac1) ∧ w'.cell? ⟨w.heap.size, 11, none⟩ = some (.slice (some ⟨ga, 0, none⟩) An2 Ac2) ∧ w'.cell? ⟨w.heap.size, 12, none⟩ = some (.slice (some ⟨gb, 0, none⟩) An3 Ac3)) (fun _ => false) 9 (by rfl) (by kernel_rfl) ?_
  have U2 : Hid (Below Z2.heap.size Z2 Z2.drew) := (Below.refl _ _).drew
  have HZ2 : Hid (base0 ≤ Z2.heap.size) := Nat.le_trans HBW.out BZ2.out.size
  generalize Z2.drew = Z3 at *
  have KZ3 := Hid.mk (KZ2.out.on U2.out KZ2.out.lt)
  have SZ3 := Hid.mk (show (fun w' => w'.cell? ⟨w.heap.size, 0, none⟩ = some (.int .i64 (j : Int)) ∧ w'.cell? ⟨w.heap.size, 1, none⟩ = some (.int .i64 e1) ∧ w'.cell? ⟨w.heap.size, 2, none⟩ = some (.int .i64 e2) ∧ w'.cell? ⟨w.heap.size, 3, none⟩ = some (.int .i64 e3) ∧ w'.cell? ⟨w.heap.size, 4, none⟩ = some (.int .i64 e4) ∧ w'.cell? ⟨w.heap.size, 5, none⟩ = some (.int .i64 e5) ∧ w'.cell? ⟨w.heap.size, 6, none⟩ = some (.int .i64 e6) ∧ w'.cell? ⟨w.heap.size, 7, none⟩ = some (.int .i64 e7) ∧ w'.cell? ⟨w.heap.size, 8, none⟩ = some (.slice A0 An0 Ac0) ∧ w'.cell? ⟨w.heap.size, 9, none⟩ = some (.int .i64 e9) ∧ w'.cell? ⟨w.heap.size, 10, none⟩ = some (.slice A1 An1 Ac1) ∧ w'.cell? ⟨w.heap.size, 11, none⟩ = some (.slice (some ⟨ga, 0, none⟩) An2 Ac2) ∧ w'.cell? ⟨w.heap.size, 12, none⟩ = some (.slice (some ⟨gb, 0, none⟩) An3 Ac3)) Z3 from ⟨KZ3.out.cell 0 _ rfl, KZ3.out.cell 1 _ rfl, KZ3.out.cell 2 _ rfl, KZ3.out.cell 3 _ rfl, KZ3.out.cell 4 _ rfl, KZ3.out.cell 5 _ rfl, KZ3.out.cell 6 _ rfl, KZ3.out.cell 7 _ rfl, KZ3.out.cell 8 _ rfl, KZ3.out.cell 9 _ rfl, KZ3.out.cell 10 _ rfl, KZ3.out.cell 11 _ rfl, KZ3.out.cell 12 _ rfl⟩)
  refine tF 0 SZ3.out ?_
  refine tF 1 SZ3.out ?_
  refine tF 2 SZ3.out ?_
  refine tF 3 SZ3.out ?_
  refine tF 4 SZ3.out ?_
  refine uNe 5 (fun K hK => ?_)
  go_simp
  refine (cL Z3).mono ?_
  rintro e Z4 ⟨rfl, hb⟩
  have U3 : Hid (Below Z2.heap.size Z2 Z4) := U2.out.trans (hb.mono U2.out.size)
  have KZ4 := Hid.mk (KZ2.out.on U3.out KZ2.out.lt)
  have RZ4 := Hid.mk (RZ2.out.on U3.out RZ2.out.lt)
  have OZ4 := Hid.mk (OZ2.out.on U3.out)
  have BZ4 : Hid (BelowK base0 w Z4) := BZ2.out.andB U3.out HZ2.out
  clear hb
  refine hK.out _ _ (fun _ _ => ⟨KZ4.out.cell 0 _ rfl, KZ4.out.cell 1 _ rfl, KZ4.out.cell 2 _ rfl, KZ4.out.cell 3 _ rfl, KZ4.out.cell 4 _ rfl, KZ4.out.cell 5 _ rfl, KZ4.out.cell 6 _ rfl, KZ4.out.cell 7 _ rfl, KZ4.out.cell 8 _ rfl, KZ4.out.cell 9 _ rfl, KZ4.out.cell 10 _ rfl, KZ4.out.cell 11 _ rfl, KZ4.out.cell 12 _ rfl⟩) ?_
  clear hK K
  try simp only [Act.put, zQ1, zQ2, zQ3]
  refine pF 6 ?_
  have SZ4 := Hid.mk (show (fun w' => w'.cell? ⟨w.heap.size, 0, none⟩ = some (.int .i64 (j : Int)) ∧ w'.cell? ⟨w.heap.size, 1, none⟩ = some (.int .i64 e1) ∧ w'.cell? ⟨w.heap.size, 2, none⟩ = some (.int .i64 e2) ∧ w'.cell? ⟨w.heap.size, 3, none⟩ = some (.int .i64 e3) ∧ w'.cell? ⟨w.heap.size, 4, none⟩ = some (.int .i64 e4) ∧ w'.cell? ⟨w.heap.size, 5, none⟩ = some (.int .i64 e5) ∧ w'.cell? ⟨w.heap.size, 6, none⟩ = some (.int .i64 e6) ∧ w'.cell? ⟨w.heap.size, 7, none⟩ = some (.int .i64 e7) ∧ w'.cell? ⟨w.heap.size, 8, none⟩ = some (.slice A0 An0 Ac0) ∧ w'.cell? ⟨w.heap.size, 9, none⟩ = some (.int .i64 e9) ∧ w'.cell? ⟨w.heap.size, 10, none⟩ = some (.slice A1 An1 Ac1) ∧ w'.cell? ⟨w.heap.size, 11, none⟩ = some (.slice (some ⟨ga, 0, none⟩) An2 Ac2) ∧ w'.cell? ⟨w.heap.size, 12, none⟩ = some (.slice (some ⟨gb, 0, none⟩) An3 Ac3)) Z4 from ⟨KZ4.out.cell 0 _ rfl, KZ4.out.cell 1 _ rfl, KZ4.out.cell 2 _ rfl, KZ4.out.cell 3 _ rfl, KZ4.out.cell 4 _ rfl, KZ4.out.cell 5 _ rfl, KZ4.out.cell 6 _ rfl, KZ4.out.cell 7 _ rfl, KZ4.out.cell 8 _ rfl, KZ4.out.cell 9 _ rfl, KZ4.out.cell 10 _ rfl, KZ4.out.cell 11 _ rfl, KZ4.out.cell 12 _ rfl⟩)
  refine tF 7 SZ4.out ?_
  have o2 := OZ4.out.n.cell j (by simp only; exact hjn)
  have f2 := OZ4.out.n.frozen j
  have OZ5 := Hid.mk ((OZ4.out.setN (j := j) (z := e6 + (An0 : Int) + 1)).as (y := matX ⟨(j : Int), e1, e2, e3, e4, e5, e6, e7, el, e9, ey, en, em⟩ j (e6 + (An0 : Int))) rfl rfl rfl rfl)
  have KZ5 := Hid.mk (KZ4.out.setJ (j := j) (v := .int .i64 (e6 + (An0 : Int) + 1)) (by decide) OZ4.out.n)
  have RZ5 := Hid.mk (RZ4.out.setJ (j := j) (v := .int .i64 (e6 + (An0 : Int) + 1)) (by decide) OZ4.out.n)
  have BZ5 := Hid.mk (BZ4.out.setN HB2.out OZ4.out.n j (.int .i64 (e6 + (An0 : Int) + 1)))
  refine uNe 8 (fun K hK => ?_)
  go_simp
  refine hK.out _ _ (fun _ _ => ⟨KZ5.out.cell 0 _ rfl, KZ5.out.cell 1 _ rfl, KZ5.out.cell 2 _ rfl, KZ5.out.cell 3 _ rfl, KZ5.out.cell 4 _ rfl, KZ5.out.cell 5 _ rfl, KZ5.out.cell 6 _ rfl, KZ5.out.cell 7 _ rfl, KZ5.out.cell 8 _ rfl, KZ5.out.cell 9 _ rfl, KZ5.out.cell 10 _ rfl, KZ5.out.cell 11 _ rfl, KZ5.out.cell 12 _ rfl⟩) ?_
  clear hK K KZ4 RZ4 OZ4 BZ4 SZ4 SZ3 KZ3 o2 f2 KZ2 RZ2 OZ2 BZ2 HZ2 U2 U3
  try simp only [Act.put, zQ1, zQ2, zQ3]
  refine until_done (by kernel_rfl) ?_ _
  generalize Z4.setCell ⟨ga, j, none⟩ (.int .i64 (e6 + (An0 : Int) + 1)) = Z5 at *
  have HZ5 : Hid (base0 ≤ Z5.heap.size) := Nat.le_trans HBW.out BZ5.out.size
  have cC := countVS (matX ⟨(j : Int), e1, e2, e3, e4, e5, e6, e7, el, e9, ey, en, em⟩ j (e6 + (An0 : Int))) A0 An0 Ac0 A1 An1 Ac1 (some ⟨ga, 0, none⟩) An2 Ac2 (some ⟨gb, 0, none⟩) An3 Ac3 Z5 base0 OZ5.out HMx.out
  obtain ⟨cm, hcm⟩ : ∃ cm, cm = (countX (matX ⟨(j : Int), e1, e2, e3, e4, e5, e6, e7, el, e9, ey, en, em⟩ j (e6 + (An0 : Int)))).commit := ⟨_, rfl⟩
  have HVC : Hid (vCo (countX (matX ⟨(j : Int), e1, e2, e3, e4, e5, e6, e7, el, e9, ey, en, em⟩ j (e6 + (An0 : Int)))) (.slice A0 An0 Ac0) (.slice A1 An1 Ac1) (.slice (some ⟨ga, 0, none⟩) An2 Ac2) (.slice (some ⟨gb, 0, none⟩) An3 Ac3) = .agg #[.int .i64 (j : Int), .int .i64 e1, .int .i64 e2, .int .i64 e3, .int .i64 e4, .int .i64 e5, .int .i64 e6, .int .i64 e7, .slice A0 An0 Ac0, .int .i64 cm, .slice A1 An1 Ac1, .slice (some ⟨ga, 0, none⟩) An2 Ac2, .slice (some ⟨gb, 0, none⟩) An3 Ac3]) := by unfold Hid; rw [hcm]; rfl
  have HVD : Hid (vCo (matX ⟨(j : Int), e1, e2, e3, e4, e5, e6, e7, el, e9, ey, en, em⟩ j (e6 + (An0 : Int))) (.slice A0 An0 Ac0) (.slice A1 An1 Ac1) (.slice (some ⟨ga, 0, none⟩) An2 Ac2) (.slice (some ⟨gb, 0, none⟩) An3 Ac3) = .agg #[.int .i64 (j : Int), .int .i64 e1, .int .i64 e2, .int .i64 e3, .int .i64 e4, .int .i64 e5, .int .i64 e6, .int .i64 e7, .slice A0 An0 Ac0, .int .i64 e9, .slice A1 An1 Ac1, .slice (some ⟨ga, 0, none⟩) An2 Ac2, .slice (some ⟨gb, 0, none⟩) An3 Ac3]) := rfl
  rw [HVC.out, HVD.out] at cC
  have OZf : Hid (CoRows Z5 base0 (putC ⟨ci, cp, ct, cv, cr, cd, cb, cbt, lg, cc, ys, ns, ms⟩ da) (.slice A0 An0 Ac0) (.slice A1 An1 Ac1) (.slice (some ⟨ga, 0, none⟩) An2 Ac2) (.slice (some ⟨gb, 0, none⟩) An3 Ac3)) := by unfold Hid; rw [HPy.out]; exact OZ5.out.as rfl rfl rfl rfl
  clear hcm
  have y0 := KZ5.out.cell 0 _ rfl
  have y1 := KZ5.out.cell 1 _ rfl
  have y2 := KZ5.out.cell 2 _ rfl
  have y3 := KZ5.out.cell 3 _ rfl
  have y4 := KZ5.out.cell 4 _ rfl
  have y5 := KZ5.out.cell 5 _ rfl
  have y6 := KZ5.out.cell 6 _ rfl
  have y7 := KZ5.out.cell 7 _ rfl
  have y8 := KZ5.out.cell 8 _ rfl
  have y9 := KZ5.out.cell 9 _ rfl
  have y10 := KZ5.out.cell 10 _ rfl
  have y11 := KZ5.out.cell 11 _ rfl
  have y12 := KZ5.out.cell 12 _ rfl
  try go_wp2_with fail
  refine cC.mono ?_
  rintro e Z6 ⟨rfl, hb⟩
  have RZ6 := Hid.mk (RZ5.out.on hb RZ5.out.lt)
  have OZ6 := Hid.mk (OZf.out.on hb)
  have BZ6 : Hid (BelowK base0 w Z6) := BZ5.out.andB hb HZ5.out
  clear hb cC y0 y1 y2 y3 y4 y5 y6 y7 y8 y9 y10 y11 y12 KZ5 RZ5 OZ5 OZf BZ5
  obtain ⟨⟨r0, g0⟩, ⟨r1, g1⟩, ⟨r2, g2⟩, ⟨r3, g3⟩, ⟨r4, g4⟩, ⟨r5, g5⟩, ⟨r6, g6⟩, ⟨r7, g7⟩, ⟨r8, g8⟩, ⟨r9, g9⟩, ⟨r10, g10⟩, ⟨r11, g11⟩, ⟨r12, g12⟩, z0, z1, z2, z3, z4, z5, z6, z7, z8, z9, z10, z11, z12⟩ := resC13 (x0 := .int .i64 (j : Int)) (x1 := .int .i64 e1) (x2 := .int .i64 e2) (x3 := .int .i64 e3) (x4 := .int .i64 e4) (x5 := .int .i64 e5) (x6 := .int .i64 e6) (x7 := .int .i64 e7) (x8 := .slice A0 An0 Ac0) (x9 := .int .i64 cm) (x10 := .slice A1 An1 Ac1) (x11 := .slice (some ⟨ga, 0, none⟩) An2 Ac2) (x12 := .slice (some ⟨gb, 0, none⟩) An3 Ac3) RZ6.out
  have FB := Hid.mk (belowK13 BZ6.out HBW.out (show w.heap.size ≤ w.heap.size + 1 by omega) (.int .i64 (j : Int)) (.int .i64 e1) (.int .i64 e2) (.int .i64 e3) (.int .i64 e4) (.int .i64 e5) (.int .i64 e6) (.int .i64 e7) (.slice A0 An0 Ac0) (.int .i64 cm) (.slice A1 An1 Ac1) (.slice (some ⟨ga, 0, none⟩) An2 Ac2) (.slice (some ⟨gb, 0, none⟩) An3 Ac3))
  have FO : Hid (CoRows (((((((((((((Z6.setCell ⟨w.heap.size + 1, 0, none⟩ (.int .i64 (j : Int))).setCell ⟨w.heap.size + 1, 1, none⟩ (.int .i64 e1)).setCell ⟨w.heap.size + 1, 2, none⟩ (.int .i64 e2)).setCell ⟨w.heap.size + 1, 3, none⟩ (.int .i64 e3)).setCell ⟨w.heap.size + 1, 4, none⟩ (.int .i64 e4)).setCell ⟨w.heap.size + 1, 5, none⟩ (.int .i64 e5)).setCell ⟨w.heap.size + 1, 6, none⟩ (.int .i64 e6)).setCell ⟨w.heap.size + 1, 7, none⟩ (.int .i64 e7)).setCell ⟨w.heap.size + 1, 8, none⟩ (.slice A0 An0 Ac0)).setCell ⟨w.heap.size + 1, 9, none⟩ (.int .i64 cm)).setCell ⟨w.heap.size + 1, 10, none⟩ (.slice A1 An1 Ac1)).setCell ⟨w.heap.size + 1, 11, none⟩ (.slice (some ⟨ga, 0, none⟩) An2 Ac2)).setCell ⟨w.heap.size + 1, 12, none⟩ (.slice (some ⟨gb, 0, none⟩) An3 Ac3)) base0 (putC ⟨ci, cp, ct, cv, cr, cd, cb, cbt, lg, cc, ys, ns, ms⟩ da) (.slice A0 An0 Ac0) (.slice A1 An1 Ac1) (.slice (some ⟨ga, 0, none⟩) An2 Ac2) (.slice (some ⟨gb, 0, none⟩) An3 Ac3)) := rowsB13 OZ6.out RZ6.out (.int .i64 (j : Int)) (.int .i64 e1) (.int .i64 e2) (.int .i64 e3) (.int .i64 e4) (.int .i64 e5) (.int .i64 e6) (.int .i64 e7) (.slice A0 An0 Ac0) (.int .i64 cm) (.slice A1 An1 Ac1) (.slice (some ⟨ga, 0, none⟩) An2 Ac2) (.slice (some ⟨gb, 0, none⟩) An3 Ac3)
  clear RZ6 OZ6 BZ6
  go_wp2_with fail
  refine bodyPost_ret (v := .agg #[.int .i64 (j : Int), .int .i64 e1, .int .i64 e2, .int .i64 e3, .int .i64 e4, .int .i64 e5, .int .i64 e6, .int .i64 e7, .slice A0 An0 Ac0, .int .i64 cm, .slice A1 An1 Ac1, .slice (some ⟨ga, 0, none⟩) An2 Ac2, .slice (some ⟨gb, 0, none⟩) An3 Ac3]) (by simp [results, go_sem, z0, z1, z2, z3, z4, z5, z6, z7, z8, z9, z10, z11, z12]) rfl ⟨⟨.slice A0 An0 Ac0, ?_, FO.out⟩, FB.out⟩
  rw [HPy.out, HVC.out]
 have z1 : decide ((An0 : Int) < 60) = true := decide_eq_true (by omega)
 by_cases hb : cb + (An0 : Int) < 100000
 rotate_left
 ·have z2 : decide (cb + (An0 : Int) < 100000) = false := decide_eq_false hb
  have HX : Hid (addX ⟨ci, cp, ct, cv, cr, cd, cb, cbt, lg, cc, ys, ns, ms⟩ da = ⟨ci, cp, ct, cv, cr, cd, cb, cbt, lg, cc, ys, ns, ms⟩) := addX_no (fun h => hb (HRm.out.1 h).2)
  clear ha hb HRm HLe
  go_enter Try.func43, Try.ntmps43
  go_wp2_with fail
  rw [← hX0]
  clear hX0 k0 k1 k2 k3 k4 k5 k6 k7 k8 k9 k10 k11 k12
  refine (cLl X0).mono ?_
  rintro e X1 ⟨rfl, hb⟩
  have V1 := Hid.mk hb
  clear hb cLl
  go_upto_region 3 with fail
  have BV : Hid (Below w.heap.size w X1) := B0.out.trans (V1.out.mono B0.out.size)
  have KV := Hid.mk (K0.out.on V1.out K0.out.lt)
  have RV := Hid.mk (R0.out.on V1.out R0.out.lt)
  have RW := RV
  have BW : Hid (BelowK base0 w X1) := BelowK.of BV.out HBW.out
  obtain ⟨xc, hxc⟩ : ∃ xc, xc = addX ⟨ci, cp, ct, cv, cr, cd, cb, cbt, lg, cc, ys, ns, ms⟩ da := ⟨_, rfl⟩
  have OW0 : Hid (CoRows X1 base0 xc (.slice A0 An0 Ac0) (.slice A1 An1 Ac1) (.slice A2 An2 Ac2) (.slice A3 An3 Ac3)) := by unfold Hid; rw [hxc, HX.out]; exact HR.out.on BV.out
  have KW0 : Hid (Blk X1 w.heap.size #[.int .i64 xc.id, .int .i64 xc.peers, .int .i64 xc.term, .int .i64 xc.vote, .int .i64 xc.role, .int .i64 xc.lead, .int .i64 xc.base, .int .i64 xc.bterm, .slice A0 An0 Ac0, .int .i64 xc.commit, .slice A1 An1 Ac1, .slice A2 An2 Ac2, .slice A3 An3 Ac3] 29) := by unfold Hid; rw [hxc, HX.out]; exact KV.out
  rw [← hxc] at HSa HPx0
  have HSx := HSa
  have HPx := HPx0
  clear HX hxc HR HO HSo BV KV RV B0 K0 R0 HSa HPx0 V1
  obtain ⟨e0, e1, e2, e3, e4, e5, e6, e7, el, e9, ey, en, em⟩ := xc
  have OW := OW0
  have KW := KW0
  clear OW0 KW0
  simp only at OW KW
  obtain ⟨ga, e2', hg2b, hg2⟩ := OW.out.n.block (by have h1 := HSx.out.l; have h2 := HSx.out.p0; simp only at h1 h2 ⊢; omega)
  obtain ⟨gb, e3', hg3b, hg3⟩ := OW.out.m.block (by have h1 := HSx.out.m; have h2 := HSx.out.p0; simp only at h1 h2 ⊢; omega)
  subst e2'
  subst e3'
  obtain ⟨j, hj⟩ : ∃ j : Nat, e0 = (j : Int) := ⟨e0.toNat, by have h1 := HSx.out.i0; simp only at h1; omega⟩
  subst hj
  have hgl : An0 = el.length := by
   obtain ⟨A', c', e⟩ := OW.out.l.shape
   rw [entR_length] at e
   cases e
   rfl
  have hb0 := HSx.out.b0
  have hb1 := HSx.out.b1
  have hn6 := HSx.out.n
  simp only at hb0 hb1 hn6
  rw [← hgl] at hn6
  have cL := fun wx => lastS (j : Int) e1 e2 e3 e4 e5 e6 e7 e9 A0 An0 Ac0 (.slice A1 An1 Ac1) (.slice (some ⟨ga, 0, none⟩) An2 Ac2) (.slice (some ⟨gb, 0, none⟩) An3 Ac3) wx (by omega) (by omega) (by omega)
  have HLs : Hid (cLast ⟨(j : Int), e1, e2, e3, e4, e5, e6, e7, el, e9, ey, en, em⟩ = e6 + (An0 : Int)) := by unfold Hid cLast; simp only; rw [hgl]
  have HMx : Hid (SendOk (matX ⟨(j : Int), e1, e2, e3, e4, e5, e6, e7, el, e9, ey, en, em⟩ j (e6 + (An0 : Int)))) := by
   have := HSx.out.mat
   rw [HLs.out] at this
   exact this
  have HPy : Hid (putC ⟨ci, cp, ct, cv, cr, cd, cb, cbt, lg, cc, ys, ns, ms⟩ da = countX (matX ⟨(j : Int), e1, e2, e3, e4, e5, e6, e7, el, e9, ey, en, em⟩ j (e6 + (An0 : Int)))) := by
   unfold Hid
   rw [HPx.out]
   unfold ownX
   rw [HLs.out]
   rfl
  have hjn : j < en.length := by have h1 := HSx.out.l; have h2 := HSx.out.i1; simp only at h1 h2; omega
  have hjm : j < em.length := by have h1 := HSx.out.m; have h2 := HSx.out.i1; simp only at h1 h2; omega
  have q2 : (j : Int) < (An2 : Int) := by have h0 : An2 = en.length := OW.out.n.len; omega
  have q3 : (j : Int) < (An3 : Int) := by have h0 : An3 = em.length := OW.out.m.len; omega
  have wz : IntKind.i64.wrap (e6 + (An0 : Int) + 1) = e6 + (An0 : Int) + 1 := by rw [IntKind.wrap_i64]; omega
  have HB2 : Hid (base0 ≤ ga) := hg2b
  have HB3 : Hid (base0 ≤ gb) := hg3b
  clear hgl hb0 hb1 hn6
  go_wp2_with fail
  refine wp_region_until (fun w' => w'.cell? ⟨w.heap.size, 0, none⟩ = some (.int .i64 (j : Int)) ∧ w'.cell? ⟨w.heap.size, 1, none⟩ = some (.int .i64 e1) ∧ w'.cell? ⟨w.heap.size, 2, none⟩ = some (.int .i64 e2) ∧ w'.cell? ⟨w.heap.size, 3, none⟩ = some (.int .i64 e3) ∧ w'.cell? ⟨w.heap.size, 4, none⟩ = some (.int .i64 e4) ∧ w'.cell? ⟨w.heap.size, 5, none⟩ = some (.int .i64 e5) ∧ w'.cell? ⟨w.heap.size, 6, none⟩ = some (.int .i64 e6) ∧ w'.cell? ⟨w.heap.size, 7, none⟩ = some (.int .i64 e7) ∧ w'.cell? ⟨w.heap.size, 8, none⟩ = some (.slice A0 An0 Ac0) ∧ w'.cell? ⟨w.heap.size, 9, none⟩ = some (.int .i64 e9) ∧ w'.cell? ⟨w.heap.size, 10, none⟩ = some (.slice A1 An1 Ac1) ∧ w'.cell? ⟨w.heap.size, 11, none⟩ = some (.slice (some ⟨ga, 0, none⟩) An2 Ac2) ∧ w'.cell? ⟨w.heap.size, 12, none⟩ = some (.slice (some ⟨gb, 0, none⟩) An3 Ac3)) (fun _ => false) 8 (by rfl) (by kernel_rfl) ?_
  have U0 : Hid (Below X1.heap.size X1 X1.drew) := (Below.refl _ _).drew
  generalize X1.drew = Z0 at *
  have KZ0 := Hid.mk (KW.out.on U0.out KW.out.lt)
  have SZ0 := Hid.mk (show (fun w' => w'.cell? ⟨w.heap.size, 0, none⟩ = some (.int .i64 (j : Int)) ∧ w'.cell? ⟨w.heap.size, 1, none⟩ = some (.int .i64 e1) ∧ w'.cell? ⟨w.heap.size, 2, none⟩ = some (.int .i64 e2) ∧ w'.cell? ⟨w.heap.size, 3, none⟩ = some (.int .i64 e3) ∧ w'.cell? ⟨w.heap.size, 4, none⟩ = some (.int .i64 e4) ∧ w'.cell? ⟨w.heap.size, 5, none⟩ = some (.int .i64 e5) ∧ w'.cell? ⟨w.heap.size, 6, none⟩ = some (.int .i64 e6) ∧ w'.cell? ⟨w.heap.size, 7, none⟩ = some (.int .i64 e7) ∧ w'.cell? ⟨w.heap.size, 8, none⟩ = some (.slice A0 An0 Ac0) ∧ w'.cell? ⟨w.heap.size, 9, none⟩ = some (.int .i64 e9) ∧ w'.cell? ⟨w.heap.size, 10, none⟩ = some (.slice A1 An1 Ac1) ∧ w'.cell? ⟨w.heap.size, 11, none⟩ = some (.slice (some ⟨ga, 0, none⟩) An2 Ac2) ∧ w'.cell? ⟨w.heap.size, 12, none⟩ = some (.slice (some ⟨gb, 0, none⟩) An3 Ac3)) Z0 from ⟨KZ0.out.cell 0 _ rfl, KZ0.out.cell 1 _ rfl, KZ0.out.cell 2 _ rfl, KZ0.out.cell 3 _ rfl, KZ0.out.cell 4 _ rfl, KZ0.out.cell 5 _ rfl, KZ0.out.cell 6 _ rfl, KZ0.out.cell 7 _ rfl, KZ0.out.cell 8 _ rfl, KZ0.out.cell 9 _ rfl, KZ0.out.cell 10 _ rfl, KZ0.out.cell 11 _ rfl, KZ0.out.cell 12 _ rfl⟩)
  refine tF 0 SZ0.out ?_
  refine tF 1 SZ0.out ?_
  refine tF 2 SZ0.out ?_
  refine tF 3 SZ0.out ?_
  refine tF 4 SZ0.out ?_
  refine uNe 5 (fun K hK => ?_)
  go_simp
  refine (cL Z0).mono ?_
  rintro e Z1 ⟨rfl, hb⟩
  have U1 : Hid (Below X1.heap.size X1 Z1) := U0.out.trans (hb.mono U0.out.size)
  have KZ1 := Hid.mk (KW.out.on U1.out KW.out.lt)
  have RZ1 := Hid.mk (RW.out.on U1.out RW.out.lt)
  have OZ1 := Hid.mk (OW.out.on U1.out)
  have BZ1 : Hid (BelowK base0 w Z1) := BW.out.andB U1.out (Nat.le_trans HBW.out BW.out.size)
  clear hb
  refine hK.out _ _ (fun _ _ => ⟨KZ1.out.cell 0 _ rfl, KZ1.out.cell 1 _ rfl, KZ1.out.cell 2 _ rfl, KZ1.out.cell 3 _ rfl, KZ1.out.cell 4 _ rfl, KZ1.out.cell 5 _ rfl, KZ1.out.cell 6 _ rfl, KZ1.out.cell 7 _ rfl, KZ1.out.cell 8 _ rfl, KZ1.out.cell 9 _ rfl, KZ1.out.cell 10 _ rfl, KZ1.out.cell 11 _ rfl, KZ1.out.cell 12 _ rfl⟩) ?_
  clear hK K
  try simp only [Act.put, zQ1, zQ2, zQ3]
  have SZ1 := Hid.mk (show (fun w' => w'.cell? ⟨w.heap.size, 0, none⟩ = some (.int .i64 (j : Int)) ∧ w'.cell? ⟨w.heap.size, 1, none⟩ = some (.int .i64 e1) ∧ w'.cell? ⟨w.heap.size, 2, none⟩ = some (.int .i64 e2) ∧ w'.cell? ⟨w.heap.size, 3, none⟩ = some (.int .i64 e3) ∧ w'.cell? ⟨w.heap.size, 4, none⟩ = some (.int .i64 e4) ∧ w'.cell? ⟨w.heap.size, 5, none⟩ = some (.int .i64 e5) ∧ w'.cell? ⟨w.heap.size, 6, none⟩ = some (.int .i64 e6) ∧ w'.cell? ⟨w.heap.size, 7, none⟩ = some (.int .i64 e7) ∧ w'.cell? ⟨w.heap.size, 8, none⟩ = some (.slice A0 An0 Ac0) ∧ w'.cell? ⟨w.heap.size, 9, none⟩ = some (.int .i64 e9) ∧ w'.cell? ⟨w.heap.size, 10, none⟩ = some (.slice A1 An1 Ac1) ∧ w'.cell? ⟨w.heap.size, 11, none⟩ = some (.slice (some ⟨ga, 0, none⟩) An2 Ac2) ∧ w'.cell? ⟨w.heap.size, 12, none⟩ = some (.slice (some ⟨gb, 0, none⟩) An3 Ac3)) Z1 from ⟨KZ1.out.cell 0 _ rfl, KZ1.out.cell 1 _ rfl, KZ1.out.cell 2 _ rfl, KZ1.out.cell 3 _ rfl, KZ1.out.cell 4 _ rfl, KZ1.out.cell 5 _ rfl, KZ1.out.cell 6 _ rfl, KZ1.out.cell 7 _ rfl, KZ1.out.cell 8 _ rfl, KZ1.out.cell 9 _ rfl, KZ1.out.cell 10 _ rfl, KZ1.out.cell 11 _ rfl, KZ1.out.cell 12 _ rfl⟩)
  refine tF 6 SZ1.out ?_
  have o3 := OZ1.out.m.cell j (by simp only; exact hjm)
  have f3 := OZ1.out.m.frozen j
  have OZ2 := Hid.mk (OZ1.out.setM (j := j) (z := e6 + (An0 : Int)))
  have KZ2 := Hid.mk (KZ1.out.setJ (j := j) (v := .int .i64 (e6 + (An0 : Int))) (by decide) OZ1.out.m)
  have RZ2 := Hid.mk (RZ1.out.setJ (j := j) (v := .int .i64 (e6 + (An0 : Int))) (by decide) OZ1.out.m)
  have BZ2 := Hid.mk (BZ1.out.setN HB3.out OZ1.out.m j (.int .i64 (e6 + (An0 : Int))))
  refine uNe 7 (fun K hK => ?_)
  go_simp
  refine hK.out _ _ (fun _ _ => ⟨KZ2.out.cell 0 _ rfl, KZ2.out.cell 1 _ rfl, KZ2.out.cell 2 _ rfl, KZ2.out.cell 3 _ rfl, KZ2.out.cell 4 _ rfl, KZ2.out.cell 5 _ rfl, KZ2.out.cell 6 _ rfl, KZ2.out.cell 7 _ rfl, KZ2.out.cell 8 _ rfl, KZ2.out.cell 9 _ rfl, KZ2.out.cell 10 _ rfl, KZ2.out.cell 11 _ rfl, KZ2.out.cell 12 _ rfl⟩) ?_
  clear hK K KZ1 RZ1 OZ1 BZ1 SZ1 SZ0 KZ0 o3 f3
  try simp only [Act.put, zQ1, zQ2, zQ3]
  refine until_done (by kernel_rfl) ?_ _
  generalize Z1.setCell ⟨gb, j, none⟩ (.int .i64 (e6 + (An0 : Int))) = Z2 at *
  try go_wp2_with fail
  refine wp_region_until (fun w' => w'.cell? ⟨w.heap.size, 0, none⟩ = some (.int .i64 (j : Int)) ∧ w'.cell? ⟨w.heap.size, 1, none⟩ = some (.int .i64 e1) ∧ w'.cell? ⟨w.heap.size, 2, none⟩ = some (.int .i64 e2) ∧ w'.cell? ⟨w.heap.size, 3, none⟩ = some (.int .i64 e3) ∧ w'.cell? ⟨w.heap.size, 4, none⟩ = some (.int .i64 e4) ∧ w'.cell? ⟨w.heap.size, 5, none⟩ = some (.int .i64 e5) ∧ w'.cell? ⟨w.heap.size, 6, none⟩ = some (.int .i64 e6) ∧ w'.cell? ⟨w.heap.size, 7, none⟩ = some (.int .i64 e7) ∧ w'.cell? ⟨w.heap.size, 8, none⟩ = some (.slice A0 An0 Ac0) ∧ w'.cell? ⟨w.heap.size, 9, none⟩ = some (.int .i64 e9) ∧ w'.cell? ⟨w.heap.size, 10, none⟩ = some (.slice A1 An1 Ac1) ∧ w'.cell? ⟨w.heap.size, 11, none⟩ = some (.slice (some ⟨ga, 0, none⟩) An2 Ac2) ∧ w'.cell? ⟨w.heap.size, 12, none⟩ = some (.slice (some ⟨gb, 0, none⟩) An3 Ac3)) (fun _ => false) 9 (by rfl) (by kernel_rfl) ?_
  have U2 : Hid (Below Z2.heap.size Z2 Z2.drew) := (Below.refl _ _).drew
  have HZ2 : Hid (base0 ≤ Z2.heap.size) := Nat.le_trans HBW.out BZ2.out.size
  generalize Z2.drew = Z3 at *
  have KZ3 := Hid.mk (KZ2.out.on U2.out KZ2.out.lt)
  have SZ3 := Hid.mk (show (fun w' => w'.cell? ⟨w.heap.size, 0, none⟩ = some (.int .i64 (j : Int)) ∧ w'.cell? ⟨w.heap.size, 1, none⟩ = some (.int .i64 e1) ∧ w'.cell? ⟨w.heap.size, 2, none⟩ = some (.int .i64 e2) ∧ w'.cell? ⟨w.heap.size, 3, none⟩ = some (.int .i64 e3) ∧ w'.cell? ⟨w.heap.size, 4, none⟩ = some (.int .i64 e4) ∧ w'.cell? ⟨w.heap.size, 5, none⟩ = some (.int .i64 e5) ∧ w'.cell? ⟨w.heap.size, 6, none⟩ = some (.int .i64 e6) ∧ w'.cell? ⟨w.heap.size, 7, none⟩ = some (.int .i64 e7) ∧ w'.cell? ⟨w.heap.size, 8, none⟩ = some (.slice A0 An0 Ac0) ∧ w'.cell? ⟨w.heap.size, 9, none⟩ = some (.int .i64 e9) ∧ w'.cell? ⟨w.heap.size, 10, none⟩ = some (.slice A1 An1 Ac1) ∧ w'.cell? ⟨w.heap.size, 11, none⟩ = some (.slice (some ⟨ga, 0, none⟩) An2 Ac2) ∧ w'.cell? ⟨w.heap.size, 12, none⟩ = some (.slice (some ⟨gb, 0, none⟩) An3 Ac3)) Z3 from ⟨KZ3.out.cell 0 _ rfl, KZ3.out.cell 1 _ rfl, KZ3.out.cell 2 _ rfl, KZ3.out.cell 3 _ rfl, KZ3.out.cell 4 _ rfl, KZ3.out.cell 5 _ rfl, KZ3.out.cell 6 _ rfl, KZ3.out.cell 7 _ rfl, KZ3.out.cell 8 _ rfl, KZ3.out.cell 9 _ rfl, KZ3.out.cell 10 _ rfl, KZ3.out.cell 11 _ rfl, KZ3.out.cell 12 _ rfl⟩)
  refine tF 0 SZ3.out ?_
  refine tF 1 SZ3.out ?_
  refine tF 2 SZ3.out ?_
  refine tF 3 SZ3.out ?_
  refine tF 4 SZ3.out ?_
  refine uNe 5 (fun K hK => ?_)
  go_simp
  refine (cL Z3).mono ?_
  rintro e Z4 ⟨rfl, hb⟩
  have U3 : Hid (Below Z2.heap.size Z2 Z4) := U2.out.trans (hb.mono U2.out.size)
  have KZ4 := Hid.mk (KZ2.out.on U3.out KZ2.out.lt)
  have RZ4 := Hid.mk (RZ2.out.on U3.out RZ2.out.lt)
  have OZ4 := Hid.mk (OZ2.out.on U3.out)
  have BZ4 : Hid (BelowK base0 w Z4) := BZ2.out.andB U3.out HZ2.out
  clear hb
  refine hK.out _ _ (fun _ _ => ⟨KZ4.out.cell 0 _ rfl, KZ4.out.cell 1 _ rfl, KZ4.out.cell 2 _ rfl, KZ4.out.cell 3 _ rfl, KZ4.out.cell 4 _ rfl, KZ4.out.cell 5 _ rfl, KZ4.out.cell 6 _ rfl, KZ4.out.cell 7 _ rfl, KZ4.out.cell 8 _ rfl, KZ4.out.cell 9 _ rfl, KZ4.out.cell 10 _ rfl, KZ4.out.cell 11 _ rfl, KZ4.out.cell 12 _ rfl⟩) ?_
  clear hK K
  try simp only [Act.put, zQ1, zQ2, zQ3]
  refine pF 6 ?_
  have SZ4 := Hid.mk (show (fun w' => w'.cell? ⟨w.heap.size, 0, none⟩ = some (.int .i64 (j : Int)) ∧ w'.cell? ⟨w.heap.size, 1, none⟩ = some (.int .i64 e1) ∧ w'.cell? ⟨w.heap.size, 2, none⟩ = some (.int .i64 e2) ∧ w'.cell? ⟨w.heap.size, 3, none⟩ = some (.int .i64 e3) ∧ w'.cell? ⟨w.heap.size, 4, none⟩ = some (.int .i64 e4) ∧ w'.cell? ⟨w.heap.size, 5, none⟩ = some (.int .i64 e5) ∧ w'.cell? ⟨w.heap.size, 6, none⟩ = some (.int .i64 e6) ∧ w'.cell? ⟨w.heap.size, 7, none⟩ = some (.int .i64 e7) ∧ w'.cell? ⟨w.heap.size, 8, none⟩ = some (.slice A0 An0 Ac0) ∧ w'.cell? ⟨w.heap.size, 9, none⟩ = some (.int .i64 e9) ∧ w'.cell? ⟨w.heap.size, 10, none⟩ = some (.slice A1 An1 Ac1) ∧ w'.cell? ⟨w.heap.size, 11, none⟩ = some (.slice (some ⟨ga, 0, none⟩) An2 Ac2) ∧ w'.cell? ⟨w.heap.size, 12, none⟩ = some (.slice (some ⟨gb, 0, none⟩) An3 Ac3)) Z4 from ⟨KZ4.out.cell 0 _ rfl, KZ4.out.cell 1 _ rfl, KZ4.out.cell 2 _ rfl, KZ4.out.cell 3 _ rfl, KZ4.out.cell 4 _ rfl, KZ4.out.cell 5 _ rfl, KZ4.out.cell 6 _ rfl, KZ4.out.cell 7 _ rfl, KZ4.out.cell 8 _ rfl, KZ4.out.cell 9 _ rfl, KZ4.out.cell 10 _ rfl, KZ4.out.cell 11 _ rfl, KZ4.out.cell 12 _ rfl⟩)
  refine tF 7 SZ4.out ?_
  have o2 := OZ4.out.n.cell j (by simp only; exact hjn)
  have f2 := OZ4.out.n.frozen j
  have OZ5 := Hid.mk ((OZ4.out.setN (j := j) (z := e6 + (An0 : Int) + 1)).as (y := matX ⟨(j : Int), e1, e2, e3, e4, e5, e6, e7, el, e9, ey, en, em⟩ j (e6 + (An0 : Int))) rfl rfl rfl rfl)
  have KZ5 := Hid.mk (KZ4.out.setJ (j := j) (v := .int .i64 (e6 + (An0 : Int) + 1)) (by decide) OZ4.out.n)
  have RZ5 := Hid.mk (RZ4.out.setJ (j := j) (v := .int .i64 (e6 + (An0 : Int) + 1)) (by decide) OZ4.out.n)
  have BZ5 := Hid.mk (BZ4.out.setN HB2.out OZ4.out.n j (.int .i64 (e6 + (An0 : Int) + 1)))
  refine uNe 8 (fun K hK => ?_)
  go_simp
  refine hK.out _ _ (fun _ _ => ⟨KZ5.out.cell 0 _ rfl, KZ5.out.cell 1 _ rfl, KZ5.out.cell 2 _ rfl, KZ5.out.cell 3 _ rfl, KZ5.out.cell 4 _ rfl, KZ5.out.cell 5 _ rfl, KZ5.out.cell 6 _ rfl, KZ5.out.cell 7 _ rfl, KZ5.out.cell 8 _ rfl, KZ5.out.cell 9 _ rfl, KZ5.out.cell 10 _ rfl, KZ5.out.cell 11 _ rfl, KZ5.out.cell 12 _ rfl⟩) ?_
  clear hK K KZ4 RZ4 OZ4 BZ4 SZ4 SZ3 KZ3 o2 f2 KZ2 RZ2 OZ2 BZ2 HZ2 U2 U3
  try simp only [Act.put, zQ1, zQ2, zQ3]
  refine until_done (by kernel_rfl) ?_ _
  generalize Z4.setCell ⟨ga, j, none⟩ (.int .i64 (e6 + (An0 : Int) + 1)) = Z5 at *
  have HZ5 : Hid (base0 ≤ Z5.heap.size) := Nat.le_trans HBW.out BZ5.out.size
  have cC := countVS (matX ⟨(j : Int), e1, e2, e3, e4, e5, e6, e7, el, e9, ey, en, em⟩ j (e6 + (An0 : Int))) A0 An0 Ac0 A1 An1 Ac1 (some ⟨ga, 0, none⟩) An2 Ac2 (some ⟨gb, 0, none⟩) An3 Ac3 Z5 base0 OZ5.out HMx.out
  obtain ⟨cm, hcm⟩ : ∃ cm, cm = (countX (matX ⟨(j : Int), e1, e2, e3, e4, e5, e6, e7, el, e9, ey, en, em⟩ j (e6 + (An0 : Int)))).commit := ⟨_, rfl⟩
  have HVC : Hid (vCo (countX (matX ⟨(j : Int), e1, e2, e3, e4, e5, e6, e7, el, e9, ey, en, em⟩ j (e6 + (An0 : Int)))) (.slice A0 An0 Ac0) (.slice A1 An1 Ac1) (.slice (some ⟨ga, 0, none⟩) An2 Ac2) (.slice (some ⟨gb, 0, none⟩) An3 Ac3) = .agg #[.int .i64 (j : Int), .int .i64 e1, .int .i64 e2, .int .i64 e3, .int .i64 e4, .int .i64 e5, .int .i64 e6, .int .i64 e7, .slice A0 An0 Ac0, .int .i64 cm, .slice A1 An1 Ac1, .slice (some ⟨ga, 0, none⟩) An2 Ac2, .slice (some ⟨gb, 0, none⟩) An3 Ac3]) := by unfold Hid; rw [hcm]; rfl
  have HVD : Hid (vCo (matX ⟨(j : Int), e1, e2, e3, e4, e5, e6, e7, el, e9, ey, en, em⟩ j (e6 + (An0 : Int))) (.slice A0 An0 Ac0) (.slice A1 An1 Ac1) (.slice (some ⟨ga, 0, none⟩) An2 Ac2) (.slice (some ⟨gb, 0, none⟩) An3 Ac3) = .agg #[.int .i64 (j : Int), .int .i64 e1, .int .i64 e2, .int .i64 e3, .int .i64 e4, .int .i64 e5, .int .i64 e6, .int .i64 e7, .slice A0 An0 Ac0, .int .i64 e9, .slice A1 An1 Ac1, .slice (some ⟨ga, 0, none⟩) An2 Ac2, .slice (some ⟨gb, 0, none⟩) An3 Ac3]) := rfl
  rw [HVC.out, HVD.out] at cC
  have OZf : Hid (CoRows Z5 base0 (putC ⟨ci, cp, ct, cv, cr, cd, cb, cbt, lg, cc, ys, ns, ms⟩ da) (.slice A0 An0 Ac0) (.slice A1 An1 Ac1) (.slice (some ⟨ga, 0, none⟩) An2 Ac2) (.slice (some ⟨gb, 0, none⟩) An3 Ac3)) := by unfold Hid; rw [HPy.out]; exact OZ5.out.as rfl rfl rfl rfl
  clear hcm
  have y0 := KZ5.out.cell 0 _ rfl
  have y1 := KZ5.out.cell 1 _ rfl
  have y2 := KZ5.out.cell 2 _ rfl
  have y3 := KZ5.out.cell 3 _ rfl
  have y4 := KZ5.out.cell 4 _ rfl
  have y5 := KZ5.out.cell 5 _ rfl
  have y6 := KZ5.out.cell 6 _ rfl
  have y7 := KZ5.out.cell 7 _ rfl
  have y8 := KZ5.out.cell 8 _ rfl
  have y9 := KZ5.out.cell 9 _ rfl
  have y10 := KZ5.out.cell 10 _ rfl
  have y11 := KZ5.out.cell 11 _ rfl
  have y12 := KZ5.out.cell 12 _ rfl
  try go_wp2_with fail
  refine cC.mono ?_
  rintro e Z6 ⟨rfl, hb⟩
  have RZ6 := Hid.mk (RZ5.out.on hb RZ5.out.lt)
  have OZ6 := Hid.mk (OZf.out.on hb)
  have BZ6 : Hid (BelowK base0 w Z6) := BZ5.out.andB hb HZ5.out
  clear hb cC y0 y1 y2 y3 y4 y5 y6 y7 y8 y9 y10 y11 y12 KZ5 RZ5 OZ5 OZf BZ5
  obtain ⟨⟨r0, g0⟩, ⟨r1, g1⟩, ⟨r2, g2⟩, ⟨r3, g3⟩, ⟨r4, g4⟩, ⟨r5, g5⟩, ⟨r6, g6⟩, ⟨r7, g7⟩, ⟨r8, g8⟩, ⟨r9, g9⟩, ⟨r10, g10⟩, ⟨r11, g11⟩, ⟨r12, g12⟩, z0, z1, z2, z3, z4, z5, z6, z7, z8, z9, z10, z11, z12⟩ := resC13 (x0 := .int .i64 (j : Int)) (x1 := .int .i64 e1) (x2 := .int .i64 e2) (x3 := .int .i64 e3) (x4 := .int .i64 e4) (x5 := .int .i64 e5) (x6 := .int .i64 e6) (x7 := .int .i64 e7) (x8 := .slice A0 An0 Ac0) (x9 := .int .i64 cm) (x10 := .slice A1 An1 Ac1) (x11 := .slice (some ⟨ga, 0, none⟩) An2 Ac2) (x12 := .slice (some ⟨gb, 0, none⟩) An3 Ac3) RZ6.out
  have FB := Hid.mk (belowK13 BZ6.out HBW.out (show w.heap.size ≤ w.heap.size + 1 by omega) (.int .i64 (j : Int)) (.int .i64 e1) (.int .i64 e2) (.int .i64 e3) (.int .i64 e4) (.int .i64 e5) (.int .i64 e6) (.int .i64 e7) (.slice A0 An0 Ac0) (.int .i64 cm) (.slice A1 An1 Ac1) (.slice (some ⟨ga, 0, none⟩) An2 Ac2) (.slice (some ⟨gb, 0, none⟩) An3 Ac3))
  have FO : Hid (CoRows (((((((((((((Z6.setCell ⟨w.heap.size + 1, 0, none⟩ (.int .i64 (j : Int))).setCell ⟨w.heap.size + 1, 1, none⟩ (.int .i64 e1)).setCell ⟨w.heap.size + 1, 2, none⟩ (.int .i64 e2)).setCell ⟨w.heap.size + 1, 3, none⟩ (.int .i64 e3)).setCell ⟨w.heap.size + 1, 4, none⟩ (.int .i64 e4)).setCell ⟨w.heap.size + 1, 5, none⟩ (.int .i64 e5)).setCell ⟨w.heap.size + 1, 6, none⟩ (.int .i64 e6)).setCell ⟨w.heap.size + 1, 7, none⟩ (.int .i64 e7)).setCell ⟨w.heap.size + 1, 8, none⟩ (.slice A0 An0 Ac0)).setCell ⟨w.heap.size + 1, 9, none⟩ (.int .i64 cm)).setCell ⟨w.heap.size + 1, 10, none⟩ (.slice A1 An1 Ac1)).setCell ⟨w.heap.size + 1, 11, none⟩ (.slice (some ⟨ga, 0, none⟩) An2 Ac2)).setCell ⟨w.heap.size + 1, 12, none⟩ (.slice (some ⟨gb, 0, none⟩) An3 Ac3)) base0 (putC ⟨ci, cp, ct, cv, cr, cd, cb, cbt, lg, cc, ys, ns, ms⟩ da) (.slice A0 An0 Ac0) (.slice A1 An1 Ac1) (.slice (some ⟨ga, 0, none⟩) An2 Ac2) (.slice (some ⟨gb, 0, none⟩) An3 Ac3)) := rowsB13 OZ6.out RZ6.out (.int .i64 (j : Int)) (.int .i64 e1) (.int .i64 e2) (.int .i64 e3) (.int .i64 e4) (.int .i64 e5) (.int .i64 e6) (.int .i64 e7) (.slice A0 An0 Ac0) (.int .i64 cm) (.slice A1 An1 Ac1) (.slice (some ⟨ga, 0, none⟩) An2 Ac2) (.slice (some ⟨gb, 0, none⟩) An3 Ac3)
  clear RZ6 OZ6 BZ6
  go_wp2_with fail
  refine bodyPost_ret (v := .agg #[.int .i64 (j : Int), .int .i64 e1, .int .i64 e2, .int .i64 e3, .int .i64 e4, .int .i64 e5, .int .i64 e6, .int .i64 e7, .slice A0 An0 Ac0, .int .i64 cm, .slice A1 An1 Ac1, .slice (some ⟨ga, 0, none⟩) An2 Ac2, .slice (some ⟨gb, 0, none⟩) An3 Ac3]) (by simp [results, go_sem, z0, z1, z2, z3, z4, z5, z6, z7, z8, z9, z10, z11, z12]) rfl ⟨⟨.slice A0 An0 Ac0, ?_, FO.out⟩, FB.out⟩
  rw [HPy.out, HVC.out]
 have z2 : decide (cb + (An0 : Int) < 100000) = true := decide_eq_true hb
 have HX : Hid (addX ⟨ci, cp, ct, cv, cr, cd, cb, cbt, lg, cc, ys, ns, ms⟩ da = ⟨ci, cp, ct, cv, cr, cd, cb, cbt, (lg ++ [⟨ct, da⟩]), cc, ys, ns, ms⟩) := addX_yes (HRm.out.2 ⟨ha, hb⟩)
 clear ha hb HRm
 go_enter Try.func43, Try.ntmps43
 go_wp2_with fail
 rw [← hX0]
 clear hX0 k0 k1 k2 k3 k4 k5 k6 k7 k8 k9 k10 k11 k12
 refine (cLl X0).mono ?_
 rintro e X1 ⟨rfl, hb⟩
 have V1 : Hid (Below w.heap.size w X1) := B0.out.trans (hb.mono B0.out.size)
 have K1 := Hid.mk (K0.out.on hb K0.out.lt)
 have R1 := Hid.mk (R0.out.on hb R0.out.lt)
 have HR1 := Hid.mk (HR.out.on V1.out)
 have HO1 := Hid.mk (HO.out.on V1.out)
 have HB1 : Hid (base0 ≤ X1.heap.size) := Nat.le_trans HBW.out V1.out.size
 clear hb cLl K0 R0 B0
 have k8 := K1.out.cell 8 _ rfl
 have k2 := K1.out.cell 2 _ rfl
 go_wp2_with (at_builtin; refine wpList_append_row rfl (.tmp 15) (.tmp 20) 27 71 (.agg #[.int .i64 0, .string ⟨#[]⟩]) 2 24 rfl Try.underlying27 Try.infoEnt rfl (by omega) base0 _ (entR lg) rfl HO1.out [.int .i64 ct, .string da] rfl (ent_cellsC _ _) rfl HLe.out (by omega) HB1.out ?_; intro v' X2 hO2 hb2 hk2 _; obtain ⟨G0, Gn0, Gc0, rfl⟩ := hO2.shape; refine Shut.out ?_)
 have K2 : Hid (Blk X2 w.heap.size #[.int .i64 ci, .int .i64 cp, .int .i64 ct, .int .i64 cv, .int .i64 cr, .int .i64 cd, .int .i64 cb, .int .i64 cbt, .slice A0 An0 Ac0, .int .i64 cc, .slice A1 An1 Ac1, .slice A2 An2 Ac2, .slice A3 An3 Ac3] 29) := ((hk2 _ K1.out.lt (HO1.out.notBlk K1.out (by decide))).trans K1.out)
 have R2 : Hid (Blk X2 (w.heap.size + 1) #[.int .i64 0, .int .i64 0, .int .i64 0, .int .i64 0, .int .i64 0, .int .i64 0, .int .i64 0, .int .i64 0, .slice none 0 0, .int .i64 0, .slice none 0 0, .slice none 0 0, .slice none 0 0] 29) := ((hk2 _ R1.out.lt (HO1.out.notBlk R1.out (by decide))).trans R1.out)
 have hnn : ∀ (v : Value) (l : List Int), Nums X1 base0 v l → Nums X2 base0 v l := fun v l hv => hv.kept fun g hg e => by
  obtain ⟨cs, fz, e1⟩ := hv.kind e
  exact hk2 g hg (HO1.out.notBlk e1 (by decide))
 have O2 : Hid (Owns X2 base0 71 2 (.slice G0 Gn0 Gc0) (entR (lg ++ [⟨ct, da⟩]))) := by unfold Hid; rw [entR_append]; exact hO2
 have HR2 : Hid (CoRows X2 base0 ⟨ci, cp, ct, cv, cr, cd, cb, cbt, (lg ++ [⟨ct, da⟩]), cc, ys, ns, ms⟩ (.slice G0 Gn0 Gc0) (.slice A1 An1 Ac1) (.slice A2 An2 Ac2) (.slice A3 An3 Ac3)) := ⟨O2.out.toF, hnn _ _ HR1.out.y, hnn _ _ HR1.out.n, hnn _ _ HR1.out.m, HR1.out.yn, HR1.out.ym, HR1.out.nm⟩
 have B2 : Hid (BelowK base0 w X2) := BelowK.app V1.out HBW.out hb2 hk2 HO1.out
 have f8 := K2.out.free 8
 have o8 := K2.out.cell 8 _ rfl
 clear hO2 hb2 hk2 hnn k8 k2 K1 R1 HR1 HO1 O2
 unfold Shut
 obtain ⟨X3, hX3⟩ : ∃ X3, X3 = X2.setCell ⟨w.heap.size, 8, none⟩ (.slice G0 Gn0 Gc0) := ⟨_, rfl⟩
 have KW0 : Hid (Blk X3 w.heap.size #[.int .i64 ci, .int .i64 cp, .int .i64 ct, .int .i64 cv, .int .i64 cr, .int .i64 cd, .int .i64 cb, .int .i64 cbt, .slice G0 Gn0 Gc0, .int .i64 cc, .slice A1 An1 Ac1, .slice A2 An2 Ac2, .slice A3 An3 Ac3] 29) := by unfold Hid; rw [hX3]; exact K2.out.set 8 _
 have RW : Hid (Blk X3 (w.heap.size + 1) #[.int .i64 0, .int .i64 0, .int .i64 0, .int .i64 0, .int .i64 0, .int .i64 0, .int .i64 0, .int .i64 0, .slice none 0 0, .int .i64 0, .slice none 0 0, .slice none 0 0, .slice none 0 0] 29) := by unfold Hid; rw [hX3]; exact R2.out.other (by omega) 8 _
 have OW0 : Hid (CoRows X3 base0 ⟨ci, cp, ct, cv, cr, cd, cb, cbt, (lg ++ [⟨ct, da⟩]), cc, ys, ns, ms⟩ (.slice G0 Gn0 Gc0) (.slice A1 An1 Ac1) (.slice A2 An2 Ac2) (.slice A3 An3 Ac3)) := by unfold Hid; rw [hX3]; exact HR2.out.atB K2.out 8 _
 have BW : Hid (BelowK base0 w X3) := by unfold Hid; rw [hX3]; exact B2.out.setK HBW.out (Nat.le_refl _) _ _
 go_upto_region 3 with fail
 rw [← hX3]
 clear hX3 f8 o8 K2 R2 HR2 B2 HR HO
 obtain ⟨xc, hxc⟩ : ∃ xc, xc = addX ⟨ci, cp, ct, cv, cr, cd, cb, cbt, lg, cc, ys, ns, ms⟩ da := ⟨_, rfl⟩
 have OW00 : Hid (CoRows X3 base0 xc (.slice G0 Gn0 Gc0) (.slice A1 An1 Ac1) (.slice A2 An2 Ac2) (.slice A3 An3 Ac3)) := by unfold Hid; rw [hxc, HX.out]; exact OW0.out
 have KW00 : Hid (Blk X3 w.heap.size #[.int .i64 xc.id, .int .i64 xc.peers, .int .i64 xc.term, .int .i64 xc.vote, .int .i64 xc.role, .int .i64 xc.lead, .int .i64 xc.base, .int .i64 xc.bterm, .slice G0 Gn0 Gc0, .int .i64 xc.commit, .slice A1 An1 Ac1, .slice A2 An2 Ac2, .slice A3 An3 Ac3] 29) := by unfold Hid; rw [hxc, HX.out]; exact KW0.out
 rw [← hxc] at HSa HPx0
 have HSx := HSa
 have HPx := HPx0
 clear HX hxc HSo HSa HPx0 OW0 KW0
 have OW0 := OW00
 have KW0 := KW00
 clear OW00 KW00
 obtain ⟨e0, e1, e2, e3, e4, e5, e6, e7, el, e9, ey, en, em⟩ := xc
 have OW := OW0
 have KW := KW0
 clear OW0 KW0
 simp only at OW KW
 obtain ⟨ga, e2', hg2b, hg2⟩ := OW.out.n.block (by have h1 := HSx.out.l; have h2 := HSx.out.p0; simp only at h1 h2 ⊢; omega)
 obtain ⟨gb, e3', hg3b, hg3⟩ := OW.out.m.block (by have h1 := HSx.out.m; have h2 := HSx.out.p0; simp only at h1 h2 ⊢; omega)
 subst e2'
 subst e3'
 obtain ⟨j, hj⟩ : ∃ j : Nat, e0 = (j : Int) := ⟨e0.toNat, by have h1 := HSx.out.i0; simp only at h1; omega⟩
 subst hj
 have hgl : Gn0 = el.length := by
  obtain ⟨A', c', e⟩ := OW.out.l.shape
  rw [entR_length] at e
  cases e
  rfl
 have hb0 := HSx.out.b0
 have hb1 := HSx.out.b1
 have hn6 := HSx.out.n
 simp only at hb0 hb1 hn6
 rw [← hgl] at hn6
 have cL := fun wx => lastS (j : Int) e1 e2 e3 e4 e5 e6 e7 e9 G0 Gn0 Gc0 (.slice A1 An1 Ac1) (.slice (some ⟨ga, 0, none⟩) An2 Ac2) (.slice (some ⟨gb, 0, none⟩) An3 Ac3) wx (by omega) (by omega) (by omega)
 have HLs : Hid (cLast ⟨(j : Int), e1, e2, e3, e4, e5, e6, e7, el, e9, ey, en, em⟩ = e6 + (Gn0 : Int)) := by unfold Hid cLast; simp only; rw [hgl]
 have HMx : Hid (SendOk (matX ⟨(j : Int), e1, e2, e3, e4, e5, e6, e7, el, e9, ey, en, em⟩ j (e6 + (Gn0 : Int)))) := by
  have := HSx.out.mat
  rw [HLs.out] at this
  exact this
 have HPy : Hid (putC ⟨ci, cp, ct, cv, cr, cd, cb, cbt, lg, cc, ys, ns, ms⟩ da = countX (matX ⟨(j : Int), e1, e2, e3, e4, e5, e6, e7, el, e9, ey, en, em⟩ j (e6 + (Gn0 : Int)))) := by
  unfold Hid
  rw [HPx.out]
  unfold ownX
  rw [HLs.out]
  rfl
 have hjn : j < en.length := by have h1 := HSx.out.l; have h2 := HSx.out.i1; simp only at h1 h2; omega
 have hjm : j < em.length := by have h1 := HSx.out.m; have h2 := HSx.out.i1; simp only at h1 h2; omega
 have q2 : (j : Int) < (An2 : Int) := by have h0 : An2 = en.length := OW.out.n.len; omega
 have q3 : (j : Int) < (An3 : Int) := by have h0 : An3 = em.length := OW.out.m.len; omega
 have wz : IntKind.i64.wrap (e6 + (Gn0 : Int) + 1) = e6 + (Gn0 : Int) + 1 := by rw [IntKind.wrap_i64]; omega
 have HB2 : Hid (base0 ≤ ga) := hg2b
 have HB3 : Hid (base0 ≤ gb) := hg3b
 clear hgl hb0 hb1 hn6
 go_wp2_with fail
 refine wp_region_until (fun w' => w'.cell? ⟨w.heap.size, 0, none⟩ = some (.int .i64 (j : Int)) ∧ w'.cell? ⟨w.heap.size, 1, none⟩ = some (.int .i64 e1) ∧ w'.cell? ⟨w.heap.size, 2, none⟩ = some (.int .i64 e2) ∧ w'.cell? ⟨w.heap.size, 3, none⟩ = some (.int .i64 e3) ∧ w'.cell? ⟨w.heap.size, 4, none⟩ = some (.int .i64 e4) ∧ w'.cell? ⟨w.heap.size, 5, none⟩ = some (.int .i64 e5) ∧ w'.cell? ⟨w.heap.size, 6, none⟩ = some (.int .i64 e6) ∧ w'.cell? ⟨w.heap.size, 7, none⟩ = some (.int .i64 e7) ∧ w'.cell? ⟨w.heap.size, 8, none⟩ = some (.slice G0 Gn0 Gc0) ∧ w'.cell? ⟨w.heap.size, 9, none⟩ = some (.int .i64 e9) ∧ w'.cell? ⟨w.heap.size, 10, none⟩ = some (.slice A1 An1 Ac1) ∧ w'.cell? ⟨w.heap.size, 11, none⟩ = some (.slice (some ⟨ga, 0, none⟩) An2 Ac2) ∧ w'.cell? ⟨w.heap.size, 12, none⟩ = some (.slice (some ⟨gb, 0, none⟩) An3 Ac3)) (fun _ => false) 8 (by rfl) (by kernel_rfl) ?_
 have U0 : Hid (Below X3.heap.size X3 X3.drew) := (Below.refl _ _).drew
 generalize X3.drew = Z0 at *
 have KZ0 := Hid.mk (KW.out.on U0.out KW.out.lt)
 have SZ0 := Hid.mk (show (fun w' => w'.cell? ⟨w.heap.size, 0, none⟩ = some (.int .i64 (j : Int)) ∧ w'.cell? ⟨w.heap.size, 1, none⟩ = some (.int .i64 e1) ∧ w'.cell? ⟨w.heap.size, 2, none⟩ = some (.int .i64 e2) ∧ w'.cell? ⟨w.heap.size, 3, none⟩ = some (.int .i64 e3) ∧ w'.cell? ⟨w.heap.size, 4, none⟩ = some (.int .i64 e4) ∧ w'.cell? ⟨w.heap.size, 5, none⟩ = some (.int .i64 e5) ∧ w'.cell? ⟨w.heap.size, 6, none⟩ = some (.int .i64 e6) ∧ w'.cell? ⟨w.heap.size, 7, none⟩ = some (.int .i64 e7) ∧ w'.cell? ⟨w.heap.size, 8, none⟩ = some (.slice G0 Gn0 Gc0) ∧ w'.cell? ⟨w.heap.size, 9, none⟩ = some (.int .i64 e9) ∧ w'.cell? ⟨w.heap.size, 10, none⟩ = some (.slice A1 An1 Ac1) ∧ w'.cell? ⟨w.heap.size, 11, none⟩ = some (.slice (some ⟨ga, 0, none⟩) An2 Ac2) ∧ w'.cell? ⟨w.heap.size, 12, none⟩ = some (.slice (some ⟨gb, 0, none⟩) An3 Ac3)) Z0 from ⟨KZ0.out.cell 0 _ rfl, KZ0.out.cell 1 _ rfl, KZ0.out.cell 2 _ rfl, KZ0.out.cell 3 _ rfl, KZ0.out.cell 4 _ rfl, KZ0.out.cell 5 _ rfl, KZ0.out.cell 6 _ rfl, KZ0.out.cell 7 _ rfl, KZ0.out.cell 8 _ rfl, KZ0.out.cell 9 _ rfl, KZ0.out.cell 10 _ rfl, KZ0.out.cell 11 _ rfl, KZ0.out.cell 12 _ rfl⟩)
 refine tF 0 SZ0.out ?_
 refine tF 1 SZ0.out ?_
 refine tF 2 SZ0.out ?_
 refine tF 3 SZ0.out ?_
 refine tF 4 SZ0.out ?_
 refine uNe 5 (fun K hK => ?_)
 go_simp
 refine (cL Z0).mono ?_
 rintro e Z1 ⟨rfl, hb⟩
 have U1 : Hid (Below X3.heap.size X3 Z1) := U0.out.trans (hb.mono U0.out.size)
 have KZ1 := Hid.mk (KW.out.on U1.out KW.out.lt)
 have RZ1 := Hid.mk (RW.out.on U1.out RW.out.lt)
 have OZ1 := Hid.mk (OW.out.on U1.out)
 have BZ1 : Hid (BelowK base0 w Z1) := BW.out.andB U1.out (Nat.le_trans HBW.out BW.out.size)
 clear hb
 refine hK.out _ _ (fun _ _ => ⟨KZ1.out.cell 0 _ rfl, KZ1.out.cell 1 _ rfl, KZ1.out.cell 2 _ rfl, KZ1.out.cell 3 _ rfl, KZ1.out.cell 4 _ rfl, KZ1.out.cell 5 _ rfl, KZ1.out.cell 6 _ rfl, KZ1.out.cell 7 _ rfl, KZ1.out.cell 8 _ rfl, KZ1.out.cell 9 _ rfl, KZ1.out.cell 10 _ rfl, KZ1.out.cell 11 _ rfl, KZ1.out.cell 12 _ rfl⟩) ?_
 clear hK K
 try simp only [Act.put, zQ1, zQ2, zQ3]
 have SZ1 := Hid.mk (show (fun w' => w'.cell? ⟨w.heap.size, 0, none⟩ = some (.int .i64 (j : Int)) ∧ w'.cell? ⟨w.heap.size, 1, none⟩ = some (.int .i64 e1) ∧ w'.cell? ⟨w.heap.size, 2, none⟩ = some (.int .i64 e2) ∧ w'.cell? ⟨w.heap.size, 3, none⟩ = some (.int .i64 e3) ∧ w'.cell? ⟨w.heap.size, 4, none⟩ = some (.int .i64 e4) ∧ w'.cell? ⟨w.heap.size, 5, none⟩ = some (.int .i64 e5) ∧ w'.cell? ⟨w.heap.size, 6, none⟩ = some (.int .i64 e6) ∧ w'.cell? ⟨w.heap.size, 7, none⟩ = some (.int .i64 e7) ∧ w'.cell? ⟨w.heap.size, 8, none⟩ = some (.slice G0 Gn0 Gc0) ∧ w'.cell? ⟨w.heap.size, 9, none⟩ = some (.int .i64 e9) ∧ w'.cell? ⟨w.heap.size, 10, none⟩ = some (.slice A1 An1 Ac1) ∧ w'.cell? ⟨w.heap.size, 11, none⟩ = some (.slice (some ⟨ga, 0, none⟩) An2 Ac2) ∧ w'.cell? ⟨w.heap.size, 12, none⟩ = some (.slice (some ⟨gb, 0, none⟩) An3 Ac3)) Z1 from ⟨KZ1.out.cell 0 _ rfl, KZ1.out.cell 1 _ rfl, KZ1.out.cell 2 _ rfl, KZ1.out.cell 3 _ rfl, KZ1.out.cell 4 _ rfl, KZ1.out.cell 5 _ rfl, KZ1.out.cell 6 _ rfl, KZ1.out.cell 7 _ rfl, KZ1.out.cell 8 _ rfl, KZ1.out.cell 9 _ rfl, KZ1.out.cell 10 _ rfl, KZ1.out.cell 11 _ rfl, KZ1.out.cell 12 _ rfl⟩)
 refine tF 6 SZ1.out ?_
 have o3 := OZ1.out.m.cell j (by simp only; exact hjm)
 have f3 := OZ1.out.m.frozen j
 have OZ2 := Hid.mk (OZ1.out.setM (j := j) (z := e6 + (Gn0 : Int)))
 have KZ2 := Hid.mk (KZ1.out.setJ (j := j) (v := .int .i64 (e6 + (Gn0 : Int))) (by decide) OZ1.out.m)
 have RZ2 := Hid.mk (RZ1.out.setJ (j := j) (v := .int .i64 (e6 + (Gn0 : Int))) (by decide) OZ1.out.m)
 have BZ2 := Hid.mk (BZ1.out.setN HB3.out OZ1.out.m j (.int .i64 (e6 + (Gn0 : Int))))
 refine uNe 7 (fun K hK => ?_)
 go_simp
 refine hK.out _ _ (fun _ _ => ⟨KZ2.out.cell 0 _ rfl, KZ2.out.cell 1 _ rfl, KZ2.out.cell 2 _ rfl, KZ2.out.cell 3 _ rfl, KZ2.out.cell 4 _ rfl, KZ2.out.cell 5 _ rfl, KZ2.out.cell 6 _ rfl, KZ2.out.cell 7 _ rfl, KZ2.out.cell 8 _ rfl, KZ2.out.cell 9 _ rfl, KZ2.out.cell 10 _ rfl, KZ2.out.cell 11 _ rfl, KZ2.out.cell 12 _ rfl⟩) ?_
 clear hK K KZ1 RZ1 OZ1 BZ1 SZ1 SZ0 KZ0 o3 f3
 try simp only [Act.put, zQ1, zQ2, zQ3]
 refine until_done (by kernel_rfl) ?_ _
 generalize Z1.setCell ⟨gb, j, none⟩ (.int .i64 (e6 + (Gn0 : Int))) = Z2 at *
 try go_wp2_with fail
 refine wp_region_until (fun w' => w'.cell? ⟨w.heap.size, 0, none⟩ = some (.int .i64 (j : Int)) ∧ w'.cell? ⟨w.heap.size, 1, none⟩ = some (.int .i64 e1) ∧ w'.cell? ⟨w.heap.size, 2, none⟩ = some (.int .i64 e2) ∧ w'.cell? ⟨w.heap.size, 3, none⟩ = some (.int .i64 e3) ∧ w'.cell? ⟨w.heap.size, 4, none⟩ = some (.int .i64 e4) ∧ w'.cell? ⟨w.heap.size, 5, none⟩ = some (.int .i64 e5) ∧ w'.cell? ⟨w.heap.size, 6, none⟩ = some (.int .i64 e6) ∧ w'.cell? ⟨w.heap.size, 7, none⟩ = some (.int .i64 e7) ∧ w'.cell? ⟨w.heap.size, 8, none⟩ = some (.slice G0 Gn0 Gc0) ∧ w'.cell? ⟨w.heap.size, 9, none⟩ = some (.int .i64 e9) ∧ w'.cell? ⟨w.heap.size, 10, none⟩ = some (.slice A1 An1 Ac1) ∧ w'.cell? ⟨w.heap.size, 11, none⟩ = some (.slice (some ⟨ga, 0, none⟩) An2 Ac2) ∧ w'.cell? ⟨w.heap.size, 12, none⟩ = some (.slice (some ⟨gb, 0, none⟩) An3 Ac3)) (fun _ => false) 9 (by rfl) (by kernel_rfl) ?_
 have U2 : Hid (Below Z2.heap.size Z2 Z2.drew) := (Below.refl _ _).drew
 have HZ2 : Hid (base0 ≤ Z2.heap.size) := Nat.le_trans HBW.out BZ2.out.size
 generalize Z2.drew = Z3 at *
 have KZ3 := Hid.mk (KZ2.out.on U2.out KZ2.out.lt)
 have SZ3 := Hid.mk (show (fun w' => w'.cell? ⟨w.heap.size, 0, none⟩ = some (.int .i64 (j : Int)) ∧ w'.cell? ⟨w.heap.size, 1, none⟩ = some (.int .i64 e1) ∧ w'.cell? ⟨w.heap.size, 2, none⟩ = some (.int .i64 e2) ∧ w'.cell? ⟨w.heap.size, 3, none⟩ = some (.int .i64 e3) ∧ w'.cell? ⟨w.heap.size, 4, none⟩ = some (.int .i64 e4) ∧ w'.cell? ⟨w.heap.size, 5, none⟩ = some (.int .i64 e5) ∧ w'.cell? ⟨w.heap.size, 6, none⟩ = some (.int .i64 e6) ∧ w'.cell? ⟨w.heap.size, 7, none⟩ = some (.int .i64 e7) ∧ w'.cell? ⟨w.heap.size, 8, none⟩ = some (.slice G0 Gn0 Gc0) ∧ w'.cell? ⟨w.heap.size, 9, none⟩ = some (.int .i64 e9) ∧ w'.cell? ⟨w.heap.size, 10, none⟩ = some (.slice A1 An1 Ac1) ∧ w'.cell? ⟨w.heap.size, 11, none⟩ = some (.slice (some ⟨ga, 0, none⟩) An2 Ac2) ∧ w'.cell? ⟨w.heap.size, 12, none⟩ = some (.slice (some ⟨gb, 0, none⟩) An3 Ac3)) Z3 from ⟨KZ3.out.cell 0 _ rfl, KZ3.out.cell 1 _ rfl, KZ3.out.cell 2 _ rfl, KZ3.out.cell 3 _ rfl, KZ3.out.cell 4 _ rfl, KZ3.out.cell 5 _ rfl, KZ3.out.cell 6 _ rfl, KZ3.out.cell 7 _ rfl, KZ3.out.cell 8 _ rfl, KZ3.out.cell 9 _ rfl, KZ3.out.cell 10 _ rfl, KZ3.out.cell 11 _ rfl, KZ3.out.cell 12 _ rfl⟩)
 refine tF 0 SZ3.out ?_
 refine tF 1 SZ3.out ?_
 refine tF 2 SZ3.out ?_
 refine tF 3 SZ3.out ?_
 refine tF 4 SZ3.out ?_
 refine uNe 5 (fun K hK => ?_)
 go_simp
 refine (cL Z3).mono ?_
 rintro e Z4 ⟨rfl, hb⟩
 have U3 : Hid (Below Z2.heap.size Z2 Z4) := U2.out.trans (hb.mono U2.out.size)
 have KZ4 := Hid.mk (KZ2.out.on U3.out KZ2.out.lt)
 have RZ4 := Hid.mk (RZ2.out.on U3.out RZ2.out.lt)
 have OZ4 := Hid.mk (OZ2.out.on U3.out)
 have BZ4 : Hid (BelowK base0 w Z4) := BZ2.out.andB U3.out HZ2.out
 clear hb
 refine hK.out _ _ (fun _ _ => ⟨KZ4.out.cell 0 _ rfl, KZ4.out.cell 1 _ rfl, KZ4.out.cell 2 _ rfl, KZ4.out.cell 3 _ rfl, KZ4.out.cell 4 _ rfl, KZ4.out.cell 5 _ rfl, KZ4.out.cell 6 _ rfl, KZ4.out.cell 7 _ rfl, KZ4.out.cell 8 _ rfl, KZ4.out.cell 9 _ rfl, KZ4.out.cell 10 _ rfl, KZ4.out.cell 11 _ rfl, KZ4.out.cell 12 _ rfl⟩) ?_
 clear hK K
 try simp only [Act.put, zQ1, zQ2, zQ3]
 refine pF 6 ?_
 have SZ4 := Hid.mk (show (fun w' => w'.cell? ⟨w.heap.size, 0, none⟩ = some (.int .i64 (j : Int)) ∧ w'.cell? ⟨w.heap.size, 1, none⟩ = some (.int .i64 e1) ∧ w'.cell? ⟨w.heap.size, 2, none⟩ = some (.int .i64 e2) ∧ w'.cell? ⟨w.heap.size, 3, none⟩ = some (.int .i64 e3) ∧ w'.cell? ⟨w.heap.size, 4, none⟩ = some (.int .i64 e4) ∧ w'.cell? ⟨w.heap.size, 5, none⟩ = some (.int .i64 e5) ∧ w'.cell? ⟨w.heap.size, 6, none⟩ = some (.int .i64 e6) ∧ w'.cell? ⟨w.heap.size, 7, none⟩ = some (.int .i64 e7) ∧ w'.cell? ⟨w.heap.size, 8, none⟩ = some (.slice G0 Gn0 Gc0) ∧ w'.cell? ⟨w.heap.size, 9, none⟩ = some (.int .i64 e9) ∧ w'.cell? ⟨w.heap.size, 10, none⟩ = some (.slice A1 An1 Ac1) ∧ w'.cell? ⟨w.heap.size, 11, none⟩ = some (.slice (some ⟨ga, 0, none⟩) An2 Ac2) ∧ w'.cell? ⟨w.heap.size, 12, none⟩ = some (.slice (some ⟨gb, 0, none⟩) An3 Ac3)) Z4 from ⟨KZ4.out.cell 0 _ rfl, KZ4.out.cell 1 _ rfl, KZ4.out.cell 2 _ rfl, KZ4.out.cell 3 _ rfl, KZ4.out.cell 4 _ rfl, KZ4.out.cell 5 _ rfl, KZ4.out.cell 6 _ rfl, KZ4.out.cell 7 _ rfl, KZ4.out.cell 8 _ rfl, KZ4.out.cell 9 _ rfl, KZ4.out.cell 10 _ rfl, KZ4.out.cell 11 _ rfl, KZ4.out.cell 12 _ rfl⟩)
 refine tF 7 SZ4.out ?_
 have o2 := OZ4.out.n.cell j (by simp only; exact hjn)
 have f2 := OZ4.out.n.frozen j
 have OZ5 := Hid.mk ((OZ4.out.setN (j := j) (z := e6 + (Gn0 : Int) + 1)).as (y := matX ⟨(j : Int), e1, e2, e3, e4, e5, e6, e7, el, e9, ey, en, em⟩ j (e6 + (Gn0 : Int))) rfl rfl rfl rfl)
 have KZ5 := Hid.mk (KZ4.out.setJ (j := j) (v := .int .i64 (e6 + (Gn0 : Int) + 1)) (by decide) OZ4.out.n)
 have RZ5 := Hid.mk (RZ4.out.setJ (j := j) (v := .int .i64 (e6 + (Gn0 : Int) + 1)) (by decide) OZ4.out.n)
 have BZ5 := Hid.mk (BZ4.out.setN HB2.out OZ4.out.n j (.int .i64 (e6 + (Gn0 : Int) + 1)))
 refine uNe 8 (fun K hK => ?_)
 go_simp
 refine hK.out _ _ (fun _ _ => ⟨KZ5.out.cell 0 _ rfl, KZ5.out.cell 1 _ rfl, KZ5.out.cell 2 _ rfl, KZ5.out.cell 3 _ rfl, KZ5.out.cell 4 _ rfl, KZ5.out.cell 5 _ rfl, KZ5.out.cell 6 _ rfl, KZ5.out.cell 7 _ rfl, KZ5.out.cell 8 _ rfl, KZ5.out.cell 9 _ rfl, KZ5.out.cell 10 _ rfl, KZ5.out.cell 11 _ rfl, KZ5.out.cell 12 _ rfl⟩) ?_
 clear hK K KZ4 RZ4 OZ4 BZ4 SZ4 SZ3 KZ3 o2 f2 KZ2 RZ2 OZ2 BZ2 HZ2 U2 U3
 try simp only [Act.put, zQ1, zQ2, zQ3]
 refine until_done (by kernel_rfl) ?_ _
 generalize Z4.setCell ⟨ga, j, none⟩ (.int .i64 (e6 + (Gn0 : Int) + 1)) = Z5 at *
 have HZ5 : Hid (base0 ≤ Z5.heap.size) := Nat.le_trans HBW.out BZ5.out.size
 have cC := countVS (matX ⟨(j : Int), e1, e2, e3, e4, e5, e6, e7, el, e9, ey, en, em⟩ j (e6 + (Gn0 : Int))) G0 Gn0 Gc0 A1 An1 Ac1 (some ⟨ga, 0, none⟩) An2 Ac2 (some ⟨gb, 0, none⟩) An3 Ac3 Z5 base0 OZ5.out HMx.out
 obtain ⟨cm, hcm⟩ : ∃ cm, cm = (countX (matX ⟨(j : Int), e1, e2, e3, e4, e5, e6, e7, el, e9, ey, en, em⟩ j (e6 + (Gn0 : Int)))).commit := ⟨_, rfl⟩
 have HVC : Hid (vCo (countX (matX ⟨(j : Int), e1, e2, e3, e4, e5, e6, e7, el, e9, ey, en, em⟩ j (e6 + (Gn0 : Int)))) (.slice G0 Gn0 Gc0) (.slice A1 An1 Ac1) (.slice (some ⟨ga, 0, none⟩) An2 Ac2) (.slice (some ⟨gb, 0, none⟩) An3 Ac3) = .agg #[.int .i64 (j : Int), .int .i64 e1, .int .i64 e2, .int .i64 e3, .int .i64 e4, .int .i64 e5, .int .i64 e6, .int .i64 e7, .slice G0 Gn0 Gc0, .int .i64 cm, .slice A1 An1 Ac1, .slice (some ⟨ga, 0, none⟩) An2 Ac2, .slice (some ⟨gb, 0, none⟩) An3 Ac3]) := by unfold Hid; rw [hcm]; rfl
 have HVD : Hid (vCo (matX ⟨(j : Int), e1, e2, e3, e4, e5, e6, e7, el, e9, ey, en, em⟩ j (e6 + (Gn0 : Int))) (.slice G0 Gn0 Gc0) (.slice A1 An1 Ac1) (.slice (some ⟨ga, 0, none⟩) An2 Ac2) (.slice (some ⟨gb, 0, none⟩) An3 Ac3) = .agg #[.int .i64 (j : Int), .int .i64 e1, .int .i64 e2, .int .i64 e3, .int .i64 e4, .int .i64 e5, .int .i64 e6, .int .i64 e7, .slice G0 Gn0 Gc0, .int .i64 e9, .slice A1 An1 Ac1, .slice (some ⟨ga, 0, none⟩) An2 Ac2, .slice (some ⟨gb, 0, none⟩) An3 Ac3]) := rfl
 rw [HVC.out, HVD.out] at cC
 have OZf : Hid (CoRows Z5 base0 (putC ⟨ci, cp, ct, cv, cr, cd, cb, cbt, lg, cc, ys, ns, ms⟩ da) (.slice G0 Gn0 Gc0) (.slice A1 An1 Ac1) (.slice (some ⟨ga, 0, none⟩) An2 Ac2) (.slice (some ⟨gb, 0, none⟩) An3 Ac3)) := by unfold Hid; rw [HPy.out]; exact OZ5.out.as rfl rfl rfl rfl
 clear hcm
 have y0 := KZ5.out.cell 0 _ rfl
 have y1 := KZ5.out.cell 1 _ rfl
 have y2 := KZ5.out.cell 2 _ rfl
 have y3 := KZ5.out.cell 3 _ rfl
 have y4 := KZ5.out.cell 4 _ rfl
 have y5 := KZ5.out.cell 5 _ rfl
 have y6 := KZ5.out.cell 6 _ rfl
 have y7 := KZ5.out.cell 7 _ rfl
 have y8 := KZ5.out.cell 8 _ rfl
 have y9 := KZ5.out.cell 9 _ rfl
 have y10 := KZ5.out.cell 10 _ rfl
 have y11 := KZ5.out.cell 11 _ rfl
 have y12 := KZ5.out.cell 12 _ rfl
 try go_wp2_with fail
 refine cC.mono ?_
 rintro e Z6 ⟨rfl, hb⟩
 have RZ6 := Hid.mk (RZ5.out.on hb RZ5.out.lt)
 have OZ6 := Hid.mk (OZf.out.on hb)
 have BZ6 : Hid (BelowK base0 w Z6) := BZ5.out.andB hb HZ5.out
 clear hb cC y0 y1 y2 y3 y4 y5 y6 y7 y8 y9 y10 y11 y12 KZ5 RZ5 OZ5 OZf BZ5
 obtain ⟨⟨r0, g0⟩, ⟨r1, g1⟩, ⟨r2, g2⟩, ⟨r3, g3⟩, ⟨r4, g4⟩, ⟨r5, g5⟩, ⟨r6, g6⟩, ⟨r7, g7⟩, ⟨r8, g8⟩, ⟨r9, g9⟩, ⟨r10, g10⟩, ⟨r11, g11⟩, ⟨r12, g12⟩, z0, z1, z2, z3, z4, z5, z6, z7, z8, z9, z10, z11, z12⟩ := resC13 (x0 := .int .i64 (j : Int)) (x1 := .int .i64 e1) (x2 := .int .i64 e2) (x3 := .int .i64 e3) (x4 := .int .i64 e4) (x5 := .int .i64 e5) (x6 := .int .i64 e6) (x7 := .int .i64 e7) (x8 := .slice G0 Gn0 Gc0) (x9 := .int .i64 cm) (x10 := .slice A1 An1 Ac1) (x11 := .slice (some ⟨ga, 0, none⟩) An2 Ac2) (x12 := .slice (some ⟨gb, 0, none⟩) An3 Ac3) RZ6.out
 have FB := Hid.mk (belowK13 BZ6.out HBW.out (show w.heap.size ≤ w.heap.size + 1 by omega) (.int .i64 (j : Int)) (.int .i64 e1) (.int .i64 e2) (.int .i64 e3) (.int .i64 e4) (.int .i64 e5) (.int .i64 e6) (.int .i64 e7) (.slice G0 Gn0 Gc0) (.int .i64 cm) (.slice A1 An1 Ac1) (.slice (some ⟨ga, 0, none⟩) An2 Ac2) (.slice (some ⟨gb, 0, none⟩) An3 Ac3))
 have FO : Hid (CoRows (((((((((((((Z6.setCell ⟨w.heap.size + 1, 0, none⟩ (.int .i64 (j : Int))).setCell ⟨w.heap.size + 1, 1, none⟩ (.int .i64 e1)).setCell ⟨w.heap.size + 1, 2, none⟩ (.int .i64 e2)).setCell ⟨w.heap.size + 1, 3, none⟩ (.int .i64 e3)).setCell ⟨w.heap.size + 1, 4, none⟩ (.int .i64 e4)).setCell ⟨w.heap.size + 1, 5, none⟩ (.int .i64 e5)).setCell ⟨w.heap.size + 1, 6, none⟩ (.int .i64 e6)).setCell ⟨w.heap.size + 1, 7, none⟩ (.int .i64 e7)).setCell ⟨w.heap.size + 1, 8, none⟩ (.slice G0 Gn0 Gc0)).setCell ⟨w.heap.size + 1, 9, none⟩ (.int .i64 cm)).setCell ⟨w.heap.size + 1, 10, none⟩ (.slice A1 An1 Ac1)).setCell ⟨w.heap.size + 1, 11, none⟩ (.slice (some ⟨ga, 0, none⟩) An2 Ac2)).setCell ⟨w.heap.size + 1, 12, none⟩ (.slice (some ⟨gb, 0, none⟩) An3 Ac3)) base0 (putC ⟨ci, cp, ct, cv, cr, cd, cb, cbt, lg, cc, ys, ns, ms⟩ da) (.slice G0 Gn0 Gc0) (.slice A1 An1 Ac1) (.slice (some ⟨ga, 0, none⟩) An2 Ac2) (.slice (some ⟨gb, 0, none⟩) An3 Ac3)) := rowsB13 OZ6.out RZ6.out (.int .i64 (j : Int)) (.int .i64 e1) (.int .i64 e2) (.int .i64 e3) (.int .i64 e4) (.int .i64 e5) (.int .i64 e6) (.int .i64 e7) (.slice G0 Gn0 Gc0) (.int .i64 cm) (.slice A1 An1 Ac1) (.slice (some ⟨ga, 0, none⟩) An2 Ac2) (.slice (some ⟨gb, 0, none⟩) An3 Ac3)
 clear RZ6 OZ6 BZ6
 go_wp2_with fail
 refine bodyPost_ret (v := .agg #[.int .i64 (j : Int), .int .i64 e1, .int .i64 e2, .int .i64 e3, .int .i64 e4, .int .i64 e5, .int .i64 e6, .int .i64 e7, .slice G0 Gn0 Gc0, .int .i64 cm, .slice A1 An1 Ac1, .slice (some ⟨ga, 0, none⟩) An2 Ac2, .slice (some ⟨gb, 0, none⟩) An3 Ac3]) (by simp [results, go_sem, z0, z1, z2, z3, z4, z5, z6, z7, z8, z9, z10, z11, z12]) rfl ⟨⟨.slice G0 Gn0 Gc0, ?_, FO.out⟩, FB.out⟩
 rw [HPy.out, HVC.out]
end Go.Proofs.Ytlhoonohpfpkbaa
