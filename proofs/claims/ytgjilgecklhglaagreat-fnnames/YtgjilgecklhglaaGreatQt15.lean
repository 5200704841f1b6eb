/- KdDraw KdCrash KdSame TxCuD -/
import Derived.Test.YtgjilgecklhglaaGreatRows
import Derived.Test.YtgjilgecklhglaaGreatQt14
import Derived.Test.YtgjilgecklhglaaGreatQt13
import Derived.Test.YtgjilgecklhglaaGreatQt0
import Derived.Test.YtgjilgecklhglaaGreatQt11
import Derived.Lib.OwnKind
import Derived.Deep.Cut
import Derived.Deep.CutRange
import Derived.Deep.CutBlock
import Derived.Handy
import Derived.Laws.StructEq
import Derived.Laws.DeepStrings4
import Derived.WalkKit
import Derived.ProofKit
import Derived.OpenShut
import Derived.WalkSmall
import Derived.BigQuiet
import Derived.Deep.QuietTactic
import Derived.Deep.RegionWith
import Derived.Deep.RegionHeld3
open List (setIfInBounds_toArray set_cons_zero set_cons_succ)
namespace Go.Proofs.YtgjilgecklhglaaGreat
open Go.ChangeShapes Go.WideShapes Go.ChangeAt Go.RowKit Go.PlainAid
set_option linter.unusedVariables false
theorem resC4 {w : World} {g : Nat} {a0 a1 a2 a3 x0 x1 x2 x3 : Value} {t : TypeId} (h : Blk w g #[a0, a1, a2, a3] t) :
  (w.cell? ⟨g, 0, none⟩ = some a0 ∧ w.frozen? ⟨g, 0, none⟩ = false) ∧ ((w.setCell ⟨g, 0, none⟩ x0).cell? ⟨g, 1, none⟩ = some a1 ∧ (w.setCell ⟨g, 0, none⟩ x0).frozen? ⟨g, 1, none⟩ = false) ∧ (((w.setCell ⟨g, 0, none⟩ x0).setCell ⟨g, 1, none⟩ x1).cell? ⟨g, 2, none⟩ = some a2 ∧ ((w.setCell ⟨g, 0, none⟩ x0).setCell ⟨g, 1, none⟩ x1).frozen? ⟨g, 2, none⟩ = false) ∧ ((((w.setCell ⟨g, 0, none⟩ x0).setCell ⟨g, 1, none⟩ x1).setCell ⟨g, 2, none⟩ x2).cell? ⟨g, 3, none⟩ = some a3 ∧ (((w.setCell ⟨g, 0, none⟩ x0).setCell ⟨g, 1, none⟩ x1).setCell ⟨g, 2, none⟩ x2).frozen? ⟨g, 3, none⟩ = false) ∧
  ((((w.setCell ⟨g, 0, none⟩ x0).setCell ⟨g, 1, none⟩ x1).setCell ⟨g, 2, none⟩ x2).setCell ⟨g, 3, none⟩ x3).cell? ⟨g, 0, none⟩ = some x0 ∧ ((((w.setCell ⟨g, 0, none⟩ x0).setCell ⟨g, 1, none⟩ x1).setCell ⟨g, 2, none⟩ x2).setCell ⟨g, 3, none⟩ x3).cell? ⟨g, 1, none⟩ = some x1 ∧ ((((w.setCell ⟨g, 0, none⟩ x0).setCell ⟨g, 1, none⟩ x1).setCell ⟨g, 2, none⟩ x2).setCell ⟨g, 3, none⟩ x3).cell? ⟨g, 2, none⟩ = some x2 ∧ ((((w.setCell ⟨g, 0, none⟩ x0).setCell ⟨g, 1, none⟩ x1).setCell ⟨g, 2, none⟩ x2).setCell ⟨g, 3, none⟩ x3).cell? ⟨g, 3, none⟩ = some x3 := by
 have h1 : Blk (w.setCell ⟨g, 0, none⟩ x0) g #[x0, a1, a2, a3] t := h.set 0 x0
 have h2 : Blk ((w.setCell ⟨g, 0, none⟩ x0).setCell ⟨g, 1, none⟩ x1) g #[x0, x1, a2, a3] t := h1.set 1 x1
 have h3 : Blk (((w.setCell ⟨g, 0, none⟩ x0).setCell ⟨g, 1, none⟩ x1).setCell ⟨g, 2, none⟩ x2) g #[x0, x1, x2, a3] t := h2.set 2 x2
 have h4 : Blk ((((w.setCell ⟨g, 0, none⟩ x0).setCell ⟨g, 1, none⟩ x1).setCell ⟨g, 2, none⟩ x2).setCell ⟨g, 3, none⟩ x3) g #[x0, x1, x2, x3] t := h3.set 3 x3
 exact ⟨⟨h.cell 0 _ rfl, h.free 0⟩, ⟨h1.cell 1 _ rfl, h1.free 1⟩, ⟨h2.cell 2 _ rfl, h2.free 2⟩, ⟨h3.cell 3 _ rfl, h3.free 3⟩, h4.cell 0 _ rfl, h4.cell 1 _ rfl, h4.cell 2 _ rfl, h4.cell 3 _ rfl⟩
theorem belowC4 {w w' : World} {B g : Nat} (h : Below B w w') (hg : B ≤ g) (x0 x1 x2 x3 : Value) : Below B w ((((w'.setCell ⟨g, 0, none⟩ x0).setCell ⟨g, 1, none⟩ x1).setCell ⟨g, 2, none⟩ x2).setCell ⟨g, 3, none⟩ x3) := ((((h.setCell hg _).setCell hg _).setCell hg _).setCell hg _)
theorem cellsC4 {w : World} {g : Nat} {a0 a1 a2 a3 : Value} {t : TypeId} (h : Blk w g #[a0, a1, a2, a3] t) : w.cell? ⟨g, 0, none⟩ = some a0 ∧ w.cell? ⟨g, 1, none⟩ = some a1 ∧ w.cell? ⟨g, 2, none⟩ = some a2 ∧ w.cell? ⟨g, 3, none⟩ = some a3 := ⟨h.cell 0 _ rfl, h.cell 1 _ rfl, h.cell 2 _ rfl, h.cell 3 _ rfl⟩
theorem otherC5 {w : World} {g g' : Nat} {cs : Array Value} {t : TypeId} (h : Blk w g cs t) (hn : g ≠ g') (x0 x1 x2 x3 x4 : Value) : Blk (((((w.setCell ⟨g', 0, none⟩ (x0)).setCell ⟨g', 1, none⟩ (x1)).setCell ⟨g', 2, none⟩ (x2)).setCell ⟨g', 3, none⟩ (x3)).setCell ⟨g', 4, none⟩ (x4)) g cs t := (((((h.other hn 0 x0).other hn 1 x1).other hn 2 x2).other hn 3 x3).other hn 4 x4)
theorem otherC4 {w : World} {g g' : Nat} {cs : Array Value} {t : TypeId} (h : Blk w g cs t) (hn : g ≠ g') (x0 x1 x2 x3 : Value) : Blk ((((w.setCell ⟨g', 0, none⟩ (x0)).setCell ⟨g', 1, none⟩ (x1)).setCell ⟨g', 2, none⟩ (x2)).setCell ⟨g', 3, none⟩ (x3)) g cs t := ((((h.other hn 0 x0).other hn 1 x1).other hn 2 x2).other hn 3 x3)
theorem Owns.notLow {w : World} {base : Nat} {e : TypeId} {sz : Nat} {v : Value} {rows : List (List Value)} (h : Owns w base e sz v rows) {g : Nat} (hg : g < base) : v.ownBlock ≠ some g := fun hv => by have := (h.lt g hv).1; omega
theorem Owns.set4 {w : World} {base : Nat} {e : TypeId} {sz : Nat} {v : Value} {rows : List (List Value)} (h : Owns w base e sz v rows) {g : Nat} (hg : g < base) (x0 x1 x2 x3 : Value) : Owns ((((w.setCell ⟨g, 0, none⟩ (x0)).setCell ⟨g, 1, none⟩ (x1)).setCell ⟨g, 2, none⟩ (x2)).setCell ⟨g, 3, none⟩ (x3)) base e sz v rows := have hn := h.notLow hg
 ((((h.other hn 0 x0).other hn 1 x1).other hn 2 x2).other hn 3 x3)
theorem DiskO.set5 {w : World} {base : Nat} {v : Value} {d : Dsk} (h : DiskO w base v d) {g : Nat} (hg : g < base) (x0 x1 x2 x3 x4 : Value) : DiskO (((((w.setCell ⟨g, 0, none⟩ (x0)).setCell ⟨g, 1, none⟩ (x1)).setCell ⟨g, 2, none⟩ (x2)).setCell ⟨g, 3, none⟩ (x3)).setCell ⟨g, 4, none⟩ (x4)) base v d := by
 obtain ⟨v1, v2, v3, e, h1, h2, h3⟩ := h
 exact ⟨v1, v2, v3, e, ownsC5n h1 (h1.notLow hg) _ _ _ _ _, ownsC5n h2 (h2.notLow hg) _ _ _ _ _, ownsC5n h3 (h3.notLow hg) _ _ _ _ _⟩
theorem DiskO.set4 {w : World} {base : Nat} {v : Value} {d : Dsk} (h : DiskO w base v d) {g : Nat} (hg : g < base) (x0 x1 x2 x3 : Value) : DiskO ((((w.setCell ⟨g, 0, none⟩ (x0)).setCell ⟨g, 1, none⟩ (x1)).setCell ⟨g, 2, none⟩ (x2)).setCell ⟨g, 3, none⟩ (x3)) base v d := by
 obtain ⟨v1, v2, v3, e, h1, h2, h3⟩ := h
 exact ⟨v1, v2, v3, e, h1.set4 hg _ _ _ _, h2.set4 hg _ _ _ _, h3.set4 hg _ _ _ _⟩
theorem DiskO.monoD {w : World} {base C : Nat} {v : Value} {d : Dsk} (h : DiskO w base v d) (hC : C ≤ base) : DiskO w C v d := by
 obtain ⟨v1, v2, v3, e, h1, h2, h3⟩ := h
 exact ⟨v1, v2, v3, e, h1.mono hC, h2.mono hC, h3.mono hC⟩
set_option maxHeartbeats 2000000 in
theorem step_any6 (w : World) (p : Nat) (h : AtS w p) : Calls Tryz.prog 59 #[.pointer (some ⟨p, 0, none⟩)] w fun e w' => ∃ (k : Int) (n t x : ByteArray), e = .returned (.agg #[.int .i64 k, .string n, .string t, .string x]) ∧ (n.size ≤ 13 ∧ t.size ≤ 13 ∧ x.size ≤ 1000) ∧ AtS w' p ∧ Mod w.heap.size p w w' := by
 have S0 : Hid (RsD w p w.heap.size 55 (w.alloc (.cells #[.int .i64 0, .string ⟨#[]⟩, .string ⟨#[]⟩, .string ⟨#[]⟩] 55)) #[.int .i64 0, .string ⟨#[]⟩, .string ⟨#[]⟩, .string ⟨#[]⟩]) := RsD.start h #[.int .i64 0, .string ⟨#[]⟩, .string ⟨#[]⟩, .string ⟨#[]⟩] 55
 clear h
 go_enter Tryz.func59, Tryz.ntmps59
 go_wp2_with fail
 generalize w.alloc (.cells #[.int .i64 0, .string ⟨#[]⟩, .string ⟨#[]⟩, .string ⟨#[]⟩] 55) = w0 at *
 refine (belowS w0 p 8 (by omega) (by omega) S0.out.a).mono ?_
 rintro e w1 ⟨k, rfl, -, hA, hm⟩
 have S1 : Hid (RsD w p w.heap.size 55 w1 #[.int .i64 0, .string ⟨#[]⟩, .string ⟨#[]⟩, .string ⟨#[]⟩]) := S0.out.draw hA hm
 clear hA hm S0
 go_wp2_with fail
 refine (name4_any w1 p S1.out.a).mono ?_
 rintro e w2 ⟨n, rfl, hn, hA, hm⟩
 have S2 : Hid (RsD w p w.heap.size 55 w2 #[.int .i64 0, .string ⟨#[]⟩, .string ⟨#[]⟩, .string ⟨#[]⟩]) := S1.out.draw hA hm
 clear hA hm S1
 go_wp2_with fail
 refine (name4_any w2 p S2.out.a).mono ?_
 rintro e w3 ⟨t, rfl, ht, hA, hm⟩
 have S3 : Hid (RsD w p w.heap.size 55 w3 #[.int .i64 0, .string ⟨#[]⟩, .string ⟨#[]⟩, .string ⟨#[]⟩]) := S2.out.draw hA hm
 clear hA hm S2
 go_wp2_with fail
 refine (text_some w3 p 12 (by omega) (by omega) S3.out.a).mono ?_
 rintro e w4 ⟨x, rfl, hx, hA, hm⟩
 have S4 : Hid (RsD w p w.heap.size 55 w4 #[.int .i64 0, .string ⟨#[]⟩, .string ⟨#[]⟩, .string ⟨#[]⟩]) := S3.out.draw hA hm
 clear hA hm S3
 obtain ⟨⟨r0, f0⟩, ⟨r1, f1⟩, ⟨r2, f2⟩, ⟨r3, f3⟩, y0, y1, y2, y3⟩ := resC4 (x0 := .int .i64 k) (x1 := .string n) (x2 := .string t) (x3 := .string x) S4.out.res
 have GG := ((((S4.out.setR 0 (.int .i64 k)).setR 1 (.string n)).setR 2 (.string t)).setR 3 (.string x))
 have HA := Hid.mkD GG.a
 have HM := Hid.mkD GG.m
 have HX : Hid (n.size ≤ 13 ∧ t.size ≤ 13 ∧ x.size ≤ 1000) := ⟨hn, ht, hx⟩
 clear GG S4 hn ht hx
 go_wp2_with fail
 exact bodyPost_ret (v := .agg #[.int .i64 k, .string n, .string t, .string x]) (by simp [results, go_sem, y0, y1, y2, y3]) rfl ⟨k, n, t, x, rfl, HX.out, HA.out, HM.out⟩
set_option maxRecDepth 20000 in
set_option maxHeartbeats 4000000 in
theorem drawDoStep (w : World) (ao : Option Addr) (len cap : Nat) (cs : Nat → Nat) (hl : len ≤ 1048576) (h : CodeIs w w.heap.size ao len cs) :
  Calls Tryz.prog 24 #[.slice ao len cap] w fun e w' => ∃ (d : Dsk) (v : Value) (k : Int) (n t x : ByteArray), e = .returned (.tuple #[v, .agg #[.int .i64 k, .string n, .string t, .string x]]) ∧ DiskO w' w.heap.size v d ∧ Small d ∧ (n.size ≤ 13 ∧ t.size ≤ 13 ∧ x.size ≤ 1000) ∧ Below w.heap.size w w' := by
 have HC : Hid (CodeIs w w.heap.size ao len cs) := h
 clear h
 obtain ⟨X0, hX0⟩ : ∃ X0, X0 = ((w.alloc (.cells #[.int .i64 0, .int .i64 0, .slice none 0 0, .slice none 0 0, .slice none 0 0] 28)).alloc (.cells #[.int .i64 0, .string ⟨#[]⟩, .string ⟨#[]⟩, .string ⟨#[]⟩] 55)) := ⟨_, rfl⟩
 have B0 : Hid (Below w.heap.size w X0) := by unfold Hid; rw [hX0]; exact ((Below.refl _ w).alloc (Nat.le_refl _) _).alloc (by simp) _
 have K0 : Hid (Blk X0 w.heap.size #[.int .i64 0, .int .i64 0, .slice none 0 0, .slice none 0 0, .slice none 0 0] 28) := by unfold Hid; rw [hX0]; exact (Blk.new w _ _).alloc _
 have L0 : Hid (Blk X0 (w.heap.size + 1) #[.int .i64 0, .string ⟨#[]⟩, .string ⟨#[]⟩, .string ⟨#[]⟩] 55) := by unfold Hid; rw [hX0]; have := Blk.new (w.alloc (.cells #[.int .i64 0, .int .i64 0, .slice none 0 0, .slice none 0 0, .slice none 0 0] 28)) #[.int .i64 0, .string ⟨#[]⟩, .string ⟨#[]⟩, .string ⟨#[]⟩] 55; rw [World.size_alloc] at this; exact this
 have C0 := Hid.mkD (HC.out.on B0.out)
 go_enter Tryz.func24, Tryz.ntmps24
 go_wp2_with fail
 rw [← hX0]
 clear hX0
 refine (new_any X0 ao len cap cs hl C0.out).mono ?_
 rintro e w1 ⟨rfl, hA1, hb1⟩
 obtain ⟨p, hp⟩ : ∃ p, p = X0.heap.size := ⟨_, rfl⟩
 rw [← hp] at hA1 hb1 ⊢
 have HP := Hid.mkD hp
 have HB1 := Hid.mkD hb1
 have HA1 := Hid.mkD (show AtS w1 p from ⟨_, _, _, _, _, hA1⟩)
 clear hb1 hA1 hp
 go_wp2_with fail
 refine (step_any6 w1 p HA1.out).mono ?_
 rintro e w2 ⟨k, n, t, x, rfl, hz, hA, hm⟩
 have HZ := Hid.mkD hz
 have HA2 := Hid.mkD hA
 have HB2 : Hid (Below p X0 w2) := HB1.out.trans ((hm.mono (by have := HA1.out.lt; omega)).below (Nat.le_refl _))
 clear hA hm hz HA1 HB1
 obtain ⟨gs, hgs⟩ : ∃ gs, gs = w2.heap.size := ⟨_, rfl⟩
 have D2 : Hid (Blk (w2.alloc (.cells #[.int .i64 k, .string n, .string t, .string x] 55)) gs #[.int .i64 k, .string n, .string t, .string x] 55) := by unfold Hid; rw [hgs]; exact Blk.new w2 _ _
 have HA3 : Hid (AtS (w2.alloc (.cells #[.int .i64 k, .string n, .string t, .string x] 55)) p) := HA2.out.below ((Below.refl _ _).alloc (Nat.le_refl _) _) HA2.out.lt
 have HB3 : Hid (Below p X0 (w2.alloc (.cells #[.int .i64 k, .string n, .string t, .string x] 55))) := HB2.out.alloc (by have := HA2.out.lt; omega) _
 have NG : Hid (gs ≠ p) := by have := HA2.out.lt; unfold Hid; omega
 have HGS : Hid (w.heap.size < gs) := by have h8 := HB2.out.size; have h9 := L0.out.lt; unfold Hid; omega
 go_upto_region 3 with fail
 rw [← hgs]
 generalize w2.alloc (.cells #[.int .i64 k, .string n, .string t, .string x] 55) = w3 at *
 clear hgs HA2 HB2
 refine wp_region_until (fun w' => w'.cell? ⟨gs, 0, none⟩ = some (.int .i64 k) ∧ w'.cell? ⟨gs, 1, none⟩ = some (.string n) ∧ w'.cell? ⟨gs, 2, none⟩ = some (.string t) ∧ w'.cell? ⟨gs, 3, none⟩ = some (.string x)) (fun i => i == 6) 7 (by rfl) (by kernel_rfl) ?_
 have D3 : Hid (Blk w3.drew gs #[.int .i64 k, .string n, .string t, .string x] 55) := D2.out.on (Below.refl _ w3).drew D2.out.lt
 have HA4 : Hid (AtS w3.drew p) := HA3.out.below (Below.refl _ w3).drew HA3.out.lt
 have HB4 : Hid (Below p X0 w3.drew) := HB3.out.drew
 have Q0 := Hid.mkD (cellsC4 D3.out)
 clear D2 HA3 HB3
 generalize w3.drew = w4 at *
 refine pF 0 ?_
 refine pF 1 ?_
 refine tF 4 Q0.out ?_
 refine uNe 2 (fun K hK => ?_)
 go_simp
 refine (size_any w4 ao len cap 20 hl (by omega) (by omega)).mono ?_
 rintro e w5 ⟨⟨z, rfl, z0, z9⟩, rfl⟩
 refine hK.out _ _ (fun _ h => h) ?_
 clear hK K
 try simp only [Act.put, zQ1, zQ2, zQ3]
 obtain ⟨zn, rfl⟩ : ∃ zn : Nat, z = (zn : Int) := ⟨z.toNat, by omega⟩
 refine uNe 3 (fun K hK => ?_)
 go_simp
 refine (some_any4 w4 p zn HA4.out (by omega) (by omega)).mono ?_
 rintro e w6 ⟨d, v, rfl, hO, hsm, hA, hm⟩
 have D4 : Hid (Blk w6 gs #[.int .i64 k, .string n, .string t, .string x] 55) := D3.out.mod hm D3.out.lt NG.out
 have Q1 := Hid.mkD (cellsC4 D4.out)
 refine hK.out _ _ (fun _ _ => Q1.out) ?_
 clear hK K
 try simp only [Act.put, zQ1, zQ2, zQ3]
 have HSM := Hid.mkD hsm
 have HB5 : Hid (Below p X0 w6) := HB4.out.trans ((hm.mono (show p ≤ w4.heap.size by have := HA4.out.lt; omega)).below (Nat.le_refl _))
 have hpx := HP.out
 have hxs := B0.out.size
 have hx4 := HB4.out.size
 have K5 : Hid (Blk w6 w.heap.size #[.int .i64 0, .int .i64 0, .slice none 0 0, .slice none 0 0, .slice none 0 0] 28) := K0.out.on HB5.out (by rw [hpx]; exact K0.out.lt)
 have L5 : Hid (Blk w6 (w.heap.size + 1) #[.int .i64 0, .string ⟨#[]⟩, .string ⟨#[]⟩, .string ⟨#[]⟩] 55) := L0.out.on HB5.out (by rw [hpx]; exact L0.out.lt)
 have hl1 := L0.out.lt
 have hgb : Hid (w.heap.size + 1 < w4.heap.size) := by unfold Hid; omega
 have NE : Hid (gs ≠ w.heap.size) := by have := HGS.out; unfold Hid; omega
 obtain ⟨v1, v2, v3, rfl, h1, h2, h3⟩ := hO
 obtain ⟨A1, n1, c1, rfl⟩ := h1.shape
 obtain ⟨A2, n2, c2, rfl⟩ := h2.shape
 obtain ⟨A3, n3, c3, rfl⟩ := h3.shape
 obtain ⟨⟨r0, f0⟩, ⟨r1, f1⟩, ⟨r2, f2⟩, ⟨r3, f3⟩, ⟨r4, f4⟩, y0, y1, y2, y3, y4⟩ := resC5 (x0 := .int .i64 d.room) (x1 := .int .i64 d.next) (x2 := .slice A1 n1 c1) (x3 := .slice A2 n2 c2) (x4 := .slice A3 n3 c3) K5.out
 clear y0 y1 y2 y3 y4
 have QQ : Hid (∀ (a0 a1 a2 a3 a4 : Value), ((((((w6.setCell ⟨w.heap.size, 0, none⟩ (a0)).setCell ⟨w.heap.size, 1, none⟩ (a1)).setCell ⟨w.heap.size, 2, none⟩ (a2)).setCell ⟨w.heap.size, 3, none⟩ (a3)).setCell ⟨w.heap.size, 4, none⟩ (a4))).cell? ⟨gs, 0, none⟩ = some (.int .i64 k) ∧ ((((((w6.setCell ⟨w.heap.size, 0, none⟩ (a0)).setCell ⟨w.heap.size, 1, none⟩ (a1)).setCell ⟨w.heap.size, 2, none⟩ (a2)).setCell ⟨w.heap.size, 3, none⟩ (a3)).setCell ⟨w.heap.size, 4, none⟩ (a4))).cell? ⟨gs, 1, none⟩ = some (.string n) ∧ ((((((w6.setCell ⟨w.heap.size, 0, none⟩ (a0)).setCell ⟨w.heap.size, 1, none⟩ (a1)).setCell ⟨w.heap.size, 2, none⟩ (a2)).setCell ⟨w.heap.size, 3, none⟩ (a3)).setCell ⟨w.heap.size, 4, none⟩ (a4))).cell? ⟨gs, 2, none⟩ = some (.string t) ∧ ((((((w6.setCell ⟨w.heap.size, 0, none⟩ (a0)).setCell ⟨w.heap.size, 1, none⟩ (a1)).setCell ⟨w.heap.size, 2, none⟩ (a2)).setCell ⟨w.heap.size, 3, none⟩ (a3)).setCell ⟨w.heap.size, 4, none⟩ (a4))).cell? ⟨gs, 3, none⟩ = some (.string x)) := by unfold Hid; intro a0 a1 a2 a3 a4; exact cellsC4 (((((D4.out.other NE.out 0 a0).other NE.out 1 a1).other NE.out 2 a2).other NE.out 3 a3).other NE.out 4 a4)
 refine uNe 5 (fun K hK => ?_)
 go_simp
 refine hK.out _ _ (fun _ _ => QQ.out _ _ _ _ _) ?_
 clear hK K r0 r1 r2 r3 r4 f0 f1 f2 f3 f4
 try simp only [Act.put, zQ1, zQ2, zQ3]
 have K6 : Hid (Blk (((((w6.setCell ⟨w.heap.size, 0, none⟩ (.int .i64 d.room)).setCell ⟨w.heap.size, 1, none⟩ (.int .i64 d.next)).setCell ⟨w.heap.size, 2, none⟩ (.slice A1 n1 c1)).setCell ⟨w.heap.size, 3, none⟩ (.slice A2 n2 c2)).setCell ⟨w.heap.size, 4, none⟩ (.slice A3 n3 c3)) w.heap.size #[.int .i64 d.room, .int .i64 d.next, .slice A1 n1 c1, .slice A2 n2 c2, .slice A3 n3 c3] 28) := blkC5 K5.out
 have L6 : Hid (Blk (((((w6.setCell ⟨w.heap.size, 0, none⟩ (.int .i64 d.room)).setCell ⟨w.heap.size, 1, none⟩ (.int .i64 d.next)).setCell ⟨w.heap.size, 2, none⟩ (.slice A1 n1 c1)).setCell ⟨w.heap.size, 3, none⟩ (.slice A2 n2 c2)).setCell ⟨w.heap.size, 4, none⟩ (.slice A3 n3 c3)) (w.heap.size + 1) #[.int .i64 0, .string ⟨#[]⟩, .string ⟨#[]⟩, .string ⟨#[]⟩] 55) := otherC5 L5.out (by omega) _ _ _ _ _
 have O6 : Hid (DiskO (((((w6.setCell ⟨w.heap.size, 0, none⟩ (.int .i64 d.room)).setCell ⟨w.heap.size, 1, none⟩ (.int .i64 d.next)).setCell ⟨w.heap.size, 2, none⟩ (.slice A1 n1 c1)).setCell ⟨w.heap.size, 3, none⟩ (.slice A2 n2 c2)).setCell ⟨w.heap.size, 4, none⟩ (.slice A3 n3 c3)) w4.heap.size (.agg #[.int .i64 d.room, .int .i64 d.next, .slice A1 n1 c1, .slice A2 n2 c2, .slice A3 n3 c3]) d) := DiskO.set5 ⟨_, _, _, rfl, h1, h2, h3⟩ (by have := hgb.out; omega) _ _ _ _ _
 have B6 : Hid (Below w.heap.size w (((((w6.setCell ⟨w.heap.size, 0, none⟩ (.int .i64 d.room)).setCell ⟨w.heap.size, 1, none⟩ (.int .i64 d.next)).setCell ⟨w.heap.size, 2, none⟩ (.slice A1 n1 c1)).setCell ⟨w.heap.size, 3, none⟩ (.slice A2 n2 c2)).setCell ⟨w.heap.size, 4, none⟩ (.slice A3 n3 c3))) := belowC5 (B0.out.trans (HB5.out.mono (by omega))) (Nat.le_refl _) _ _ _ _ _
 clear D3 D4 Q0 Q1 QQ K5 L5 HB5 HB4 HA4 h1 h2 h3 hA hm hsm NE
 generalize ((((w6.setCell ⟨w.heap.size, 0, none⟩ (.int .i64 d.room)).setCell ⟨w.heap.size, 1, none⟩ (.int .i64 d.next)).setCell ⟨w.heap.size, 2, none⟩ (.slice A1 n1 c1)).setCell ⟨w.heap.size, 3, none⟩ (.slice A2 n2 c2)).setCell ⟨w.heap.size, 4, none⟩ (.slice A3 n3 c3) = w7 at *
 obtain ⟨y0, y1, y2, y3, y4⟩ := cellsC5 K6.out
 obtain ⟨⟨r0, f0⟩, ⟨r1, f1⟩, ⟨r2, f2⟩, ⟨r3, f3⟩, u0, u1, u2, u3⟩ := resC4 (x0 := .int .i64 k) (x1 := .string n) (x2 := .string t) (x3 := .string x) L6.out
 have K7 := cellsC5 (otherC4 K6.out (g' := w.heap.size + 1) (by omega) (.int .i64 k) (.string n) (.string t) (.string x))
 obtain ⟨y0, y1, y2, y3, y4⟩ := K7
 have O7 : Hid (DiskO ((((w7.setCell ⟨(w.heap.size + 1), 0, none⟩ (.int .i64 k)).setCell ⟨(w.heap.size + 1), 1, none⟩ (.string n)).setCell ⟨(w.heap.size + 1), 2, none⟩ (.string t)).setCell ⟨(w.heap.size + 1), 3, none⟩ (.string x)) w4.heap.size (.agg #[.int .i64 d.room, .int .i64 d.next, .slice A1 n1 c1, .slice A2 n2 c2, .slice A3 n3 c3]) d) := O6.out.set4 hgb.out _ _ _ _
 have B7 : Hid (Below w.heap.size w ((((w7.setCell ⟨(w.heap.size + 1), 0, none⟩ (.int .i64 k)).setCell ⟨(w.heap.size + 1), 1, none⟩ (.string n)).setCell ⟨(w.heap.size + 1), 2, none⟩ (.string t)).setCell ⟨(w.heap.size + 1), 3, none⟩ (.string x))) := belowC4 B6.out (Nat.le_succ _) _ _ _ _
 refine uNe 6 (fun K hK => ?_)
 go_simp
 refine hK.out _ _ (fun h => by cases h) ?_
 clear hK K
 try simp only [Act.put, zQ1, zQ2, zQ3]
 refine until_done (by kernel_rfl) ?_ _
 clear r0 r1 r2 r3 f0 f1 f2 f3
 go_wp2_with fail
 exact bodyPost_ret (v := .tuple #[.agg #[.int .i64 d.room, .int .i64 d.next, .slice A1 n1 c1, .slice A2 n2 c2, .slice A3 n3 c3], .agg #[.int .i64 k, .string n, .string t, .string x]]) (by simp [results, go_sem, y0, y1, y2, y3, y4, u0, u1, u2, u3]) rfl ⟨d, _, k, n, t, x, rfl, O7.out.monoD (by have := hgb.out; omega), HSM.out, HZ.out, B7.out⟩
end Go.Proofs.YtgjilgecklhglaaGreat
namespace Go.Proofs.YtgjilgecklhglaaGreat
open Go.ChangeShapes Go.WideShapes Go.ChangeAt Go.RowKit Go.PlainAid
set_option linter.unusedVariables false
theorem Tryz.infoIntK : (Tryz.prog.info? 3).map (fun i => (i.zero, i.size, i.bytes)) = some (some (.int .i64 0), 1, 8) := by kernel_rfl
theorem Nums.asV {w : World} {base : Nat} {v : Value} {l : List Int} (h : Nums w base v l) : NumsV w w.heap.size v l := by
 rcases h.form with ⟨rfl, rfl⟩ | ⟨g, cap, rfl, h1, h2, h3, h4⟩
 ·exact ⟨none, 0, rfl, Nat.le_refl _, by unfold maxLen; omega, fun j hj => (by simp at hj)⟩
 ·exact ⟨some ⟨g, 0, none⟩, cap, rfl, h1, h2, fun j hj => ⟨g, 0, rfl, h4, by rw [Nat.zero_add]; exact h.cell j hj⟩⟩
set_option maxRecDepth 20000 in
set_option maxHeartbeats 4000000 in
theorem drawCrash (w : World) (ao : Option Addr) (len cap : Nat) (cs : Nat → Nat) (hl : len ≤ 1048576) (h : CodeIs w w.heap.size ao len cs) :
  Calls Tryz.prog 15 #[.slice ao len cap] w fun e w' => ∃ (d : Dsk) (v : Value) (kp : Int) (l : List Int) (u : Value), e = .returned (.tuple #[v, .int .i64 kp, u]) ∧ DiskO w' w.heap.size v d ∧ Small d ∧ NumsV w' w'.heap.size u l ∧ l.length ≤ 5 ∧ Below w.heap.size w w' := by
 have HC : Hid (CodeIs w w.heap.size ao len cs) := h
 clear h
 obtain ⟨X0, hX0⟩ : ∃ X0, X0 = w.alloc (.cells #[.int .i64 0, .int .i64 0, .slice none 0 0, .slice none 0 0, .slice none 0 0] 28) := ⟨_, rfl⟩
 have B0 : Hid (Below w.heap.size w X0) := by unfold Hid; rw [hX0]; exact (Below.refl _ w).alloc (Nat.le_refl _) _
 have K0 : Hid (Blk X0 w.heap.size #[.int .i64 0, .int .i64 0, .slice none 0 0, .slice none 0 0, .slice none 0 0] 28) := by unfold Hid; rw [hX0]; exact Blk.new w _ _
 have C0 := Hid.mkD (HC.out.on B0.out)
 go_enter Tryz.func15, Tryz.ntmps15
 go_wp2_with fail
 rw [← hX0]
 clear hX0
 refine (new_any X0 ao len cap cs hl C0.out).mono ?_
 rintro e w1 ⟨rfl, hA1, hb1⟩
 obtain ⟨p, hp⟩ : ∃ p, p = X0.heap.size := ⟨_, rfl⟩
 rw [← hp] at hA1 hb1 ⊢
 have HP := Hid.mkD hp
 have HB1 := Hid.mkD hb1
 have HA1 := Hid.mkD (show AtS w1 p from ⟨_, _, _, _, _, hA1⟩)
 clear hb1 hA1 hp
 go_wp2_with fail
 refine (belowS w1 p 8 (by omega) (by omega) HA1.out).mono ?_
 rintro e w2 ⟨kz, rfl, -, hA, hm⟩
 have M2 : Hid (Mod w1.heap.size p w1 w2) := hm
 have A2 := Hid.mkD hA
 have A3 : Hid (AtS (w2.alloc (.cells #[] 3)) p) := A2.out.below ((Below.refl _ _).alloc (Nat.le_refl _) _) A2.out.lt
 have M3 : Hid (Mod w1.heap.size p w1 (w2.alloc (.cells #[] 3))) := M2.out.alloc M2.out.size _
 have N3 : Hid (Nums (w2.alloc (.cells #[] 3)) w1.heap.size (.slice (some ⟨w2.heap.size, 0, none⟩) 0 0) []) := Nums.empty w2 w1.heap.size M2.out.size
 have PL := Hid.mkD HA1.out.lt
 clear hA hm
 go_wp2_with fail
 generalize w2.alloc (.cells #[] 3) = w3 at *
 refine (belowS w3 p 5 (by omega) (by omega) A3.out).mono ?_
 rintro e w4 ⟨nn, rfl, ⟨nn0, nn9⟩, hA, hm⟩
 have A4 := Hid.mkD hA
 have M4 : Hid (Mod w1.heap.size p w1 w4) := M3.out.trans (hm.mono M3.out.size)
 have N4 : Hid (Nums w4 w1.heap.size (.slice (some ⟨w2.heap.size, 0, none⟩) 0 0) []) := N3.out.mod hm PL.out (Nat.le_refl _)
 obtain ⟨n4, rfl⟩ : ∃ n : Nat, nn = (n : Int) := ⟨nn.toNat, by omega⟩
 clear hA hm A2 M2 A3 M3 N3
 go_wp2_with fail
 go_loopw [7, 8] (fun v7 v8 wr => ∃ (k : Nat) (l : List Int), l.length + k ≤ 5 ∧ v8 = .int .i64 (k : Int) ∧ Nums wr w1.heap.size v7 l ∧ AtS wr p ∧ Mod w1.heap.size p w1 wr) (fun _ i _ => (intOf i).toNat)
 case atStart => exact ⟨n4, [], by simp; omega, rfl, N4.out, A4.out, M4.out⟩
 case round =>
  obtain ⟨k, l, hk, rfl, hN, hA, hM⟩ := hrel
  have HN := Hid.mkD hN
  obtain ⟨A, c, rfl, _, _⟩ := hN.shape
  have AR := Hid.mkD hA
  have MR := Hid.mkD hM
  have HK := Hid.mkD hk
  have q1 : (k : Int) ≤ 5 := by omega
  clear hN hA hM hk A4 M4 N4
  by_cases hlt : 0 < k
  ·have q2 : (0 : Int) < (k : Int) := by omega
   go_wp2_with fail
   refine (belowS wr p 30 (by omega) (by omega) AR.out).mono ?_
   rintro e w5 ⟨z, rfl, -, hA, hm⟩
   have A5 := Hid.mkD hA
   have M5 : Hid (Mod w1.heap.size p w1 w5) := MR.out.trans (hm.mono MR.out.size)
   have N5 : Hid (Nums w5 w1.heap.size (.slice A l.length c) l) := HN.out.mod hm PL.out (Nat.le_refl _)
   clear hA hm AR MR HN
   go_wp2_with (at_builtin; refine wpList_append_num rfl (.tmp 21) (.tmp 25) 38 rfl Tryz.underlying38 Tryz.infoIntK w1.heap.size _ l rfl N5.out _ rfl (by have := HK.out; omega) M5.out.size ?_; intro v' w6 hN6 hb6 hk6)
   have A6 : Hid (AtS w6 p) := A5.out.below hb6 PL.out
   have M6 : Hid (Mod w1.heap.size p w1 w6) := M5.out.trans (Mod.of_below hb6)
   have N6 := Hid.mkD hN6
   clear hN6 hb6 hk6 A5 M5 N5
   go_wp2_with fail
   go_roundw
   case rel => exact ⟨k - 1, _, by have := HK.out; simp; omega, by go_num, N6.out, A6.out, M6.out⟩
   case measure => simp [intOf]; omega
  ·obtain rfl : k = 0 := by omega
   go_wp2_with fail
   refine (size_any wr ao len cap 40 hl (by omega) (by omega)).mono ?_
   rintro e w5 ⟨⟨z, rfl, z0, z9⟩, rfl⟩
   obtain ⟨zn, rfl⟩ : ∃ zn : Nat, z = (zn : Int) := ⟨z.toNat, by omega⟩
   go_wp2_with fail
   refine (some_any4 wr p zn AR.out (by omega) (by omega)).mono ?_
   rintro e w6 ⟨d, v, rfl, hO, hsm, hA, hm⟩
   have HSM := Hid.mkD hsm
   have N6 : Hid (Nums w6 w1.heap.size (.slice A l.length c) l) := HN.out.mod hm PL.out (Nat.le_refl _)
   have M6 : Hid (Mod w1.heap.size p w1 w6) := MR.out.trans (hm.mono MR.out.size)
   have HB5 : Hid (Below p X0 w6) := HB1.out.trans ((M6.out.mono (by have := PL.out; omega)).below (Nat.le_refl _))
   have hpx := HP.out
   have hxs := B0.out.size
   have hpl := PL.out
   have hk0 := K0.out.lt
   have K5 : Hid (Blk w6 w.heap.size #[.int .i64 0, .int .i64 0, .slice none 0 0, .slice none 0 0, .slice none 0 0] 28) := K0.out.on HB5.out (by omega)
   have hwr := MR.out.size
   obtain ⟨v1, v2, v3, rfl, h1, h2, h3⟩ := hO
   obtain ⟨A1, n1, c1, rfl⟩ := h1.shape
   obtain ⟨A2, n2, c2, rfl⟩ := h2.shape
   obtain ⟨A3, n3, c3, rfl⟩ := h3.shape
   obtain ⟨⟨r0, f0⟩, ⟨r1, f1⟩, ⟨r2, f2⟩, ⟨r3, f3⟩, ⟨r4, f4⟩, y0, y1, y2, y3, y4⟩ := resC5 (x0 := .int .i64 d.room) (x1 := .int .i64 d.next) (x2 := .slice A1 n1 c1) (x3 := .slice A2 n2 c2) (x4 := .slice A3 n3 c3) K5.out
   have O6 : Hid (DiskO (((((w6.setCell ⟨w.heap.size, 0, none⟩ (.int .i64 d.room)).setCell ⟨w.heap.size, 1, none⟩ (.int .i64 d.next)).setCell ⟨w.heap.size, 2, none⟩ (.slice A1 n1 c1)).setCell ⟨w.heap.size, 3, none⟩ (.slice A2 n2 c2)).setCell ⟨w.heap.size, 4, none⟩ (.slice A3 n3 c3)) wr.heap.size (.agg #[.int .i64 d.room, .int .i64 d.next, .slice A1 n1 c1, .slice A2 n2 c2, .slice A3 n3 c3]) d) := DiskO.set5 ⟨_, _, _, rfl, h1, h2, h3⟩ (by omega) _ _ _ _ _
   have B6 : Hid (Below w.heap.size w (((((w6.setCell ⟨w.heap.size, 0, none⟩ (.int .i64 d.room)).setCell ⟨w.heap.size, 1, none⟩ (.int .i64 d.next)).setCell ⟨w.heap.size, 2, none⟩ (.slice A1 n1 c1)).setCell ⟨w.heap.size, 3, none⟩ (.slice A2 n2 c2)).setCell ⟨w.heap.size, 4, none⟩ (.slice A3 n3 c3))) := belowC5 (B0.out.trans (HB5.out.mono (by omega))) (Nat.le_refl _) _ _ _ _ _
   have nb : (Value.slice A l.length c).ownBlock ≠ some w.heap.size := fun hv => by have := (N6.out.lt _ hv).1; omega
   have N7 : Hid (Nums (((((w6.setCell ⟨w.heap.size, 0, none⟩ (.int .i64 d.room)).setCell ⟨w.heap.size, 1, none⟩ (.int .i64 d.next)).setCell ⟨w.heap.size, 2, none⟩ (.slice A1 n1 c1)).setCell ⟨w.heap.size, 3, none⟩ (.slice A2 n2 c2)).setCell ⟨w.heap.size, 4, none⟩ (.slice A3 n3 c3)) w1.heap.size (.slice A l.length c) l) := (((((N6.out.other nb 0 _).other nb 1 _).other nb 2 _).other nb 3 _).other nb 4 _)
   have HK5 : Hid (l.length ≤ 5) := by have := HK.out; unfold Hid; omega
   have HW : Hid (w.heap.size ≤ wr.heap.size) := by unfold Hid; omega
   clear h1 h2 h3 hA hm hsm K5 HB5 M6 N6 HN AR MR HK nb hpl hwr hpx hxs hk0
   go_wp2_with fail
   exact bodyPost_ret (v := .tuple #[.agg #[.int .i64 d.room, .int .i64 d.next, .slice A1 n1 c1, .slice A2 n2 c2, .slice A3 n3 c3], .int .i64 (wrap64 (kz - 1)), .slice A l.length c]) (by simp [results, go_sem, y0, y1, y2, y3, y4]) rfl ⟨d, _, _, l, _, rfl, O6.out.monoD HW.out, HSM.out, N7.out.asV, HK5.out, B6.out⟩
end Go.Proofs.YtgjilgecklhglaaGreat
namespace Go.Proofs.YtgjilgecklhglaaGreat
open Go.ChangeShapes Go.WideShapes Go.ChangeAt Go.RowKit Go.PlainAid
set_option linter.unusedVariables false
set_option maxRecDepth 20000 in
set_option maxHeartbeats 4000000 in
theorem sameDiskV (d : Dsk) (va vb : Value) (w : World) (B : Nat) (ha : DiskV w B va d) (hb : DiskV w B vb d) (hB : B ≤ w.heap.size) (hn1 : d.nods.length ≤ 1000) (hn2 : d.dir.length ≤ 1000) (hn3 : d.movs.length ≤ 1000) :
  Calls Tryz.prog 26 #[va, vb] w fun e w' => e = .returned (.bool true) ∧ Below w.heap.size w w' := by
 obtain ⟨va1, va2, va3, rfl, ha1, ha2, ha3⟩ := ha
 obtain ⟨vb1, vb2, vb3, rfl, hb1, hb2, hb3⟩ := hb
 obtain ⟨A1, a1, rfl, hA1⟩ := nod_look ha1
 obtain ⟨A2, a2, rfl, hA2⟩ := lnk_look ha2
 obtain ⟨A3, a3, rfl, hA3⟩ := mov_look ha3
 obtain ⟨B1, b1, rfl, hB1⟩ := nod_look hb1
 obtain ⟨B2, b2, rfl, hB2⟩ := lnk_look hb2
 obtain ⟨B3, b3, rfl, hB3⟩ := mov_look hb3
 have HA1 := Hid.mkD hA1
 have HA2 := Hid.mkD hA2
 have HA3 := Hid.mkD hA3
 have HB1 := Hid.mkD hB1
 have HB2 := Hid.mkD hB2
 have HB3 := Hid.mkD hB3
 obtain ⟨X0, hX0⟩ : ∃ X0, X0 = (w.alloc (.cells #[.int .i64 d.room, .int .i64 d.next, .slice A1 d.nods.length a1, .slice A2 d.dir.length a2, .slice A3 d.movs.length a3] 28)).alloc (.cells #[.int .i64 d.room, .int .i64 d.next, .slice B1 d.nods.length b1, .slice B2 d.dir.length b2, .slice B3 d.movs.length b3] 28) := ⟨_, rfl⟩
 have hb0 : Below w.heap.size w X0 := by rw [hX0]; exact ((Below.refl _ w).alloc (Nat.le_refl _) _).alloc (by simp) _
 have B0 := Hid.mkD hb0
 have ka : Blk X0 w.heap.size #[.int .i64 d.room, .int .i64 d.next, .slice A1 d.nods.length a1, .slice A2 d.dir.length a2, .slice A3 d.movs.length a3] 28 := by rw [hX0]; exact (Blk.new w _ _).alloc _
 have kb : Blk X0 (w.heap.size + 1) #[.int .i64 d.room, .int .i64 d.next, .slice B1 d.nods.length b1, .slice B2 d.dir.length b2, .slice B3 d.movs.length b3] 28 := by rw [hX0]; have := Blk.new (w.alloc (.cells #[.int .i64 d.room, .int .i64 d.next, .slice A1 d.nods.length a1, .slice A2 d.dir.length a2, .slice A3 d.movs.length a3] 28)) #[.int .i64 d.room, .int .i64 d.next, .slice B1 d.nods.length b1, .slice B2 d.dir.length b2, .slice B3 d.movs.length b3] 28; rw [World.size_alloc] at this; exact this
 have KA := Hid.mkD ka
 have KB := Hid.mkD kb
 have ca := cellsC5 ka
 have cb := cellsC5 kb
 have HBB := Hid.mkD hB
 have q1 : (d.nods.length : Int) ≤ 1000 := by omega
 have q2 : (d.dir.length : Int) ≤ 1000 := by omega
 have q3 : (d.movs.length : Int) ≤ 1000 := by omega
 clear ha1 ha2 ha3 hb1 hb2 hb3 hA1 hA2 hA3 hB1 hB2 hB3 ka kb hb0 hB hn1 hn2 hn3
 generalize hN1 : d.nods.length = n1 at *
 generalize hN2 : d.dir.length = n2 at *
 generalize hN3 : d.movs.length = n3 at *
 clear hN1 hN2 hN3
 obtain ⟨a00, a01, a02, a03, a04⟩ := ca
 obtain ⟨b00, b01, b02, b03, b04⟩ := cb
 go_enter Tryz.func26, Tryz.ntmps26
 go_wp2_with fail
 rw [← hX0]
 clear hX0
 go_wp2_with fail
 have W0 : Hid (Below X0.heap.size X0 X0) := Below.refl _ _
 clear a00 a01 a02 a03 a04 b00 b01 b02 b03 b04
 go_loopw [5] (fun v5 wr => ∃ k : Nat, k ≤ n1 ∧ v5 = .int .i64 (k : Int) ∧ Below X0.heap.size X0 wr) (fun i _ => n1 - (intOf i).toNat)
 case atStart => exact ⟨0, by omega, rfl, W0.out⟩
 case round =>
  obtain ⟨k, hk, rfl, hw⟩ := hrel
  have HW := Hid.mkD hw
  obtain ⟨x0, x1, x2, x3, x4⟩ := cellsC5 (KA.out.on hw KA.out.lt)
  obtain ⟨y0, y1, y2, y3, y4⟩ := cellsC5 (KB.out.on hw KB.out.lt)
  by_cases hlt : k < n1
  ·have q4 : (k : Int) < (n1 : Int) := by omega
   obtain ⟨g, off, rfl, hg, u0, u1, u2⟩ := HA1.out k hlt
   obtain ⟨g', off', rfl, hg', v0, v1, v2⟩ := HB1.out k hlt
   generalize (d.nods.getD k default).id = z0 at *
   generalize (d.nods.getD k default).data = z1 at *
   generalize (d.nods.getD k default).sure = z2 at *
   have hcl : ∀ a, a.block < B → wr.drew.cell? a = w.cell? a := fun a ha => ((HW.out.drew).cell (by have := HBB.out; have := B0.out.size; omega)).trans (B0.out.cell (by have := HBB.out; omega))
   have S0 : Hid (wr.drew.cell? ⟨w.heap.size, 2, none⟩ = some (.slice (some ⟨g, off, none⟩) n1 a1) ∧ wr.drew.cell? ⟨w.heap.size + 1, 2, none⟩ = some (.slice (some ⟨g', off', none⟩) n1 b1) ∧ wr.drew.cell? ⟨g, off + k * 3, none⟩ = some (.int .i64 z0) ∧ wr.drew.cell? ⟨g, off + k * 3 + 1, none⟩ = some (.string z1) ∧ wr.drew.cell? ⟨g, off + k * 3 + 2, none⟩ = some (.int .i64 z2) ∧ wr.drew.cell? ⟨g', off' + k * 3, none⟩ = some (.int .i64 z0) ∧ wr.drew.cell? ⟨g', off' + k * 3 + 1, none⟩ = some (.string z1) ∧ wr.drew.cell? ⟨g', off' + k * 3 + 2, none⟩ = some (.int .i64 z2)) := ⟨x2, y2, (hcl _ hg).trans u0, (hcl _ hg).trans u1, (hcl _ hg).trans u2, (hcl _ hg').trans v0, (hcl _ hg').trans v1, (hcl _ hg').trans v2⟩
   have hx1 : (z1.toList == z1.toList) = true := by simp
   clear u0 v0 u1 v1 u2 v2 hg hg' hw hcl
   go_wp2_with fail
   refine wp_region_until (fun w' => w'.cell? ⟨w.heap.size, 2, none⟩ = some (.slice (some ⟨g, off, none⟩) n1 a1) ∧ w'.cell? ⟨w.heap.size + 1, 2, none⟩ = some (.slice (some ⟨g', off', none⟩) n1 b1) ∧ w'.cell? ⟨g, off + k * 3, none⟩ = some (.int .i64 z0) ∧ w'.cell? ⟨g, off + k * 3 + 1, none⟩ = some (.string z1) ∧ w'.cell? ⟨g, off + k * 3 + 2, none⟩ = some (.int .i64 z2) ∧ w'.cell? ⟨g', off' + k * 3, none⟩ = some (.int .i64 z0) ∧ w'.cell? ⟨g', off' + k * 3 + 1, none⟩ = some (.string z1) ∧ w'.cell? ⟨g', off' + k * 3 + 2, none⟩ = some (.int .i64 z2)) (fun _ => false) 11 (by rfl) (by kernel_rfl) ?_
   refine pF 0 ?_
   refine tF 1 S0.out ?_
   refine pF 2 ?_
   refine pF 3 ?_
   refine tF 4 S0.out ?_
   refine pF 5 ?_
   refine tF 6 S0.out ?_
   refine pF 7 ?_
   refine pF 8 ?_
   refine tF 9 S0.out ?_
   refine pF 10 ?_
   refine until_done (by kernel_rfl) ?_ _
   go_wp2_with fail
   go_roundw
   case rel => exact ⟨k + 1, by omega, by go_num, HW.out.drew⟩
   case measure => simp [intOf]; omega
  ·obtain rfl : k = n1 := by omega
   go_wp2_with fail
   have W2 := Hid.mkD hw
   clear x0 x1 x2 x3 x4 y0 y1 y2 y3 y4 HW hw hlt
   go_loopw [6] (fun v6 wr => ∃ k : Nat, k ≤ n2 ∧ v6 = .int .i64 (k : Int) ∧ Below X0.heap.size X0 wr) (fun i _ => n2 - (intOf i).toNat)
   case atStart => exact ⟨0, by omega, rfl, W2.out⟩
   case round =>
    obtain ⟨k, hk, rfl, hw⟩ := hrel
    have HW := Hid.mkD hw
    obtain ⟨x0, x1, x2, x3, x4⟩ := cellsC5 (KA.out.on hw KA.out.lt)
    obtain ⟨y0, y1, y2, y3, y4⟩ := cellsC5 (KB.out.on hw KB.out.lt)
    by_cases hlt : k < n2
    ·have q4 : (k : Int) < (n2 : Int) := by omega
     obtain ⟨g, off, rfl, hg, u0, u1⟩ := HA2.out k hlt
     obtain ⟨g', off', rfl, hg', v0, v1⟩ := HB2.out k hlt
     generalize (d.dir.getD k default).name = z0 at *
     generalize (d.dir.getD k default).id = z1 at *
     have hcl : ∀ a, a.block < B → wr.drew.cell? a = w.cell? a := fun a ha => ((HW.out.drew).cell (by have := HBB.out; have := B0.out.size; omega)).trans (B0.out.cell (by have := HBB.out; omega))
     have S0 : Hid (wr.drew.cell? ⟨w.heap.size, 3, none⟩ = some (.slice (some ⟨g, off, none⟩) n2 a2) ∧ wr.drew.cell? ⟨w.heap.size + 1, 3, none⟩ = some (.slice (some ⟨g', off', none⟩) n2 b2) ∧ wr.drew.cell? ⟨g, off + k * 2, none⟩ = some (.string z0) ∧ wr.drew.cell? ⟨g, off + k * 2 + 1, none⟩ = some (.int .i64 z1) ∧ wr.drew.cell? ⟨g', off' + k * 2, none⟩ = some (.string z0) ∧ wr.drew.cell? ⟨g', off' + k * 2 + 1, none⟩ = some (.int .i64 z1)) := ⟨x3, y3, (hcl _ hg).trans u0, (hcl _ hg).trans u1, (hcl _ hg').trans v0, (hcl _ hg').trans v1⟩
     have hx0 : (z0.toList == z0.toList) = true := by simp
     clear u0 v0 u1 v1 hg hg' hw hcl
     go_wp2_with fail
     refine wp_region_until (fun w' => w'.cell? ⟨w.heap.size, 3, none⟩ = some (.slice (some ⟨g, off, none⟩) n2 a2) ∧ w'.cell? ⟨w.heap.size + 1, 3, none⟩ = some (.slice (some ⟨g', off', none⟩) n2 b2) ∧ w'.cell? ⟨g, off + k * 2, none⟩ = some (.string z0) ∧ w'.cell? ⟨g, off + k * 2 + 1, none⟩ = some (.int .i64 z1) ∧ w'.cell? ⟨g', off' + k * 2, none⟩ = some (.string z0) ∧ w'.cell? ⟨g', off' + k * 2 + 1, none⟩ = some (.int .i64 z1)) (fun _ => false) 11 (by rfl) (by kernel_rfl) ?_
     refine pF 0 ?_
     refine tF 1 S0.out ?_
     refine pF 2 ?_
     refine pF 3 ?_
     refine tF 4 S0.out ?_
     refine pF 5 ?_
     refine tF 6 S0.out ?_
     refine pF 7 ?_
     refine pF 8 ?_
     refine tF 9 S0.out ?_
     refine pF 10 ?_
     refine until_done (by kernel_rfl) ?_ _
     go_wp2_with fail
     go_roundw
     case rel => exact ⟨k + 1, by omega, by go_num, HW.out.drew⟩
     case measure => simp [intOf]; omega
    ·obtain rfl : k = n2 := by omega
     go_wp2_with fail
     have W3 := Hid.mkD hw
     clear x0 x1 x2 x3 x4 y0 y1 y2 y3 y4 HW hw hlt
     go_loopw [7] (fun v7 wr => ∃ k : Nat, k ≤ n3 ∧ v7 = .int .i64 (k : Int) ∧ Below X0.heap.size X0 wr) (fun i _ => n3 - (intOf i).toNat)
     case atStart => exact ⟨0, by omega, rfl, W3.out⟩
     case round =>
      obtain ⟨k, hk, rfl, hw⟩ := hrel
      have HW := Hid.mkD hw
      obtain ⟨x0, x1, x2, x3, x4⟩ := cellsC5 (KA.out.on hw KA.out.lt)
      obtain ⟨y0, y1, y2, y3, y4⟩ := cellsC5 (KB.out.on hw KB.out.lt)
      by_cases hlt : k < n3
      ·have q4 : (k : Int) < (n3 : Int) := by omega
       obtain ⟨g, off, rfl, hg, u0, u1, u2, u3⟩ := HA3.out k hlt
       obtain ⟨g', off', rfl, hg', v0, v1, v2, v3⟩ := HB3.out k hlt
       generalize (d.movs.getD k default).kind = z0 at *
       generalize (d.movs.getD k default).name = z1 at *
       generalize (d.movs.getD k default).to = z2 at *
       generalize (d.movs.getD k default).id = z3 at *
       have hcl : ∀ a, a.block < B → wr.drew.cell? a = w.cell? a := fun a ha => ((HW.out.drew).cell (by have := HBB.out; have := B0.out.size; omega)).trans (B0.out.cell (by have := HBB.out; omega))
       have S0 : Hid (wr.drew.cell? ⟨w.heap.size, 4, none⟩ = some (.slice (some ⟨g, off, none⟩) n3 a3) ∧ wr.drew.cell? ⟨w.heap.size + 1, 4, none⟩ = some (.slice (some ⟨g', off', none⟩) n3 b3) ∧ wr.drew.cell? ⟨g, off + k * 4, none⟩ = some (.int .i64 z0) ∧ wr.drew.cell? ⟨g, off + k * 4 + 1, none⟩ = some (.string z1) ∧ wr.drew.cell? ⟨g, off + k * 4 + 2, none⟩ = some (.string z2) ∧ wr.drew.cell? ⟨g, off + k * 4 + 3, none⟩ = some (.int .i64 z3) ∧ wr.drew.cell? ⟨g', off' + k * 4, none⟩ = some (.int .i64 z0) ∧ wr.drew.cell? ⟨g', off' + k * 4 + 1, none⟩ = some (.string z1) ∧ wr.drew.cell? ⟨g', off' + k * 4 + 2, none⟩ = some (.string z2) ∧ wr.drew.cell? ⟨g', off' + k * 4 + 3, none⟩ = some (.int .i64 z3)) := ⟨x4, y4, (hcl _ hg).trans u0, (hcl _ hg).trans u1, (hcl _ hg).trans u2, (hcl _ hg).trans u3, (hcl _ hg').trans v0, (hcl _ hg').trans v1, (hcl _ hg').trans v2, (hcl _ hg').trans v3⟩
       have hx1 : (z1.toList == z1.toList) = true := by simp
       have hx2 : (z2.toList == z2.toList) = true := by simp
       clear u0 v0 u1 v1 u2 v2 u3 v3 hg hg' hw hcl
       go_wp2_with fail
       refine wp_region_until (fun w' => w'.cell? ⟨w.heap.size, 4, none⟩ = some (.slice (some ⟨g, off, none⟩) n3 a3) ∧ w'.cell? ⟨w.heap.size + 1, 4, none⟩ = some (.slice (some ⟨g', off', none⟩) n3 b3) ∧ w'.cell? ⟨g, off + k * 4, none⟩ = some (.int .i64 z0) ∧ w'.cell? ⟨g, off + k * 4 + 1, none⟩ = some (.string z1) ∧ w'.cell? ⟨g, off + k * 4 + 2, none⟩ = some (.string z2) ∧ w'.cell? ⟨g, off + k * 4 + 3, none⟩ = some (.int .i64 z3) ∧ w'.cell? ⟨g', off' + k * 4, none⟩ = some (.int .i64 z0) ∧ w'.cell? ⟨g', off' + k * 4 + 1, none⟩ = some (.string z1) ∧ w'.cell? ⟨g', off' + k * 4 + 2, none⟩ = some (.string z2) ∧ w'.cell? ⟨g', off' + k * 4 + 3, none⟩ = some (.int .i64 z3)) (fun _ => false) 11 (by rfl) (by kernel_rfl) ?_
       refine pF 0 ?_
       refine tF 1 S0.out ?_
       refine pF 2 ?_
       refine pF 3 ?_
       refine tF 4 S0.out ?_
       refine pF 5 ?_
       refine tF 6 S0.out ?_
       refine pF 7 ?_
       refine pF 8 ?_
       refine tF 9 S0.out ?_
       refine pF 10 ?_
       refine until_done (by kernel_rfl) ?_ _
       go_wp2_with fail
       go_roundw
       case rel => exact ⟨k + 1, by omega, by go_num, HW.out.drew⟩
       case measure => simp [intOf]; omega
      ·obtain rfl : k = n3 := by omega
       go_wp2_with fail
       have W4 := Hid.mkD hw
       clear x0 x1 x2 x3 x4 y0 y1 y2 y3 y4 HW hw hlt
       go_ret
       exact ⟨rfl, B0.out.trans (W4.out.mono B0.out.size)⟩
end Go.Proofs.YtgjilgecklhglaaGreat
namespace Go.Proofs.YtgjilgecklhglaaGreat
open Go.ChangeShapes Go.WideShapes Go.ChangeAt Go.RowKit Go.PlainAid
set_option linter.unusedVariables false
def atV (len : Nat) (cs : Nat → Nat) (i : Nat) : Nat := if i < len then cs i else (i * 37 + len * 11) % 256
set_option maxHeartbeats 400000 in
theorem at_any (w : World) (ao : Option Addr) (len cap : Nat) (cs : Nat → Nat) (i : Nat) (hl : len ≤ 1048576) (hi : i ≤ 100000) (h : CodeIs w w.heap.size ao len cs) :
  Calls Tryz.prog 27 #[.slice ao len cap, .int .i64 (i : Int)] w fun e w' => e = .returned (.int .i64 (atV len cs i : Int)) ∧ w = w' := by
 have q : (len : Int) ≤ 1048576 := by omega
 have q2 : (i : Int) ≤ 100000 := by omega
 by_cases hlt : i < len
 ·obtain ⟨cb, co, rfl, _, hb, hc⟩ := h.at hlt
  have q3 : (i : Int) < (len : Int) := by omega
  have EV : Hid (atV len cs i = cs i) := by unfold Hid; rw [atV, if_pos hlt]
  have w1 : IntKind.i64.wrap (cs i : Int) = (cs i : Int) := by rw [IntKind.wrap_i64]; omega
  generalize cs i = x at *
  clear h
  go_enter Tryz.func27, Tryz.ntmps27
  go_wp2
  go_ret
  exact ⟨by rw [EV.out]; rfl, rfl⟩
 ·have q3 : (len : Int) ≤ (i : Int) := by omega
  have EV : Hid ((atV len cs i : Int) = ((i : Int) * 37 + (len : Int) * 11) % 256) := by unfold Hid; rw [atV, if_neg hlt]; omega
  clear h
  go_enter Tryz.func27, Tryz.ntmps27
  go_wp2
  go_ret
  exact ⟨by rw [EV.out]; rfl, rfl⟩
end Go.Proofs.YtgjilgecklhglaaGreat
