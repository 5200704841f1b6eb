/- CoEi -/
import Derived.Test.YtlhoonohpfpkbaaRows
import Derived.Test.YtlhoonohpfpkbaaQz13
import Derived.Deep.Cut
import Derived.Deep.CutRange
import Derived.Handy
import Derived.Test.YtlhoonohpfpkbaaQp0
import Derived.Test.YtlhoonohpfpkbaaQp1
import Derived.Test.YtlhoonohpfpkbaaQp2
import Derived.Test.YtlhoonohpfpkbaaQp3
import Derived.Test.YtlhoonohpfpkbaaQp4
import Derived.Test.YtlhoonohpfpkbaaQp5
import Derived.Test.YtlhoonohpfpkbaaQp6
import Derived.Test.YtlhoonohpfpkbaaQp7
import Derived.Test.YtlhoonohpfpkbaaQp8
import Derived.Test.YtlhoonohpfpkbaaQp9
import Derived.Test.YtlhoonohpfpkbaaQp10
import Derived.Test.YtlhoonohpfpkbaaQp11
import Derived.Test.YtlhoonohpfpkbaaQp12
open List (setIfInBounds_toArray set_cons_zero set_cons_succ)
namespace Go.Proofs.Ytlhoonohpfpkbaa
open Go.ChangeShapes Go.WideShapes Go.ChangeAt Go.RowKit Go.PlainAid
set_option linter.unusedVariables false
def seekC (x : Cor) : Cor := { x with term := x.term + 1, vote := x.id, role := 2, lead := -1, yes := [x.id], nxt := [], mat := [] }
def voteM (x : Cor) (t : Int) : Mg := ⟨1, x.id, t, x.term, cLast x, termAt x (cLast x), 0, false, [], ⟨#[]⟩⟩
def electR (x : Cor) : Cor × List Mg := if x.role = 3 ∨ x.term = 100000 then (x, []) else if x.peers = 1 then (putC (leadC (seekC x)) ⟨#[]⟩, toAll (putC (leadC (seekC x)) ⟨#[]⟩)) else (seekC x, (othL x.id x.peers.toNat).map (voteM (seekC x)))
theorem electR_no {x : Cor} (h : x.role = 3 ∨ x.term = 100000) : electR x = (x, []) := if_pos h
theorem electR_one {x : Cor} (h : ¬ (x.role = 3 ∨ x.term = 100000)) (h1 : x.peers = 1) : electR x = (putC (leadC (seekC x)) ⟨#[]⟩, toAll (putC (leadC (seekC x)) ⟨#[]⟩)) := by unfold electR; rw [if_neg h, if_pos h1]
theorem electR_all {x : Cor} (h : ¬ (x.role = 3 ∨ x.term = 100000)) (h1 : ¬ x.peers = 1) : electR x = (seekC x, (othL x.id x.peers.toNat).map (voteM (seekC x))) := by unfold electR; rw [if_neg h, if_neg h1]
theorem SendOk.led {x : Cor} (hs : ShortC x) (b0 : 0 ≤ x.base) (b1 : x.base ≤ 100000) (n : x.log.length ≤ 60) (p0 : 1 ≤ x.peers) (p1 : x.peers ≤ 5) (i0 : 0 ≤ x.id) (i1 : x.id < x.peers) (c : x.base ≤ x.commit ∧ x.commit ≤ cLast x) : SendOk (leadC x) := by
 have hcl : 0 ≤ cLast x := by unfold cLast; omega
 refine ⟨⟨hs.n, hs.d, Nat.zero_le _, ?_, ?_⟩, b0, b1, n, p0, p1, ?_, ?_, i0, i1, ?_, c⟩
 ·show (List.replicate _ _).length ≤ _; rw [List.length_replicate]; omega
 ·show (List.replicate _ _).length ≤ _; rw [List.length_replicate]; omega
 ·show ((List.replicate _ _).length : Int) = x.peers; rw [List.length_replicate]; omega
 ·show ((List.replicate _ _).length : Int) = x.peers; rw [List.length_replicate]; omega
 ·show ∀ j, j < (List.replicate x.peers.toNat (cLast x + 1)).length → 1 ≤ (List.replicate x.peers.toNat (cLast x + 1)).getD j 0 ∧ (List.replicate x.peers.toNat (cLast x + 1)).getD j 0 ≤ cLast x + 1
  intro j hj
  rw [List.length_replicate] at hj
  have : (List.replicate x.peers.toNat (cLast x + 1)).getD j 0 = cLast x + 1 := by simp [List.getD, hj]
  rw [this]
  omega
theorem Nums.numP {w : World} {base p : Nat} {v : Value} {l : List Int} {cs : Array Value} (h : Nums w base v l) (hP : Blk w p cs 74) (j : Nat) (x : Value) : Nums (w.setCell ⟨p, j, none⟩ x) base v l := h.other (h.notBlk hP (by decide)) j x
structure SkB (W1 w : World) (base p : Nat) (lg : List Ent) (g0 g2 g3 g4 : Value) (cs : Array Value) : Prop where
 b : Blk w p cs 74
 o : Owns w base 71 2 g0 (entR lg)
 n : Nums w base g2 []
 m : Nums w base g3 []
 s : MsO w base g4 []
 z : Below base W1 w
theorem SkB.on {W1 w w' : World} {base p : Nat} {lg : List Ent} {g0 g2 g3 g4 : Value} {cs : Array Value} (h : SkB W1 w base p lg g0 g2 g3 g4 cs) (hb : Below w.heap.size w w') (hB : base ≤ w.heap.size) : SkB W1 w' base p lg g0 g2 g3 g4 cs := ⟨h.b.on hb h.b.lt, h.o.on hb, h.n.on hb, h.m.on hb, h.s.on hb, h.z.trans (hb.mono hB)⟩
theorem SkB.set {W1 w : World} {base p : Nat} {lg : List Ent} {g0 g2 g3 g4 : Value} {cs cs' : Array Value} (h : SkB W1 w base p lg g0 g2 g3 g4 cs) (hp : base ≤ p) (j : Nat) (v : Value) (hc : Blk (w.setCell ⟨p, j, none⟩ v) p cs' 74) : SkB W1 (w.setCell ⟨p, j, none⟩ v) base p lg g0 g2 g3 g4 cs' := ⟨hc, h.o.ownP h.b j v, h.n.numP h.b j v, h.m.numP h.b j v, h.s.atP h.b j v, h.z.setCell hp v⟩
theorem sayV (x : Cor) (M : List Mg) (mk mf md mt mi mit mc : Int) (my : Bool) (da : ByteArray) (w : World) (base p : Nat) (hsp : Spk w base p x M) (hM : M.length ≤ 1000) (hbs : base ≤ w.heap.size) :
  Calls Try.prog 59 #[.pointer (some ⟨p, 0, none⟩), .agg #[.int .i64 mk, .int .i64 mf, .int .i64 md, .int .i64 mt, .int .i64 mi, .int .i64 mit, .int .i64 mc, .bool my, .slice none 0 0, .string da]] w fun e w' => e = .returned (.tuple #[]) ∧ Spk w' base p x (M ++ [⟨mk, x.id, md, x.term, mi, mit, mc, my, [], da⟩]) ∧ Below base w w' ∧ KeepI w w' := by
 obtain ⟨ul, uy, un, um, us, L, hso, hLM⟩ := hsp
 obtain ⟨A0, An0, Ac0, A1, An1, Ac1, A2, An2, Ac2, A3, An3, Ac3, A4, An4, Ac4, rfl, rfl, rfl, rfl, rfl⟩ := hso.shape
 obtain ⟨ci, cp, ct, cv, cr, cd, cb, cbt, lg, cc, ys, ns, ms⟩ := x
 have hl : L.length ≤ 1000 := by rw [← List.length_map (f := Prod.fst), hLM]; exact hM
 refine (sayI ci cp ct cv cr cd cb cbt lg cc ys ns ms A0 An0 Ac0 A1 An1 Ac1 A2 An2 Ac2 A3 An3 Ac3 A4 An4 Ac4 L mk mf md mt mi mit mc my [] da (.slice none 0 0) w base p hso (Owns.nil _ _ _ _) (fun q hq g h1 h2 => (by cases h2)) (fun g h => (by cases h)) hl hbs).mono ?_
 rintro e w' ⟨h1, ⟨us', h2⟩, h3, h4⟩
 exact ⟨h1, ⟨_, _, _, _, _, _, h2, by rw [List.map_append, hLM]; rfl⟩, h3, h4⟩
set_option maxRecDepth 20000 in
set_option maxHeartbeats 16000000 in
theorem electI (ci cp ct cv cr cd cb cbt : Int) (lg : List Ent) (cc : Int) (ys ns ms : List Int) (w : World) (base p : Nat) (hsp : SpkW w base p ⟨ci, cp, ct, cv, cr, cd, cb, cbt, lg, cc, ys, ns, ms⟩ []) (hok : COk ⟨ci, cp, ct, cv, cr, cd, cb, cbt, lg, cc, ys, ns, ms⟩) (hs : ShortC ⟨ci, cp, ct, cv, cr, cd, cb, cbt, lg, cc, ys, ns, ms⟩) (hbs : base ≤ w.heap.size) :
  Calls Try.prog 31 #[.pointer (some ⟨p, 0, none⟩)] w fun e w' => e = .returned (.tuple #[]) ∧ Spk w' base p (electR ⟨ci, cp, ct, cv, cr, cd, cb, cbt, lg, cc, ys, ns, ms⟩).1 (electR ⟨ci, cp, ct, cv, cr, cd, cb, cbt, lg, cc, ys, ns, ms⟩).2 ∧ Below base w w' := by
 have HW := Hid.mk hsp
 have HS1 := Hid.mk hsp.spk
 have HBW : Hid (base ≤ w.heap.size) := hbs
 obtain ⟨A0, An0, Ac0, A1, An1, Ac1, A2, An2, Ac2, A3, An3, Ac3, A4, An4, Ac4, h1, h2⟩ := hsp.nil
 have PW : Hid (Blk w p #[.int .i64 ci, .int .i64 cp, .int .i64 ct, .int .i64 cv, .int .i64 cr, .int .i64 cd, .int .i64 cb, .int .i64 cbt, .slice A0 An0 Ac0, .int .i64 cc, .slice A1 An1 Ac1, .slice A2 An2 Ac2, .slice A3 An3 Ac3, .slice A4 An4 Ac4] 74) := h1.b
 obtain ⟨w0, w1, w2, w3, w4, w5, w6⟩ := walOk_in hok.1.w
 simp only [corW] at w0 w2 w3 w4 w5
 have hpp : 1 ≤ cp ∧ cp ≤ 5 := hok.1.p
 have hii : 0 ≤ ci ∧ ci ≤ cp - 1 := hok.1.i
 have hcc : cb ≤ cc ∧ cc ≤ cb + (lg.length : Int) := hok.1.c
 have HNo : Hid ((cr = 3 ∨ ct = 100000) → electR ⟨ci, cp, ct, cv, cr, cd, cb, cbt, lg, cc, ys, ns, ms⟩ = (⟨ci, cp, ct, cv, cr, cd, cb, cbt, lg, cc, ys, ns, ms⟩, [])) := fun h => electR_no (x := ⟨ci, cp, ct, cv, cr, cd, cb, cbt, lg, cc, ys, ns, ms⟩) h
 have HOn : Hid (¬ (cr = 3 ∨ ct = 100000) → cp = 1 → electR ⟨ci, cp, ct, cv, cr, cd, cb, cbt, lg, cc, ys, ns, ms⟩ = (putC (leadC ⟨ci, cp, (ct + 1), ci, 2, -1, cb, cbt, lg, cc, [ci], [], []⟩) ⟨#[]⟩, toAll (putC (leadC ⟨ci, cp, (ct + 1), ci, 2, -1, cb, cbt, lg, cc, [ci], [], []⟩) ⟨#[]⟩))) := fun h h1 => electR_one (x := ⟨ci, cp, ct, cv, cr, cd, cb, cbt, lg, cc, ys, ns, ms⟩) h h1
 have HAl : Hid (¬ (cr = 3 ∨ ct = 100000) → ¬ cp = 1 → electR ⟨ci, cp, ct, cv, cr, cd, cb, cbt, lg, cc, ys, ns, ms⟩ = (⟨ci, cp, (ct + 1), ci, 2, -1, cb, cbt, lg, cc, [ci], [], []⟩, (othL ci cp.toNat).map (voteM ⟨ci, cp, (ct + 1), ci, 2, -1, cb, cbt, lg, cc, [ci], [], []⟩))) := fun h h1 => electR_all (x := ⟨ci, cp, ct, cv, cr, cd, cb, cbt, lg, cc, ys, ns, ms⟩) h h1
 have HLd : Hid (SendOk (leadC ⟨ci, cp, (ct + 1), ci, 2, -1, cb, cbt, lg, cc, [ci], [], []⟩)) := SendOk.led ⟨hs.n, hs.d, by simp, Nat.zero_le _, Nat.zero_le _⟩ w2.1 w2.2 w4 hpp.1 hpp.2 hii.1 (show ci < cp by omega) hcc
 have hct : 0 ≤ ct ∧ ct ≤ 100000 := w0
 have wt : IntKind.i64.wrap (ct + 1) = ct + 1 := by rw [IntKind.wrap_i64]; omega
 have HDn : Hid (downX ⟨ci, cp, ct, cv, cr, cd, cb, cbt, lg, cc, ys, ns, ms⟩ (ct + 1) = ⟨ci, cp, (ct + 1), -1, 1, -1, cb, cbt, lg, cc, [], [], []⟩) := by unfold Hid downX; simp only; rw [if_neg (by omega)]
 have HB1 : Hid (0 ≤ cb ∧ cb ≤ 100000 ∧ lg.length ≤ 60) := ⟨w2.1, w2.2, w4⟩
 have HB2 : Hid (1 ≤ cp ∧ cp ≤ 5 ∧ 0 ≤ ci) := ⟨hpp.1, hpp.2, hii.1⟩
 clear hsp h1 h2 hok hs hbs w0 w1 w2 w3 w4 w5 w6 hpp hii hcc
 have k4 := PW.out.cell 4 _ rfl
 have k2 := PW.out.cell 2 _ rfl
 by_cases hr : cr = 3
 ·have z1 : (cr == 3) = true := beq_iff_eq.2 hr
  have HE := Hid.mk (HNo.out (.inl hr))
  clear hr
  go_enter Try.func31, Try.ntmps31
  go_wp2_with fail
  exact bodyPost_ret (v := .tuple #[]) (by simp [results, go_sem]) rfl ⟨rfl, by rw [HE.out]; exact HS1.out, Below.refl _ _⟩
 have z1 : (cr == 3) = false := beq_eq_false_iff_ne.2 hr
 by_cases hm : ct = 100000
 ·have z2 : (ct == 100000) = true := beq_iff_eq.2 hm
  have HE := Hid.mk (HNo.out (.inr hm))
  clear hr hm
  go_enter Try.func31, Try.ntmps31
  go_wp2_with fail
  exact bodyPost_ret (v := .tuple #[]) (by simp [results, go_sem]) rfl ⟨rfl, by rw [HE.out]; exact HS1.out, Below.refl _ _⟩
 have z2 : (ct == 100000) = false := beq_eq_false_iff_ne.2 hm
 have hno : ¬ (cr = 3 ∨ ct = 100000) := fun h => h.elim hr hm
 have HOn1 := Hid.mk (HOn.out hno)
 have HAl1 := Hid.mk (HAl.out hno)
 have cD := downI ci cp ct cv cr cd cb cbt lg cc ys ns ms (ct + 1) w base p HW.out HBW.out
 rw [HDn.out] at cD
 clear hr hm hno HNo HOn HAl HDn HW HS1
 go_enter Try.func31, Try.ntmps31
 go_wp2_with fail
 refine cD.mono ?_
 rintro e W1 ⟨rfl, hS, hb⟩
 have B1 : Hid (Below base w W1) := hb
 obtain ⟨G0, Gn0, Gc0, G1, Gn1, Gc1, G2, Gn2, Gc2, G3, Gn3, Gc3, G4, Gn4, Gc4, h1, h2⟩ := hS.nil
 have HS0 := Hid.mk h1
 have HO0 : Hid (Owns W1 base 71 2 (.slice G0 Gn0 Gc0) (entR lg)) := h2
 have P1 : Hid (Blk W1 p #[.int .i64 ci, .int .i64 cp, .int .i64 (ct + 1), .int .i64 (-1), .int .i64 1, .int .i64 (-1), .int .i64 cb, .int .i64 cbt, .slice G0 Gn0 Gc0, .int .i64 cc, .slice G1 Gn1 Gc1, .slice G2 Gn2 Gc2, .slice G3 Gn3 Gc3, .slice G4 Gn4 Gc4] 74) := h1.b
 have HPp : Hid (base ≤ p) := h1.p
 have HGl : Hid (Gn0 = lg.length) := by
  obtain ⟨A', c', e⟩ := h1.r.l.shape
  rw [entR_length] at e
  cases e
  rfl
 have HBW1 : Hid (base ≤ W1.heap.size) := Nat.le_trans HBW.out hb.size
 clear cD hS hb h1 h2 k4 k2 PW
 go_wp2_with fail
 have H00 : Hid (SkB W1 W1 base p lg (.slice G0 Gn0 Gc0) (.slice G2 Gn2 Gc2) (.slice G3 Gn3 Gc3) (.slice G4 Gn4 Gc4) #[.int .i64 ci, .int .i64 cp, .int .i64 (ct + 1), .int .i64 (-1), .int .i64 1, .int .i64 (-1), .int .i64 cb, .int .i64 cbt, .slice G0 Gn0 Gc0, .int .i64 cc, .slice G1 Gn1 Gc1, .slice G2 Gn2 Gc2, .slice G3 Gn3 Gc3, .slice G4 Gn4 Gc4]) := ⟨P1.out, HO0.out, HS0.out.r.n, HS0.out.r.m, HS0.out.m, Below.refl _ _⟩
 have HNM : Hid (Apart (.slice G2 Gn2 Gc2) (.slice G3 Gn3 Gc3)) := HS0.out.r.nm
 have HNl : Hid (∀ g, (Value.slice G2 Gn2 Gc2).ownBlock = some g → g < W1.heap.size) := fun g e => (HS0.out.r.n.lt g e).2
 have HMl : Hid (∀ g, (Value.slice G3 Gn3 Gc3).ownBlock = some g → g < W1.heap.size) := fun g e => (HS0.out.r.m.lt g e).2
 clear HS0 HO0 P1
 go_cut [] from 27 to 49 (fun wx => ∃ gy, W1.heap.size ≤ gy ∧ SkB W1 wx base p lg (.slice G0 Gn0 Gc0) (.slice G2 Gn2 Gc2) (.slice G3 Gn3 Gc3) (.slice G4 Gn4 Gc4) #[.int .i64 ci, .int .i64 cp, .int .i64 (ct + 1), .int .i64 ci, .int .i64 2, .int .i64 (-1), .int .i64 cb, .int .i64 cbt, .slice G0 Gn0 Gc0, .int .i64 cc, .slice (some ⟨gy, 0, none⟩) 1 1, .slice G2 Gn2 Gc2, .slice G3 Gn3 Gc3, .slice G4 Gn4 Gc4] ∧ Nums wx base (.slice (some ⟨gy, 0, none⟩) 1 1) [ci])
 case first =>
  refine wp_region_until (fun w' => w'.cell? ⟨p, 0, none⟩ = some (.int .i64 ci)) (fun _ => false) 26 (by rfl) (by kernel_rfl) ?_
  have V0 : Below W1.heap.size W1 W1.drew := (Below.refl _ _).drew
  have H0 := Hid.mk (H00.out.on V0 HBW1.out)
  clear V0
  generalize W1.drew = Y0 at *
  have SS0 := Hid.mk (show (fun w' => w'.cell? ⟨p, 0, none⟩ = some (.int .i64 ci)) Y0 from H0.out.b.cell 0 _ rfl)
  refine tF 0 SS0.out ?_
  refine tF 1 SS0.out ?_
  refine tF 2 SS0.out ?_
  refine tF 3 SS0.out ?_
  refine tF 4 SS0.out ?_
  refine tF 5 SS0.out ?_
  refine tF 6 SS0.out ?_
  refine tF 7 SS0.out ?_
  refine tF 8 SS0.out ?_
  refine tF 9 SS0.out ?_
  refine tF 10 SS0.out ?_
  refine tF 11 SS0.out ?_
  refine tF 12 SS0.out ?_
  refine until_two 13 14 (by rfl) (by rfl) (by kernel_rfl) (fun K hK => ?_) (fun K hK => ?_)
  ·skip
   go_simp
   have bz : Below Y0.heap.size Y0 (Y0.alloc (.cells #[.int .i64 ci] 3)) := (Below.refl _ _).alloc (Nat.le_refl _) _
   have hny : Nums (Y0.alloc (.cells #[.int .i64 ci] 3)) Y0.heap.size (.slice (some ⟨Y0.heap.size, 0, none⟩) 1 1) [ci] := Nums.one Y0 Y0.heap.size ci (Nat.le_refl _)
   have HBc : base ≤ Y0.heap.size := Nat.le_trans HBW1.out H0.out.z.size
   have HWc : W1.heap.size ≤ Y0.heap.size := H0.out.z.size
   obtain ⟨gy, hgy⟩ : ∃ gy, gy = Y0.heap.size := ⟨_, rfl⟩
   have H1 := Hid.mk (H0.out.on bz HBc)
   rw [← hgy] at hny HWc HBc ⊢
   clear hgy bz
   generalize Y0.alloc (.cells #[.int .i64 ci] 3) = Y1 at *
   have NY1 : Hid (Nums Y1 base (.slice (some ⟨gy, 0, none⟩) 1 1) [ci]) := hny.mono HBc
   have HGY : Hid (W1.heap.size ≤ gy) := HWc
   clear hny HWc HBc
   refine hK.out _ _ (fun _ _ => H1.out.b.cell 0 _ rfl) ?_
   clear hK K
   try simp only [Act.put, zQ1, zQ2, zQ3]
   refine pF 14 ?_
   refine pF 15 ?_
   refine pF 16 ?_
   refine uNe 17 (fun K hK => ?_)
   have H2 : Hid (SkB W1 (Y1.setCell ⟨p, 4, none⟩ (.int .i64 2)) base p lg (.slice G0 Gn0 Gc0) (.slice G2 Gn2 Gc2) (.slice G3 Gn3 Gc3) (.slice G4 Gn4 Gc4) #[.int .i64 ci, .int .i64 cp, .int .i64 (ct + 1), .int .i64 (-1), .int .i64 2, .int .i64 (-1), .int .i64 cb, .int .i64 cbt, .slice G0 Gn0 Gc0, .int .i64 cc, .slice G1 Gn1 Gc1, .slice G2 Gn2 Gc2, .slice G3 Gn3 Gc3, .slice G4 Gn4 Gc4]) := H1.out.set HPp.out 4 (.int .i64 2) (H1.out.b.set 4 (.int .i64 2))
   have fz := H1.out.b.free 4
   have oz := H1.out.b.cell 4 _ rfl
   have NY2 := Hid.mk (NY1.out.numP H1.out.b 4 (.int .i64 2))
   go_simp
   refine hK.out _ _ (fun _ _ => H2.out.b.cell 0 _ rfl) ?_
   clear hK K fz oz
   try simp only [Act.put, zQ1, zQ2, zQ3]
   generalize Y1.setCell ⟨p, 4, none⟩ (.int .i64 2) = Y2 at *
   refine pF 18 ?_
   refine pF 19 ?_
   refine pF 20 ?_
   refine uNe 21 (fun K hK => ?_)
   have H3 : Hid (SkB W1 (Y2.setCell ⟨p, 3, none⟩ (.int .i64 ci)) base p lg (.slice G0 Gn0 Gc0) (.slice G2 Gn2 Gc2) (.slice G3 Gn3 Gc3) (.slice G4 Gn4 Gc4) #[.int .i64 ci, .int .i64 cp, .int .i64 (ct + 1), .int .i64 ci, .int .i64 2, .int .i64 (-1), .int .i64 cb, .int .i64 cbt, .slice G0 Gn0 Gc0, .int .i64 cc, .slice G1 Gn1 Gc1, .slice G2 Gn2 Gc2, .slice G3 Gn3 Gc3, .slice G4 Gn4 Gc4]) := H2.out.set HPp.out 3 (.int .i64 ci) (H2.out.b.set 3 (.int .i64 ci))
   have fz := H2.out.b.free 3
   have oz := H2.out.b.cell 3 _ rfl
   have NY3 := Hid.mk (NY2.out.numP H2.out.b 3 (.int .i64 ci))
   go_simp
   refine hK.out _ _ (fun _ _ => H3.out.b.cell 0 _ rfl) ?_
   clear hK K fz oz
   try simp only [Act.put, zQ1, zQ2, zQ3]
   generalize Y2.setCell ⟨p, 3, none⟩ (.int .i64 ci) = Y3 at *
   refine pF 22 ?_
   refine pF 23 ?_
   refine pF 24 ?_
   refine uNe 25 (fun K hK => ?_)
   have H4 : Hid (SkB W1 (Y3.setCell ⟨p, 10, none⟩ (.slice (some ⟨gy, 0, none⟩) 1 1)) base p lg (.slice G0 Gn0 Gc0) (.slice G2 Gn2 Gc2) (.slice G3 Gn3 Gc3) (.slice G4 Gn4 Gc4) #[.int .i64 ci, .int .i64 cp, .int .i64 (ct + 1), .int .i64 ci, .int .i64 2, .int .i64 (-1), .int .i64 cb, .int .i64 cbt, .slice G0 Gn0 Gc0, .int .i64 cc, .slice (some ⟨gy, 0, none⟩) 1 1, .slice G2 Gn2 Gc2, .slice G3 Gn3 Gc3, .slice G4 Gn4 Gc4]) := H3.out.set HPp.out 10 (.slice (some ⟨gy, 0, none⟩) 1 1) (H3.out.b.set 10 (.slice (some ⟨gy, 0, none⟩) 1 1))
   have fz := H3.out.b.free 10
   have oz := H3.out.b.cell 10 _ rfl
   have NY4 := Hid.mk (NY3.out.numP H3.out.b 10 (.slice (some ⟨gy, 0, none⟩) 1 1))
   go_simp
   refine hK.out _ _ (fun _ _ => H4.out.b.cell 0 _ rfl) ?_
   clear hK K fz oz
   try simp only [Act.put, zQ1, zQ2, zQ3]
   generalize Y3.setCell ⟨p, 10, none⟩ (.slice (some ⟨gy, 0, none⟩) 1 1) = Y4 at *
   refine until_done (by kernel_rfl) ?_ _
   try go_wp2_with fail
   go_meet
   case rel =>
    exact ⟨gy, HGY.out, H4.out, NY4.out⟩
  ·skip
   go_simp
   refine hK.out _ _ (fun _ _ => H0.out.b.cell 0 _ rfl) ?_
   clear hK K
   try simp only [Act.put, zQ1, zQ2, zQ3]
   refine until_two 13 15 (by rfl) (by rfl) (by kernel_rfl) (fun K hK => ?_) (fun K hK => ?_)
   ·skip
    go_simp
    have bz : Below Y0.heap.size Y0 (Y0.alloc (.cells #[.int .i64 ci] 3)) := (Below.refl _ _).alloc (Nat.le_refl _) _
    have hny : Nums (Y0.alloc (.cells #[.int .i64 ci] 3)) Y0.heap.size (.slice (some ⟨Y0.heap.size, 0, none⟩) 1 1) [ci] := Nums.one Y0 Y0.heap.size ci (Nat.le_refl _)
    have HBc : base ≤ Y0.heap.size := Nat.le_trans HBW1.out H0.out.z.size
    have HWc : W1.heap.size ≤ Y0.heap.size := H0.out.z.size
    obtain ⟨gy, hgy⟩ : ∃ gy, gy = Y0.heap.size := ⟨_, rfl⟩
    have H1 := Hid.mk (H0.out.on bz HBc)
    rw [← hgy] at hny HWc HBc ⊢
    clear hgy bz
    generalize Y0.alloc (.cells #[.int .i64 ci] 3) = Y1 at *
    have NY1 : Hid (Nums Y1 base (.slice (some ⟨gy, 0, none⟩) 1 1) [ci]) := hny.mono HBc
    have HGY : Hid (W1.heap.size ≤ gy) := HWc
    clear hny HWc HBc
    refine hK.out _ _ (fun _ _ => H1.out.b.cell 0 _ rfl) ?_
    clear hK K
    try simp only [Act.put, zQ1, zQ2, zQ3]
    refine pF 15 ?_
    refine pF 16 ?_
    refine uNe 17 (fun K hK => ?_)
    have H2 : Hid (SkB W1 (Y1.setCell ⟨p, 4, none⟩ (.int .i64 2)) base p lg (.slice G0 Gn0 Gc0) (.slice G2 Gn2 Gc2) (.slice G3 Gn3 Gc3) (.slice G4 Gn4 Gc4) #[.int .i64 ci, .int .i64 cp, .int .i64 (ct + 1), .int .i64 (-1), .int .i64 2, .int .i64 (-1), .int .i64 cb, .int .i64 cbt, .slice G0 Gn0 Gc0, .int .i64 cc, .slice G1 Gn1 Gc1, .slice G2 Gn2 Gc2, .slice G3 Gn3 Gc3, .slice G4 Gn4 Gc4]) := H1.out.set HPp.out 4 (.int .i64 2) (H1.out.b.set 4 (.int .i64 2))
    have fz := H1.out.b.free 4
    have oz := H1.out.b.cell 4 _ rfl
    have NY2 := Hid.mk (NY1.out.numP H1.out.b 4 (.int .i64 2))
    go_simp
    refine hK.out _ _ (fun _ _ => H2.out.b.cell 0 _ rfl) ?_
    clear hK K fz oz
    try simp only [Act.put, zQ1, zQ2, zQ3]
    generalize Y1.setCell ⟨p, 4, none⟩ (.int .i64 2) = Y2 at *
    refine pF 18 ?_
    refine pF 19 ?_
    refine pF 20 ?_
    refine uNe 21 (fun K hK => ?_)
    have H3 : Hid (SkB W1 (Y2.setCell ⟨p, 3, none⟩ (.int .i64 ci)) base p lg (.slice G0 Gn0 Gc0) (.slice G2 Gn2 Gc2) (.slice G3 Gn3 Gc3) (.slice G4 Gn4 Gc4) #[.int .i64 ci, .int .i64 cp, .int .i64 (ct + 1), .int .i64 ci, .int .i64 2, .int .i64 (-1), .int .i64 cb, .int .i64 cbt, .slice G0 Gn0 Gc0, .int .i64 cc, .slice G1 Gn1 Gc1, .slice G2 Gn2 Gc2, .slice G3 Gn3 Gc3, .slice G4 Gn4 Gc4]) := H2.out.set HPp.out 3 (.int .i64 ci) (H2.out.b.set 3 (.int .i64 ci))
    have fz := H2.out.b.free 3
    have oz := H2.out.b.cell 3 _ rfl
    have NY3 := Hid.mk (NY2.out.numP H2.out.b 3 (.int .i64 ci))
    go_simp
    refine hK.out _ _ (fun _ _ => H3.out.b.cell 0 _ rfl) ?_
    clear hK K fz oz
    try simp only [Act.put, zQ1, zQ2, zQ3]
    generalize Y2.setCell ⟨p, 3, none⟩ (.int .i64 ci) = Y3 at *
    refine pF 22 ?_
    refine pF 23 ?_
    refine pF 24 ?_
    refine uNe 25 (fun K hK => ?_)
    have H4 : Hid (SkB W1 (Y3.setCell ⟨p, 10, none⟩ (.slice (some ⟨gy, 0, none⟩) 1 1)) base p lg (.slice G0 Gn0 Gc0) (.slice G2 Gn2 Gc2) (.slice G3 Gn3 Gc3) (.slice G4 Gn4 Gc4) #[.int .i64 ci, .int .i64 cp, .int .i64 (ct + 1), .int .i64 ci, .int .i64 2, .int .i64 (-1), .int .i64 cb, .int .i64 cbt, .slice G0 Gn0 Gc0, .int .i64 cc, .slice (some ⟨gy, 0, none⟩) 1 1, .slice G2 Gn2 Gc2, .slice G3 Gn3 Gc3, .slice G4 Gn4 Gc4]) := H3.out.set HPp.out 10 (.slice (some ⟨gy, 0, none⟩) 1 1) (H3.out.b.set 10 (.slice (some ⟨gy, 0, none⟩) 1 1))
    have fz := H3.out.b.free 10
    have oz := H3.out.b.cell 10 _ rfl
    have NY4 := Hid.mk (NY3.out.numP H3.out.b 10 (.slice (some ⟨gy, 0, none⟩) 1 1))
    go_simp
    refine hK.out _ _ (fun _ _ => H4.out.b.cell 0 _ rfl) ?_
    clear hK K fz oz
    try simp only [Act.put, zQ1, zQ2, zQ3]
    generalize Y3.setCell ⟨p, 10, none⟩ (.slice (some ⟨gy, 0, none⟩) 1 1) = Y4 at *
    refine until_done (by kernel_rfl) ?_ _
    try go_wp2_with fail
    go_meet
    case rel =>
     exact ⟨gy, HGY.out, H4.out, NY4.out⟩
   ·skip
    go_simp
    refine hK.out _ _ (fun _ _ => H0.out.b.cell 0 _ rfl) ?_
    clear hK K
    try simp only [Act.put, zQ1, zQ2, zQ3]
    refine until_two 13 16 (by rfl) (by rfl) (by kernel_rfl) (fun K hK => ?_) (fun K hK => ?_)
    ·skip
     go_simp
     have bz : Below Y0.heap.size Y0 (Y0.alloc (.cells #[.int .i64 ci] 3)) := (Below.refl _ _).alloc (Nat.le_refl _) _
     have hny : Nums (Y0.alloc (.cells #[.int .i64 ci] 3)) Y0.heap.size (.slice (some ⟨Y0.heap.size, 0, none⟩) 1 1) [ci] := Nums.one Y0 Y0.heap.size ci (Nat.le_refl _)
     have HBc : base ≤ Y0.heap.size := Nat.le_trans HBW1.out H0.out.z.size
     have HWc : W1.heap.size ≤ Y0.heap.size := H0.out.z.size
     obtain ⟨gy, hgy⟩ : ∃ gy, gy = Y0.heap.size := ⟨_, rfl⟩
     have H1 := Hid.mk (H0.out.on bz HBc)
     rw [← hgy] at hny HWc HBc ⊢
     clear hgy bz
     generalize Y0.alloc (.cells #[.int .i64 ci] 3) = Y1 at *
     have NY1 : Hid (Nums Y1 base (.slice (some ⟨gy, 0, none⟩) 1 1) [ci]) := hny.mono HBc
     have HGY : Hid (W1.heap.size ≤ gy) := HWc
     clear hny HWc HBc
     refine hK.out _ _ (fun _ _ => H1.out.b.cell 0 _ rfl) ?_
     clear hK K
     try simp only [Act.put, zQ1, zQ2, zQ3]
     refine pF 16 ?_
     refine uNe 17 (fun K hK => ?_)
     have H2 : Hid (SkB W1 (Y1.setCell ⟨p, 4, none⟩ (.int .i64 2)) base p lg (.slice G0 Gn0 Gc0) (.slice G2 Gn2 Gc2) (.slice G3 Gn3 Gc3) (.slice G4 Gn4 Gc4) #[.int .i64 ci, .int .i64 cp, .int .i64 (ct + 1), .int .i64 (-1), .int .i64 2, .int .i64 (-1), .int .i64 cb, .int .i64 cbt, .slice G0 Gn0 Gc0, .int .i64 cc, .slice G1 Gn1 Gc1, .slice G2 Gn2 Gc2, .slice G3 Gn3 Gc3, .slice G4 Gn4 Gc4]) := H1.out.set HPp.out 4 (.int .i64 2) (H1.out.b.set 4 (.int .i64 2))
     have fz := H1.out.b.free 4
     have oz := H1.out.b.cell 4 _ rfl
     have NY2 := Hid.mk (NY1.out.numP H1.out.b 4 (.int .i64 2))
     go_simp
     refine hK.out _ _ (fun _ _ => H2.out.b.cell 0 _ rfl) ?_
     clear hK K fz oz
     try simp only [Act.put, zQ1, zQ2, zQ3]
     generalize Y1.setCell ⟨p, 4, none⟩ (.int .i64 2) = Y2 at *
     refine pF 18 ?_
     refine pF 19 ?_
     refine pF 20 ?_
     refine uNe 21 (fun K hK => ?_)
     have H3 : Hid (SkB W1 (Y2.setCell ⟨p, 3, none⟩ (.int .i64 ci)) base p lg (.slice G0 Gn0 Gc0) (.slice G2 Gn2 Gc2) (.slice G3 Gn3 Gc3) (.slice G4 Gn4 Gc4) #[.int .i64 ci, .int .i64 cp, .int .i64 (ct + 1), .int .i64 ci, .int .i64 2, .int .i64 (-1), .int .i64 cb, .int .i64 cbt, .slice G0 Gn0 Gc0, .int .i64 cc, .slice G1 Gn1 Gc1, .slice G2 Gn2 Gc2, .slice G3 Gn3 Gc3, .slice G4 Gn4 Gc4]) := H2.out.set HPp.out 3 (.int .i64 ci) (H2.out.b.set 3 (.int .i64 ci))
     have fz := H2.out.b.free 3
     have oz := H2.out.b.cell 3 _ rfl
     have NY3 := Hid.mk (NY2.out.numP H2.out.b 3 (.int .i64 ci))
     go_simp
     refine hK.out _ _ (fun _ _ => H3.out.b.cell 0 _ rfl) ?_
     clear hK K fz oz
     try simp only [Act.put, zQ1, zQ2, zQ3]
     generalize Y2.setCell ⟨p, 3, none⟩ (.int .i64 ci) = Y3 at *
     refine pF 22 ?_
     refine pF 23 ?_
     refine pF 24 ?_
     refine uNe 25 (fun K hK => ?_)
     have H4 : Hid (SkB W1 (Y3.setCell ⟨p, 10, none⟩ (.slice (some ⟨gy, 0, none⟩) 1 1)) base p lg (.slice G0 Gn0 Gc0) (.slice G2 Gn2 Gc2) (.slice G3 Gn3 Gc3) (.slice G4 Gn4 Gc4) #[.int .i64 ci, .int .i64 cp, .int .i64 (ct + 1), .int .i64 ci, .int .i64 2, .int .i64 (-1), .int .i64 cb, .int .i64 cbt, .slice G0 Gn0 Gc0, .int .i64 cc, .slice (some ⟨gy, 0, none⟩) 1 1, .slice G2 Gn2 Gc2, .slice G3 Gn3 Gc3, .slice G4 Gn4 Gc4]) := H3.out.set HPp.out 10 (.slice (some ⟨gy, 0, none⟩) 1 1) (H3.out.b.set 10 (.slice (some ⟨gy, 0, none⟩) 1 1))
     have fz := H3.out.b.free 10
     have oz := H3.out.b.cell 10 _ rfl
     have NY4 := Hid.mk (NY3.out.numP H3.out.b 10 (.slice (some ⟨gy, 0, none⟩) 1 1))
     go_simp
     refine hK.out _ _ (fun _ _ => H4.out.b.cell 0 _ rfl) ?_
     clear hK K fz oz
     try simp only [Act.put, zQ1, zQ2, zQ3]
     generalize Y3.setCell ⟨p, 10, none⟩ (.slice (some ⟨gy, 0, none⟩) 1 1) = Y4 at *
     refine until_done (by kernel_rfl) ?_ _
     try go_wp2_with fail
     go_meet
     case rel =>
      exact ⟨gy, HGY.out, H4.out, NY4.out⟩
    ·skip
     go_simp
     refine hK.out _ _ (fun _ _ => H0.out.b.cell 0 _ rfl) ?_
     clear hK K
     try simp only [Act.put, zQ1, zQ2, zQ3]
     refine until_two 13 17 (by rfl) (by rfl) (by kernel_rfl) (fun K hK => ?_) (fun K hK => ?_)
     ·skip
      go_simp
      have bz : Below Y0.heap.size Y0 (Y0.alloc (.cells #[.int .i64 ci] 3)) := (Below.refl _ _).alloc (Nat.le_refl _) _
      have hny : Nums (Y0.alloc (.cells #[.int .i64 ci] 3)) Y0.heap.size (.slice (some ⟨Y0.heap.size, 0, none⟩) 1 1) [ci] := Nums.one Y0 Y0.heap.size ci (Nat.le_refl _)
      have HBc : base ≤ Y0.heap.size := Nat.le_trans HBW1.out H0.out.z.size
      have HWc : W1.heap.size ≤ Y0.heap.size := H0.out.z.size
      obtain ⟨gy, hgy⟩ : ∃ gy, gy = Y0.heap.size := ⟨_, rfl⟩
      have H1 := Hid.mk (H0.out.on bz HBc)
      rw [← hgy] at hny HWc HBc ⊢
      clear hgy bz
      generalize Y0.alloc (.cells #[.int .i64 ci] 3) = Y1 at *
      have NY1 : Hid (Nums Y1 base (.slice (some ⟨gy, 0, none⟩) 1 1) [ci]) := hny.mono HBc
      have HGY : Hid (W1.heap.size ≤ gy) := HWc
      clear hny HWc HBc
      refine hK.out _ _ (fun _ _ => H1.out.b.cell 0 _ rfl) ?_
      clear hK K
      try simp only [Act.put, zQ1, zQ2, zQ3]
      refine uNe 17 (fun K hK => ?_)
      have H2 : Hid (SkB W1 (Y1.setCell ⟨p, 4, none⟩ (.int .i64 2)) base p lg (.slice G0 Gn0 Gc0) (.slice G2 Gn2 Gc2) (.slice G3 Gn3 Gc3) (.slice G4 Gn4 Gc4) #[.int .i64 ci, .int .i64 cp, .int .i64 (ct + 1), .int .i64 (-1), .int .i64 2, .int .i64 (-1), .int .i64 cb, .int .i64 cbt, .slice G0 Gn0 Gc0, .int .i64 cc, .slice G1 Gn1 Gc1, .slice G2 Gn2 Gc2, .slice G3 Gn3 Gc3, .slice G4 Gn4 Gc4]) := H1.out.set HPp.out 4 (.int .i64 2) (H1.out.b.set 4 (.int .i64 2))
      have fz := H1.out.b.free 4
      have oz := H1.out.b.cell 4 _ rfl
      have NY2 := Hid.mk (NY1.out.numP H1.out.b 4 (.int .i64 2))
      go_simp
      refine hK.out _ _ (fun _ _ => H2.out.b.cell 0 _ rfl) ?_
      clear hK K fz oz
      try simp only [Act.put, zQ1, zQ2, zQ3]
      generalize Y1.setCell ⟨p, 4, none⟩ (.int .i64 2) = Y2 at *
      refine pF 18 ?_
      refine pF 19 ?_
      refine pF 20 ?_
      refine uNe 21 (fun K hK => ?_)
      have H3 : Hid (SkB W1 (Y2.setCell ⟨p, 3, none⟩ (.int .i64 ci)) base p lg (.slice G0 Gn0 Gc0) (.slice G2 Gn2 Gc2) (.slice G3 Gn3 Gc3) (.slice G4 Gn4 Gc4) #[.int .i64 ci, .int .i64 cp, .int .i64 (ct + 1), .int .i64 ci, .int .i64 2, .int .i64 (-1), .int .i64 cb, .int .i64 cbt, .slice G0 Gn0 Gc0, .int .i64 cc, .slice G1 Gn1 Gc1, .slice G2 Gn2 Gc2, .slice G3 Gn3 Gc3, .slice G4 Gn4 Gc4]) := H2.out.set HPp.out 3 (.int .i64 ci) (H2.out.b.set 3 (.int .i64 ci))
      have fz := H2.out.b.free 3
      have oz := H2.out.b.cell 3 _ rfl
      have NY3 := Hid.mk (NY2.out.numP H2.out.b 3 (.int .i64 ci))
      go_simp
      refine hK.out _ _ (fun _ _ => H3.out.b.cell 0 _ rfl) ?_
      clear hK K fz oz
      try simp only [Act.put, zQ1, zQ2, zQ3]
      generalize Y2.setCell ⟨p, 3, none⟩ (.int .i64 ci) = Y3 at *
      refine pF 22 ?_
      refine pF 23 ?_
      refine pF 24 ?_
      refine uNe 25 (fun K hK => ?_)
      have H4 : Hid (SkB W1 (Y3.setCell ⟨p, 10, none⟩ (.slice (some ⟨gy, 0, none⟩) 1 1)) base p lg (.slice G0 Gn0 Gc0) (.slice G2 Gn2 Gc2) (.slice G3 Gn3 Gc3) (.slice G4 Gn4 Gc4) #[.int .i64 ci, .int .i64 cp, .int .i64 (ct + 1), .int .i64 ci, .int .i64 2, .int .i64 (-1), .int .i64 cb, .int .i64 cbt, .slice G0 Gn0 Gc0, .int .i64 cc, .slice (some ⟨gy, 0, none⟩) 1 1, .slice G2 Gn2 Gc2, .slice G3 Gn3 Gc3, .slice G4 Gn4 Gc4]) := H3.out.set HPp.out 10 (.slice (some ⟨gy, 0, none⟩) 1 1) (H3.out.b.set 10 (.slice (some ⟨gy, 0, none⟩) 1 1))
      have fz := H3.out.b.free 10
      have oz := H3.out.b.cell 10 _ rfl
      have NY4 := Hid.mk (NY3.out.numP H3.out.b 10 (.slice (some ⟨gy, 0, none⟩) 1 1))
      go_simp
      refine hK.out _ _ (fun _ _ => H4.out.b.cell 0 _ rfl) ?_
      clear hK K fz oz
      try simp only [Act.put, zQ1, zQ2, zQ3]
      generalize Y3.setCell ⟨p, 10, none⟩ (.slice (some ⟨gy, 0, none⟩) 1 1) = Y4 at *
      refine until_done (by kernel_rfl) ?_ _
      try go_wp2_with fail
      go_meet
      case rel =>
       exact ⟨gy, HGY.out, H4.out, NY4.out⟩
     ·skip
      have H1 : Hid (SkB W1 (Y0.setCell ⟨p, 4, none⟩ (.int .i64 2)) base p lg (.slice G0 Gn0 Gc0) (.slice G2 Gn2 Gc2) (.slice G3 Gn3 Gc3) (.slice G4 Gn4 Gc4) #[.int .i64 ci, .int .i64 cp, .int .i64 (ct + 1), .int .i64 (-1), .int .i64 2, .int .i64 (-1), .int .i64 cb, .int .i64 cbt, .slice G0 Gn0 Gc0, .int .i64 cc, .slice G1 Gn1 Gc1, .slice G2 Gn2 Gc2, .slice G3 Gn3 Gc3, .slice G4 Gn4 Gc4]) := H0.out.set HPp.out 4 (.int .i64 2) (H0.out.b.set 4 (.int .i64 2))
      have fz := H0.out.b.free 4
      have oz := H0.out.b.cell 4 _ rfl
      go_simp
      refine hK.out _ _ (fun _ _ => H1.out.b.cell 0 _ rfl) ?_
      clear hK K fz oz
      try simp only [Act.put, zQ1, zQ2, zQ3]
      generalize Y0.setCell ⟨p, 4, none⟩ (.int .i64 2) = Y1 at *
      refine until_two 13 18 (by rfl) (by rfl) (by kernel_rfl) (fun K hK => ?_) (fun K hK => ?_)
      ·skip
       go_simp
       have bz : Below Y1.heap.size Y1 (Y1.alloc (.cells #[.int .i64 ci] 3)) := (Below.refl _ _).alloc (Nat.le_refl _) _
       have hny : Nums (Y1.alloc (.cells #[.int .i64 ci] 3)) Y1.heap.size (.slice (some ⟨Y1.heap.size, 0, none⟩) 1 1) [ci] := Nums.one Y1 Y1.heap.size ci (Nat.le_refl _)
       have HBc : base ≤ Y1.heap.size := Nat.le_trans HBW1.out H1.out.z.size
       have HWc : W1.heap.size ≤ Y1.heap.size := H1.out.z.size
       obtain ⟨gy, hgy⟩ : ∃ gy, gy = Y1.heap.size := ⟨_, rfl⟩
       have H2 := Hid.mk (H1.out.on bz HBc)
       rw [← hgy] at hny HWc HBc ⊢
       clear hgy bz
       generalize Y1.alloc (.cells #[.int .i64 ci] 3) = Y2 at *
       have NY2 : Hid (Nums Y2 base (.slice (some ⟨gy, 0, none⟩) 1 1) [ci]) := hny.mono HBc
       have HGY : Hid (W1.heap.size ≤ gy) := HWc
       clear hny HWc HBc
       refine hK.out _ _ (fun _ _ => H2.out.b.cell 0 _ rfl) ?_
       clear hK K
       try simp only [Act.put, zQ1, zQ2, zQ3]
       refine pF 18 ?_
       refine pF 19 ?_
       refine pF 20 ?_
       refine uNe 21 (fun K hK => ?_)
       have H3 : Hid (SkB W1 (Y2.setCell ⟨p, 3, none⟩ (.int .i64 ci)) base p lg (.slice G0 Gn0 Gc0) (.slice G2 Gn2 Gc2) (.slice G3 Gn3 Gc3) (.slice G4 Gn4 Gc4) #[.int .i64 ci, .int .i64 cp, .int .i64 (ct + 1), .int .i64 ci, .int .i64 2, .int .i64 (-1), .int .i64 cb, .int .i64 cbt, .slice G0 Gn0 Gc0, .int .i64 cc, .slice G1 Gn1 Gc1, .slice G2 Gn2 Gc2, .slice G3 Gn3 Gc3, .slice G4 Gn4 Gc4]) := H2.out.set HPp.out 3 (.int .i64 ci) (H2.out.b.set 3 (.int .i64 ci))
       have fz := H2.out.b.free 3
       have oz := H2.out.b.cell 3 _ rfl
       have NY3 := Hid.mk (NY2.out.numP H2.out.b 3 (.int .i64 ci))
       go_simp
       refine hK.out _ _ (fun _ _ => H3.out.b.cell 0 _ rfl) ?_
       clear hK K fz oz
       try simp only [Act.put, zQ1, zQ2, zQ3]
       generalize Y2.setCell ⟨p, 3, none⟩ (.int .i64 ci) = Y3 at *
       refine pF 22 ?_
       refine pF 23 ?_
       refine pF 24 ?_
       refine uNe 25 (fun K hK => ?_)
       have H4 : Hid (SkB W1 (Y3.setCell ⟨p, 10, none⟩ (.slice (some ⟨gy, 0, none⟩) 1 1)) base p lg (.slice G0 Gn0 Gc0) (.slice G2 Gn2 Gc2) (.slice G3 Gn3 Gc3) (.slice G4 Gn4 Gc4) #[.int .i64 ci, .int .i64 cp, .int .i64 (ct + 1), .int .i64 ci, .int .i64 2, .int .i64 (-1), .int .i64 cb, .int .i64 cbt, .slice G0 Gn0 Gc0, .int .i64 cc, .slice (some ⟨gy, 0, none⟩) 1 1, .slice G2 Gn2 Gc2, .slice G3 Gn3 Gc3, .slice G4 Gn4 Gc4]) := H3.out.set HPp.out 10 (.slice (some ⟨gy, 0, none⟩) 1 1) (H3.out.b.set 10 (.slice (some ⟨gy, 0, none⟩) 1 1))
       have fz := H3.out.b.free 10
       have oz := H3.out.b.cell 10 _ rfl
       have NY4 := Hid.mk (NY3.out.numP H3.out.b 10 (.slice (some ⟨gy, 0, none⟩) 1 1))
       go_simp
       refine hK.out _ _ (fun _ _ => H4.out.b.cell 0 _ rfl) ?_
       clear hK K fz oz
       try simp only [Act.put, zQ1, zQ2, zQ3]
       generalize Y3.setCell ⟨p, 10, none⟩ (.slice (some ⟨gy, 0, none⟩) 1 1) = Y4 at *
       refine until_done (by kernel_rfl) ?_ _
       try go_wp2_with fail
       go_meet
       case rel =>
        exact ⟨gy, HGY.out, H4.out, NY4.out⟩
      ·skip
       go_simp
       refine hK.out _ _ (fun _ _ => H1.out.b.cell 0 _ rfl) ?_
       clear hK K
       try simp only [Act.put, zQ1, zQ2, zQ3]
       refine until_two 13 19 (by rfl) (by rfl) (by kernel_rfl) (fun K hK => ?_) (fun K hK => ?_)
       ·skip
        go_simp
        have bz : Below Y1.heap.size Y1 (Y1.alloc (.cells #[.int .i64 ci] 3)) := (Below.refl _ _).alloc (Nat.le_refl _) _
        have hny : Nums (Y1.alloc (.cells #[.int .i64 ci] 3)) Y1.heap.size (.slice (some ⟨Y1.heap.size, 0, none⟩) 1 1) [ci] := Nums.one Y1 Y1.heap.size ci (Nat.le_refl _)
        have HBc : base ≤ Y1.heap.size := Nat.le_trans HBW1.out H1.out.z.size
        have HWc : W1.heap.size ≤ Y1.heap.size := H1.out.z.size
        obtain ⟨gy, hgy⟩ : ∃ gy, gy = Y1.heap.size := ⟨_, rfl⟩
        have H2 := Hid.mk (H1.out.on bz HBc)
        rw [← hgy] at hny HWc HBc ⊢
        clear hgy bz
        generalize Y1.alloc (.cells #[.int .i64 ci] 3) = Y2 at *
        have NY2 : Hid (Nums Y2 base (.slice (some ⟨gy, 0, none⟩) 1 1) [ci]) := hny.mono HBc
        have HGY : Hid (W1.heap.size ≤ gy) := HWc
        clear hny HWc HBc
        refine hK.out _ _ (fun _ _ => H2.out.b.cell 0 _ rfl) ?_
        clear hK K
        try simp only [Act.put, zQ1, zQ2, zQ3]
        refine pF 19 ?_
        refine pF 20 ?_
        refine uNe 21 (fun K hK => ?_)
        have H3 : Hid (SkB W1 (Y2.setCell ⟨p, 3, none⟩ (.int .i64 ci)) base p lg (.slice G0 Gn0 Gc0) (.slice G2 Gn2 Gc2) (.slice G3 Gn3 Gc3) (.slice G4 Gn4 Gc4) #[.int .i64 ci, .int .i64 cp, .int .i64 (ct + 1), .int .i64 ci, .int .i64 2, .int .i64 (-1), .int .i64 cb, .int .i64 cbt, .slice G0 Gn0 Gc0, .int .i64 cc, .slice G1 Gn1 Gc1, .slice G2 Gn2 Gc2, .slice G3 Gn3 Gc3, .slice G4 Gn4 Gc4]) := H2.out.set HPp.out 3 (.int .i64 ci) (H2.out.b.set 3 (.int .i64 ci))
        have fz := H2.out.b.free 3
        have oz := H2.out.b.cell 3 _ rfl
        have NY3 := Hid.mk (NY2.out.numP H2.out.b 3 (.int .i64 ci))
        go_simp
        refine hK.out _ _ (fun _ _ => H3.out.b.cell 0 _ rfl) ?_
        clear hK K fz oz
        try simp only [Act.put, zQ1, zQ2, zQ3]
        generalize Y2.setCell ⟨p, 3, none⟩ (.int .i64 ci) = Y3 at *
        refine pF 22 ?_
        refine pF 23 ?_
        refine pF 24 ?_
        refine uNe 25 (fun K hK => ?_)
        have H4 : Hid (SkB W1 (Y3.setCell ⟨p, 10, none⟩ (.slice (some ⟨gy, 0, none⟩) 1 1)) base p lg (.slice G0 Gn0 Gc0) (.slice G2 Gn2 Gc2) (.slice G3 Gn3 Gc3) (.slice G4 Gn4 Gc4) #[.int .i64 ci, .int .i64 cp, .int .i64 (ct + 1), .int .i64 ci, .int .i64 2, .int .i64 (-1), .int .i64 cb, .int .i64 cbt, .slice G0 Gn0 Gc0, .int .i64 cc, .slice (some ⟨gy, 0, none⟩) 1 1, .slice G2 Gn2 Gc2, .slice G3 Gn3 Gc3, .slice G4 Gn4 Gc4]) := H3.out.set HPp.out 10 (.slice (some ⟨gy, 0, none⟩) 1 1) (H3.out.b.set 10 (.slice (some ⟨gy, 0, none⟩) 1 1))
        have fz := H3.out.b.free 10
        have oz := H3.out.b.cell 10 _ rfl
        have NY4 := Hid.mk (NY3.out.numP H3.out.b 10 (.slice (some ⟨gy, 0, none⟩) 1 1))
        go_simp
        refine hK.out _ _ (fun _ _ => H4.out.b.cell 0 _ rfl) ?_
        clear hK K fz oz
        try simp only [Act.put, zQ1, zQ2, zQ3]
        generalize Y3.setCell ⟨p, 10, none⟩ (.slice (some ⟨gy, 0, none⟩) 1 1) = Y4 at *
        refine until_done (by kernel_rfl) ?_ _
        try go_wp2_with fail
        go_meet
        case rel =>
         exact ⟨gy, HGY.out, H4.out, NY4.out⟩
       ·skip
        go_simp
        refine hK.out _ _ (fun _ _ => H1.out.b.cell 0 _ rfl) ?_
        clear hK K
        try simp only [Act.put, zQ1, zQ2, zQ3]
        refine until_two 13 20 (by rfl) (by rfl) (by kernel_rfl) (fun K hK => ?_) (fun K hK => ?_)
        ·skip
         go_simp
         have bz : Below Y1.heap.size Y1 (Y1.alloc (.cells #[.int .i64 ci] 3)) := (Below.refl _ _).alloc (Nat.le_refl _) _
         have hny : Nums (Y1.alloc (.cells #[.int .i64 ci] 3)) Y1.heap.size (.slice (some ⟨Y1.heap.size, 0, none⟩) 1 1) [ci] := Nums.one Y1 Y1.heap.size ci (Nat.le_refl _)
         have HBc : base ≤ Y1.heap.size := Nat.le_trans HBW1.out H1.out.z.size
         have HWc : W1.heap.size ≤ Y1.heap.size := H1.out.z.size
         obtain ⟨gy, hgy⟩ : ∃ gy, gy = Y1.heap.size := ⟨_, rfl⟩
         have H2 := Hid.mk (H1.out.on bz HBc)
         rw [← hgy] at hny HWc HBc ⊢
         clear hgy bz
         generalize Y1.alloc (.cells #[.int .i64 ci] 3) = Y2 at *
         have NY2 : Hid (Nums Y2 base (.slice (some ⟨gy, 0, none⟩) 1 1) [ci]) := hny.mono HBc
         have HGY : Hid (W1.heap.size ≤ gy) := HWc
         clear hny HWc HBc
         refine hK.out _ _ (fun _ _ => H2.out.b.cell 0 _ rfl) ?_
         clear hK K
         try simp only [Act.put, zQ1, zQ2, zQ3]
         refine pF 20 ?_
         refine uNe 21 (fun K hK => ?_)
         have H3 : Hid (SkB W1 (Y2.setCell ⟨p, 3, none⟩ (.int .i64 ci)) base p lg (.slice G0 Gn0 Gc0) (.slice G2 Gn2 Gc2) (.slice G3 Gn3 Gc3) (.slice G4 Gn4 Gc4) #[.int .i64 ci, .int .i64 cp, .int .i64 (ct + 1), .int .i64 ci, .int .i64 2, .int .i64 (-1), .int .i64 cb, .int .i64 cbt, .slice G0 Gn0 Gc0, .int .i64 cc, .slice G1 Gn1 Gc1, .slice G2 Gn2 Gc2, .slice G3 Gn3 Gc3, .slice G4 Gn4 Gc4]) := H2.out.set HPp.out 3 (.int .i64 ci) (H2.out.b.set 3 (.int .i64 ci))
         have fz := H2.out.b.free 3
         have oz := H2.out.b.cell 3 _ rfl
         have NY3 := Hid.mk (NY2.out.numP H2.out.b 3 (.int .i64 ci))
         go_simp
         refine hK.out _ _ (fun _ _ => H3.out.b.cell 0 _ rfl) ?_
         clear hK K fz oz
         try simp only [Act.put, zQ1, zQ2, zQ3]
         generalize Y2.setCell ⟨p, 3, none⟩ (.int .i64 ci) = Y3 at *
         refine pF 22 ?_
         refine pF 23 ?_
         refine pF 24 ?_
         refine uNe 25 (fun K hK => ?_)
         have H4 : Hid (SkB W1 (Y3.setCell ⟨p, 10, none⟩ (.slice (some ⟨gy, 0, none⟩) 1 1)) base p lg (.slice G0 Gn0 Gc0) (.slice G2 Gn2 Gc2) (.slice G3 Gn3 Gc3) (.slice G4 Gn4 Gc4) #[.int .i64 ci, .int .i64 cp, .int .i64 (ct + 1), .int .i64 ci, .int .i64 2, .int .i64 (-1), .int .i64 cb, .int .i64 cbt, .slice G0 Gn0 Gc0, .int .i64 cc, .slice (some ⟨gy, 0, none⟩) 1 1, .slice G2 Gn2 Gc2, .slice G3 Gn3 Gc3, .slice G4 Gn4 Gc4]) := H3.out.set HPp.out 10 (.slice (some ⟨gy, 0, none⟩) 1 1) (H3.out.b.set 10 (.slice (some ⟨gy, 0, none⟩) 1 1))
         have fz := H3.out.b.free 10
         have oz := H3.out.b.cell 10 _ rfl
         have NY4 := Hid.mk (NY3.out.numP H3.out.b 10 (.slice (some ⟨gy, 0, none⟩) 1 1))
         go_simp
         refine hK.out _ _ (fun _ _ => H4.out.b.cell 0 _ rfl) ?_
         clear hK K fz oz
         try simp only [Act.put, zQ1, zQ2, zQ3]
         generalize Y3.setCell ⟨p, 10, none⟩ (.slice (some ⟨gy, 0, none⟩) 1 1) = Y4 at *
         refine until_done (by kernel_rfl) ?_ _
         try go_wp2_with fail
         go_meet
         case rel =>
          exact ⟨gy, HGY.out, H4.out, NY4.out⟩
        ·skip
         go_simp
         refine hK.out _ _ (fun _ _ => H1.out.b.cell 0 _ rfl) ?_
         clear hK K
         try simp only [Act.put, zQ1, zQ2, zQ3]
         refine until_two 13 21 (by rfl) (by rfl) (by kernel_rfl) (fun K hK => ?_) (fun K hK => ?_)
         ·skip
          go_simp
          have bz : Below Y1.heap.size Y1 (Y1.alloc (.cells #[.int .i64 ci] 3)) := (Below.refl _ _).alloc (Nat.le_refl _) _
          have hny : Nums (Y1.alloc (.cells #[.int .i64 ci] 3)) Y1.heap.size (.slice (some ⟨Y1.heap.size, 0, none⟩) 1 1) [ci] := Nums.one Y1 Y1.heap.size ci (Nat.le_refl _)
          have HBc : base ≤ Y1.heap.size := Nat.le_trans HBW1.out H1.out.z.size
          have HWc : W1.heap.size ≤ Y1.heap.size := H1.out.z.size
          obtain ⟨gy, hgy⟩ : ∃ gy, gy = Y1.heap.size := ⟨_, rfl⟩
          have H2 := Hid.mk (H1.out.on bz HBc)
          rw [← hgy] at hny HWc HBc ⊢
          clear hgy bz
          generalize Y1.alloc (.cells #[.int .i64 ci] 3) = Y2 at *
          have NY2 : Hid (Nums Y2 base (.slice (some ⟨gy, 0, none⟩) 1 1) [ci]) := hny.mono HBc
          have HGY : Hid (W1.heap.size ≤ gy) := HWc
          clear hny HWc HBc
          refine hK.out _ _ (fun _ _ => H2.out.b.cell 0 _ rfl) ?_
          clear hK K
          try simp only [Act.put, zQ1, zQ2, zQ3]
          refine uNe 21 (fun K hK => ?_)
          have H3 : Hid (SkB W1 (Y2.setCell ⟨p, 3, none⟩ (.int .i64 ci)) base p lg (.slice G0 Gn0 Gc0) (.slice G2 Gn2 Gc2) (.slice G3 Gn3 Gc3) (.slice G4 Gn4 Gc4) #[.int .i64 ci, .int .i64 cp, .int .i64 (ct + 1), .int .i64 ci, .int .i64 2, .int .i64 (-1), .int .i64 cb, .int .i64 cbt, .slice G0 Gn0 Gc0, .int .i64 cc, .slice G1 Gn1 Gc1, .slice G2 Gn2 Gc2, .slice G3 Gn3 Gc3, .slice G4 Gn4 Gc4]) := H2.out.set HPp.out 3 (.int .i64 ci) (H2.out.b.set 3 (.int .i64 ci))
          have fz := H2.out.b.free 3
          have oz := H2.out.b.cell 3 _ rfl
          have NY3 := Hid.mk (NY2.out.numP H2.out.b 3 (.int .i64 ci))
          go_simp
          refine hK.out _ _ (fun _ _ => H3.out.b.cell 0 _ rfl) ?_
          clear hK K fz oz
          try simp only [Act.put, zQ1, zQ2, zQ3]
          generalize Y2.setCell ⟨p, 3, none⟩ (.int .i64 ci) = Y3 at *
          refine pF 22 ?_
          refine pF 23 ?_
          refine pF 24 ?_
          refine uNe 25 (fun K hK => ?_)
          have H4 : Hid (SkB W1 (Y3.setCell ⟨p, 10, none⟩ (.slice (some ⟨gy, 0, none⟩) 1 1)) base p lg (.slice G0 Gn0 Gc0) (.slice G2 Gn2 Gc2) (.slice G3 Gn3 Gc3) (.slice G4 Gn4 Gc4) #[.int .i64 ci, .int .i64 cp, .int .i64 (ct + 1), .int .i64 ci, .int .i64 2, .int .i64 (-1), .int .i64 cb, .int .i64 cbt, .slice G0 Gn0 Gc0, .int .i64 cc, .slice (some ⟨gy, 0, none⟩) 1 1, .slice G2 Gn2 Gc2, .slice G3 Gn3 Gc3, .slice G4 Gn4 Gc4]) := H3.out.set HPp.out 10 (.slice (some ⟨gy, 0, none⟩) 1 1) (H3.out.b.set 10 (.slice (some ⟨gy, 0, none⟩) 1 1))
          have fz := H3.out.b.free 10
          have oz := H3.out.b.cell 10 _ rfl
          have NY4 := Hid.mk (NY3.out.numP H3.out.b 10 (.slice (some ⟨gy, 0, none⟩) 1 1))
          go_simp
          refine hK.out _ _ (fun _ _ => H4.out.b.cell 0 _ rfl) ?_
          clear hK K fz oz
          try simp only [Act.put, zQ1, zQ2, zQ3]
          generalize Y3.setCell ⟨p, 10, none⟩ (.slice (some ⟨gy, 0, none⟩) 1 1) = Y4 at *
          refine until_done (by kernel_rfl) ?_ _
          try go_wp2_with fail
          go_meet
          case rel =>
           exact ⟨gy, HGY.out, H4.out, NY4.out⟩
         ·skip
          have H2 : Hid (SkB W1 (Y1.setCell ⟨p, 3, none⟩ (.int .i64 ci)) base p lg (.slice G0 Gn0 Gc0) (.slice G2 Gn2 Gc2) (.slice G3 Gn3 Gc3) (.slice G4 Gn4 Gc4) #[.int .i64 ci, .int .i64 cp, .int .i64 (ct + 1), .int .i64 ci, .int .i64 2, .int .i64 (-1), .int .i64 cb, .int .i64 cbt, .slice G0 Gn0 Gc0, .int .i64 cc, .slice G1 Gn1 Gc1, .slice G2 Gn2 Gc2, .slice G3 Gn3 Gc3, .slice G4 Gn4 Gc4]) := H1.out.set HPp.out 3 (.int .i64 ci) (H1.out.b.set 3 (.int .i64 ci))
          have fz := H1.out.b.free 3
          have oz := H1.out.b.cell 3 _ rfl
          go_simp
          refine hK.out _ _ (fun _ _ => H2.out.b.cell 0 _ rfl) ?_
          clear hK K fz oz
          try simp only [Act.put, zQ1, zQ2, zQ3]
          generalize Y1.setCell ⟨p, 3, none⟩ (.int .i64 ci) = Y2 at *
          refine uNe 13 (fun K hK => ?_)
          go_simp
          have bz : Below Y2.heap.size Y2 (Y2.alloc (.cells #[.int .i64 ci] 3)) := (Below.refl _ _).alloc (Nat.le_refl _) _
          have hny : Nums (Y2.alloc (.cells #[.int .i64 ci] 3)) Y2.heap.size (.slice (some ⟨Y2.heap.size, 0, none⟩) 1 1) [ci] := Nums.one Y2 Y2.heap.size ci (Nat.le_refl _)
          have HBc : base ≤ Y2.heap.size := Nat.le_trans HBW1.out H2.out.z.size
          have HWc : W1.heap.size ≤ Y2.heap.size := H2.out.z.size
          obtain ⟨gy, hgy⟩ : ∃ gy, gy = Y2.heap.size := ⟨_, rfl⟩
          have H3 := Hid.mk (H2.out.on bz HBc)
          rw [← hgy] at hny HWc HBc ⊢
          clear hgy bz
          generalize Y2.alloc (.cells #[.int .i64 ci] 3) = Y3 at *
          have NY3 : Hid (Nums Y3 base (.slice (some ⟨gy, 0, none⟩) 1 1) [ci]) := hny.mono HBc
          have HGY : Hid (W1.heap.size ≤ gy) := HWc
          clear hny HWc HBc
          refine hK.out _ _ (fun _ _ => H3.out.b.cell 0 _ rfl) ?_
          clear hK K
          try simp only [Act.put, zQ1, zQ2, zQ3]
          refine pF 22 ?_
          refine pF 23 ?_
          refine pF 24 ?_
          refine uNe 25 (fun K hK => ?_)
          have H4 : Hid (SkB W1 (Y3.setCell ⟨p, 10, none⟩ (.slice (some ⟨gy, 0, none⟩) 1 1)) base p lg (.slice G0 Gn0 Gc0) (.slice G2 Gn2 Gc2) (.slice G3 Gn3 Gc3) (.slice G4 Gn4 Gc4) #[.int .i64 ci, .int .i64 cp, .int .i64 (ct + 1), .int .i64 ci, .int .i64 2, .int .i64 (-1), .int .i64 cb, .int .i64 cbt, .slice G0 Gn0 Gc0, .int .i64 cc, .slice (some ⟨gy, 0, none⟩) 1 1, .slice G2 Gn2 Gc2, .slice G3 Gn3 Gc3, .slice G4 Gn4 Gc4]) := H3.out.set HPp.out 10 (.slice (some ⟨gy, 0, none⟩) 1 1) (H3.out.b.set 10 (.slice (some ⟨gy, 0, none⟩) 1 1))
          have fz := H3.out.b.free 10
          have oz := H3.out.b.cell 10 _ rfl
          have NY4 := Hid.mk (NY3.out.numP H3.out.b 10 (.slice (some ⟨gy, 0, none⟩) 1 1))
          go_simp
          refine hK.out _ _ (fun _ _ => H4.out.b.cell 0 _ rfl) ?_
          clear hK K fz oz
          try simp only [Act.put, zQ1, zQ2, zQ3]
          generalize Y3.setCell ⟨p, 10, none⟩ (.slice (some ⟨gy, 0, none⟩) 1 1) = Y4 at *
          refine until_done (by kernel_rfl) ?_ _
          try go_wp2_with fail
          go_meet
          case rel =>
           exact ⟨gy, HGY.out, H4.out, NY4.out⟩
 case rest =>
 obtain ⟨gy, hgy, hsk, hny⟩ := hcut
 generalize wc = W3 at *
 have P3 : Hid (Blk W3 p #[.int .i64 ci, .int .i64 cp, .int .i64 (ct + 1), .int .i64 ci, .int .i64 2, .int .i64 (-1), .int .i64 cb, .int .i64 cbt, .slice G0 Gn0 Gc0, .int .i64 cc, .slice (some ⟨gy, 0, none⟩) 1 1, .slice G2 Gn2 Gc2, .slice G3 Gn3 Gc3, .slice G4 Gn4 Gc4] 74) := hsk.b
 have B3 : Hid (Below base w W3) := B1.out.trans hsk.z
 have S3w : Hid (SpkW W3 base p ⟨ci, cp, (ct + 1), ci, 2, -1, cb, cbt, lg, cc, [ci], [], []⟩ []) := ⟨_, _, _, _, _, [], ⟨hsk.b, ⟨hsk.o.toF, hny, hsk.n, hsk.m, fun g e1 e2 => (by cases e1; have h9 : gy < W1.heap.size := HNl.out _ e2; omega), fun g e1 e2 => (by cases e1; have h9 : gy < W1.heap.size := HMl.out _ e2; omega), HNM.out⟩, hsk.s, fun q hq => (by cases hq), HPp.out⟩, rfl, hsk.o⟩
 clear hgy hsk hny HNM HNl HMl H00
 have HB3 : Hid (base ≤ W3.heap.size) := Nat.le_trans HBW.out B3.out.size
 have hb1 := HB1.out
 have hb2 := HB2.out
 have cM := fun wx => majI ci cp (ct + 1) ci 2 (-1) cb cbt cc 1 (.slice G0 Gn0 Gc0) (.slice (some ⟨gy, 0, none⟩) 1 1) (.slice G2 Gn2 Gc2) (.slice G3 Gn3 Gc3) wx (by omega) (by omega)
 try go_wp2_with fail
 refine wp_region_until (fun w' => w'.cell? ⟨p, 0, none⟩ = some (.int .i64 ci) ∧ w'.cell? ⟨p, 1, none⟩ = some (.int .i64 cp) ∧ w'.cell? ⟨p, 2, none⟩ = some (.int .i64 (ct + 1)) ∧ w'.cell? ⟨p, 3, none⟩ = some (.int .i64 ci) ∧ w'.cell? ⟨p, 4, none⟩ = some (.int .i64 2) ∧ w'.cell? ⟨p, 5, none⟩ = some (.int .i64 (-1)) ∧ w'.cell? ⟨p, 6, none⟩ = some (.int .i64 cb) ∧ w'.cell? ⟨p, 7, none⟩ = some (.int .i64 cbt) ∧ w'.cell? ⟨p, 8, none⟩ = some (.slice G0 Gn0 Gc0) ∧ w'.cell? ⟨p, 9, none⟩ = some (.int .i64 cc) ∧ w'.cell? ⟨p, 10, none⟩ = some (.slice (some ⟨gy, 0, none⟩) 1 1) ∧ w'.cell? ⟨p, 11, none⟩ = some (.slice G2 Gn2 Gc2) ∧ w'.cell? ⟨p, 12, none⟩ = some (.slice G3 Gn3 Gc3) ∧ w'.cell? ⟨p, 13, none⟩ = some (.slice G4 Gn4 Gc4)) (fun i => i == 10) 11 (by rfl) (by kernel_rfl) ?_
 have V0 : Hid (Below W3.heap.size W3 W3.drew) := (Below.refl _ _).drew
 generalize W3.drew = Y0 at *
 have P0 := Hid.mk (P3.out.on V0.out P3.out.lt)
 have SS0 := Hid.mk (show (fun w' => w'.cell? ⟨p, 0, none⟩ = some (.int .i64 ci) ∧ w'.cell? ⟨p, 1, none⟩ = some (.int .i64 cp) ∧ w'.cell? ⟨p, 2, none⟩ = some (.int .i64 (ct + 1)) ∧ w'.cell? ⟨p, 3, none⟩ = some (.int .i64 ci) ∧ w'.cell? ⟨p, 4, none⟩ = some (.int .i64 2) ∧ w'.cell? ⟨p, 5, none⟩ = some (.int .i64 (-1)) ∧ w'.cell? ⟨p, 6, none⟩ = some (.int .i64 cb) ∧ w'.cell? ⟨p, 7, none⟩ = some (.int .i64 cbt) ∧ w'.cell? ⟨p, 8, none⟩ = some (.slice G0 Gn0 Gc0) ∧ w'.cell? ⟨p, 9, none⟩ = some (.int .i64 cc) ∧ w'.cell? ⟨p, 10, none⟩ = some (.slice (some ⟨gy, 0, none⟩) 1 1) ∧ w'.cell? ⟨p, 11, none⟩ = some (.slice G2 Gn2 Gc2) ∧ w'.cell? ⟨p, 12, none⟩ = some (.slice G3 Gn3 Gc3) ∧ w'.cell? ⟨p, 13, none⟩ = some (.slice G4 Gn4 Gc4)) Y0 from ⟨P0.out.cell 0 _ rfl, P0.out.cell 1 _ rfl, P0.out.cell 2 _ rfl, P0.out.cell 3 _ rfl, P0.out.cell 4 _ rfl, P0.out.cell 5 _ rfl, P0.out.cell 6 _ rfl, P0.out.cell 7 _ rfl, P0.out.cell 8 _ rfl, P0.out.cell 9 _ rfl, P0.out.cell 10 _ rfl, P0.out.cell 11 _ rfl, P0.out.cell 12 _ rfl, P0.out.cell 13 _ rfl⟩)
 refine tF 0 SS0.out ?_
 refine tF 1 SS0.out ?_
 refine tF 2 SS0.out ?_
 refine tF 3 SS0.out ?_
 refine tF 4 SS0.out ?_
 refine tF 5 SS0.out ?_
 refine tF 6 SS0.out ?_
 refine tF 7 SS0.out ?_
 refine tF 8 SS0.out ?_
 refine pF 9 ?_
 refine uNe 10 (fun K hK => ?_)
 go_simp
 refine (cM Y0).mono ?_
 rintro e Y1 ⟨rfl, hb⟩
 have V1 : Hid (Below W3.heap.size W3 Y1) := V0.out.trans (hb.mono V0.out.size)
 clear hb cM
 refine hK.out _ _ (fun h => by cases h) ?_
 clear hK K SS0 P0
 try simp only [Act.put, zQ1, zQ2, zQ3]
 refine until_done (by kernel_rfl) ?_ _
 have S4w := Hid.mk (S3w.out.on V1.out)
 have P4 := Hid.mk (P3.out.on V1.out P3.out.lt)
 have B4 : Hid (Below base w Y1) := B3.out.trans (V1.out.mono HB3.out)
 have HB4 : Hid (base ≤ Y1.heap.size) := Nat.le_trans HBW.out B4.out.size
 clear V0 V1 P3 S3w B3 HB3
 by_cases hp1 : cp = 1
 ·have HE := Hid.mk (HOn1.out hp1)
  have z3 : decide (cp < 2) = true := decide_eq_true (by omega)
  have z4 : decide (cp < 2 * 1) = true := decide_eq_true (by omega)
  subst hp1
  have cLd := leadI ci (ct + 1) ci 2 (-1) cb cbt lg cc [ci] [] [] Y1 base p S4w.out HLd.out HB4.out
  clear HOn1 HAl1 S4w P4
  try go_wp2_with fail
  refine cLd.mono ?_
  rintro e Y2 ⟨rfl, hS, hb⟩
  have FS := Hid.mk hS
  have FB : Hid (Below base w Y2) := B4.out.trans hb
  clear hS hb cLd
  go_wp2_with fail
  exact bodyPost_ret (v := .tuple #[]) (by simp [results, go_sem]) rfl ⟨rfl, by rw [HE.out]; exact FS.out, FB.out⟩
 have HE0 := Hid.mk (HAl1.out hp1)
 have z3 : decide (cp < 2) = false := decide_eq_false (by omega)
 have z4 : decide (cp < 2 * 1) = false := decide_eq_false (by omega)
 obtain ⟨n, hn⟩ : ∃ n : Nat, cp = (n : Int) := ⟨cp.toNat, by omega⟩
 subst hn
 have HE : Hid (electR ⟨ci, (n : Int), ct, cv, cr, cd, cb, cbt, lg, cc, ys, ns, ms⟩ = (⟨ci, (n : Int), (ct + 1), ci, 2, -1, cb, cbt, lg, cc, [ci], [], []⟩, (othL ci n).map (voteM ⟨ci, (n : Int), (ct + 1), ci, 2, -1, cb, cbt, lg, cc, [ci], [], []⟩))) := by
  have := HE0.out
  rw [Int.toNat_natCast] at this
  exact this
 have z5 : decide (n < 2) = false := decide_eq_false (by omega)
 have z6 : ¬ n < 2 := by omega
 clear HE0 HOn1 HAl1 hp1 HLd
 have cLz := fun wx => lastI ci (n : Int) (ct + 1) ci 2 (-1) cb cbt cc G0 Gn0 Gc0 (.slice (some ⟨gy, 0, none⟩) 1 1) (.slice G2 Gn2 Gc2) (.slice G3 Gn3 Gc3) wx (by omega) (by omega) (by have := HGl.out; omega)
 have cO := fun wx => othersI ci (ct + 1) ci 2 (-1) cb cbt cc n (.slice G0 Gn0 Gc0) (.slice (some ⟨gy, 0, none⟩) 1 1) (.slice G2 Gn2 Gc2) (.slice G3 Gn3 Gc3) wx (by omega)
 have HVm : Hid (∀ t, voteM ⟨ci, (n : Int), (ct + 1), ci, 2, -1, cb, cbt, lg, cc, [ci], [], []⟩ t = ⟨1, ci, t, (ct + 1), cb + (Gn0 : Int), termAt ⟨ci, (n : Int), (ct + 1), ci, 2, -1, cb, cbt, lg, cc, [ci], [], []⟩ (cb + (Gn0 : Int)), 0, false, [], ⟨#[]⟩⟩) := fun t => by unfold voteM cLast; simp only; rw [HGl.out]
 have HL5 : Hid ((othL ci n).length ≤ 5) := by have := othL_len ci n; unfold Hid; omega
 have HTk : Hid (∀ k, k < (othL ci n).length → ((othL ci n).take (k + 1)).map (voteM ⟨ci, (n : Int), (ct + 1), ci, 2, -1, cb, cbt, lg, cc, [ci], [], []⟩) = ((othL ci n).take k).map (voteM ⟨ci, (n : Int), (ct + 1), ci, 2, -1, cb, cbt, lg, cc, [ci], [], []⟩) ++ [voteM ⟨ci, (n : Int), (ct + 1), ci, 2, -1, cb, cbt, lg, cc, [ci], [], []⟩ ((othL ci n).getD k 0)]) := fun k hk => take_snocI _ k hk _
 have S4 := Hid.mk S4w.out.spk
 clear S4w wt
 obtain ⟨k0, k1, k2, k3, k4, k5, k6, k7, k8, k9, k10, k11, k12, k13⟩ := cells14 P4.out
 obtain ⟨te, hte⟩ : ∃ te, te = termAt ⟨ci, (n : Int), (ct + 1), ci, 2, -1, cb, cbt, lg, cc, [ci], [], []⟩ (cb + (Gn0 : Int)) := ⟨_, rfl⟩
 have HTe : Hid (termAt ⟨ci, (n : Int), (ct + 1), ci, 2, -1, cb, cbt, lg, cc, [ci], [], []⟩ (cb + (Gn0 : Int)) = te) := hte.symm
 rw [← hte] at HVm
 clear hte
 try go_wp2_with fail
 refine (cLz Y1).mono ?_
 rintro e Y2 ⟨rfl, hb⟩
 have B5 : Hid (Below base w Y2) := B4.out.trans (hb.mono HB4.out)
 have P5 := Hid.mk (P4.out.on hb P4.out.lt)
 have S5 := Hid.mk (S4.out.on hb)
 clear hb cLz k0 k1 k2 k3 k4 k5 k6 k7 k8 k9 k10 k11 k12 k13 P4 S4 B4 HB4
 obtain ⟨k0, k1, k2, k3, k4, k5, k6, k7, k8, k9, k10, k11, k12, k13⟩ := cells14 P5.out
 go_wp2_with fail
 refine (cO Y2).mono ?_
 rintro e Y3 ⟨⟨u, rfl, hN⟩, hb⟩
 obtain ⟨Ao, co, rfl, _, _⟩ := hN.shape
 have NN := Hid.mk hN
 have B6 : Hid (Below base w Y3) := B5.out.trans (hb.mono (Nat.le_trans HBW.out B5.out.size))
 have S6 := Hid.mk (S5.out.on hb)
 clear hN hb cO k0 k1 k2 k3 k4 k5 k6 k7 k8 k9 k10 k11 k12 k13 P5 S5 B5
 generalize hol : othL ci n = ol at *
 clear hol
 have HNl : Hid (Nums Y3 Y2.heap.size (.slice Ao ol.length co) ol) := NN.out
 generalize hon : ol.length = on at *
 clear NN
 have hon5 : on ≤ 5 := HL5.out
 go_wp2_with fail
 go_loopw [4, 74] (fun v4 v74 wr => ∃ k : Nat, k ≤ on ∧ v74 = .int .i64 (k : Int) ∧ Spk wr base p ⟨ci, (n : Int), (ct + 1), ci, 2, -1, cb, cbt, lg, cc, [ci], [], []⟩ ((ol.take k).map (voteM ⟨ci, (n : Int), (ct + 1), ci, 2, -1, cb, cbt, lg, cc, [ci], [], []⟩)) ∧ Below base w wr ∧ KeepI Y3 wr) (fun _ v _ => on - (intOf v).toNat)
 case atStart => exact ⟨0, by omega, rfl, by simpa using S6.out, B6.out, fun _ _ _ _ => rfl⟩
 case round =>
  obtain ⟨k, hk, rfl, hS, hB, hK⟩ := hrel
  have SR := Hid.mk hS
  have BR := Hid.mk hB
  have KR := Hid.mk hK
  clear hS hB hK
  by_cases hlt : k < on
  ·have q2 : (k : Int) < (on : Int) := by omega
   have hNr := HNl.out.keepI KR.out
   have hNr2 : Nums wr Y2.heap.size (.slice Ao on co) ol := hNr
   obtain ⟨go, hge, _, _⟩ := hNr2.block (by omega)
   subst hge
   have d0 := hNr2.cell k (by omega)
   have HT := Hid.mk (HTk.out k (by omega))
   obtain ⟨ul, uy, un, um, us, L, hso, hLM⟩ := SR.out
   obtain ⟨E0, En0, Ec0, E1, En1, Ec1, E2, En2, Ec2, E3, En3, Ec3, E4, En4, Ec4, rfl, rfl, rfl, rfl, rfl⟩ := hso.shape
   have PR : Hid (Blk wr p #[.int .i64 ci, .int .i64 (n : Int), .int .i64 (ct + 1), .int .i64 ci, .int .i64 2, .int .i64 (-1), .int .i64 cb, .int .i64 cbt, .slice E0 En0 Ec0, .int .i64 cc, .slice E1 En1 Ec1, .slice E2 En2 Ec2, .slice E3 En3 Ec3, .slice E4 En4 Ec4] 74) := hso.b
   have cT := termI ci (n : Int) (ct + 1) ci 2 (-1) cb cbt lg cc [ci] [] [] E0 En0 Ec0 (.slice E1 En1 Ec1) (.slice E2 En2 Ec2) (.slice E3 En3 Ec3) (cb + (Gn0 : Int)) wr wr.heap.size hso.r.l.lies (by omega) (by omega) (by omega) (by omega) (by have := HGl.out; omega) (Nat.le_refl _)
   rw [HTe.out] at cT
   have HVk := Hid.mk (HVm.out (ol.getD k 0))
   have hml : ((ol.take k).map (voteM ⟨ci, (n : Int), (ct + 1), ci, 2, -1, cb, cbt, lg, cc, [ci], [], []⟩)).length ≤ 1000 := by rw [List.length_map, List.length_take]; omega
   have HMl : Hid (((ol.take k).map (voteM ⟨ci, (n : Int), (ct + 1), ci, 2, -1, cb, cbt, lg, cc, [ci], [], []⟩)).length ≤ 1000) := hml
   generalize ol.getD k 0 = z at *
   clear hso hLM hml hNr hNr2
   obtain ⟨k0, k1, k2, k3, k4, k5, k6, k7, k8, k9, k10, k11, k12, k13⟩ := cells14 PR.out
   go_wp2_with fail
   refine cT.mono ?_
   rintro e w3 ⟨rfl, hb3⟩
   have S3 := Hid.mk (SR.out.on hb3)
   have B3 : Hid (Below base w w3) := BR.out.trans (hb3.mono (Nat.le_trans HBW.out BR.out.size))
   have K3 := Hid.mk (KR.out.trans (KeepI.of hb3))
   have cS := sayV ⟨ci, (n : Int), (ct + 1), ci, 2, -1, cb, cbt, lg, cc, [ci], [], []⟩ _ 1 0 z 0 (cb + (Gn0 : Int)) te 0 false ⟨#[]⟩ w3 base p S3.out HMl.out (Nat.le_trans HBW.out B3.out.size)
   clear hb3 cT k0 k1 k2 k3 k4 k5 k6 k7 k8 k9 k10 k11 k12 k13 PR
   go_wp2_with fail
   refine cS.mono ?_
   rintro e w5 ⟨rfl, hS, hb, hki⟩
   have SF : Hid (Spk w5 base p ⟨ci, (n : Int), (ct + 1), ci, 2, -1, cb, cbt, lg, cc, [ci], [], []⟩ ((ol.take (k + 1)).map (voteM ⟨ci, (n : Int), (ct + 1), ci, 2, -1, cb, cbt, lg, cc, [ci], [], []⟩))) := by unfold Hid; rw [HT.out, HVk.out]; exact hS
   have BF : Hid (Below base w w5) := B3.out.trans hb
   have KF := Hid.mk (K3.out.trans hki)
   clear hS hb hki cS
   go_wp2_with fail
   go_roundw
   case rel => exact ⟨k + 1, by omega, by go_num, SF.out, BF.out, KF.out⟩
   case measure => simp [intOf]; omega
  ·obtain rfl : k = on := by omega
   have FS : Hid (Spk wr base p (electR ⟨ci, (n : Int), ct, cv, cr, cd, cb, cbt, lg, cc, ys, ns, ms⟩).1 (electR ⟨ci, (n : Int), ct, cv, cr, cd, cb, cbt, lg, cc, ys, ns, ms⟩).2) := by
    unfold Hid
    rw [HE.out]
    have := SR.out
    rw [← hon, List.take_length] at this
    exact this
   clear hon
   go_wp2_with fail
   exact bodyPost_end (v := .tuple #[]) (by simp [results, go_sem]) rfl ⟨rfl, FS.out, BR.out⟩
end Go.Proofs.Ytlhoonohpfpkbaa
