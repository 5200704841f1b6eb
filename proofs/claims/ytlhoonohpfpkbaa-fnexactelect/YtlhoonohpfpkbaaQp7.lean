/- CoAd CoPi CoPr CoSw -/
import Derived.Test.YtlhoonohpfpkbaaRows
import Derived.Test.YtlhoonohpfpkbaaQp6
import Derived.Deep.Cut
import Derived.Handy
import Derived.Test.YtlhoonohpfpkbaaQp5
import Derived.Test.YtlhoonohpfpkbaaQp1
open List (setIfInBounds_toArray set_cons_zero set_cons_succ)
namespace Go.Proofs.Ytlhoonohpfpkbaa
open Go.ChangeShapes Go.WideShapes Go.ChangeAt Go.RowKit Go.PlainAid
set_option linter.unusedVariables false
theorem SpkW.nil {w : World} {base p : Nat} {x : Cor} (h : SpkW w base p x []) : ∃ A0 n0 c0 A1 n1 c1 A2 n2 c2 A3 n3 c3 A4 n4 c4, SpkO w base p x (.slice A0 n0 c0) (.slice A1 n1 c1) (.slice A2 n2 c2) (.slice A3 n3 c3) (.slice A4 n4 c4) [] ∧ Owns w base 71 2 (.slice A0 n0 c0) (entR x.log) := by
 obtain ⟨ul, uy, un, um, us, L, h1, h2, h3⟩ := h
 obtain ⟨A0, n0, c0, A1, n1, c1, A2, n2, c2, A3, n3, c3, A4, n4, c4, rfl, rfl, rfl, rfl, rfl⟩ := h1.shape
 obtain rfl := List.map_eq_nil_iff.1 h2
 exact ⟨A0, n0, c0, A1, n1, c1, A2, n2, c2, A3, n3, c3, A4, n4, c4, h1, h3⟩
theorem addX_yes {x : Cor} {d : ByteArray} (h : RoomP x) : addX x d = { x with log := x.log ++ [⟨x.term, d⟩] } := if_pos h
theorem addX_no {x : Cor} {d : ByteArray} (h : ¬ RoomP x) : addX x d = x := if_neg h
theorem SendOk.mat {x : Cor} (h : SendOk x) : SendOk (matX x x.id.toNat (cLast x)) := by
 have h0 := h.b0
 have h1 := h.c
 refine ⟨⟨h.s.n, h.s.d, h.s.y, ?_, ?_⟩, h.b0, h.b1, h.n, h.p0, h.p1, ?_, ?_, h.i0, h.i1, ?_, h.c⟩
 ·show (x.nxt.set _ _).length ≤ _; rw [List.length_set]; exact h.s.q
 ·show (x.mat.set _ _).length ≤ _; rw [List.length_set]; exact h.s.m
 ·show ((x.nxt.set _ _).length : Int) = _; rw [List.length_set]; exact h.l
 ·show ((x.mat.set _ _).length : Int) = _; rw [List.length_set]; exact h.m
 ·show ∀ j, j < (x.nxt.set _ _).length → _
  exact set_in (P := fun z => 1 ≤ z ∧ z ≤ cLast x + 1) h.q (by unfold cLast at *; omega)
theorem countV (x : Cor) (M : List Mg) (w : World) (base p : Nat) (hsp : Spk w base p x M) (hso : SendOk x) (hbs : base ≤ w.heap.size) :
  Calls Try.prog 78 #[.pointer (some ⟨p, 0, none⟩)] w fun e w' => e = .returned (.tuple #[]) ∧ Spk w' base p (countX x) M ∧ Below base w w' := by
 obtain ⟨ci, cp, ct, cv, cr, cd, cb, cbt, lg, cc, ys, ns, ms⟩ := x
 exact countI ci cp ct cv cr cd cb cbt lg cc ys ns ms M w base p hsp hso hbs
theorem matchedV (x : Cor) (M : List Mg) (j z : Int) (w : World) (base p : Nat) (hsp : Spk w base p x M) (hj : 0 ≤ j) (hjn : j.toNat < x.nxt.length) (hjm : j.toNat < x.mat.length) (hz0 : 0 ≤ z) (hz1 : z ≤ 1000000) (hbs : base ≤ w.heap.size) :
  Calls Try.prog 77 #[.pointer (some ⟨p, 0, none⟩), .int .i64 j, .int .i64 z] w fun e w' => e = .returned (.tuple #[]) ∧ Spk w' base p (matX x j.toNat z) M ∧ Below base w w' := by
 obtain ⟨ci, cp, ct, cv, cr, cd, cb, cbt, lg, cc, ys, ns, ms⟩ := x
 have h := matchedI ci cp ct cv cr cd cb cbt lg cc ys ns ms M j.toNat z w base p hsp hjn hjm hz0 hz1 hbs
 rw [Int.toNat_of_nonneg hj] at h
 exact h
set_option maxRecDepth 20000 in
set_option maxHeartbeats 8000000 in
theorem advI1 (ci cp ct cv cr cd cb cbt : Int) (lg : List Ent) (cc : Int) (ys ns ms : List Int) (da : ByteArray) (w : World) (base p : Nat) (hsp : SpkW w base p ⟨ci, cp, ct, cv, cr, cd, cb, cbt, lg, cc, ys, ns, ms⟩ []) (hso : SendOk ⟨ci, cp, ct, cv, cr, cd, cb, cbt, lg, cc, ys, ns, ms⟩) (hd9 : da.size ≤ 1048576) (hbs : base ≤ w.heap.size) :
  Calls Try.prog 66 #[.pointer (some ⟨p, 0, none⟩), .int .i64 1, .string da] w fun e w' => e = .returned (.tuple #[]) ∧ Spk w' base p (putC ⟨ci, cp, ct, cv, cr, cd, cb, cbt, lg, cc, ys, ns, ms⟩ da) [] ∧ Below base w w' := by
 obtain ⟨A0, An0, Ac0, A1, An1, Ac1, A2, An2, Ac2, A3, An3, Ac3, A4, An4, Ac4, h1, h2⟩ := hsp.nil
 have HS0 := Hid.mk h1
 have HO0 : Hid (Owns w base 71 2 (.slice A0 An0 Ac0) (entR lg)) := h2
 have HSo := Hid.mk hso
 have HBW : Hid (base ≤ w.heap.size) := hbs
 have BW : Hid (Below base w w) := Below.refl _ _
 clear hsp h1 h2 hso hbs
 go_enter Try.func66, Try.ntmps66
 have PW : Hid (Blk w p #[.int .i64 ci, .int .i64 cp, .int .i64 ct, .int .i64 cv, .int .i64 cr, .int .i64 cd, .int .i64 cb, .int .i64 cbt, .slice A0 An0 Ac0, .int .i64 cc, .slice A1 An1 Ac1, .slice A2 An2 Ac2, .slice A3 An3 Ac3, .slice A4 An4 Ac4] 74) := HS0.out.b
 have hln : An0 = lg.length := by
  obtain ⟨A', c', e⟩ := HS0.out.r.l.shape
  rw [entR_length] at e
  cases e
  rfl
 have hb0 := HSo.out.b0
 have hb1 := HSo.out.b1
 have hn60 := HSo.out.n
 simp only at hb0 hb1 hn60
 have HLe : Hid ((entR lg).length ≤ 2097152) := by unfold Hid; rw [entR_length]; omega
 rw [← hln] at hn60
 have HRm : Hid (RoomP ⟨ci, cp, ct, cv, cr, cd, cb, cbt, lg, cc, ys, ns, ms⟩ ↔ (An0 < 60 ∧ cb + (An0 : Int) < 100000)) := by unfold Hid RoomP cLast; simp only; rw [← hln]
 have HPw : Hid (∀ d, putC ⟨ci, cp, ct, cv, cr, cd, cb, cbt, lg, cc, ys, ns, ms⟩ d = ownX (addX ⟨ci, cp, ct, cv, cr, cd, cb, cbt, lg, cc, ys, ns, ms⟩ d)) := fun d => rfl
 have HSa : Hid (SendOk (addX ⟨ci, cp, ct, cv, cr, cd, cb, cbt, lg, cc, ys, ns, ms⟩ da)) := HSo.out.add da hd9
 have cH := roomI ci cp ct cv cr cd cb cbt cc A0 An0 Ac0 (.slice A1 An1 Ac1) (.slice A2 An2 Ac2) (.slice A3 An3 Ac3) w (by omega) (by omega) (by omega)
 obtain ⟨k0, k1, k2, k3, k4, k5, k6, k7, k8, k9, k10, k11, k12, k13⟩ := cells14 PW.out
 clear hln hb0 hb1 hn60
 by_cases hroom : An0 < 60 ∧ cb + (An0 : Int) < 100000
 rotate_left
 ·rw [decide_eq_false hroom] at cH
  have HX : Hid (addX ⟨ci, cp, ct, cv, cr, cd, cb, cbt, lg, cc, ys, ns, ms⟩ da = ⟨ci, cp, ct, cv, cr, cd, cb, cbt, lg, cc, ys, ns, ms⟩) := addX_no (fun h => hroom (HRm.out.1 h))
  clear hroom HRm HLe
  go_wp2_with fail
  refine cH.mono ?_
  rintro e WR ⟨rfl, hb⟩
  have HPx0 := Hid.mk (HPw.out da)
  have SA0 : Hid (Spk WR base p (addX ⟨ci, cp, ct, cv, cr, cd, cb, cbt, lg, cc, ys, ns, ms⟩ da) []) := by unfold Hid; rw [HX.out]; exact ⟨_, _, _, _, _, [], HS0.out.on hb, rfl⟩
  have BA : Hid (Below base w WR) := BW.out.trans (hb.mono (Nat.le_trans HBW.out BW.out.size))
  clear hb cH k0 k1 k2 k3 k4 k5 k6 k7 k8 k9 k10 k11 k12 k13 PW HX HPw HS0 HO0 HSo
  generalize addX ⟨ci, cp, ct, cv, cr, cd, cb, cbt, lg, cc, ys, ns, ms⟩ da = xc at *
  have SA := SA0
  have HSx := HSa
  have HPx := HPx0
  clear SA0 HSa HPx0
  obtain ⟨ul, uy, un, um, us, L, hso, hLM⟩ := SA.out
  obtain ⟨G0, Gn0, Gc0, G1, Gn1, Gc1, G2, Gn2, Gc2, G3, Gn3, Gc3, G4, Gn4, Gc4, rfl, rfl, rfl, rfl, rfl⟩ := hso.shape
  obtain ⟨e0, e1, e2, e3, e4, e5, e6, e7, el, e9, ey, en, em⟩ := xc
  have SX := Hid.mk hso
  have PX : Hid (Blk WR p #[.int .i64 e0, .int .i64 e1, .int .i64 e2, .int .i64 e3, .int .i64 e4, .int .i64 e5, .int .i64 e6, .int .i64 e7, .slice G0 Gn0 Gc0, .int .i64 e9, .slice G1 Gn1 Gc1, .slice G2 Gn2 Gc2, .slice G3 Gn3 Gc3, .slice G4 Gn4 Gc4] 74) := hso.b
  have HLX : Hid (L.map Prod.fst = []) := hLM
  have hgl : Gn0 = el.length := by
   obtain ⟨A', c', e⟩ := hso.r.l.shape
   rw [entR_length] at e
   cases e
   rfl
  have hb0 := HSx.out.b0
  have hb1 := HSx.out.b1
  have hn6 := HSx.out.n
  simp only at hb0 hb1 hn6
  rw [← hgl] at hn6
  have cL := fun wx => lastI e0 e1 e2 e3 e4 e5 e6 e7 e9 G0 Gn0 Gc0 (.slice G1 Gn1 Gc1) (.slice G2 Gn2 Gc2) (.slice G3 Gn3 Gc3) wx (by omega) (by omega) (by omega)
  have HLs : Hid (cLast ⟨e0, e1, e2, e3, e4, e5, e6, e7, el, e9, ey, en, em⟩ = e6 + (Gn0 : Int)) := by unfold Hid cLast; simp only; rw [hgl]
  have cM := fun wx h hb => matchedV ⟨e0, e1, e2, e3, e4, e5, e6, e7, el, e9, ey, en, em⟩ [] e0 (e6 + (Gn0 : Int)) wx base p h HSx.out.i0 (by have h1 := HSx.out.l; have h2 := HSx.out.i1; have h3 := HSx.out.i0; simp only at h1 h2 h3 ⊢; omega) (by have h1 := HSx.out.m; have h2 := HSx.out.i1; have h3 := HSx.out.i0; simp only at h1 h2 h3 ⊢; omega) (by omega) (by omega) hb
  have HMx : Hid (SendOk (matX ⟨e0, e1, e2, e3, e4, e5, e6, e7, el, e9, ey, en, em⟩ e0.toNat (e6 + (Gn0 : Int)))) := by
   have := HSx.out.mat
   rw [HLs.out] at this
   exact this
  have HPy : Hid (putC ⟨ci, cp, ct, cv, cr, cd, cb, cbt, lg, cc, ys, ns, ms⟩ da = countX (matX ⟨e0, e1, e2, e3, e4, e5, e6, e7, el, e9, ey, en, em⟩ e0.toNat (e6 + (Gn0 : Int)))) := by
   unfold Hid
   rw [HPx.out]
   unfold ownX
   rw [HLs.out]
  clear hso hLM hgl hb0 hb1 hn6
  go_wp2_with fail
  refine wp_region_until (fun w' => w'.cell? ⟨p, 0, none⟩ = some (.int .i64 e0) ∧ w'.cell? ⟨p, 1, none⟩ = some (.int .i64 e1) ∧ w'.cell? ⟨p, 2, none⟩ = some (.int .i64 e2) ∧ w'.cell? ⟨p, 3, none⟩ = some (.int .i64 e3) ∧ w'.cell? ⟨p, 4, none⟩ = some (.int .i64 e4) ∧ w'.cell? ⟨p, 5, none⟩ = some (.int .i64 e5) ∧ w'.cell? ⟨p, 6, none⟩ = some (.int .i64 e6) ∧ w'.cell? ⟨p, 7, none⟩ = some (.int .i64 e7) ∧ w'.cell? ⟨p, 8, none⟩ = some (.slice G0 Gn0 Gc0) ∧ w'.cell? ⟨p, 9, none⟩ = some (.int .i64 e9) ∧ w'.cell? ⟨p, 10, none⟩ = some (.slice G1 Gn1 Gc1) ∧ w'.cell? ⟨p, 11, none⟩ = some (.slice G2 Gn2 Gc2) ∧ w'.cell? ⟨p, 12, none⟩ = some (.slice G3 Gn3 Gc3) ∧ w'.cell? ⟨p, 13, none⟩ = some (.slice G4 Gn4 Gc4)) (fun i => i == 11) 12 (by rfl) (by kernel_rfl) ?_
  have U0 : Hid (Below (WR).heap.size (WR) (WR).drew) := (Below.refl _ _).drew
  have hsz0 : (WR).drew.heap.size = (WR).heap.size := rfl
  generalize (WR).drew = Z0 at *
  have PZ0 := Hid.mk (PX.out.on U0.out PX.out.lt)
  have SZ0 := Hid.mk (show (fun w' => w'.cell? ⟨p, 0, none⟩ = some (.int .i64 e0) ∧ w'.cell? ⟨p, 1, none⟩ = some (.int .i64 e1) ∧ w'.cell? ⟨p, 2, none⟩ = some (.int .i64 e2) ∧ w'.cell? ⟨p, 3, none⟩ = some (.int .i64 e3) ∧ w'.cell? ⟨p, 4, none⟩ = some (.int .i64 e4) ∧ w'.cell? ⟨p, 5, none⟩ = some (.int .i64 e5) ∧ w'.cell? ⟨p, 6, none⟩ = some (.int .i64 e6) ∧ w'.cell? ⟨p, 7, none⟩ = some (.int .i64 e7) ∧ w'.cell? ⟨p, 8, none⟩ = some (.slice G0 Gn0 Gc0) ∧ w'.cell? ⟨p, 9, none⟩ = some (.int .i64 e9) ∧ w'.cell? ⟨p, 10, none⟩ = some (.slice G1 Gn1 Gc1) ∧ w'.cell? ⟨p, 11, none⟩ = some (.slice G2 Gn2 Gc2) ∧ w'.cell? ⟨p, 12, none⟩ = some (.slice G3 Gn3 Gc3) ∧ w'.cell? ⟨p, 13, none⟩ = some (.slice G4 Gn4 Gc4)) Z0 from ⟨PZ0.out.cell 0 _ rfl, PZ0.out.cell 1 _ rfl, PZ0.out.cell 2 _ rfl, PZ0.out.cell 3 _ rfl, PZ0.out.cell 4 _ rfl, PZ0.out.cell 5 _ rfl, PZ0.out.cell 6 _ rfl, PZ0.out.cell 7 _ rfl, PZ0.out.cell 8 _ rfl, PZ0.out.cell 9 _ rfl, PZ0.out.cell 10 _ rfl, PZ0.out.cell 11 _ rfl, PZ0.out.cell 12 _ rfl, PZ0.out.cell 13 _ rfl⟩)
  refine tF 0 SZ0.out ?_
  refine tF 1 SZ0.out ?_
  refine tF 2 SZ0.out ?_
  refine tF 3 SZ0.out ?_
  refine tF 4 SZ0.out ?_
  refine tF 5 SZ0.out ?_
  refine tF 6 SZ0.out ?_
  refine tF 7 SZ0.out ?_
  refine tF 8 SZ0.out ?_
  refine tF 9 SZ0.out ?_
  refine uNe 10 (fun K hK => ?_)
  go_simp
  refine (cL Z0).mono ?_
  rintro e Z1 ⟨rfl, hb⟩
  have U1 : Hid (Below (WR).heap.size (WR) Z1) := U0.out.trans (hb.mono U0.out.size)
  have PZ1 := Hid.mk (PX.out.on U1.out PX.out.lt)
  clear hb
  refine hK.out _ _ (fun _ _ => ⟨PZ1.out.cell 0 _ rfl, PZ1.out.cell 1 _ rfl, PZ1.out.cell 2 _ rfl, PZ1.out.cell 3 _ rfl, PZ1.out.cell 4 _ rfl, PZ1.out.cell 5 _ rfl, PZ1.out.cell 6 _ rfl, PZ1.out.cell 7 _ rfl, PZ1.out.cell 8 _ rfl, PZ1.out.cell 9 _ rfl, PZ1.out.cell 10 _ rfl, PZ1.out.cell 11 _ rfl, PZ1.out.cell 12 _ rfl, PZ1.out.cell 13 _ rfl⟩) ?_
  clear hK K
  try simp only [Act.put, zQ1, zQ2, zQ3]
  have HBc : Hid (base ≤ Z1.heap.size) := Nat.le_trans (Nat.le_trans HBW.out BA.out.size) U1.out.size
  refine uNe 11 (fun K hK => ?_)
  go_simp
  refine (cM Z1 (SA.out.on U1.out) HBc.out).mono ?_
  rintro e Z2 ⟨rfl, hS, hb⟩
  have SZ2 := Hid.mk hS
  have BZ2 : Hid (Below base w Z2) := (BA.out.trans (U1.out.mono (Nat.le_trans HBW.out BA.out.size))).trans hb
  refine hK.out _ _ (fun h => by cases h) ?_
  clear hK K hS hb
  try simp only [Act.put, zQ1, zQ2, zQ3]
  refine until_done (by kernel_rfl) ?_ _
  have cC := countV _ [] Z2 base p SZ2.out HMx.out (Nat.le_trans HBW.out BZ2.out.size)
  rw [← HPy.out] at cC
  clear PZ0 PZ1 SZ0 PX SX cL cM
  try go_wp2_with fail
  refine cC.mono ?_
  rintro e Z3 ⟨rfl, hS, hb⟩
  have FS := Hid.mk hS
  have FB : Hid (Below base w Z3) := BZ2.out.trans hb
  clear hS hb cC
  go_wp2_with fail
  exact bodyPost_end (v := .tuple #[]) (by simp [results, go_sem]) rfl ⟨rfl, FS.out, FB.out⟩
 rw [decide_eq_true hroom] at cH
 have HX : Hid (addX ⟨ci, cp, ct, cv, cr, cd, cb, cbt, lg, cc, ys, ns, ms⟩ da = ⟨ci, cp, ct, cv, cr, cd, cb, cbt, (lg ++ [⟨ct, da⟩]), cc, ys, ns, ms⟩) := addX_yes (HRm.out.2 hroom)
 have HAq : Hid (∀ q ∈ ([] : List (Mg × Value)), ∀ g, q.2.ownBlock = some g → (Value.slice A0 An0 Ac0).ownBlock ≠ some g) := fun q hq => (by cases hq)
 clear hroom HRm
 go_wp2_with fail
 refine cH.mono ?_
 rintro e WR ⟨rfl, hb⟩
 have PR := Hid.mk (PW.out.on hb PW.out.lt)
 have SR := Hid.mk (HS0.out.on hb)
 have OR := Hid.mk (HO0.out.on hb)
 have BR : Hid (Below base w WR) := BW.out.trans (hb.mono (Nat.le_trans HBW.out BW.out.size))
 have HBR : Hid (base ≤ WR.heap.size) := Nat.le_trans HBW.out BR.out.size
 have HPx0 := Hid.mk (HPw.out da)
 clear hb cH k0 k1 k2 k3 k4 k5 k6 k7 k8 k9 k10 k11 k12 k13 PW HPw HS0 HO0 HSo
 go_wp2_with fail
 refine wp_region_until (fun w' => w'.cell? ⟨p, 0, none⟩ = some (.int .i64 ci) ∧ w'.cell? ⟨p, 1, none⟩ = some (.int .i64 cp) ∧ w'.cell? ⟨p, 2, none⟩ = some (.int .i64 ct) ∧ w'.cell? ⟨p, 3, none⟩ = some (.int .i64 cv) ∧ w'.cell? ⟨p, 4, none⟩ = some (.int .i64 cr) ∧ w'.cell? ⟨p, 5, none⟩ = some (.int .i64 cd) ∧ w'.cell? ⟨p, 6, none⟩ = some (.int .i64 cb) ∧ w'.cell? ⟨p, 7, none⟩ = some (.int .i64 cbt) ∧ w'.cell? ⟨p, 8, none⟩ = some (.slice A0 An0 Ac0) ∧ w'.cell? ⟨p, 9, none⟩ = some (.int .i64 cc) ∧ w'.cell? ⟨p, 10, none⟩ = some (.slice A1 An1 Ac1) ∧ w'.cell? ⟨p, 11, none⟩ = some (.slice A2 An2 Ac2) ∧ w'.cell? ⟨p, 12, none⟩ = some (.slice A3 An3 Ac3) ∧ w'.cell? ⟨p, 13, none⟩ = some (.slice A4 An4 Ac4)) (fun i => i == 19) 20 (by rfl) (by kernel_rfl) ?_
 have V0 : Hid (Below WR.heap.size WR WR.drew) := (Below.refl _ _).drew
 generalize WR.drew = Y0 at *
 have P0 := Hid.mk (PR.out.on V0.out PR.out.lt)
 have SS0 := Hid.mk (show (fun w' => w'.cell? ⟨p, 0, none⟩ = some (.int .i64 ci) ∧ w'.cell? ⟨p, 1, none⟩ = some (.int .i64 cp) ∧ w'.cell? ⟨p, 2, none⟩ = some (.int .i64 ct) ∧ w'.cell? ⟨p, 3, none⟩ = some (.int .i64 cv) ∧ w'.cell? ⟨p, 4, none⟩ = some (.int .i64 cr) ∧ w'.cell? ⟨p, 5, none⟩ = some (.int .i64 cd) ∧ w'.cell? ⟨p, 6, none⟩ = some (.int .i64 cb) ∧ w'.cell? ⟨p, 7, none⟩ = some (.int .i64 cbt) ∧ w'.cell? ⟨p, 8, none⟩ = some (.slice A0 An0 Ac0) ∧ w'.cell? ⟨p, 9, none⟩ = some (.int .i64 cc) ∧ w'.cell? ⟨p, 10, none⟩ = some (.slice A1 An1 Ac1) ∧ w'.cell? ⟨p, 11, none⟩ = some (.slice A2 An2 Ac2) ∧ w'.cell? ⟨p, 12, none⟩ = some (.slice A3 An3 Ac3) ∧ w'.cell? ⟨p, 13, none⟩ = some (.slice A4 An4 Ac4)) Y0 from ⟨P0.out.cell 0 _ rfl, P0.out.cell 1 _ rfl, P0.out.cell 2 _ rfl, P0.out.cell 3 _ rfl, P0.out.cell 4 _ rfl, P0.out.cell 5 _ rfl, P0.out.cell 6 _ rfl, P0.out.cell 7 _ rfl, P0.out.cell 8 _ rfl, P0.out.cell 9 _ rfl, P0.out.cell 10 _ rfl, P0.out.cell 11 _ rfl, P0.out.cell 12 _ rfl, P0.out.cell 13 _ rfl⟩)
 refine tF 0 SS0.out ?_
 refine tF 1 SS0.out ?_
 refine tF 2 SS0.out ?_
 refine tF 3 SS0.out ?_
 refine tF 4 SS0.out ?_
 refine tF 5 SS0.out ?_
 refine tF 6 SS0.out ?_
 refine tF 7 SS0.out ?_
 refine tF 8 SS0.out ?_
 refine tF 9 SS0.out ?_
 refine tF 10 SS0.out ?_
 refine pF 11 ?_
 refine uNe 12 (fun K hK => ?_)
 go_simp
 refine (clone da Y0 (by omega)).mono ?_
 rintro e Y1 ⟨rfl, hb⟩
 have V1 : Hid (Below WR.heap.size WR Y1) := V0.out.trans (hb.mono V0.out.size)
 have P1 := Hid.mk (PR.out.on V1.out PR.out.lt)
 clear hb
 refine hK.out _ _ (fun _ _ => ⟨P1.out.cell 0 _ rfl, P1.out.cell 1 _ rfl, P1.out.cell 2 _ rfl, P1.out.cell 3 _ rfl, P1.out.cell 4 _ rfl, P1.out.cell 5 _ rfl, P1.out.cell 6 _ rfl, P1.out.cell 7 _ rfl, P1.out.cell 8 _ rfl, P1.out.cell 9 _ rfl, P1.out.cell 10 _ rfl, P1.out.cell 11 _ rfl, P1.out.cell 12 _ rfl, P1.out.cell 13 _ rfl⟩) ?_
 clear hK K
 try simp only [Act.put, zQ1, zQ2, zQ3]
 refine pF 13 ?_
 have S1 := Hid.mk (SR.out.on V1.out)
 have O1 := Hid.mk (OR.out.on V1.out)
 have bz : Below Y1.heap.size Y1 (Y1.alloc (.cells #[.int .i64 ct, .string da] 71)) := (Below.refl _ _).alloc (Nat.le_refl _) _
 obtain ⟨nA, nm, nc, Y2, r5, hO5, hb5, hk5, -⟩ := run_append_row (P := Try.prog) Y1 27 27 71 (.agg #[.int .i64 0, .string ⟨#[]⟩]) 2 24 Try.underlying27 Try.infoEnt rfl (by omega) base (.slice A0 An0 Ac0) (entR lg) O1.out [.int .i64 ct, .string da] rfl (ent_cellsC _ _) HLe.out (by omega) (Nat.le_trans HBR.out V1.out.size)
 refine uNe 14 (fun K hK => ?_)
 go_simp
 refine hK.out _ _ (fun _ _ => ⟨(P1.out.on bz P1.out.lt).cell 0 _ rfl, (P1.out.on bz P1.out.lt).cell 1 _ rfl, (P1.out.on bz P1.out.lt).cell 2 _ rfl, (P1.out.on bz P1.out.lt).cell 3 _ rfl, (P1.out.on bz P1.out.lt).cell 4 _ rfl, (P1.out.on bz P1.out.lt).cell 5 _ rfl, (P1.out.on bz P1.out.lt).cell 6 _ rfl, (P1.out.on bz P1.out.lt).cell 7 _ rfl, (P1.out.on bz P1.out.lt).cell 8 _ rfl, (P1.out.on bz P1.out.lt).cell 9 _ rfl, (P1.out.on bz P1.out.lt).cell 10 _ rfl, (P1.out.on bz P1.out.lt).cell 11 _ rfl, (P1.out.on bz P1.out.lt).cell 12 _ rfl, (P1.out.on bz P1.out.lt).cell 13 _ rfl⟩) ?_
 clear hK K bz
 try simp only [Act.put, zQ1, zQ2, zQ3]
 refine uNe 15 (fun K hK => ?_)
 refine step_append_run (by rfl) (.tmp 67) (.tmp 76) 27 (by rfl) _ _ _ _ (by rfl) (by rfl) r5 ?_
 have HK5 : Hid (∀ g, g < Y1.heap.size → (Value.slice A0 An0 Ac0).ownBlock ≠ some g → Y2.heap[g]? = Y1.heap[g]?) := hk5
 have B2 : Hid (Below base Y1 Y2) := hb5
 have O2 : Hid (Owns Y2 base 71 2 (.slice nA nm nc) (entR (lg ++ [⟨ct, da⟩]))) := by unfold Hid; rw [entR_append]; exact hO5
 have P2 : Hid (Blk Y2 p #[.int .i64 ci, .int .i64 cp, .int .i64 ct, .int .i64 cv, .int .i64 cr, .int .i64 cd, .int .i64 cb, .int .i64 cbt, .slice A0 An0 Ac0, .int .i64 cc, .slice A1 An1 Ac1, .slice A2 An2 Ac2, .slice A3 An3 Ac3, .slice A4 An4 Ac4] 74) := (hk5 p P1.out.lt (O1.out.notBlk P1.out (by decide))).trans P1.out
 refine hK.out _ _ (fun _ _ => ⟨P2.out.cell 0 _ rfl, P2.out.cell 1 _ rfl, P2.out.cell 2 _ rfl, P2.out.cell 3 _ rfl, P2.out.cell 4 _ rfl, P2.out.cell 5 _ rfl, P2.out.cell 6 _ rfl, P2.out.cell 7 _ rfl, P2.out.cell 8 _ rfl, P2.out.cell 9 _ rfl, P2.out.cell 10 _ rfl, P2.out.cell 11 _ rfl, P2.out.cell 12 _ rfl, P2.out.cell 13 _ rfl⟩) ?_
 clear hK K hO5 hb5 hk5 r5
 try simp only [Act.put, zQ1, zQ2, zQ3]
 have SS2 := Hid.mk (show (fun w' => w'.cell? ⟨p, 0, none⟩ = some (.int .i64 ci) ∧ w'.cell? ⟨p, 1, none⟩ = some (.int .i64 cp) ∧ w'.cell? ⟨p, 2, none⟩ = some (.int .i64 ct) ∧ w'.cell? ⟨p, 3, none⟩ = some (.int .i64 cv) ∧ w'.cell? ⟨p, 4, none⟩ = some (.int .i64 cr) ∧ w'.cell? ⟨p, 5, none⟩ = some (.int .i64 cd) ∧ w'.cell? ⟨p, 6, none⟩ = some (.int .i64 cb) ∧ w'.cell? ⟨p, 7, none⟩ = some (.int .i64 cbt) ∧ w'.cell? ⟨p, 8, none⟩ = some (.slice A0 An0 Ac0) ∧ w'.cell? ⟨p, 9, none⟩ = some (.int .i64 cc) ∧ w'.cell? ⟨p, 10, none⟩ = some (.slice A1 An1 Ac1) ∧ w'.cell? ⟨p, 11, none⟩ = some (.slice A2 An2 Ac2) ∧ w'.cell? ⟨p, 12, none⟩ = some (.slice A3 An3 Ac3) ∧ w'.cell? ⟨p, 13, none⟩ = some (.slice A4 An4 Ac4)) Y2 from ⟨P2.out.cell 0 _ rfl, P2.out.cell 1 _ rfl, P2.out.cell 2 _ rfl, P2.out.cell 3 _ rfl, P2.out.cell 4 _ rfl, P2.out.cell 5 _ rfl, P2.out.cell 6 _ rfl, P2.out.cell 7 _ rfl, P2.out.cell 8 _ rfl, P2.out.cell 9 _ rfl, P2.out.cell 10 _ rfl, P2.out.cell 11 _ rfl, P2.out.cell 12 _ rfl, P2.out.cell 13 _ rfl⟩)
 refine tF 16 SS2.out ?_
 refine tF 17 SS2.out ?_
 refine tF 18 SS2.out ?_
 have f8 := P2.out.free 8
 have o8 := P2.out.cell 8 _ rfl
 refine uNe 19 (fun K hK => ?_)
 go_simp
 refine hK.out _ _ (fun h => by cases h) ?_
 clear hK K f8 o8
 try simp only [Act.put, zQ1, zQ2, zQ3]
 refine until_done (by kernel_rfl) ?_ _
 have SA : Hid (Spk (Y2.setCell ⟨p, 8, none⟩ (.slice nA nm nc)) base p ⟨ci, cp, ct, cv, cr, cd, cb, cbt, (lg ++ [⟨ct, da⟩]), cc, ys, ns, ms⟩ []) := by
  have hn : ∀ (v : Value) (l : List Int), Nums Y1 base v l → Nums Y2 base v l := fun v l hv => hv.kept fun g hg e => by
   obtain ⟨cs, fz, e1⟩ := hv.kind e
   exact HK5.out g hg (O1.out.notBlk e1 (by decide))
  have hm2 : MsO Y2 base (.slice A4 An4 Ac4) [] := ⟨S1.out.m.r.kept fun g hg e => HK5.out g hg (by
   obtain ⟨cs, fz, e1⟩ := S1.out.m.r.kind e
   exact O1.out.notBlk e1 (by decide)), fun q hq => (S1.out.m.e q hq).kept fun g hg e => HK5.out g hg (HAq.out q hq g e), S1.out.m.a⟩
  have hr2 : CoRows Y2 base ⟨ci, cp, ct, cv, cr, cd, cb, cbt, (lg ++ [⟨ct, da⟩]), cc, ys, ns, ms⟩ (.slice nA nm nc) (.slice A1 An1 Ac1) (.slice A2 An2 Ac2) (.slice A3 An3 Ac3) := ⟨O2.out.toF, hn _ _ S1.out.r.y, hn _ _ S1.out.r.n, hn _ _ S1.out.r.m, S1.out.r.yn, S1.out.r.ym, S1.out.r.nm⟩
  exact ⟨_, _, _, _, _, [], ⟨P2.out.set 8 _, hr2.atP P2.out 8 _, hm2.atP P2.out 8 _, (fun q hq => (by cases hq)), S1.out.p⟩, rfl⟩
 have BA : Hid (Below base WR (Y2.setCell ⟨p, 8, none⟩ (.slice nA nm nc))) := ((V1.out.mono HBR.out).trans B2.out).setCell S1.out.p _
 obtain ⟨WS, hWS⟩ : ∃ WS, WS = Y2.setCell ⟨p, 8, none⟩ (.slice nA nm nc) := ⟨_, rfl⟩
 rw [← hWS] at SA BA ⊢
 have SA0 : Hid (Spk WS base p (addX ⟨ci, cp, ct, cv, cr, cd, cb, cbt, lg, cc, ys, ns, ms⟩ da) []) := by unfold Hid; rw [HX.out]; exact SA.out
 have BA0 : Hid (Below base w WS) := BR.out.trans BA.out
 clear SA BA hWS P2 O2 B2 P1 P0 S1 O1 V1 V0 SS0 SS2 HX HK5 HAq PR SR OR BR
 generalize addX ⟨ci, cp, ct, cv, cr, cd, cb, cbt, lg, cc, ys, ns, ms⟩ da = xc at *
 have SA := SA0
 have BA := BA0
 have HSx := HSa
 have HPx := HPx0
 clear SA0 BA0 HSa HPx0
 obtain ⟨ul, uy, un, um, us, L, hso, hLM⟩ := SA.out
 obtain ⟨G0, Gn0, Gc0, G1, Gn1, Gc1, G2, Gn2, Gc2, G3, Gn3, Gc3, G4, Gn4, Gc4, rfl, rfl, rfl, rfl, rfl⟩ := hso.shape
 obtain ⟨e0, e1, e2, e3, e4, e5, e6, e7, el, e9, ey, en, em⟩ := xc
 have SX := Hid.mk hso
 have PX : Hid (Blk WS p #[.int .i64 e0, .int .i64 e1, .int .i64 e2, .int .i64 e3, .int .i64 e4, .int .i64 e5, .int .i64 e6, .int .i64 e7, .slice G0 Gn0 Gc0, .int .i64 e9, .slice G1 Gn1 Gc1, .slice G2 Gn2 Gc2, .slice G3 Gn3 Gc3, .slice G4 Gn4 Gc4] 74) := hso.b
 have HLX : Hid (L.map Prod.fst = []) := hLM
 have hgl : Gn0 = el.length := by
  obtain ⟨A', c', e⟩ := hso.r.l.shape
  rw [entR_length] at e
  cases e
  rfl
 have hb0 := HSx.out.b0
 have hb1 := HSx.out.b1
 have hn6 := HSx.out.n
 simp only at hb0 hb1 hn6
 rw [← hgl] at hn6
 have cL := fun wx => lastI e0 e1 e2 e3 e4 e5 e6 e7 e9 G0 Gn0 Gc0 (.slice G1 Gn1 Gc1) (.slice G2 Gn2 Gc2) (.slice G3 Gn3 Gc3) wx (by omega) (by omega) (by omega)
 have HLs : Hid (cLast ⟨e0, e1, e2, e3, e4, e5, e6, e7, el, e9, ey, en, em⟩ = e6 + (Gn0 : Int)) := by unfold Hid cLast; simp only; rw [hgl]
 have cM := fun wx h hb => matchedV ⟨e0, e1, e2, e3, e4, e5, e6, e7, el, e9, ey, en, em⟩ [] e0 (e6 + (Gn0 : Int)) wx base p h HSx.out.i0 (by have h1 := HSx.out.l; have h2 := HSx.out.i1; have h3 := HSx.out.i0; simp only at h1 h2 h3 ⊢; omega) (by have h1 := HSx.out.m; have h2 := HSx.out.i1; have h3 := HSx.out.i0; simp only at h1 h2 h3 ⊢; omega) (by omega) (by omega) hb
 have HMx : Hid (SendOk (matX ⟨e0, e1, e2, e3, e4, e5, e6, e7, el, e9, ey, en, em⟩ e0.toNat (e6 + (Gn0 : Int)))) := by
  have := HSx.out.mat
  rw [HLs.out] at this
  exact this
 have HPy : Hid (putC ⟨ci, cp, ct, cv, cr, cd, cb, cbt, lg, cc, ys, ns, ms⟩ da = countX (matX ⟨e0, e1, e2, e3, e4, e5, e6, e7, el, e9, ey, en, em⟩ e0.toNat (e6 + (Gn0 : Int)))) := by
  unfold Hid
  rw [HPx.out]
  unfold ownX
  rw [HLs.out]
 clear hso hLM hgl hb0 hb1 hn6
 go_wp2_with fail
 refine wp_region_until (fun w' => w'.cell? ⟨p, 0, none⟩ = some (.int .i64 e0) ∧ w'.cell? ⟨p, 1, none⟩ = some (.int .i64 e1) ∧ w'.cell? ⟨p, 2, none⟩ = some (.int .i64 e2) ∧ w'.cell? ⟨p, 3, none⟩ = some (.int .i64 e3) ∧ w'.cell? ⟨p, 4, none⟩ = some (.int .i64 e4) ∧ w'.cell? ⟨p, 5, none⟩ = some (.int .i64 e5) ∧ w'.cell? ⟨p, 6, none⟩ = some (.int .i64 e6) ∧ w'.cell? ⟨p, 7, none⟩ = some (.int .i64 e7) ∧ w'.cell? ⟨p, 8, none⟩ = some (.slice G0 Gn0 Gc0) ∧ w'.cell? ⟨p, 9, none⟩ = some (.int .i64 e9) ∧ w'.cell? ⟨p, 10, none⟩ = some (.slice G1 Gn1 Gc1) ∧ w'.cell? ⟨p, 11, none⟩ = some (.slice G2 Gn2 Gc2) ∧ w'.cell? ⟨p, 12, none⟩ = some (.slice G3 Gn3 Gc3) ∧ w'.cell? ⟨p, 13, none⟩ = some (.slice G4 Gn4 Gc4)) (fun i => i == 11) 12 (by rfl) (by kernel_rfl) ?_
 have U0 : Hid (Below (WS).heap.size (WS) (WS).drew) := (Below.refl _ _).drew
 have hsz0 : (WS).drew.heap.size = (WS).heap.size := rfl
 generalize (WS).drew = Z0 at *
 have PZ0 := Hid.mk (PX.out.on U0.out PX.out.lt)
 have SZ0 := Hid.mk (show (fun w' => w'.cell? ⟨p, 0, none⟩ = some (.int .i64 e0) ∧ w'.cell? ⟨p, 1, none⟩ = some (.int .i64 e1) ∧ w'.cell? ⟨p, 2, none⟩ = some (.int .i64 e2) ∧ w'.cell? ⟨p, 3, none⟩ = some (.int .i64 e3) ∧ w'.cell? ⟨p, 4, none⟩ = some (.int .i64 e4) ∧ w'.cell? ⟨p, 5, none⟩ = some (.int .i64 e5) ∧ w'.cell? ⟨p, 6, none⟩ = some (.int .i64 e6) ∧ w'.cell? ⟨p, 7, none⟩ = some (.int .i64 e7) ∧ w'.cell? ⟨p, 8, none⟩ = some (.slice G0 Gn0 Gc0) ∧ w'.cell? ⟨p, 9, none⟩ = some (.int .i64 e9) ∧ w'.cell? ⟨p, 10, none⟩ = some (.slice G1 Gn1 Gc1) ∧ w'.cell? ⟨p, 11, none⟩ = some (.slice G2 Gn2 Gc2) ∧ w'.cell? ⟨p, 12, none⟩ = some (.slice G3 Gn3 Gc3) ∧ w'.cell? ⟨p, 13, none⟩ = some (.slice G4 Gn4 Gc4)) Z0 from ⟨PZ0.out.cell 0 _ rfl, PZ0.out.cell 1 _ rfl, PZ0.out.cell 2 _ rfl, PZ0.out.cell 3 _ rfl, PZ0.out.cell 4 _ rfl, PZ0.out.cell 5 _ rfl, PZ0.out.cell 6 _ rfl, PZ0.out.cell 7 _ rfl, PZ0.out.cell 8 _ rfl, PZ0.out.cell 9 _ rfl, PZ0.out.cell 10 _ rfl, PZ0.out.cell 11 _ rfl, PZ0.out.cell 12 _ rfl, PZ0.out.cell 13 _ rfl⟩)
 refine tF 0 SZ0.out ?_
 refine tF 1 SZ0.out ?_
 refine tF 2 SZ0.out ?_
 refine tF 3 SZ0.out ?_
 refine tF 4 SZ0.out ?_
 refine tF 5 SZ0.out ?_
 refine tF 6 SZ0.out ?_
 refine tF 7 SZ0.out ?_
 refine tF 8 SZ0.out ?_
 refine tF 9 SZ0.out ?_
 refine uNe 10 (fun K hK => ?_)
 go_simp
 refine (cL Z0).mono ?_
 rintro e Z1 ⟨rfl, hb⟩
 have U1 : Hid (Below (WS).heap.size (WS) Z1) := U0.out.trans (hb.mono U0.out.size)
 have PZ1 := Hid.mk (PX.out.on U1.out PX.out.lt)
 clear hb
 refine hK.out _ _ (fun _ _ => ⟨PZ1.out.cell 0 _ rfl, PZ1.out.cell 1 _ rfl, PZ1.out.cell 2 _ rfl, PZ1.out.cell 3 _ rfl, PZ1.out.cell 4 _ rfl, PZ1.out.cell 5 _ rfl, PZ1.out.cell 6 _ rfl, PZ1.out.cell 7 _ rfl, PZ1.out.cell 8 _ rfl, PZ1.out.cell 9 _ rfl, PZ1.out.cell 10 _ rfl, PZ1.out.cell 11 _ rfl, PZ1.out.cell 12 _ rfl, PZ1.out.cell 13 _ rfl⟩) ?_
 clear hK K
 try simp only [Act.put, zQ1, zQ2, zQ3]
 have HBc : Hid (base ≤ Z1.heap.size) := Nat.le_trans (Nat.le_trans HBW.out BA.out.size) U1.out.size
 refine uNe 11 (fun K hK => ?_)
 go_simp
 refine (cM Z1 (SA.out.on U1.out) HBc.out).mono ?_
 rintro e Z2 ⟨rfl, hS, hb⟩
 have SZ2 := Hid.mk hS
 have BZ2 : Hid (Below base w Z2) := (BA.out.trans (U1.out.mono (Nat.le_trans HBW.out BA.out.size))).trans hb
 refine hK.out _ _ (fun h => by cases h) ?_
 clear hK K hS hb
 try simp only [Act.put, zQ1, zQ2, zQ3]
 refine until_done (by kernel_rfl) ?_ _
 have cC := countV _ [] Z2 base p SZ2.out HMx.out (Nat.le_trans HBW.out BZ2.out.size)
 rw [← HPy.out] at cC
 clear PZ0 PZ1 SZ0 PX SX cL cM
 try go_wp2_with fail
 refine cC.mono ?_
 rintro e Z3 ⟨rfl, hS, hb⟩
 have FS := Hid.mk hS
 have FB : Hid (Below base w Z3) := BZ2.out.trans hb
 clear hS hb cC
 go_wp2_with fail
 exact bodyPost_end (v := .tuple #[]) (by simp [results, go_sem]) rfl ⟨rfl, FS.out, FB.out⟩
end Go.Proofs.Ytlhoonohpfpkbaa
namespace Go.Proofs.Ytlhoonohpfpkbaa
open Go.ChangeShapes Go.WideShapes Go.ChangeAt Go.RowKit Go.PlainAid
set_option linter.unusedVariables false
theorem sendV (x : Cor) (M : List Mg) (w : World) (base p : Nat) (hsp : Spk w base p x M) (hso : SendOk x) (hM : M.length ≤ 100) (hbs : base ≤ w.heap.size) :
  Calls Try.prog 63 #[.pointer (some ⟨p, 0, none⟩)] w fun e w' => e = .returned (.tuple #[]) ∧ Spk w' base p x (M ++ toAll x) ∧ Below base w w' := by
 obtain ⟨ci, cp, ct, cv, cr, cd, cb, cbt, lg, cc, ys, ns, ms⟩ := x
 have hq := hso.q
 unfold cLast at hq
 exact sendAI ci cp ct cv cr cd cb cbt lg cc ys ns ms M w base p hsp hso.s hso.b0 hso.b1 hso.n hso.p0 hso.p1 hso.l hq hM hbs
def propR (x : Cor) (d : ByteArray) : Cor × List Mg × Int := if x.role = 3 ∧ d.size ≤ 900 ∧ RoomP x then (putC x d, toAll (putC x d), cLast (putC x d)) else (x, [], 0)
theorem propR_yes {x : Cor} {d : ByteArray} (h : x.role = 3 ∧ d.size ≤ 900 ∧ RoomP x) : propR x d = (putC x d, toAll (putC x d), cLast (putC x d)) := if_pos h
theorem propR_no {x : Cor} {d : ByteArray} (h : ¬ (x.role = 3 ∧ d.size ≤ 900 ∧ RoomP x)) : propR x d = (x, [], 0) := if_neg h
set_option maxRecDepth 20000 in
set_option maxHeartbeats 8000000 in
theorem proposeI (ci cp ct cv cr cd cb cbt : Int) (lg : List Ent) (cc : Int) (ys ns ms : List Int) (da : ByteArray) (w : World) (base p : Nat) (hsp : SpkW w base p ⟨ci, cp, ct, cv, cr, cd, cb, cbt, lg, cc, ys, ns, ms⟩ []) (hok : COk ⟨ci, cp, ct, cv, cr, cd, cb, cbt, lg, cc, ys, ns, ms⟩) (hs : ShortC ⟨ci, cp, ct, cv, cr, cd, cb, cbt, lg, cc, ys, ns, ms⟩) (hd9 : da.size ≤ 1048576) (hbs : base ≤ w.heap.size) :
  Calls Try.prog 45 #[.pointer (some ⟨p, 0, none⟩), .string da] w fun e w' => e = .returned (.int .i64 (propR ⟨ci, cp, ct, cv, cr, cd, cb, cbt, lg, cc, ys, ns, ms⟩ da).2.2) ∧ Spk w' base p (propR ⟨ci, cp, ct, cv, cr, cd, cb, cbt, lg, cc, ys, ns, ms⟩ da).1 (propR ⟨ci, cp, ct, cv, cr, cd, cb, cbt, lg, cc, ys, ns, ms⟩ da).2.1 ∧ Below base w w' := by
 have HW := Hid.mk hsp
 have HS1 := Hid.mk hsp.spk
 obtain ⟨A0, An0, Ac0, A1, An1, Ac1, A2, An2, Ac2, A3, An3, Ac3, A4, An4, Ac4, h1, h2⟩ := hsp.nil
 have PW : Hid (Blk w p #[.int .i64 ci, .int .i64 cp, .int .i64 ct, .int .i64 cv, .int .i64 cr, .int .i64 cd, .int .i64 cb, .int .i64 cbt, .slice A0 An0 Ac0, .int .i64 cc, .slice A1 An1 Ac1, .slice A2 An2 Ac2, .slice A3 An3 Ac3, .slice A4 An4 Ac4] 74) := h1.b
 have hln : An0 = lg.length := by
  obtain ⟨A', c', e⟩ := h1.r.l.shape
  rw [entR_length] at e
  cases e
  rfl
 obtain ⟨w0, w1, w2, w3, w4, w5, w6⟩ := walOk_in hok.1.w
 simp only [corW] at w2 w3 w4 w5
 have HSo : Hid (cr = 3 → SendOk ⟨ci, cp, ct, cv, cr, cd, cb, cbt, lg, cc, ys, ns, ms⟩) := fun h => SendOk.of hok h hs
 have HRm : Hid (RoomP ⟨ci, cp, ct, cv, cr, cd, cb, cbt, lg, cc, ys, ns, ms⟩ ↔ (An0 < 60 ∧ cb + (An0 : Int) < 100000)) := by unfold Hid RoomP cLast; simp only; rw [← hln]
 have HNo : Hid (¬ (cr = 3 ∧ da.size ≤ 900 ∧ RoomP ⟨ci, cp, ct, cv, cr, cd, cb, cbt, lg, cc, ys, ns, ms⟩) → propR ⟨ci, cp, ct, cv, cr, cd, cb, cbt, lg, cc, ys, ns, ms⟩ da = (⟨ci, cp, ct, cv, cr, cd, cb, cbt, lg, cc, ys, ns, ms⟩, [], 0)) := fun h => propR_no (x := ⟨ci, cp, ct, cv, cr, cd, cb, cbt, lg, cc, ys, ns, ms⟩) (d := da) h
 have HYe : Hid (cr = 3 ∧ da.size ≤ 900 ∧ RoomP ⟨ci, cp, ct, cv, cr, cd, cb, cbt, lg, cc, ys, ns, ms⟩ → propR ⟨ci, cp, ct, cv, cr, cd, cb, cbt, lg, cc, ys, ns, ms⟩ da = (putC ⟨ci, cp, ct, cv, cr, cd, cb, cbt, lg, cc, ys, ns, ms⟩ da, toAll (putC ⟨ci, cp, ct, cv, cr, cd, cb, cbt, lg, cc, ys, ns, ms⟩ da), cLast (putC ⟨ci, cp, ct, cv, cr, cd, cb, cbt, lg, cc, ys, ns, ms⟩ da))) := fun h => propR_yes (x := ⟨ci, cp, ct, cv, cr, cd, cb, cbt, lg, cc, ys, ns, ms⟩) (d := da) h
 have HBW : Hid (base ≤ w.heap.size) := hbs
 rw [← hln] at w4
 have cH := roomI ci cp ct cv cr cd cb cbt cc A0 An0 Ac0 (.slice A1 An1 Ac1) (.slice A2 An2 Ac2) (.slice A3 An3 Ac3) w (by omega) (by omega) (by omega)
 have cA := fun hso => advI1 ci cp ct cv cr cd cb cbt lg cc ys ns ms da w base p hsp hso hd9 hbs
 clear hsp h1 h2 hok hs hln w0 w1 w2 w3 w4 w5 w6 hbs
 obtain ⟨k0, k1, k2, k3, k4, k5, k6, k7, k8, k9, k10, k11, k12, k13⟩ := cells14 PW.out
 by_cases hr : cr = 3
 rotate_left
 ·have z1 : (cr != 3) = true := bne_iff_ne.2 hr
  have HE := Hid.mk (HNo.out (fun h => hr h.1))
  clear hr cA cH
  go_enter Try.func45, Try.ntmps45
  go_wp2_with fail
  go_ret
  rw [HE.out]
  exact ⟨rfl, HS1.out, Below.refl _ _⟩
 have z1 : (cr != 3) = false := by rw [hr]; rfl
 by_cases hd : da.size ≤ 900
 rotate_left
 ·have z2 : decide ((900 : Int) < (da.size : Int)) = true := decide_eq_true (by omega)
  have HE := Hid.mk (HNo.out (fun h => hd h.2.1))
  clear hr hd cA cH
  go_enter Try.func45, Try.ntmps45
  go_wp2_with fail
  go_ret
  rw [HE.out]
  exact ⟨rfl, HS1.out, Below.refl _ _⟩
 have z2 : decide ((900 : Int) < (da.size : Int)) = false := decide_eq_false (by omega)
 by_cases hroom : An0 < 60 ∧ cb + (An0 : Int) < 100000
 rotate_left
 ·rw [decide_eq_false hroom] at cH
  have HE := Hid.mk (HNo.out (fun h => hroom (HRm.out.1 h.2.2)))
  clear hr hd hroom cA HRm
  go_enter Try.func45, Try.ntmps45
  go_wp2_with fail
  refine cH.mono ?_
  rintro e w1 ⟨rfl, hb⟩
  have FS := Hid.mk (HS1.out.on hb)
  have FB : Hid (Below base w w1) := hb.mono HBW.out
  clear hb cH
  go_wp2_with fail
  go_ret
  rw [HE.out]
  exact ⟨rfl, FS.out, FB.out⟩
 rw [decide_eq_true hroom] at cH
 have HE := Hid.mk (HYe.out ⟨hr, hd, HRm.out.2 hroom⟩)
 have HSx := Hid.mk (HSo.out hr)
 have HSp : Hid (SendOk (putC ⟨ci, cp, ct, cv, cr, cd, cb, cbt, lg, cc, ys, ns, ms⟩ da)) := HSx.out.put da hd9
 have cA0 := fun (wx : World) (h : SpkW wx base p ⟨ci, cp, ct, cv, cr, cd, cb, cbt, lg, cc, ys, ns, ms⟩ []) (hb : base ≤ wx.heap.size) => advI1 ci cp ct cv cr cd cb cbt lg cc ys ns ms da wx base p h HSx.out hd9 hb
 clear hr hd hroom cA HRm HNo HYe HSo
 go_enter Try.func45, Try.ntmps45
 go_wp2_with fail
 refine cH.mono ?_
 rintro e w1 ⟨rfl, hb⟩
 have B1 : Hid (Below base w w1) := hb.mono HBW.out
 have cA := cA0 w1 (HW.out.on hb) (Nat.le_trans HBW.out hb.size)
 clear hb cH cA0 k0 k1 k2 k3 k4 k5 k6 k7 k8 k9 k10 k11 k12 k13 PW HW HS1
 go_wp2_with fail
 refine cA.mono ?_
 rintro e w2 ⟨rfl, hS, hb⟩
 have B2 : Hid (Below base w w2) := B1.out.trans hb
 have cS := sendV _ [] w2 base p hS HSp.out (by simp) (Nat.le_trans HBW.out B2.out.size)
 rw [List.nil_append] at cS
 clear hS hb cA
 go_wp2_with fail
 refine cS.mono ?_
 rintro e w3 ⟨rfl, hS, hb⟩
 have B3 : Hid (Below base w w3) := B2.out.trans hb
 have S3 := Hid.mk hS
 clear hS hb cS
 generalize putC ⟨ci, cp, ct, cv, cr, cd, cb, cbt, lg, cc, ys, ns, ms⟩ da = xc at *
 obtain ⟨ul, uy, un, um, us, L, hso, hLM⟩ := S3.out
 obtain ⟨G0, Gn0, Gc0, G1, Gn1, Gc1, G2, Gn2, Gc2, G3, Gn3, Gc3, G4, Gn4, Gc4, rfl, rfl, rfl, rfl, rfl⟩ := hso.shape
 obtain ⟨e0, e1, e2, e3, e4, e5, e6, e7, el, e9, ey, en, em⟩ := xc
 have PX : Hid (Blk w3 p #[.int .i64 e0, .int .i64 e1, .int .i64 e2, .int .i64 e3, .int .i64 e4, .int .i64 e5, .int .i64 e6, .int .i64 e7, .slice G0 Gn0 Gc0, .int .i64 e9, .slice G1 Gn1 Gc1, .slice G2 Gn2 Gc2, .slice G3 Gn3 Gc3, .slice G4 Gn4 Gc4] 74) := hso.b
 have hgl : Gn0 = el.length := by
  obtain ⟨A', c', e⟩ := hso.r.l.shape
  rw [entR_length] at e
  cases e
  rfl
 have hb0 := HSp.out.b0
 have hb1 := HSp.out.b1
 have hn6 := HSp.out.n
 simp only at hb0 hb1 hn6
 rw [← hgl] at hn6
 have HLs : Hid (cLast ⟨e0, e1, e2, e3, e4, e5, e6, e7, el, e9, ey, en, em⟩ = e6 + (Gn0 : Int)) := by unfold Hid cLast; simp only; rw [hgl]
 have cL := lastI e0 e1 e2 e3 e4 e5 e6 e7 e9 G0 Gn0 Gc0 (.slice G1 Gn1 Gc1) (.slice G2 Gn2 Gc2) (.slice G3 Gn3 Gc3) w3 (by omega) (by omega) (by omega)
 clear hso hLM hgl hb0 hb1 hn6
 obtain ⟨k0, k1, k2, k3, k4, k5, k6, k7, k8, k9, k10, k11, k12, k13⟩ := cells14 PX.out
 go_wp2_with fail
 refine cL.mono ?_
 rintro e w4 ⟨rfl, hb⟩
 have FS := Hid.mk (S3.out.on hb)
 have FB : Hid (Below base w w4) := B3.out.trans (hb.mono (Nat.le_trans HBW.out B3.out.size))
 clear hb cL k0 k1 k2 k3 k4 k5 k6 k7 k8 k9 k10 k11 k12 k13 PX S3
 go_wp2_with fail
 go_ret
 rw [HE.out]
 exact ⟨by rw [HLs.out]; rfl, FS.out, FB.out⟩
set_option maxRecDepth 20000 in
set_option maxHeartbeats 4000000 in
theorem proposeL (ci cp ct cv cr cd cb cbt : Int) (lg : List Ent) (cc : Int) (ys ns ms : List Int) (da : ByteArray) (b0 : Int) (w : World) (bs p gi gd : Nat) (hsp : SpkW w bs p ⟨ci, cp, ct, cv, cr, cd, cb, cbt, lg, cc, ys, ns, ms⟩ []) (hok : COk ⟨ci, cp, ct, cv, cr, cd, cb, cbt, lg, cc, ys, ns, ms⟩) (hs : ShortC ⟨ci, cp, ct, cv, cr, cd, cb, cbt, lg, cc, ys, ns, ms⟩) (hd9 : da.size ≤ 1048576) (hki : Blk w gi #[.string da] 9) (hkd : Blk w gd #[.int .i64 b0] 3) (hgi : gi < bs) (hgd : gd < bs) (hbs : bs ≤ w.heap.size) :
  Calls Try.prog 44 (#[.pointer (some ⟨p, 0, none⟩)] ++ #[.pointer (some ⟨gi, 0, none⟩), .pointer (some ⟨gd, 0, none⟩)]) w fun e w' => e = .returned (.tuple #[]) ∧ Spk w' bs p (propR ⟨ci, cp, ct, cv, cr, cd, cb, cbt, lg, cc, ys, ns, ms⟩ da).1 (propR ⟨ci, cp, ct, cv, cr, cd, cb, cbt, lg, cc, ys, ns, ms⟩ da).2.1 ∧ BelowX gd bs w w' ∧ w'.heap[gd]? = some (.cells #[.int .i64 (propR ⟨ci, cp, ct, cv, cr, cd, cb, cbt, lg, cc, ys, ns, ms⟩ da).2.2] 3 (0, 0)) := by
 have cC := proposeI ci cp ct cv cr cd cb cbt lg cc ys ns ms da w bs p hsp hok hs hd9 hbs
 have KI := Hid.mk hki
 have KD := Hid.mk hkd
 have HGI : Hid (gi < bs) := hgi
 have HGD : Hid (gd < bs) := hgd
 have k0 := hki.cell 0 _ rfl
 clear hsp hok hki hkd hgi hgd
 show Calls Try.prog 44 #[.pointer (some ⟨p, 0, none⟩), .pointer (some ⟨gi, 0, none⟩), .pointer (some ⟨gd, 0, none⟩)] w _
 generalize propR ⟨ci, cp, ct, cv, cr, cd, cb, cbt, lg, cc, ys, ns, ms⟩ da = R at *
 go_enter Try.func44, Try.ntmps44
 go_wp2_with fail
 refine cC.mono ?_
 rintro e W ⟨rfl, hS, hb⟩
 have B1 : Hid (Below bs w W) := hb
 have K1 : Hid (Blk W gd #[.int .i64 b0] 3) := KD.out.on hb HGD.out
 have c0 := K1.out.cell 0 _ rfl
 have f0 := K1.out.free 0
 have FS := Hid.mk (hS.low (j := 0) (v := .int .i64 R.2.2) HGD.out)
 have FK := Hid.mk (K1.out.set 0 (.int .i64 R.2.2))
 have FB : Hid (BelowX gd bs w (W.setCell ⟨gd, 0, none⟩ (.int .i64 R.2.2))) := (BelowX.of B1.out).trans ⟨rfl, rfl, rfl, by simp, fun k hk hn => Below.heap_setCell _ _ _ _ hn⟩
 clear hb cC k0 hS
 go_wp2_with fail
 exact bodyPost_end (v := .tuple #[]) (by simp [results, go_sem]) rfl ⟨rfl, FS.out, FB.out, FK.out⟩
end Go.Proofs.Ytlhoonohpfpkbaa
namespace Go.Proofs.Ytlhoonohpfpkbaa
open Go.ChangeShapes Go.WideShapes Go.ChangeAt Go.RowKit Go.PlainAid
set_option linter.unusedVariables false
noncomputable def propX (x : Cor) (d : ByteArray) : Cor × List Mg × Int := if corOk x = true then propR x d else (⟨0, 0, 0, 0, 0, 0, 0, 0, [], 0, [], [], []⟩, [], 0)
theorem propX_yes {x : Cor} {d : ByteArray} (h : corOk x = true) : propX x d = propR x d := if_pos h
theorem propX_no {x : Cor} {d : ByteArray} (h : corOk x = false) : propX x d = (⟨0, 0, 0, 0, 0, 0, 0, 0, [], 0, [], [], []⟩, [], 0) := by unfold propX; rw [if_neg (by rw [h]; exact Bool.false_ne_true)]
set_option maxRecDepth 20000 in
set_option maxHeartbeats 16000000 in
theorem implPropose (ci cp ct cv cr cd cb cbt : Int) (lg : List Ent) (cc : Int) (ys ns ms : List Int) (da : ByteArray) (u0 u1 u2 u3 : Value) (w : World) (base0 : Nat) (hr : CoRows w base0 ⟨ci, cp, ct, cv, cr, cd, cb, cbt, lg, cc, ys, ns, ms⟩ u0 u1 u2 u3) (hs : ShortC ⟨ci, cp, ct, cv, cr, cd, cb, cbt, lg, cc, ys, ns, ms⟩) (hd9 : da.size ≤ 1048576) :
  Calls Try.prog 19 #[.agg #[.int .i64 ci, .int .i64 cp, .int .i64 ct, .int .i64 cv, .int .i64 cr, .int .i64 cd, .int .i64 cb, .int .i64 cbt, u0, .int .i64 cc, u1, u2, u3], .string da] w fun e w' => (∃ u us, e = .returned (.tuple #[u, us, .int .i64 (propX ⟨ci, cp, ct, cv, cr, cd, cb, cbt, lg, cc, ys, ns, ms⟩ da).2.2]) ∧ CoMs w' w.heap.size u us (propX ⟨ci, cp, ct, cv, cr, cd, cb, cbt, lg, cc, ys, ns, ms⟩ da).1 (propX ⟨ci, cp, ct, cv, cr, cd, cb, cbt, lg, cc, ys, ns, ms⟩ da).2.1) ∧ Below w.heap.size w w' := by
 have HR : Hid (CoRows w base0 ⟨ci, cp, ct, cv, cr, cd, cb, cbt, lg, cc, ys, ns, ms⟩ u0 u1 u2 u3) := hr
 have HS : Hid (ShortC ⟨ci, cp, ct, cv, cr, cd, cb, cbt, lg, cc, ys, ns, ms⟩) := hs
 obtain ⟨A0, Ac0, A1, Ac1, A2, Ac2, A3, Ac3, rfl, rfl, rfl, rfl⟩ := hr.shape
 simp only at HR ⊢
 generalize lg.length = An0 at HR ⊢
 generalize ys.length = An1 at HR ⊢
 generalize ns.length = An2 at HR ⊢
 generalize ms.length = An3 at HR ⊢
 clear hr hs
 have HX0 : Hid (corOk ⟨ci, cp, ct, cv, cr, cd, cb, cbt, lg, cc, ys, ns, ms⟩ = false → propX ⟨ci, cp, ct, cv, cr, cd, cb, cbt, lg, cc, ys, ns, ms⟩ da = (⟨0, 0, 0, 0, 0, 0, 0, 0, [], 0, [], [], []⟩, [], 0)) := fun h => propX_no h
 have HX1 : Hid (corOk ⟨ci, cp, ct, cv, cr, cd, cb, cbt, lg, cc, ys, ns, ms⟩ = true → propX ⟨ci, cp, ct, cv, cr, cd, cb, cbt, lg, cc, ys, ns, ms⟩ da = propR ⟨ci, cp, ct, cv, cr, cd, cb, cbt, lg, cc, ys, ns, ms⟩ da) := fun h => propX_yes h
 obtain ⟨W0, hW0⟩ : ∃ W0, W0 = (((w.alloc (.cells #[.int .i64 ci, .int .i64 cp, .int .i64 ct, .int .i64 cv, .int .i64 cr, .int .i64 cd, .int .i64 cb, .int .i64 cbt, .slice A0 An0 Ac0, .int .i64 cc, .slice A1 An1 Ac1, .slice A2 An2 Ac2, .slice A3 An3 Ac3] 29)).alloc (.cells #[.string da] 9)).alloc (.cells #[.int .i64 0, .int .i64 0, .int .i64 0, .int .i64 0, .int .i64 0, .int .i64 0, .int .i64 0, .int .i64 0, .slice none 0 0, .int .i64 0, .slice none 0 0, .slice none 0 0, .slice none 0 0] 29)).alloc (.cells #[.int .i64 0] 3) := ⟨_, rfl⟩
 have B0 : Hid (Below w.heap.size w W0) := by unfold Hid; rw [hW0]; exact ((((Below.refl _ w).alloc (Nat.le_refl _) _).alloc (by simp) _).alloc (by simp; omega) _).alloc (by simp; omega) _
 have K0 : Hid (Blk W0 w.heap.size #[.int .i64 ci, .int .i64 cp, .int .i64 ct, .int .i64 cv, .int .i64 cr, .int .i64 cd, .int .i64 cb, .int .i64 cbt, .slice A0 An0 Ac0, .int .i64 cc, .slice A1 An1 Ac1, .slice A2 An2 Ac2, .slice A3 An3 Ac3] 29) := by unfold Hid; rw [hW0]; exact (((Blk.new w _ _).alloc _).alloc _).alloc _
 have I0 : Hid (Blk W0 (w.heap.size + 1) #[.string da] 9) := by unfold Hid; rw [hW0]; have := ((Blk.new (w.alloc (.cells #[.int .i64 ci, .int .i64 cp, .int .i64 ct, .int .i64 cv, .int .i64 cr, .int .i64 cd, .int .i64 cb, .int .i64 cbt, .slice A0 An0 Ac0, .int .i64 cc, .slice A1 An1 Ac1, .slice A2 An2 Ac2, .slice A3 An3 Ac3] 29)) #[.string da] 9).alloc (.cells #[.int .i64 0, .int .i64 0, .int .i64 0, .int .i64 0, .int .i64 0, .int .i64 0, .int .i64 0, .int .i64 0, .slice none 0 0, .int .i64 0, .slice none 0 0, .slice none 0 0, .slice none 0 0] 29)).alloc (.cells #[.int .i64 0] 3); simp only [World.size_alloc] at this; exact this
 have R0 : Hid (Blk W0 (w.heap.size + 1 + 1) #[.int .i64 0, .int .i64 0, .int .i64 0, .int .i64 0, .int .i64 0, .int .i64 0, .int .i64 0, .int .i64 0, .slice none 0 0, .int .i64 0, .slice none 0 0, .slice none 0 0, .slice none 0 0] 29) := by unfold Hid; rw [hW0]; have := (Blk.new ((w.alloc (.cells #[.int .i64 ci, .int .i64 cp, .int .i64 ct, .int .i64 cv, .int .i64 cr, .int .i64 cd, .int .i64 cb, .int .i64 cbt, .slice A0 An0 Ac0, .int .i64 cc, .slice A1 An1 Ac1, .slice A2 An2 Ac2, .slice A3 An3 Ac3] 29)).alloc (.cells #[.string da] 9)) #[.int .i64 0, .int .i64 0, .int .i64 0, .int .i64 0, .int .i64 0, .int .i64 0, .int .i64 0, .int .i64 0, .slice none 0 0, .int .i64 0, .slice none 0 0, .slice none 0 0, .slice none 0 0] 29).alloc (.cells #[.int .i64 0] 3); simp only [World.size_alloc] at this; exact this
 have D0 : Hid (Blk W0 (w.heap.size + 1 + 1 + 1) #[.int .i64 0] 3) := by unfold Hid; rw [hW0]; have := Blk.new (((w.alloc (.cells #[.int .i64 ci, .int .i64 cp, .int .i64 ct, .int .i64 cv, .int .i64 cr, .int .i64 cd, .int .i64 cb, .int .i64 cbt, .slice A0 An0 Ac0, .int .i64 cc, .slice A1 An1 Ac1, .slice A2 An2 Ac2, .slice A3 An3 Ac3] 29)).alloc (.cells #[.string da] 9)).alloc (.cells #[.int .i64 0, .int .i64 0, .int .i64 0, .int .i64 0, .int .i64 0, .int .i64 0, .int .i64 0, .int .i64 0, .slice none 0 0, .int .i64 0, .slice none 0 0, .slice none 0 0, .slice none 0 0] 29)) #[.int .i64 0] 3; simp only [World.size_alloc] at this; exact this
 have HZ0 : Hid (W0.heap.size = w.heap.size + 4) := by unfold Hid; rw [hW0]; simp
 have cA := coreAfterW ci cp ct cv cr cd cb cbt lg cc ys ns ms (.slice A0 An0 Ac0) (.slice A1 An1 Ac1) (.slice A2 An2 Ac2) (.slice A3 An3 Ac3) W0 base0 (HR.out.on B0.out) HS.out 44 #[.pointer (some ⟨w.heap.size + 1, 0, none⟩), .pointer (some ⟨w.heap.size + 1 + 1 + 1, 0, none⟩)] (propR ⟨ci, cp, ct, cv, cr, cd, cb, cbt, lg, cc, ys, ns, ms⟩ da).1 (propR ⟨ci, cp, ct, cv, cr, cd, cb, cbt, lg, cc, ys, ns, ms⟩ da).2.1 (w.heap.size + 1 + 1 + 1) (fun ob => ob = some (.cells #[.int .i64 (propR ⟨ci, cp, ct, cv, cr, cd, cb, cbt, lg, cc, ys, ns, ms⟩ da).2.2] 3 (0, 0))) (by rw [HZ0.out]; omega) (enters_of Try.func44 (by kernel_rfl) rfl) (fun w1 p hok hb1 hz1 hsp => proposeL ci cp ct cv cr cd cb cbt lg cc ys ns ms da 0 w1 (W0.heap.size + 2) p (w.heap.size + 1) (w.heap.size + 1 + 1 + 1) hsp hok HS.out hd9 (I0.out.on hb1 I0.out.lt) (D0.out.on hb1 D0.out.lt) (by rw [HZ0.out]; omega) (by rw [HZ0.out]; omega) hz1)
 have y0 := K0.out.cell 0 _ rfl
 have y1 := K0.out.cell 1 _ rfl
 have y2 := K0.out.cell 2 _ rfl
 have y3 := K0.out.cell 3 _ rfl
 have y4 := K0.out.cell 4 _ rfl
 have y5 := K0.out.cell 5 _ rfl
 have y6 := K0.out.cell 6 _ rfl
 have y7 := K0.out.cell 7 _ rfl
 have y8 := K0.out.cell 8 _ rfl
 have y9 := K0.out.cell 9 _ rfl
 have y10 := K0.out.cell 10 _ rfl
 have y11 := K0.out.cell 11 _ rfl
 have y12 := K0.out.cell 12 _ rfl
 rw [hW0] at y0 y1 y2 y3 y4 y5 y6 y7 y8 y9 y10 y11 y12
 go_enter Try.func19, Try.ntmps19
 go_wp2_with fail
 rw [← hW0]
 clear hW0 y0 y1 y2 y3 y4 y5 y6 y7 y8 y9 y10 y11 y12
 refine cA.mono ?_
 rintro e W1 HQ
 have HQ1 : Hid (∃ (u us : Value) (R : Cor) (M : List Mg) (nb : Int), e = .returned (.tuple #[u, us]) ∧ CoMs W1 W0.heap.size u us R M ∧ propX ⟨ci, cp, ct, cv, cr, cd, cb, cbt, lg, cc, ys, ns, ms⟩ da = (R, M, nb) ∧ Below w.heap.size w W1 ∧ Blk W1 (w.heap.size + 1 + 1) #[.int .i64 0, .int .i64 0, .int .i64 0, .int .i64 0, .int .i64 0, .int .i64 0, .int .i64 0, .int .i64 0, .slice none 0 0, .int .i64 0, .slice none 0 0, .slice none 0 0, .slice none 0 0] 29 ∧ Blk W1 (w.heap.size + 1 + 1 + 1) #[.int .i64 nb] 3 ∧ W0.heap.size ≤ W1.heap.size) := by
  have hz := HZ0.out
  rcases HQ with ⟨h1, ⟨u, us, L, h2, ⟨ul, uy, un, um, rfl, h3⟩, h4, h5, h8⟩, h6, h7⟩ | ⟨h1, h2, h6⟩
  ·exact ⟨_, us, _, _, _, h2, ⟨ul, uy, un, um, L, rfl, h3, h4, h5, h8 ul uy un um rfl⟩, HX1.out h1, B0.out.trans ((h6.mono (show w.heap.size ≤ W0.heap.size by omega)).below (by omega)), h6.blk R0.out (by omega) (by omega), h7, h6.size⟩
  ·exact ⟨_, _, _, _, _, h2, CoMs.zero _ _, HX0.out h1, B0.out.trans (h6.mono (by omega)), R0.out.on h6 (by omega), D0.out.on h6 (by omega), h6.size⟩
 clear HQ cA HX0 HX1 K0 I0 R0 D0 B0
 obtain ⟨u, us, R, M, nb, rfl, hO, hE, hb1, hR1, hD1, hz1⟩ := HQ1.out
 clear HQ1
 obtain ⟨ul, uy, un, um, L, rfl, hO', hM, hLM, hAp⟩ := hO
 obtain ⟨G0, Gc0, G1, Gc1, G2, Gc2, G3, Gc3, rfl, rfl, rfl, rfl⟩ := hO'.shape
 obtain ⟨G4, Gn4, Gc4, rfl⟩ := hM.r.shape
 obtain ⟨e0, e1, e2, e3, e4, e5, e6, e7, el, e9, ey, en, em⟩ := R
 unfold vCo
 simp only at hO' hAp ⊢
 generalize el.length = Gn0 at *
 generalize ey.length = Gn1 at *
 generalize en.length = Gn2 at *
 generalize em.length = Gn3 at *
 have HE : Hid (propX ⟨ci, cp, ct, cv, cr, cd, cb, cbt, lg, cc, ys, ns, ms⟩ da = (⟨e0, e1, e2, e3, e4, e5, e6, e7, el, e9, ey, en, em⟩, M, nb)) := hE
 have O1 : Hid (CoRows W1 (w.heap.size + 4) ⟨e0, e1, e2, e3, e4, e5, e6, e7, el, e9, ey, en, em⟩ (.slice G0 Gn0 Gc0) (.slice G1 Gn1 Gc1) (.slice G2 Gn2 Gc2) (.slice G3 Gn3 Gc3)) := by rw [HZ0.out] at hO'; exact hO'
 have M1 : Hid (MsO W1 (w.heap.size + 4) (.slice G4 Gn4 Gc4) L) := by rw [HZ0.out] at hM; exact hM
 have HLM : Hid (L.map Prod.fst = M) := hLM
 have HAp : Hid (∀ q ∈ L, ∀ k, q.2.ownBlock = some k → blkF (.slice G0 Gn0 Gc0) ≠ some k) := hAp
 have B1 : Hid (Below w.heap.size w W1) := hb1
 have R1 : Hid (Blk W1 (w.heap.size + 1 + 1) #[.int .i64 0, .int .i64 0, .int .i64 0, .int .i64 0, .int .i64 0, .int .i64 0, .int .i64 0, .int .i64 0, .slice none 0 0, .int .i64 0, .slice none 0 0, .slice none 0 0, .slice none 0 0] 29) := hR1
 have D1 : Hid (Blk W1 (w.heap.size + 1 + 1 + 1) #[.int .i64 nb] 3) := hD1
 have HZ1 : Hid (w.heap.size + 4 ≤ W1.heap.size) := by unfold Hid; rw [← HZ0.out]; exact hz1
 clear hO' hM hLM hAp hE hb1 hR1 hD1 hz1 HZ0
 obtain ⟨W2, hW2⟩ : ∃ W2, W2 = W1.alloc (.cells #[.int .i64 e0, .int .i64 e1, .int .i64 e2, .int .i64 e3, .int .i64 e4, .int .i64 e5, .int .i64 e6, .int .i64 e7, .slice G0 Gn0 Gc0, .int .i64 e9, .slice G1 Gn1 Gc1, .slice G2 Gn2 Gc2, .slice G3 Gn3 Gc3] 29) := ⟨_, rfl⟩
 have hb2 : Below W1.heap.size W1 W2 := by rw [hW2]; exact (Below.refl _ _).alloc (Nat.le_refl _) _
 have P2 : Hid (Blk W2 W1.heap.size #[.int .i64 e0, .int .i64 e1, .int .i64 e2, .int .i64 e3, .int .i64 e4, .int .i64 e5, .int .i64 e6, .int .i64 e7, .slice G0 Gn0 Gc0, .int .i64 e9, .slice G1 Gn1 Gc1, .slice G2 Gn2 Gc2, .slice G3 Gn3 Gc3] 29) := by unfold Hid; rw [hW2]; exact Blk.new W1 _ _
 have O2 := Hid.mk (O1.out.on hb2)
 have M2 := Hid.mk (M1.out.on hb2)
 have B2 : Hid (Below w.heap.size w W2) := B1.out.trans (hb2.mono B1.out.size)
 have R2 := Hid.mk (R1.out.on hb2 R1.out.lt)
 have D2 := Hid.mk (D1.out.on hb2 D1.out.lt)
 clear hb2 O1 B1 R1 D1 M1
 go_wp2_with fail
 rw [← hW2]
 clear hW2
 have HPX : Hid (w.heap.size + 4 ≤ W1.heap.size) := HZ1.out
 generalize W1.heap.size = px at *
 refine wp_region_until (fun w' => w'.cell? ⟨px, 0, none⟩ = some (.int .i64 e0) ∧ w'.cell? ⟨px, 1, none⟩ = some (.int .i64 e1) ∧ w'.cell? ⟨px, 2, none⟩ = some (.int .i64 e2) ∧ w'.cell? ⟨px, 3, none⟩ = some (.int .i64 e3) ∧ w'.cell? ⟨px, 4, none⟩ = some (.int .i64 e4) ∧ w'.cell? ⟨px, 5, none⟩ = some (.int .i64 e5) ∧ w'.cell? ⟨px, 6, none⟩ = some (.int .i64 e6) ∧ w'.cell? ⟨px, 7, none⟩ = some (.int .i64 e7) ∧ w'.cell? ⟨px, 8, none⟩ = some (.slice G0 Gn0 Gc0) ∧ w'.cell? ⟨px, 9, none⟩ = some (.int .i64 e9) ∧ w'.cell? ⟨px, 10, none⟩ = some (.slice G1 Gn1 Gc1) ∧ w'.cell? ⟨px, 11, none⟩ = some (.slice G2 Gn2 Gc2) ∧ w'.cell? ⟨px, 12, none⟩ = some (.slice G3 Gn3 Gc3) ∧ w'.cell? ⟨w.heap.size + 1 + 1 + 1, 0, none⟩ = some (.int .i64 nb)) (fun _ => false) 6 (by rfl) (by kernel_rfl) ?_
 have V2 : Hid (Below W2.heap.size W2 W2.drew) := (Below.refl _ _).drew
 generalize W2.drew = Y2 at *
 have PY := Hid.mk (P2.out.on V2.out P2.out.lt)
 have DY := Hid.mk (D2.out.on V2.out D2.out.lt)
 have RY := Hid.mk (R2.out.on V2.out R2.out.lt)
 have SS0 := Hid.mk (show (fun w' => w'.cell? ⟨px, 0, none⟩ = some (.int .i64 e0) ∧ w'.cell? ⟨px, 1, none⟩ = some (.int .i64 e1) ∧ w'.cell? ⟨px, 2, none⟩ = some (.int .i64 e2) ∧ w'.cell? ⟨px, 3, none⟩ = some (.int .i64 e3) ∧ w'.cell? ⟨px, 4, none⟩ = some (.int .i64 e4) ∧ w'.cell? ⟨px, 5, none⟩ = some (.int .i64 e5) ∧ w'.cell? ⟨px, 6, none⟩ = some (.int .i64 e6) ∧ w'.cell? ⟨px, 7, none⟩ = some (.int .i64 e7) ∧ w'.cell? ⟨px, 8, none⟩ = some (.slice G0 Gn0 Gc0) ∧ w'.cell? ⟨px, 9, none⟩ = some (.int .i64 e9) ∧ w'.cell? ⟨px, 10, none⟩ = some (.slice G1 Gn1 Gc1) ∧ w'.cell? ⟨px, 11, none⟩ = some (.slice G2 Gn2 Gc2) ∧ w'.cell? ⟨px, 12, none⟩ = some (.slice G3 Gn3 Gc3) ∧ w'.cell? ⟨w.heap.size + 1 + 1 + 1, 0, none⟩ = some (.int .i64 nb)) Y2 from ⟨PY.out.cell 0 _ rfl, PY.out.cell 1 _ rfl, PY.out.cell 2 _ rfl, PY.out.cell 3 _ rfl, PY.out.cell 4 _ rfl, PY.out.cell 5 _ rfl, PY.out.cell 6 _ rfl, PY.out.cell 7 _ rfl, PY.out.cell 8 _ rfl, PY.out.cell 9 _ rfl, PY.out.cell 10 _ rfl, PY.out.cell 11 _ rfl, PY.out.cell 12 _ rfl, DY.out.cell 0 _ rfl⟩)
 refine tF 0 SS0.out ?_
 refine pF 1 ?_
 refine tF 2 SS0.out ?_
 obtain ⟨⟨r0, g0⟩, ⟨r1, g1⟩, ⟨r2, g2⟩, ⟨r3, g3⟩, ⟨r4, g4⟩, ⟨r5, g5⟩, ⟨r6, g6⟩, ⟨r7, g7⟩, ⟨r8, g8⟩, ⟨r9, g9⟩, ⟨r10, g10⟩, ⟨r11, g11⟩, ⟨r12, g12⟩, z0, z1, z2, z3, z4, z5, z6, z7, z8, z9, z10, z11, z12⟩ := resC13 (x0 := .int .i64 e0) (x1 := .int .i64 e1) (x2 := .int .i64 e2) (x3 := .int .i64 e3) (x4 := .int .i64 e4) (x5 := .int .i64 e5) (x6 := .int .i64 e6) (x7 := .int .i64 e7) (x8 := .slice G0 Gn0 Gc0) (x9 := .int .i64 e9) (x10 := .slice G1 Gn1 Gc1) (x11 := .slice G2 Gn2 Gc2) (x12 := .slice G3 Gn3 Gc3) RY.out
 have PYF := Hid.mk (otherC13 PY.out (show px ≠ w.heap.size + 1 + 1 by have := HPX.out; omega) (.int .i64 e0) (.int .i64 e1) (.int .i64 e2) (.int .i64 e3) (.int .i64 e4) (.int .i64 e5) (.int .i64 e6) (.int .i64 e7) (.slice G0 Gn0 Gc0) (.int .i64 e9) (.slice G1 Gn1 Gc1) (.slice G2 Gn2 Gc2) (.slice G3 Gn3 Gc3))
 have DYF := Hid.mk (otherC13 DY.out (show w.heap.size + 1 + 1 + 1 ≠ w.heap.size + 1 + 1 by omega) (.int .i64 e0) (.int .i64 e1) (.int .i64 e2) (.int .i64 e3) (.int .i64 e4) (.int .i64 e5) (.int .i64 e6) (.int .i64 e7) (.slice G0 Gn0 Gc0) (.int .i64 e9) (.slice G1 Gn1 Gc1) (.slice G2 Gn2 Gc2) (.slice G3 Gn3 Gc3))
 refine uNe 3 (fun K hK => ?_)
 go_simp
 refine hK.out _ _ (fun _ _ => ⟨PYF.out.cell 0 _ rfl, PYF.out.cell 1 _ rfl, PYF.out.cell 2 _ rfl, PYF.out.cell 3 _ rfl, PYF.out.cell 4 _ rfl, PYF.out.cell 5 _ rfl, PYF.out.cell 6 _ rfl, PYF.out.cell 7 _ rfl, PYF.out.cell 8 _ rfl, PYF.out.cell 9 _ rfl, PYF.out.cell 10 _ rfl, PYF.out.cell 11 _ rfl, PYF.out.cell 12 _ rfl, DYF.out.cell 0 _ rfl⟩) ?_
 clear hK K PYF DYF r0 g0 r1 g1 r2 g2 r3 g3 r4 g4 r5 g5 r6 g6 r7 g7 r8 g8 r9 g9 r10 g10 r11 g11 r12 g12
 try simp only [Act.put, zQ1, zQ2, zQ3]
 refine pF 4 ?_
 refine pF 5 ?_
 refine until_done (by kernel_rfl) ?_ _
 have FO := Hid.mk (rowsC13 (O2.out.on V2.out) (show w.heap.size + 1 + 1 < w.heap.size + 4 by omega) (.int .i64 e0) (.int .i64 e1) (.int .i64 e2) (.int .i64 e3) (.int .i64 e4) (.int .i64 e5) (.int .i64 e6) (.int .i64 e7) (.slice G0 Gn0 Gc0) (.int .i64 e9) (.slice G1 Gn1 Gc1) (.slice G2 Gn2 Gc2) (.slice G3 Gn3 Gc3))
 have FM := Hid.mk (rowsM13 (M2.out.on V2.out) (show w.heap.size + 1 + 1 < w.heap.size + 4 by omega) (.int .i64 e0) (.int .i64 e1) (.int .i64 e2) (.int .i64 e3) (.int .i64 e4) (.int .i64 e5) (.int .i64 e6) (.int .i64 e7) (.slice G0 Gn0 Gc0) (.int .i64 e9) (.slice G1 Gn1 Gc1) (.slice G2 Gn2 Gc2) (.slice G3 Gn3 Gc3))
 have FB := Hid.mk (belowC13 (B2.out.trans (V2.out.mono B2.out.size)) (show w.heap.size ≤ w.heap.size + 1 + 1 by omega) (.int .i64 e0) (.int .i64 e1) (.int .i64 e2) (.int .i64 e3) (.int .i64 e4) (.int .i64 e5) (.int .i64 e6) (.int .i64 e7) (.slice G0 Gn0 Gc0) (.int .i64 e9) (.slice G1 Gn1 Gc1) (.slice G2 Gn2 Gc2) (.slice G3 Gn3 Gc3))
 have HWW : Hid (w.heap.size ≤ w.heap.size + 4) := by unfold Hid; omega
 clear P2 R2 D2 O2 B2 PY DY RY SS0 M2
 try go_wp2_with fail
 refine bodyPost_ret (v := .tuple #[.agg #[.int .i64 e0, .int .i64 e1, .int .i64 e2, .int .i64 e3, .int .i64 e4, .int .i64 e5, .int .i64 e6, .int .i64 e7, .slice G0 Gn0 Gc0, .int .i64 e9, .slice G1 Gn1 Gc1, .slice G2 Gn2 Gc2, .slice G3 Gn3 Gc3], .slice G4 Gn4 Gc4, .int .i64 nb]) (by simp [results, go_sem, z0, z1, z2, z3, z4, z5, z6, z7, z8, z9, z10, z11, z12]) rfl ⟨⟨_, _, by rw [HE.out], ?_⟩, FB.out⟩
 rw [HE.out]
 exact ⟨_, _, _, _, L, rfl, FO.out.mono HWW.out, FM.out.mono HWW.out, HLM.out, HAp.out⟩
end Go.Proofs.Ytlhoonohpfpkbaa
namespace Go.Proofs.Ytlhoonohpfpkbaa
open Go.ChangeShapes Go.WideShapes Go.ChangeAt Go.RowKit Go.PlainAid
set_option linter.unusedVariables false
set_option maxRecDepth 20000 in
set_option maxHeartbeats 16000000 in
theorem copyCoSW (ci cp ct cv cr cd cb cbt : Int) (lg : List Ent) (cc : Int) (ys ns ms : List Int) (u0 u1 u2 u3 : Value) (w : World) (B base : Nat) (hl : Lies w B 2 u0 (entR lg)) (hy : Nums w base u1 ys) (hn : Nums w base u2 ns) (hm : Nums w base u3 ms) (hs : ShortC ⟨ci, cp, ct, cv, cr, cd, cb, cbt, lg, cc, ys, ns, ms⟩) (hB : B ≤ w.heap.size) :
  Calls Try.prog 23 #[.agg #[.int .i64 ci, .int .i64 cp, .int .i64 ct, .int .i64 cv, .int .i64 cr, .int .i64 cd, .int .i64 cb, .int .i64 cbt, u0, .int .i64 cc, u1, u2, u3]] w fun e w' => ∃ u, e = .returned u ∧ (CorO w' w.heap.size u ⟨ci, cp, ct, cv, cr, cd, cb, cbt, lg, cc, ys, ns, ms⟩ ∧ ∀ ul uy un um, u = vCo ⟨ci, cp, ct, cv, cr, cd, cb, cbt, lg, cc, ys, ns, ms⟩ ul uy un um → Owns w' w.heap.size 71 2 ul (entR lg)) ∧ Below w.heap.size w w' := by
 have HBB : Hid (B ≤ w.heap.size) := hB
 have HL : Hid (Lies w B 2 u0 (entR lg)) := hl
 have HY : Hid (Nums w base u1 ys) := hy
 have HN : Hid (Nums w base u2 ns) := hn
 have HM : Hid (Nums w base u3 ms) := hm
 have HS : Hid (ShortC ⟨ci, cp, ct, cv, cr, cd, cb, cbt, lg, cc, ys, ns, ms⟩) := hs
 obtain ⟨A0, c0, rfl, _⟩ := ent_look hl
 obtain ⟨A1, c1, rfl, _⟩ := hy.shape
 obtain ⟨A2, c2, rfl, _⟩ := hn.shape
 obtain ⟨A3, c3, rfl, _⟩ := hm.shape
 clear hl hy hn hm hs hB
 generalize hg0 : lg.length = n0 at *
 generalize hg1 : ys.length = n1 at *
 generalize hg2 : ns.length = n2 at *
 generalize hg3 : ms.length = n3 at *
 clear hg0 hg1 hg2 hg3
 obtain ⟨W0, hW0⟩ : ∃ W0, W0 = (w.alloc (.cells #[.int .i64 ci, .int .i64 cp, .int .i64 ct, .int .i64 cv, .int .i64 cr, .int .i64 cd, .int .i64 cb, .int .i64 cbt, .slice A0 n0 c0, .int .i64 cc, .slice A1 n1 c1, .slice A2 n2 c2, .slice A3 n3 c3] 29)).alloc (.cells #[.int .i64 0, .int .i64 0, .int .i64 0, .int .i64 0, .int .i64 0, .int .i64 0, .int .i64 0, .int .i64 0, .slice none 0 0, .int .i64 0, .slice none 0 0, .slice none 0 0, .slice none 0 0] 29) := ⟨_, rfl⟩
 have B0 : Hid (Below w.heap.size w W0) := by unfold Hid; rw [hW0]; exact ((Below.refl _ w).alloc (Nat.le_refl _) _).alloc (by simp) _
 have KO0 : Hid (Blk W0 (w.heap.size) #[.int .i64 ci, .int .i64 cp, .int .i64 ct, .int .i64 cv, .int .i64 cr, .int .i64 cd, .int .i64 cb, .int .i64 cbt, .slice A0 n0 c0, .int .i64 cc, .slice A1 n1 c1, .slice A2 n2 c2, .slice A3 n3 c3] 29) := by unfold Hid; rw [hW0]; exact (Blk.new w _ _).alloc _
 have KR0 : Hid (Blk W0 (w.heap.size + 1) #[.int .i64 0, .int .i64 0, .int .i64 0, .int .i64 0, .int .i64 0, .int .i64 0, .int .i64 0, .int .i64 0, .slice none 0 0, .int .i64 0, .slice none 0 0, .slice none 0 0, .slice none 0 0] 29) := by unfold Hid; rw [hW0]; have := Blk.new (w.alloc (.cells #[.int .i64 ci, .int .i64 cp, .int .i64 ct, .int .i64 cv, .int .i64 cr, .int .i64 cd, .int .i64 cb, .int .i64 cbt, .slice A0 n0 c0, .int .i64 cc, .slice A1 n1 c1, .slice A2 n2 c2, .slice A3 n3 c3] 29)) #[.int .i64 0, .int .i64 0, .int .i64 0, .int .i64 0, .int .i64 0, .int .i64 0, .int .i64 0, .int .i64 0, .slice none 0 0, .int .i64 0, .slice none 0 0, .slice none 0 0, .slice none 0 0] 29; simp only [World.size_alloc] at this; exact this
 have HZ0 : Hid (w.heap.size + 1 + 1 ≤ W0.heap.size) := by unfold Hid; rw [hW0]; simp
 go_enter Try.func23, Try.ntmps23
 go_upto_region 1 with fail
 rw [← hW0]
 clear hW0
 have bz : Below W0.heap.size W0 (W0.alloc (.cells #[] 71)) := (Below.refl _ _).alloc (Nat.le_refl _) _
 have oe := Owns.empty W0 W0.heap.size 71 2 (Nat.le_refl _)
 have li := ((HL.out.on ((B0.out.trans (bz.mono B0.out.size)).mono HBB.out)).mono (Nat.le_trans HBB.out (B0.out.trans (bz.mono B0.out.size)).size))
 have ll := (KO0.out.alloc (.cells #[] 71)).cell 8 _ rfl
 have hln : ([] : List (List Value)).length + (entR lg).length ≤ 2097152 := by rw [entR_length]; have := HS.out.n; simp only [List.length_nil] at this ⊢; omega
 go_wp2_with (at_builtin; refine wpList_append_all rfl (.tmp 3) (.tmp 5) 27 71 (.agg #[.int .i64 0, .string ⟨#[]⟩]) 2 24 rfl Try.underlying27 Try.infoEnt rfl (by omega) W0.heap.size _ _ [] (entR lg) (W0.alloc (.cells #[] 71)).heap.size rfl oe li (ent_one _) rfl hln (by omega) bz.size ?_; intro qv W1 hO' hb' hk' hw'; obtain ⟨Bz, m0, k0, rfl⟩ := hO'.shape; refine Shut.out ?_)
 rw [List.nil_append] at hO'
 have hb : Below W0.heap.size W0 W1 := bz.trans hb'
 have hO := hO'
 clear hO' hb' hk' hw' bz oe li ll hln
 unfold Shut
 have B1 : Hid (Below w.heap.size w W1) := B0.out.trans (hb.mono B0.out.size)
 have KO1 : Hid (Blk W1 (w.heap.size) #[.int .i64 ci, .int .i64 cp, .int .i64 ct, .int .i64 cv, .int .i64 cr, .int .i64 cd, .int .i64 cb, .int .i64 cbt, .slice A0 n0 c0, .int .i64 cc, .slice A1 n1 c1, .slice A2 n2 c2, .slice A3 n3 c3] 29) := KO0.out.on hb KO0.out.lt
 have KR1 : Hid (Blk W1 (w.heap.size + 1) #[.int .i64 0, .int .i64 0, .int .i64 0, .int .i64 0, .int .i64 0, .int .i64 0, .int .i64 0, .int .i64 0, .slice none 0 0, .int .i64 0, .slice none 0 0, .slice none 0 0, .slice none 0 0] 29) := KR0.out.on hb KR0.out.lt
 have HZ1 : Hid (w.heap.size + 1 + 1 ≤ W1.heap.size) := Nat.le_trans HZ0.out hb.size
 have P1 : Hid (Owns W1 (w.heap.size + 1 + 1) 71 2 (.slice Bz m0 k0) (entR lg)) := (hO.mono HZ0.out)
 clear hO hb KO0 KR0 B0 HZ0 
 have c8 := KO1.out.cell 8 _ rfl
 have f8 := KO1.out.free 8
 obtain ⟨Y1, hY1⟩ : ∃ Y1, Y1 = W1.setCell ⟨w.heap.size, 8, none⟩ (.slice Bz m0 k0) := ⟨_, rfl⟩
 have KO1' : Hid (Blk Y1 (w.heap.size) #[.int .i64 ci, .int .i64 cp, .int .i64 ct, .int .i64 cv, .int .i64 cr, .int .i64 cd, .int .i64 cb, .int .i64 cbt, .slice Bz m0 k0, .int .i64 cc, .slice A1 n1 c1, .slice A2 n2 c2, .slice A3 n3 c3] 29) := by unfold Hid; rw [hY1]; exact KO1.out.set 8 _
 have KR1' : Hid (Blk Y1 (w.heap.size + 1) #[.int .i64 0, .int .i64 0, .int .i64 0, .int .i64 0, .int .i64 0, .int .i64 0, .int .i64 0, .int .i64 0, .slice none 0 0, .int .i64 0, .slice none 0 0, .slice none 0 0, .slice none 0 0] 29) := by unfold Hid; rw [hY1]; exact KR1.out.other (show w.heap.size + 1 ≠ w.heap.size by omega) 8 _
 have B1' : Hid (Below w.heap.size w Y1) := by unfold Hid; rw [hY1]; exact B1.out.setCell (Nat.le_refl _) _ (p := ⟨_, 8, none⟩)
 have HZ1' : Hid (w.heap.size + 1 + 1 ≤ Y1.heap.size) := by unfold Hid; rw [hY1]; simpa using HZ1.out
 have P1' : Hid (Owns Y1 (w.heap.size + 1 + 1) 71 2 (.slice Bz m0 k0) (entR lg)) := by unfold Hid; rw [hY1]; exact P1.out.lowM (show w.heap.size < w.heap.size + 1 + 1 by omega)
 clear KO1 KR1 B1 HZ1 P1
 go_upto_region 2 with fail
 rw [← hY1]
 clear hY1 c8 f8
 have bz : Below Y1.heap.size Y1 (Y1.alloc (.cells #[] 3)) := (Below.refl _ _).alloc (Nat.le_refl _) _
 have oe := Owns.empty Y1 Y1.heap.size 3 1 (Nat.le_refl _)
 have li := (nums_owns (HY.out.on (B1'.out.trans (bz.mono B1'.out.size)))).lies
 have ll := (KO1'.out.alloc (.cells #[] 3)).cell 10 _ rfl
 have hln : ([] : List (List Value)).length + (numR ys).length ≤ 2097152 := by rw [numR_length]; have := HS.out.y; simp only [List.length_nil] at this ⊢; omega
 go_wp2_with (at_builtin; refine wpList_append_all rfl (.tmp 8) (.tmp 10) 23 3 (.int .i64 0) 1 8 rfl Try.underlying23 Try.infoInt rfl (by omega) Y1.heap.size _ _ [] (numR ys) (Y1.alloc (.cells #[] 3)).heap.size rfl oe li (num_one _) rfl hln (by omega) bz.size ?_; intro qv W2 hO' hb' hk' hw'; obtain ⟨By, m1, k1, rfl⟩ := hO'.shape; refine Shut.out ?_)
 rw [List.nil_append] at hO'
 have hb : Below Y1.heap.size Y1 W2 := bz.trans hb'
 have hO := owns_nums hO'
 clear hO' hb' hk' hw' bz oe li ll hln
 unfold Shut
 have B2 : Hid (Below w.heap.size w W2) := B1'.out.trans (hb.mono B1'.out.size)
 have KO2 : Hid (Blk W2 (w.heap.size) #[.int .i64 ci, .int .i64 cp, .int .i64 ct, .int .i64 cv, .int .i64 cr, .int .i64 cd, .int .i64 cb, .int .i64 cbt, .slice Bz m0 k0, .int .i64 cc, .slice A1 n1 c1, .slice A2 n2 c2, .slice A3 n3 c3] 29) := KO1'.out.on hb KO1'.out.lt
 have KR2 : Hid (Blk W2 (w.heap.size + 1) #[.int .i64 0, .int .i64 0, .int .i64 0, .int .i64 0, .int .i64 0, .int .i64 0, .int .i64 0, .int .i64 0, .slice none 0 0, .int .i64 0, .slice none 0 0, .slice none 0 0, .slice none 0 0] 29) := KR1'.out.on hb KR1'.out.lt
 have HZ2 : Hid (w.heap.size + 1 + 1 ≤ W2.heap.size) := Nat.le_trans HZ1'.out hb.size
 have P1 : Hid (Owns W2 (w.heap.size + 1 + 1) 71 2 (.slice Bz m0 k0) (entR lg)) := P1'.out.on hb
 have P2 : Hid (Nums W2 (w.heap.size + 1 + 1) (.slice By m1 k1) ys) := hO.mono HZ1'.out
 clear hO hb KO1' KR1' B1' HZ1' P1'
 have c10 := KO2.out.cell 10 _ rfl
 have f10 := KO2.out.free 10
 obtain ⟨Y2, hY2⟩ : ∃ Y2, Y2 = W2.setCell ⟨w.heap.size, 10, none⟩ (.slice By m1 k1) := ⟨_, rfl⟩
 have KO2' : Hid (Blk Y2 (w.heap.size) #[.int .i64 ci, .int .i64 cp, .int .i64 ct, .int .i64 cv, .int .i64 cr, .int .i64 cd, .int .i64 cb, .int .i64 cbt, .slice Bz m0 k0, .int .i64 cc, .slice By m1 k1, .slice A2 n2 c2, .slice A3 n3 c3] 29) := by unfold Hid; rw [hY2]; exact KO2.out.set 10 _
 have KR2' : Hid (Blk Y2 (w.heap.size + 1) #[.int .i64 0, .int .i64 0, .int .i64 0, .int .i64 0, .int .i64 0, .int .i64 0, .int .i64 0, .int .i64 0, .slice none 0 0, .int .i64 0, .slice none 0 0, .slice none 0 0, .slice none 0 0] 29) := by unfold Hid; rw [hY2]; exact KR2.out.other (show w.heap.size + 1 ≠ w.heap.size by omega) 10 _
 have B2' : Hid (Below w.heap.size w Y2) := by unfold Hid; rw [hY2]; exact B2.out.setCell (Nat.le_refl _) _ (p := ⟨_, 10, none⟩)
 have HZ2' : Hid (w.heap.size + 1 + 1 ≤ Y2.heap.size) := by unfold Hid; rw [hY2]; simpa using HZ2.out
 have P1' : Hid (Owns Y2 (w.heap.size + 1 + 1) 71 2 (.slice Bz m0 k0) (entR lg)) := by unfold Hid; rw [hY2]; exact P1.out.lowM (show w.heap.size < w.heap.size + 1 + 1 by omega)
 have P2' : Hid (Nums Y2 (w.heap.size + 1 + 1) (.slice By m1 k1) ys) := by unfold Hid; rw [hY2]; exact P2.out.low (show w.heap.size < w.heap.size + 1 + 1 by omega)
 clear KO2 KR2 B2 HZ2 P1 P2
 go_upto_region 3 with fail
 rw [← hY2]
 clear hY2 c10 f10
 have bz : Below Y2.heap.size Y2 (Y2.alloc (.cells #[] 3)) := (Below.refl _ _).alloc (Nat.le_refl _) _
 have oe := Owns.empty Y2 Y2.heap.size 3 1 (Nat.le_refl _)
 have li := (nums_owns (HN.out.on (B2'.out.trans (bz.mono B2'.out.size)))).lies
 have ll := (KO2'.out.alloc (.cells #[] 3)).cell 11 _ rfl
 have hln : ([] : List (List Value)).length + (numR ns).length ≤ 2097152 := by rw [numR_length]; have := HS.out.q; simp only [List.length_nil] at this ⊢; omega
 go_wp2_with (at_builtin; refine wpList_append_all rfl (.tmp 13) (.tmp 15) 23 3 (.int .i64 0) 1 8 rfl Try.underlying23 Try.infoInt rfl (by omega) Y2.heap.size _ _ [] (numR ns) (Y2.alloc (.cells #[] 3)).heap.size rfl oe li (num_one _) rfl hln (by omega) bz.size ?_; intro qv W3 hO' hb' hk' hw'; obtain ⟨Bn, m2, k2, rfl⟩ := hO'.shape; refine Shut.out ?_)
 rw [List.nil_append] at hO'
 have hb : Below Y2.heap.size Y2 W3 := bz.trans hb'
 have hO := owns_nums hO'
 clear hO' hb' hk' hw' bz oe li ll hln
 unfold Shut
 have B3 : Hid (Below w.heap.size w W3) := B2'.out.trans (hb.mono B2'.out.size)
 have KO3 : Hid (Blk W3 (w.heap.size) #[.int .i64 ci, .int .i64 cp, .int .i64 ct, .int .i64 cv, .int .i64 cr, .int .i64 cd, .int .i64 cb, .int .i64 cbt, .slice Bz m0 k0, .int .i64 cc, .slice By m1 k1, .slice A2 n2 c2, .slice A3 n3 c3] 29) := KO2'.out.on hb KO2'.out.lt
 have KR3 : Hid (Blk W3 (w.heap.size + 1) #[.int .i64 0, .int .i64 0, .int .i64 0, .int .i64 0, .int .i64 0, .int .i64 0, .int .i64 0, .int .i64 0, .slice none 0 0, .int .i64 0, .slice none 0 0, .slice none 0 0, .slice none 0 0] 29) := KR2'.out.on hb KR2'.out.lt
 have HZ3 : Hid (w.heap.size + 1 + 1 ≤ W3.heap.size) := Nat.le_trans HZ2'.out hb.size
 have P1 : Hid (Owns W3 (w.heap.size + 1 + 1) 71 2 (.slice Bz m0 k0) (entR lg)) := P1'.out.on hb
 have P2 : Hid (Nums W3 (w.heap.size + 1 + 1) (.slice By m1 k1) ys) := P2'.out.on hb
 have P3 : Hid (Nums W3 (w.heap.size + 1 + 1) (.slice Bn m2 k2) ns) := hO.mono HZ2'.out
 have AP12 : Hid (Apart (.slice By m1 k1) (.slice Bn m2 k2)) := P2'.out.apart hO (Nat.le_refl _)
 clear hO hb KO2' KR2' B2' HZ2' P1' P2'
 have c11 := KO3.out.cell 11 _ rfl
 have f11 := KO3.out.free 11
 obtain ⟨Y3, hY3⟩ : ∃ Y3, Y3 = W3.setCell ⟨w.heap.size, 11, none⟩ (.slice Bn m2 k2) := ⟨_, rfl⟩
 have KO3' : Hid (Blk Y3 (w.heap.size) #[.int .i64 ci, .int .i64 cp, .int .i64 ct, .int .i64 cv, .int .i64 cr, .int .i64 cd, .int .i64 cb, .int .i64 cbt, .slice Bz m0 k0, .int .i64 cc, .slice By m1 k1, .slice Bn m2 k2, .slice A3 n3 c3] 29) := by unfold Hid; rw [hY3]; exact KO3.out.set 11 _
 have KR3' : Hid (Blk Y3 (w.heap.size + 1) #[.int .i64 0, .int .i64 0, .int .i64 0, .int .i64 0, .int .i64 0, .int .i64 0, .int .i64 0, .int .i64 0, .slice none 0 0, .int .i64 0, .slice none 0 0, .slice none 0 0, .slice none 0 0] 29) := by unfold Hid; rw [hY3]; exact KR3.out.other (show w.heap.size + 1 ≠ w.heap.size by omega) 11 _
 have B3' : Hid (Below w.heap.size w Y3) := by unfold Hid; rw [hY3]; exact B3.out.setCell (Nat.le_refl _) _ (p := ⟨_, 11, none⟩)
 have HZ3' : Hid (w.heap.size + 1 + 1 ≤ Y3.heap.size) := by unfold Hid; rw [hY3]; simpa using HZ3.out
 have P1' : Hid (Owns Y3 (w.heap.size + 1 + 1) 71 2 (.slice Bz m0 k0) (entR lg)) := by unfold Hid; rw [hY3]; exact P1.out.lowM (show w.heap.size < w.heap.size + 1 + 1 by omega)
 have P2' : Hid (Nums Y3 (w.heap.size + 1 + 1) (.slice By m1 k1) ys) := by unfold Hid; rw [hY3]; exact P2.out.low (show w.heap.size < w.heap.size + 1 + 1 by omega)
 have P3' : Hid (Nums Y3 (w.heap.size + 1 + 1) (.slice Bn m2 k2) ns) := by unfold Hid; rw [hY3]; exact P3.out.low (show w.heap.size < w.heap.size + 1 + 1 by omega)
 clear KO3 KR3 B3 HZ3 P1 P2 P3
 go_upto_region 4 with fail
 rw [← hY3]
 clear hY3 c11 f11
 have bz : Below Y3.heap.size Y3 (Y3.alloc (.cells #[] 3)) := (Below.refl _ _).alloc (Nat.le_refl _) _
 have oe := Owns.empty Y3 Y3.heap.size 3 1 (Nat.le_refl _)
 have li := (nums_owns (HM.out.on (B3'.out.trans (bz.mono B3'.out.size)))).lies
 have ll := (KO3'.out.alloc (.cells #[] 3)).cell 12 _ rfl
 have hln : ([] : List (List Value)).length + (numR ms).length ≤ 2097152 := by rw [numR_length]; have := HS.out.m; simp only [List.length_nil] at this ⊢; omega
 go_wp2_with (at_builtin; refine wpList_append_all rfl (.tmp 18) (.tmp 20) 23 3 (.int .i64 0) 1 8 rfl Try.underlying23 Try.infoInt rfl (by omega) Y3.heap.size _ _ [] (numR ms) (Y3.alloc (.cells #[] 3)).heap.size rfl oe li (num_one _) rfl hln (by omega) bz.size ?_; intro qv W4 hO' hb' hk' hw'; obtain ⟨Bm, m3, k3, rfl⟩ := hO'.shape; refine Shut.out ?_)
 rw [List.nil_append] at hO'
 have hb : Below Y3.heap.size Y3 W4 := bz.trans hb'
 have hO := owns_nums hO'
 clear hO' hb' hk' hw' bz oe li ll hln
 unfold Shut
 have B4 : Hid (Below w.heap.size w W4) := B3'.out.trans (hb.mono B3'.out.size)
 have KO4 : Hid (Blk W4 (w.heap.size) #[.int .i64 ci, .int .i64 cp, .int .i64 ct, .int .i64 cv, .int .i64 cr, .int .i64 cd, .int .i64 cb, .int .i64 cbt, .slice Bz m0 k0, .int .i64 cc, .slice By m1 k1, .slice Bn m2 k2, .slice A3 n3 c3] 29) := KO3'.out.on hb KO3'.out.lt
 have KR4 : Hid (Blk W4 (w.heap.size + 1) #[.int .i64 0, .int .i64 0, .int .i64 0, .int .i64 0, .int .i64 0, .int .i64 0, .int .i64 0, .int .i64 0, .slice none 0 0, .int .i64 0, .slice none 0 0, .slice none 0 0, .slice none 0 0] 29) := KR3'.out.on hb KR3'.out.lt
 have HZ4 : Hid (w.heap.size + 1 + 1 ≤ W4.heap.size) := Nat.le_trans HZ3'.out hb.size
 have P1 : Hid (Owns W4 (w.heap.size + 1 + 1) 71 2 (.slice Bz m0 k0) (entR lg)) := P1'.out.on hb
 have P2 : Hid (Nums W4 (w.heap.size + 1 + 1) (.slice By m1 k1) ys) := P2'.out.on hb
 have P3 : Hid (Nums W4 (w.heap.size + 1 + 1) (.slice Bn m2 k2) ns) := P3'.out.on hb
 have P4 : Hid (Nums W4 (w.heap.size + 1 + 1) (.slice Bm m3 k3) ms) := hO.mono HZ3'.out
 have AP13 : Hid (Apart (.slice By m1 k1) (.slice Bm m3 k3)) := P2'.out.apart hO (Nat.le_refl _)
 have AP23 : Hid (Apart (.slice Bn m2 k2) (.slice Bm m3 k3)) := P3'.out.apart hO (Nat.le_refl _)
 clear hO hb KO3' KR3' B3' HZ3' P1' P2' P3'
 have c12 := KO4.out.cell 12 _ rfl
 have f12 := KO4.out.free 12
 obtain ⟨Y4, hY4⟩ : ∃ Y4, Y4 = W4.setCell ⟨w.heap.size, 12, none⟩ (.slice Bm m3 k3) := ⟨_, rfl⟩
 have KO4' : Hid (Blk Y4 (w.heap.size) #[.int .i64 ci, .int .i64 cp, .int .i64 ct, .int .i64 cv, .int .i64 cr, .int .i64 cd, .int .i64 cb, .int .i64 cbt, .slice Bz m0 k0, .int .i64 cc, .slice By m1 k1, .slice Bn m2 k2, .slice Bm m3 k3] 29) := by unfold Hid; rw [hY4]; exact KO4.out.set 12 _
 have KR4' : Hid (Blk Y4 (w.heap.size + 1) #[.int .i64 0, .int .i64 0, .int .i64 0, .int .i64 0, .int .i64 0, .int .i64 0, .int .i64 0, .int .i64 0, .slice none 0 0, .int .i64 0, .slice none 0 0, .slice none 0 0, .slice none 0 0] 29) := by unfold Hid; rw [hY4]; exact KR4.out.other (show w.heap.size + 1 ≠ w.heap.size by omega) 12 _
 have B4' : Hid (Below w.heap.size w Y4) := by unfold Hid; rw [hY4]; exact B4.out.setCell (Nat.le_refl _) _ (p := ⟨_, 12, none⟩)
 have HZ4' : Hid (w.heap.size + 1 + 1 ≤ Y4.heap.size) := by unfold Hid; rw [hY4]; simpa using HZ4.out
 have P1' : Hid (Owns Y4 (w.heap.size + 1 + 1) 71 2 (.slice Bz m0 k0) (entR lg)) := by unfold Hid; rw [hY4]; exact P1.out.lowM (show w.heap.size < w.heap.size + 1 + 1 by omega)
 have P2' : Hid (Nums Y4 (w.heap.size + 1 + 1) (.slice By m1 k1) ys) := by unfold Hid; rw [hY4]; exact P2.out.low (show w.heap.size < w.heap.size + 1 + 1 by omega)
 have P3' : Hid (Nums Y4 (w.heap.size + 1 + 1) (.slice Bn m2 k2) ns) := by unfold Hid; rw [hY4]; exact P3.out.low (show w.heap.size < w.heap.size + 1 + 1 by omega)
 have P4' : Hid (Nums Y4 (w.heap.size + 1 + 1) (.slice Bm m3 k3) ms) := by unfold Hid; rw [hY4]; exact P4.out.low (show w.heap.size < w.heap.size + 1 + 1 by omega)
 clear KO4 KR4 B4 HZ4 P1 P2 P3 P4
 go_upto_region 5 with fail
 rw [← hY4]
 clear hY4 c12 f12
 have RW : Hid (CoRows Y4 (w.heap.size + 1 + 1) ⟨ci, cp, ct, cv, cr, cd, cb, cbt, lg, cc, ys, ns, ms⟩ (.slice Bz m0 k0) (.slice By m1 k1) (.slice Bn m2 k2) (.slice Bm m3 k3)) := ⟨P1'.out.toF, P2'.out, P3'.out, P4'.out, AP12.out, AP13.out, AP23.out⟩
 have PO := Hid.mk P1'.out
 clear P1' P2' P3' P4' AP12 AP13 AP23 HZ4'
 have hgr : w.heap.size + 1 < w.heap.size + 1 + 1 := by omega
 have HW0 : Hid (w.heap.size ≤ w.heap.size + 1) := by unfold Hid; omega
 have HW1 : Hid (w.heap.size ≤ w.heap.size + 1 + 1) := by unfold Hid; omega
 have d0 := KO4'.out.cell 0 _ rfl
 have d1 := KO4'.out.cell 1 _ rfl
 have d2 := KO4'.out.cell 2 _ rfl
 have d3 := KO4'.out.cell 3 _ rfl
 have d4 := KO4'.out.cell 4 _ rfl
 have d5 := KO4'.out.cell 5 _ rfl
 have d6 := KO4'.out.cell 6 _ rfl
 have d7 := KO4'.out.cell 7 _ rfl
 have d8 := KO4'.out.cell 8 _ rfl
 have d9 := KO4'.out.cell 9 _ rfl
 have d10 := KO4'.out.cell 10 _ rfl
 have d11 := KO4'.out.cell 11 _ rfl
 have d12 := KO4'.out.cell 12 _ rfl
 obtain ⟨⟨r0, g0⟩, ⟨r1, g1⟩, ⟨r2, g2⟩, ⟨r3, g3⟩, ⟨r4, g4⟩, ⟨r5, g5⟩, ⟨r6, g6⟩, ⟨r7, g7⟩, ⟨r8, g8⟩, ⟨r9, g9⟩, ⟨r10, g10⟩, ⟨r11, g11⟩, ⟨r12, g12⟩, z0, z1, z2, z3, z4, z5, z6, z7, z8, z9, z10, z11, z12⟩ := resC13 (x0 := .int .i64 ci) (x1 := .int .i64 cp) (x2 := .int .i64 ct) (x3 := .int .i64 cv) (x4 := .int .i64 cr) (x5 := .int .i64 cd) (x6 := .int .i64 cb) (x7 := .int .i64 cbt) (x8 := .slice Bz m0 k0) (x9 := .int .i64 cc) (x10 := .slice By m1 k1) (x11 := .slice Bn m2 k2) (x12 := .slice Bm m3 k3) KR4'.out
 have FO := Hid.mk (rowsC13 RW.out hgr (.int .i64 ci) (.int .i64 cp) (.int .i64 ct) (.int .i64 cv) (.int .i64 cr) (.int .i64 cd) (.int .i64 cb) (.int .i64 cbt) (.slice Bz m0 k0) (.int .i64 cc) (.slice By m1 k1) (.slice Bn m2 k2) (.slice Bm m3 k3))
 have FW := Hid.mk (ownsM13 PO.out hgr (.int .i64 ci) (.int .i64 cp) (.int .i64 ct) (.int .i64 cv) (.int .i64 cr) (.int .i64 cd) (.int .i64 cb) (.int .i64 cbt) (.slice Bz m0 k0) (.int .i64 cc) (.slice By m1 k1) (.slice Bn m2 k2) (.slice Bm m3 k3))
 have FB := Hid.mk (belowC13 B4'.out HW0.out (.int .i64 ci) (.int .i64 cp) (.int .i64 ct) (.int .i64 cv) (.int .i64 cr) (.int .i64 cd) (.int .i64 cb) (.int .i64 cbt) (.slice Bz m0 k0) (.int .i64 cc) (.slice By m1 k1) (.slice Bn m2 k2) (.slice Bm m3 k3))
 clear KO4' KR4' RW B4' PO
 go_wp2_with fail
 exact bodyPost_ret (v := .agg #[.int .i64 ci, .int .i64 cp, .int .i64 ct, .int .i64 cv, .int .i64 cr, .int .i64 cd, .int .i64 cb, .int .i64 cbt, .slice Bz m0 k0, .int .i64 cc, .slice By m1 k1, .slice Bn m2 k2, .slice Bm m3 k3]) (by simp [results, go_sem, z0, z1, z2, z3, z4, z5, z6, z7, z8, z9, z10, z11, z12]) rfl ⟨_, rfl, ⟨⟨_, _, _, _, rfl, FO.out.mono HW1.out⟩, fun ul uy un um e => by unfold vCo at e; cases e; exact FW.out.mono HW1.out⟩, FB.out⟩
end Go.Proofs.Ytlhoonohpfpkbaa
