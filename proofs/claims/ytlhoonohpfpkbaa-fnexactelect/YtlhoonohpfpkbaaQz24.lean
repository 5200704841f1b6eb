/- LawElect -/
import Derived.Test.YtlhoonohpfpkbaaRows
import Derived.Test.YtlhoonohpfpkbaaQz10
import Derived.Test.YtlhoonohpfpkbaaQz15
import Derived.Test.YtlhoonohpfpkbaaQz23
import Derived.Deep.Cut
import Derived.Handy
import Derived.Test.YtlhoonohpfpkbaaQp0
import Derived.Test.YtlhoonohpfpkbaaQp1
import Derived.Test.YtlhoonohpfpkbaaQp2
import Derived.Test.YtlhoonohpfpkbaaQp3
import Derived.Test.YtlhoonohpfpkbaaQp4
import Derived.Test.YtlhoonohpfpkbaaQp5
import Derived.Test.YtlhoonohpfpkbaaQp6
import Derived.Test.YtlhoonohpfpkbaaQp7
import Derived.Test.YtlhoonohpfpkbaaQp8
import Derived.Test.YtlhoonohpfpkbaaQp9
import Derived.Test.YtlhoonohpfpkbaaQp10
import Derived.Test.YtlhoonohpfpkbaaQp11
import Derived.Test.YtlhoonohpfpkbaaQp12
open List (setIfInBounds_toArray set_cons_zero set_cons_succ)
namespace Go.Proofs.Ytlhoonohpfpkbaa
open Go.ChangeShapes Go.WideShapes Go.ChangeAt Go.RowKit Go.PlainAid
set_option linter.unusedVariables false
theorem sendM_fewE (x : Cor) (t : Int) : (sendM x t).ents.length ≤ 4 := by
 unfold sendM
 split
 ·exact Nat.zero_le _
 ·show (List.take 4 _).length ≤ 4
  rw [List.length_take]
  omega
theorem toAll_fewE (x : Cor) (h : x.peers ≤ 5) : (toAll x).length ≤ 5 ∧ ∀ m ∈ toAll x, m.ents.length ≤ 4 := by
 unfold toAll
 refine ⟨?_, fun m hm => ?_⟩
 ·rw [List.length_map]
  have := othL_len x.id x.peers.toNat
  omega
 ·obtain ⟨t, _, rfl⟩ := List.mem_map.1 hm
  exact sendM_fewE x t
theorem putC_peersE (x : Cor) (d : ByteArray) : (putC x d).peers = x.peers := by
 show (addX x d).peers = x.peers
 unfold addX
 split <;> rfl
theorem electX_few (x : Cor) : (electX x).2.length ≤ 5 ∧ ∀ m ∈ (electX x).2, m.ents.length ≤ 4 := by
 unfold electX
 split
 ·next h =>
  have hp : x.peers ≤ 5 := (corOk_ok h).1.p.2
  unfold electR
  split
  ·exact ⟨Nat.zero_le _, fun m hm => (by cases hm)⟩
  ·split
   ·exact toAll_fewE _ (by rw [putC_peersE]; exact hp)
   ·refine ⟨?_, fun m hm => ?_⟩
    ·show ((othL x.id x.peers.toNat).map _).length ≤ 5
     rw [List.length_map]
     have := othL_len x.id x.peers.toNat
     omega
    ·obtain ⟨t, _, rfl⟩ := List.mem_map.1 hm
     exact Nat.zero_le _
 ·exact ⟨Nat.zero_le _, fun m hm => (by cases hm)⟩
theorem seekC_short {x : Cor} (h : ShortC x) : ShortC (seekC x) := ⟨h.n, h.d, by simp [seekC], Nat.zero_le _, Nat.zero_le _⟩
theorem electX_short {x : Cor} (h : ShortC x) : ShortC (electX x).1 := by
 unfold electX
 split
 ·next hk =>
  have hc := (corOk_ok hk).1
  obtain ⟨w0, w1, w2, w3, w4, w5, w6⟩ := walOk_in hc.w
  simp only [corW] at w2 w4
  have hi := hc.i
  unfold electR
  split
  ·exact h
  ·split
   ·exact ((SendOk.led (x := seekC x) (seekC_short h) w2.1 w2.2 w4 hc.p.1 hc.p.2 hi.1 (show x.id < x.peers by omega) hc.c).put ⟨#[]⟩ (Nat.zero_le _)).s
   ·exact seekC_short h
 ·exact ⟨Nat.zero_le _, fun y hy => (by cases hy), Nat.zero_le _, Nat.zero_le _, Nat.zero_le _⟩
set_option maxRecDepth 20000 in
set_option maxHeartbeats 16000000 in
theorem law_fnExactElect (x : Cor) (v : Value) (w : World) (hv : CorV w w.heap.size v x) (hf : FitsC x) (hi : IntsC x) : Calls Try.prog 3 #[v] w fun e w' => e = .returned (.bool true) ∧ Below w.heap.size w w' := by
 obtain ⟨ci, cp, ct, cv, cr, cd, cb, cbt, lg, cc, ys, ns, ms⟩ := x
 have HV : Hid (CorV w w.heap.size v ⟨ci, cp, ct, cv, cr, cd, cb, cbt, lg, cc, ys, ns, ms⟩) := hv
 obtain ⟨u0, u1, u2, u3, rfl, hl, hy, hn, hm⟩ := hv
 obtain ⟨A0, Ac0, rfl, _⟩ := ent_look hl
 obtain ⟨A1, Ac1, rfl, _⟩ := hy
 obtain ⟨A2, Ac2, rfl, _⟩ := hn
 obtain ⟨A3, Ac3, rfl, _⟩ := hm
 unfold vCo at HV ⊢
 simp only at HV ⊢
 have HF : Hid (FitsC ⟨ci, cp, ct, cv, cr, cd, cb, cbt, lg, cc, ys, ns, ms⟩) := hf
 have HSH : Hid (wtC ⟨ci, cp, ct, cv, cr, cd, cb, cbt, lg, cc, ys, ns, ms⟩ ≤ 1048576 → ShortC ⟨ci, cp, ct, cv, cr, cd, cb, cbt, lg, cc, ys, ns, ms⟩) := fun h => ShortC.of h
 clear hl hf
 generalize lg.length = An0 at *
 generalize ys.length = An1 at *
 generalize ns.length = An2 at *
 generalize ms.length = An3 at *
 have cS := fun vx wx h1 h2 => szCore ⟨ci, cp, ct, cv, cr, cd, cb, cbt, lg, cc, ys, ns, ms⟩ vx wx w.heap.size 1048576 (by omega) (by omega) h1 HF.out h2
 have K0 := Hid.mk (Blk.new w #[.int .i64 ci, .int .i64 cp, .int .i64 ct, .int .i64 cv, .int .i64 cr, .int .i64 cd, .int .i64 cb, .int .i64 cbt, .slice A0 An0 Ac0, .int .i64 cc, .slice A1 An1 Ac1, .slice A2 An2 Ac2, .slice A3 An3 Ac3] 25)
 have B0 : Hid (Below w.heap.size w (w.alloc (.cells #[.int .i64 ci, .int .i64 cp, .int .i64 ct, .int .i64 cv, .int .i64 cr, .int .i64 cd, .int .i64 cb, .int .i64 cbt, .slice A0 An0 Ac0, .int .i64 cc, .slice A1 An1 Ac1, .slice A2 An2 Ac2, .slice A3 An3 Ac3] 25))) := (Below.refl _ _).alloc (Nat.le_refl _) _
 go_enter Try.func3, Try.ntmps3
 go_wp2_with fail
 generalize w.alloc (.cells #[.int .i64 ci, .int .i64 cp, .int .i64 ct, .int .i64 cv, .int .i64 cr, .int .i64 cd, .int .i64 cb, .int .i64 cbt, .slice A0 An0 Ac0, .int .i64 cc, .slice A1 An1 Ac1, .slice A2 An2 Ac2, .slice A3 An3 Ac3] 25) = W at *
 refine (cS _ W (HV.out.on B0.out) B0.out.size).mono ?_
 rintro e w1 ⟨r, rfl, HRr, hb1⟩
 have B1 : Hid (Below w.heap.size w w1) := B0.out.trans (hb1.mono B0.out.size)
 have K1 : Hid (Blk w1 w.heap.size #[.int .i64 ci, .int .i64 cp, .int .i64 ct, .int .i64 cv, .int .i64 cr, .int .i64 cd, .int .i64 cb, .int .i64 cbt, .slice A0 An0 Ac0, .int .i64 cc, .slice A1 An1 Ac1, .slice A2 An2 Ac2, .slice A3 An3 Ac3] 25) := K0.out.on hb1 K0.out.lt
 clear hb1 cS K0
 rcases HRr.out with rfl | ⟨hr0, hr1⟩
 ·go_wp2_with fail
  go_ret
  exact ⟨rfl, B1.out⟩
 have HW : Hid (wtC ⟨ci, cp, ct, cv, cr, cd, cb, cbt, lg, cc, ys, ns, ms⟩ ≤ 1048576) := by unfold Hid; omega
 have HSh : Hid (ShortC ⟨ci, cp, ct, cv, cr, cd, cb, cbt, lg, cc, ys, ns, ms⟩) := HSH.out HW.out
 have cT := fun vx wx h1 h2 => toCore ⟨ci, cp, ct, cv, cr, cd, cb, cbt, lg, cc, ys, ns, ms⟩ vx wx w.heap.size h1 HW.out h2
 clear HSH
 have hr2 : decide (r < 0) = false := decide_eq_false (by omega)
 clear hr1 HRr
 obtain ⟨yy, hyy⟩ : ∃ yy, yy = (electX ⟨ci, cp, ct, cv, cr, cd, cb, cbt, lg, cc, ys, ns, ms⟩).1 := ⟨_, rfl⟩
 obtain ⟨MM, hMM⟩ : ∃ MM, MM = (electX ⟨ci, cp, ct, cv, cr, cd, cb, cbt, lg, cc, ys, ns, ms⟩).2 := ⟨_, rfl⟩
 have HSy0 : Hid (ShortC yy) := by unfold Hid; rw [hyy]; exact electX_short HSh.out
 have HM5 : Hid (MM.length ≤ 5) := by unfold Hid; rw [hMM]; exact (electX_few ⟨ci, cp, ct, cv, cr, cd, cb, cbt, lg, cc, ys, ns, ms⟩).1
 have HM4 : Hid (∀ x ∈ MM, x.ents.length ≤ 4) := by unfold Hid; rw [hMM]; exact (electX_few ⟨ci, cp, ct, cv, cr, cd, cb, cbt, lg, cc, ys, ns, ms⟩).2
 have HMl : Hid (MM.length ≤ 100) := Nat.le_trans HM5.out (by omega)
 have HMe : Hid (∀ x ∈ MM, x.ents.length ≤ 100) := fun x hx => Nat.le_trans (HM4.out x hx) (by omega)
 have cP : ∀ (u : Value) (wx : World) (b : Nat), CorO wx b u ⟨ci, cp, ct, cv, cr, cd, cb, cbt, lg, cc, ys, ns, ms⟩ → b ≤ wx.heap.size → Calls Try.prog 7 #[u] wx fun e w' => (∃ z us, e = .returned (.tuple #[z, us]) ∧ CoMs w' wx.heap.size z us yy MM) ∧ Below wx.heap.size wx w' := fun u wx b h _ => by
  obtain ⟨u0, u1, u2, u3, rfl, h⟩ := h
  rw [hyy, hMM]
  exact specElect ci cp ct cv cr cd cb cbt lg cc ys ns ms u0 u1 u2 u3 wx b h HSh.out
 have cI : ∀ (u : Value) (wx : World) (b : Nat), CorO wx b u ⟨ci, cp, ct, cv, cr, cd, cb, cbt, lg, cc, ys, ns, ms⟩ → b ≤ wx.heap.size → Calls Try.prog 9 #[u] wx fun e w' => (∃ z us, e = .returned (.tuple #[z, us]) ∧ CoMs w' wx.heap.size z us yy MM) ∧ Below wx.heap.size wx w' := fun u wx b h _ => by
  obtain ⟨u0, u1, u2, u3, rfl, h⟩ := h
  rw [hyy, hMM]
  exact implElect ci cp ct cv cr cd cb cbt lg cc ys ns ms u0 u1 u2 u3 wx b h HSh.out
 clear hyy hMM
 obtain ⟨e0, e1, e2, e3, e4, e5, e6, e7, el, e9, ey, en, em⟩ := yy
 have HSy : Hid (ShortC ⟨e0, e1, e2, e3, e4, e5, e6, e7, el, e9, ey, en, em⟩) := HSy0.out
 clear HSy0
 have y0 := K1.out.cell 0 _ rfl
 have y1 := K1.out.cell 1 _ rfl
 have y2 := K1.out.cell 2 _ rfl
 have y3 := K1.out.cell 3 _ rfl
 have y4 := K1.out.cell 4 _ rfl
 have y5 := K1.out.cell 5 _ rfl
 have y6 := K1.out.cell 6 _ rfl
 have y7 := K1.out.cell 7 _ rfl
 have y8 := K1.out.cell 8 _ rfl
 have y9 := K1.out.cell 9 _ rfl
 have y10 := K1.out.cell 10 _ rfl
 have y11 := K1.out.cell 11 _ rfl
 have y12 := K1.out.cell 12 _ rfl
 go_wp2_with fail
 refine (cT _ w1 (HV.out.on B1.out) B1.out.size).mono ?_
 rintro e w2 ⟨q2, rfl, hO, hb2⟩
 have B2 : Hid (Below w.heap.size w w2) := B1.out.trans (hb2.mono B1.out.size)
 have K2 : Hid (Blk w2 w.heap.size #[.int .i64 ci, .int .i64 cp, .int .i64 ct, .int .i64 cv, .int .i64 cr, .int .i64 cd, .int .i64 cb, .int .i64 cbt, .slice A0 An0 Ac0, .int .i64 cc, .slice A1 An1 Ac1, .slice A2 An2 Ac2, .slice A3 An3 Ac3] 25) := K1.out.on hb2 K1.out.lt
 have c1s := cP q2 w2 w1.heap.size hO hb2.size
 obtain ⟨Z0, Zn0, Zc0, Z1, Zn1, Zc1, Z2, Zn2, Zc2, Z3, Zn3, Zc3, rfl, hZ⟩ := hO.sh
 unfold vCo
 simp only
 clear y0 y1 y2 y3 y4 y5 y6 y7 y8 y9 y10 y11 y12 hb2 hO hZ K1
 unfold vCo at c1s
 simp only at c1s
 go_wp2_with fail
 refine c1s.mono ?_
 rintro e X3a ⟨⟨u3, s3, rfl, hS3⟩, hb3⟩
 obtain ⟨E0, En0, Ec0, E1, En1, Ec1, E2, En2, Ec2, E3, En3, Ec3, E4, En4, Ec4, LE, rfl, rfl, hE, hME, hLE, hAE⟩ := hS3.sh
 unfold vCo
 simp only
 have B3a : Hid (Below w.heap.size w X3a) := B2.out.trans (hb3.mono B2.out.size)
 have K3a : Hid (Blk X3a w.heap.size #[.int .i64 ci, .int .i64 cp, .int .i64 ct, .int .i64 cv, .int .i64 cr, .int .i64 cd, .int .i64 cb, .int .i64 cbt, .slice A0 An0 Ac0, .int .i64 cc, .slice A1 An1 Ac1, .slice A2 An2 Ac2, .slice A3 An3 Ac3] 25) := K2.out.on hb3 K2.out.lt
 have W3a : Hid (CoRows X3a w2.heap.size ⟨e0, e1, e2, e3, e4, e5, e6, e7, el, e9, ey, en, em⟩ (.slice E0 En0 Ec0) (.slice E1 En1 Ec1) (.slice E2 En2 Ec2) (.slice E3 En3 Ec3)) := hE
 have N3a : Hid (MsO X3a w2.heap.size (.slice E4 En4 Ec4) LE) := hME
 have HLE : Hid (LE.map Prod.fst = MM) := hLE
 clear c1s hb3 K2 hE hME hLE hAE hS3
 obtain ⟨X3, hX3⟩ : ∃ X3, X3 = X3a.alloc (.cells #[.int .i64 e0, .int .i64 e1, .int .i64 e2, .int .i64 e3, .int .i64 e4, .int .i64 e5, .int .i64 e6, .int .i64 e7, .slice E0 En0 Ec0, .int .i64 e9, .slice E1 En1 Ec1, .slice E2 En2 Ec2, .slice E3 En3 Ec3] 29) := ⟨_, rfl⟩
 have hb3 : Below X3a.heap.size X3a X3 := by rw [hX3]; exact (Below.refl _ _).alloc (Nat.le_refl _) _
 have KW : Hid (Blk X3 X3a.heap.size #[.int .i64 e0, .int .i64 e1, .int .i64 e2, .int .i64 e3, .int .i64 e4, .int .i64 e5, .int .i64 e6, .int .i64 e7, .slice E0 En0 Ec0, .int .i64 e9, .slice E1 En1 Ec1, .slice E2 En2 Ec2, .slice E3 En3 Ec3] 29) := by unfold Hid; rw [hX3]; exact Blk.new X3a _ _
 have W3 : Hid (CoRows X3 w2.heap.size ⟨e0, e1, e2, e3, e4, e5, e6, e7, el, e9, ey, en, em⟩ (.slice E0 En0 Ec0) (.slice E1 En1 Ec1) (.slice E2 En2 Ec2) (.slice E3 En3 Ec3)) := W3a.out.on hb3
 have N3 : Hid (MsO X3 w2.heap.size (.slice E4 En4 Ec4) LE) := N3a.out.on hb3
 have B3 : Hid (Below w.heap.size w X3) := B3a.out.trans (hb3.mono B3a.out.size)
 have K3 : Hid (Blk X3 w.heap.size #[.int .i64 ci, .int .i64 cp, .int .i64 ct, .int .i64 cv, .int .i64 cr, .int .i64 cd, .int .i64 cb, .int .i64 cbt, .slice A0 An0 Ac0, .int .i64 cc, .slice A1 An1 Ac1, .slice A2 An2 Ac2, .slice A3 An3 Ac3] 25) := K3a.out.on hb3 K3a.out.lt
 clear hb3 K3a B3a W3a N3a
 have y0 := K3.out.cell 0 _ rfl
 have y1 := K3.out.cell 1 _ rfl
 have y2 := K3.out.cell 2 _ rfl
 have y3 := K3.out.cell 3 _ rfl
 have y4 := K3.out.cell 4 _ rfl
 have y5 := K3.out.cell 5 _ rfl
 have y6 := K3.out.cell 6 _ rfl
 have y7 := K3.out.cell 7 _ rfl
 have y8 := K3.out.cell 8 _ rfl
 have y9 := K3.out.cell 9 _ rfl
 have y10 := K3.out.cell 10 _ rfl
 have y11 := K3.out.cell 11 _ rfl
 have y12 := K3.out.cell 12 _ rfl
 rw [hX3] at y0 y1 y2 y3 y4 y5 y6 y7 y8 y9 y10 y11 y12
 go_wp2_with fail
 rw [← hX3]
 clear hX3
 refine (cT _ X3 (HV.out.on B3.out) B3.out.size).mono ?_
 rintro e X4 ⟨q4, rfl, hO4, hb4⟩
 obtain ⟨D0, Dn0, Dc0, D1, Dn1, Dc1, D2, Dn2, Dc2, D3, Dn3, Dc3, rfl, hD⟩ := hO4.sh
 unfold vCo
 simp only
 have C4 : Hid (Below X3.heap.size X3 X4) := hb4
 have R4 : Hid (CoRows X4 X3.heap.size ⟨ci, cp, ct, cv, cr, cd, cb, cbt, lg, cc, ys, ns, ms⟩ (.slice D0 Dn0 Dc0) (.slice D1 Dn1 Dc1) (.slice D2 Dn2 Dc2) (.slice D3 Dn3 Dc3)) := hD
 clear hb4 hO4 hD y0 y1 y2 y3 y4 y5 y6 y7 y8 y9 y10 y11 y12
 obtain ⟨X5, hX5⟩ : ∃ X5, X5 = X4.alloc (.cells #[.int .i64 ci, .int .i64 cp, .int .i64 ct, .int .i64 cv, .int .i64 cr, .int .i64 cd, .int .i64 cb, .int .i64 cbt, .slice D0 Dn0 Dc0, .int .i64 cc, .slice D1 Dn1 Dc1, .slice D2 Dn2 Dc2, .slice D3 Dn3 Dc3] 29) := ⟨_, rfl⟩
 have KB : Hid (Blk X5 X4.heap.size #[.int .i64 ci, .int .i64 cp, .int .i64 ct, .int .i64 cv, .int .i64 cr, .int .i64 cd, .int .i64 cb, .int .i64 cbt, .slice D0 Dn0 Dc0, .int .i64 cc, .slice D1 Dn1 Dc1, .slice D2 Dn2 Dc2, .slice D3 Dn3 Dc3] 29) := by unfold Hid; rw [hX5]; exact Blk.new X4 _ _
 have D5 : Hid (Below X4.heap.size X4 X5) := by unfold Hid; rw [hX5]; exact (Below.refl _ X4).alloc (Nat.le_refl _) _
 have C5 : Hid (Below X3.heap.size X3 X5) := C4.out.trans (D5.out.mono C4.out.size)
 have R5 : Hid (CoRows X5 X3.heap.size ⟨ci, cp, ct, cv, cr, cd, cb, cbt, lg, cc, ys, ns, ms⟩ (.slice D0 Dn0 Dc0) (.slice D1 Dn1 Dc1) (.slice D2 Dn2 Dc2) (.slice D3 Dn3 Dc3)) := R4.out.on D5.out
 have c2s := cI (.agg #[.int .i64 ci, .int .i64 cp, .int .i64 ct, .int .i64 cv, .int .i64 cr, .int .i64 cd, .int .i64 cb, .int .i64 cbt, .slice D0 Dn0 Dc0, .int .i64 cc, .slice D1 Dn1 Dc1, .slice D2 Dn2 Dc2, .slice D3 Dn3 Dc3]) X5 X3.heap.size ⟨_, _, _, _, rfl, R5.out⟩ C5.out.size
 have kb0 := KB.out.cell 0 _ rfl
 have kb1 := KB.out.cell 1 _ rfl
 have kb2 := KB.out.cell 2 _ rfl
 have kb3 := KB.out.cell 3 _ rfl
 have kb4 := KB.out.cell 4 _ rfl
 have kb5 := KB.out.cell 5 _ rfl
 have kb6 := KB.out.cell 6 _ rfl
 have kb7 := KB.out.cell 7 _ rfl
 have kb8 := KB.out.cell 8 _ rfl
 have kb9 := KB.out.cell 9 _ rfl
 have kb10 := KB.out.cell 10 _ rfl
 have kb11 := KB.out.cell 11 _ rfl
 have kb12 := KB.out.cell 12 _ rfl
 rw [hX5] at kb0 kb1 kb2 kb3 kb4 kb5 kb6 kb7 kb8 kb9 kb10 kb11 kb12
 go_wp2_with fail
 rw [← hX5]
 clear hX5 kb0 kb1 kb2 kb3 kb4 kb5 kb6 kb7 kb8 kb9 kb10 kb11 kb12
 refine c2s.mono ?_
 rintro e X6a ⟨⟨u6, s6, rfl, hS6⟩, hb6⟩
 obtain ⟨G0, Gn0, Gc0, G1, Gn1, Gc1, G2, Gn2, Gc2, G3, Gn3, Gc3, G4, Gn4, Gc4, LG, rfl, rfl, hG, hMG, hLG, hAG⟩ := hS6.sh
 unfold vCo
 simp only
 have G6a : Hid (CoRows X6a X5.heap.size ⟨e0, e1, e2, e3, e4, e5, e6, e7, el, e9, ey, en, em⟩ (.slice G0 Gn0 Gc0) (.slice G1 Gn1 Gc1) (.slice G2 Gn2 Gc2) (.slice G3 Gn3 Gc3)) := hG
 have M6a : Hid (MsO X6a X5.heap.size (.slice G4 Gn4 Gc4) LG) := hMG
 have HLG : Hid (LG.map Prod.fst = MM) := hLG
 have HAG : Hid (∀ q ∈ LG, ∀ k, q.2.ownBlock = some k → blkF (.slice G0 Gn0 Gc0) ≠ some k) := hAG
 have HLn : Hid (LG.length ≤ 5) := by
  have := congrArg List.length hLG
  rw [List.length_map] at this
  have := HM5.out
  unfold Hid
  omega
 have HLm : Hid (∀ q ∈ LG, q.1.ents.length ≤ 4) := fun q hq => HM4.out q.1 (by rw [← hLG]; exact List.mem_map_of_mem hq)
 obtain ⟨X6, hX6⟩ : ∃ X6, X6 = X6a.alloc (.cells #[.int .i64 e0, .int .i64 e1, .int .i64 e2, .int .i64 e3, .int .i64 e4, .int .i64 e5, .int .i64 e6, .int .i64 e7, .slice G0 Gn0 Gc0, .int .i64 e9, .slice G1 Gn1 Gc1, .slice G2 Gn2 Gc2, .slice G3 Gn3 Gc3] 29) := ⟨_, rfl⟩
 have hbn : Below X6a.heap.size X6a X6 := by rw [hX6]; exact (Below.refl _ _).alloc (Nat.le_refl _) _
 have KG6 : Hid (Blk X6 X6a.heap.size #[.int .i64 e0, .int .i64 e1, .int .i64 e2, .int .i64 e3, .int .i64 e4, .int .i64 e5, .int .i64 e6, .int .i64 e7, .slice G0 Gn0 Gc0, .int .i64 e9, .slice G1 Gn1 Gc1, .slice G2 Gn2 Gc2, .slice G3 Gn3 Gc3] 29) := by unfold Hid; rw [hX6]; exact Blk.new X6a _ _
 have HG : Hid (X5.heap.size ≤ X6a.heap.size) := hb6.size
 have D6 : Hid (Below X5.heap.size X5 X6) := hb6.trans (hbn.mono hb6.size)
 have C6 : Hid (Below X3.heap.size X3 X6) := C5.out.trans (D6.out.mono C5.out.size)
 have G6 : Hid (CoRows X6 X5.heap.size ⟨e0, e1, e2, e3, e4, e5, e6, e7, el, e9, ey, en, em⟩ (.slice G0 Gn0 Gc0) (.slice G1 Gn1 Gc1) (.slice G2 Gn2 Gc2) (.slice G3 Gn3 Gc3)) := G6a.out.on hbn
 have M6 : Hid (MsO X6 X5.heap.size (.slice G4 Gn4 Gc4) LG) := M6a.out.on hbn
 clear c2s hb6 hbn G6a hS6 hG M6a hMG hLG hAG
 have KW6 : Hid (Blk X6 X3a.heap.size #[.int .i64 e0, .int .i64 e1, .int .i64 e2, .int .i64 e3, .int .i64 e4, .int .i64 e5, .int .i64 e6, .int .i64 e7, .slice E0 En0 Ec0, .int .i64 e9, .slice E1 En1 Ec1, .slice E2 En2 Ec2, .slice E3 En3 Ec3] 29) := KW.out.on C6.out KW.out.lt
 have h0 := KW6.out.cell 0 _ rfl
 have h1 := KW6.out.cell 1 _ rfl
 have h2 := KW6.out.cell 2 _ rfl
 have h3 := KW6.out.cell 3 _ rfl
 have h4 := KW6.out.cell 4 _ rfl
 have h5 := KW6.out.cell 5 _ rfl
 have h6 := KW6.out.cell 6 _ rfl
 have h7 := KW6.out.cell 7 _ rfl
 have h8 := KW6.out.cell 8 _ rfl
 have h9 := KW6.out.cell 9 _ rfl
 have h10 := KW6.out.cell 10 _ rfl
 have h11 := KW6.out.cell 11 _ rfl
 have h12 := KW6.out.cell 12 _ rfl
 have j0 := KG6.out.cell 0 _ rfl
 have j1 := KG6.out.cell 1 _ rfl
 have j2 := KG6.out.cell 2 _ rfl
 have j3 := KG6.out.cell 3 _ rfl
 have j4 := KG6.out.cell 4 _ rfl
 have j5 := KG6.out.cell 5 _ rfl
 have j6 := KG6.out.cell 6 _ rfl
 have j7 := KG6.out.cell 7 _ rfl
 have j8 := KG6.out.cell 8 _ rfl
 have j9 := KG6.out.cell 9 _ rfl
 have j10 := KG6.out.cell 10 _ rfl
 have j11 := KG6.out.cell 11 _ rfl
 have j12 := KG6.out.cell 12 _ rfl
 rw [hX6] at h0 h1 h2 h3 h4 h5 h6 h7 h8 h9 h10 h11 h12 j0 j1 j2 j3 j4 j5 j6 j7 j8 j9 j10 j11 j12
 have ce := eqCore ⟨e0, e1, e2, e3, e4, e5, e6, e7, el, e9, ey, en, em⟩ (.agg #[.int .i64 e0, .int .i64 e1, .int .i64 e2, .int .i64 e3, .int .i64 e4, .int .i64 e5, .int .i64 e6, .int .i64 e7, .slice G0 Gn0 Gc0, .int .i64 e9, .slice G1 Gn1 Gc1, .slice G2 Gn2 Gc2, .slice G3 Gn3 Gc3]) (.agg #[.int .i64 e0, .int .i64 e1, .int .i64 e2, .int .i64 e3, .int .i64 e4, .int .i64 e5, .int .i64 e6, .int .i64 e7, .slice E0 En0 Ec0, .int .i64 e9, .slice E1 En1 Ec1, .slice E2 En2 Ec2, .slice E3 En3 Ec3]) X6 X6.heap.size G6.out.lies (W3.out.on C6.out).lies HSy.out (Nat.le_refl _)
 go_wp2_with fail
 rw [← hX6]
 clear hX6 h0 h1 h2 h3 h4 h5 h6 h7 h8 h9 h10 h11 h12 j0 j1 j2 j3 j4 j5 j6 j7 j8 j9 j10 j11 j12
 refine ce.mono ?_
 rintro e X7e ⟨rfl, he7⟩
 have C7e : Hid (Below X3.heap.size X3 X7e) := C6.out.trans (he7.mono C6.out.size)
 have D7e : Hid (Below X5.heap.size X5 X7e) := D6.out.trans (he7.mono D6.out.size)
 have G7e : Hid (CoRows X7e X5.heap.size ⟨e0, e1, e2, e3, e4, e5, e6, e7, el, e9, ey, en, em⟩ (.slice G0 Gn0 Gc0) (.slice G1 Gn1 Gc1) (.slice G2 Gn2 Gc2) (.slice G3 Gn3 Gc3)) := G6.out.on he7
 have M7e : Hid (MsO X7e X5.heap.size (.slice G4 Gn4 Gc4) LG) := M6.out.on he7
 have KG7e : Hid (Blk X7e X6a.heap.size #[.int .i64 e0, .int .i64 e1, .int .i64 e2, .int .i64 e3, .int .i64 e4, .int .i64 e5, .int .i64 e6, .int .i64 e7, .slice G0 Gn0 Gc0, .int .i64 e9, .slice G1 Gn1 Gc1, .slice G2 Gn2 Gc2, .slice G3 Gn3 Gc3] 29) := KG6.out.on he7 KG6.out.lt
 clear he7 ce KW6 KG6 G6 M6
 have ceM := eqMsgS MM _ _ X7e X7e.heap.size (M7e.out.viewM HLG.out) ((N3.out.on C7e.out).viewM HLE.out) HMl.out HMe.out (Nat.le_refl _)
 go_wp2_with fail
 refine ceM.mono ?_
 rintro e X7 ⟨rfl, he7⟩
 have C7 : Hid (Below X3.heap.size X3 X7) := C7e.out.trans (he7.mono C7e.out.size)
 have D7 : Hid (Below X5.heap.size X5 X7) := D7e.out.trans (he7.mono D7e.out.size)
 have G7 : Hid (CoRows X7 X5.heap.size ⟨e0, e1, e2, e3, e4, e5, e6, e7, el, e9, ey, en, em⟩ (.slice G0 Gn0 Gc0) (.slice G1 Gn1 Gc1) (.slice G2 Gn2 Gc2) (.slice G3 Gn3 Gc3)) := G7e.out.on he7
 have M7 : Hid (MsO X7 X5.heap.size (.slice G4 Gn4 Gc4) LG) := M7e.out.on he7
 have KG7 : Hid (Blk X7 X6a.heap.size #[.int .i64 e0, .int .i64 e1, .int .i64 e2, .int .i64 e3, .int .i64 e4, .int .i64 e5, .int .i64 e6, .int .i64 e7, .slice G0 Gn0 Gc0, .int .i64 e9, .slice G1 Gn1 Gc1, .slice G2 Gn2 Gc2, .slice G3 Gn3 Gc3] 29) := KG7e.out.on he7 KG7e.out.lt
 clear he7 ceM C7e D7e G7e M7e KG7e
 go_wp2_with fail
 refine wp_region_until (fun w' => w'.cell? ⟨X4.heap.size, 0, none⟩ = some (.int .i64 ci) ∧ w'.cell? ⟨X4.heap.size, 1, none⟩ = some (.int .i64 cp) ∧ w'.cell? ⟨X4.heap.size, 2, none⟩ = some (.int .i64 ct) ∧ w'.cell? ⟨X4.heap.size, 3, none⟩ = some (.int .i64 cv) ∧ w'.cell? ⟨X4.heap.size, 4, none⟩ = some (.int .i64 cr) ∧ w'.cell? ⟨X4.heap.size, 5, none⟩ = some (.int .i64 cd) ∧ w'.cell? ⟨X4.heap.size, 6, none⟩ = some (.int .i64 cb) ∧ w'.cell? ⟨X4.heap.size, 7, none⟩ = some (.int .i64 cbt) ∧ w'.cell? ⟨X4.heap.size, 8, none⟩ = some (.slice D0 Dn0 Dc0) ∧ w'.cell? ⟨X4.heap.size, 9, none⟩ = some (.int .i64 cc) ∧ w'.cell? ⟨X4.heap.size, 10, none⟩ = some (.slice D1 Dn1 Dc1) ∧ w'.cell? ⟨X4.heap.size, 11, none⟩ = some (.slice D2 Dn2 Dc2) ∧ w'.cell? ⟨X4.heap.size, 12, none⟩ = some (.slice D3 Dn3 Dc3) ∧ w'.cell? ⟨w.heap.size, 0, none⟩ = some (.int .i64 ci) ∧ w'.cell? ⟨w.heap.size, 1, none⟩ = some (.int .i64 cp) ∧ w'.cell? ⟨w.heap.size, 2, none⟩ = some (.int .i64 ct) ∧ w'.cell? ⟨w.heap.size, 3, none⟩ = some (.int .i64 cv) ∧ w'.cell? ⟨w.heap.size, 4, none⟩ = some (.int .i64 cr) ∧ w'.cell? ⟨w.heap.size, 5, none⟩ = some (.int .i64 cd) ∧ w'.cell? ⟨w.heap.size, 6, none⟩ = some (.int .i64 cb) ∧ w'.cell? ⟨w.heap.size, 7, none⟩ = some (.int .i64 cbt) ∧ w'.cell? ⟨w.heap.size, 8, none⟩ = some (.slice A0 An0 Ac0) ∧ w'.cell? ⟨w.heap.size, 9, none⟩ = some (.int .i64 cc) ∧ w'.cell? ⟨w.heap.size, 10, none⟩ = some (.slice A1 An1 Ac1) ∧ w'.cell? ⟨w.heap.size, 11, none⟩ = some (.slice A2 An2 Ac2) ∧ w'.cell? ⟨w.heap.size, 12, none⟩ = some (.slice A3 An3 Ac3)) (fun i => false) 5 (by rfl) (by kernel_rfl) ?_
 have hbd : Below X7.heap.size X7 X7.drew := (Below.refl _ _).drew
 generalize X7.drew = XD at *
 have CD : Hid (Below X3.heap.size X3 XD) := C7.out.trans (hbd.mono C7.out.size)
 have FD : Hid (Below X7.heap.size X7 XD) := hbd
 have DD : Hid (Below X5.heap.size X5 XD) := D7.out.trans (hbd.mono D7.out.size)
 have BD : Hid (Below w.heap.size w XD) := B3.out.trans (CD.out.mono B3.out.size)
 have KBa : Hid (Blk XD X4.heap.size #[.int .i64 ci, .int .i64 cp, .int .i64 ct, .int .i64 cv, .int .i64 cr, .int .i64 cd, .int .i64 cb, .int .i64 cbt, .slice D0 Dn0 Dc0, .int .i64 cc, .slice D1 Dn1 Dc1, .slice D2 Dn2 Dc2, .slice D3 Dn3 Dc3] 29) := KB.out.on DD.out KB.out.lt
 have KAa : Hid (Blk XD w.heap.size #[.int .i64 ci, .int .i64 cp, .int .i64 ct, .int .i64 cv, .int .i64 cr, .int .i64 cd, .int .i64 cb, .int .i64 cbt, .slice A0 An0 Ac0, .int .i64 cc, .slice A1 An1 Ac1, .slice A2 An2 Ac2, .slice A3 An3 Ac3] 25) := K3.out.on CD.out K3.out.lt
 have S0 : Hid (XD.cell? ⟨X4.heap.size, 0, none⟩ = some (.int .i64 ci) ∧ XD.cell? ⟨X4.heap.size, 1, none⟩ = some (.int .i64 cp) ∧ XD.cell? ⟨X4.heap.size, 2, none⟩ = some (.int .i64 ct) ∧ XD.cell? ⟨X4.heap.size, 3, none⟩ = some (.int .i64 cv) ∧ XD.cell? ⟨X4.heap.size, 4, none⟩ = some (.int .i64 cr) ∧ XD.cell? ⟨X4.heap.size, 5, none⟩ = some (.int .i64 cd) ∧ XD.cell? ⟨X4.heap.size, 6, none⟩ = some (.int .i64 cb) ∧ XD.cell? ⟨X4.heap.size, 7, none⟩ = some (.int .i64 cbt) ∧ XD.cell? ⟨X4.heap.size, 8, none⟩ = some (.slice D0 Dn0 Dc0) ∧ XD.cell? ⟨X4.heap.size, 9, none⟩ = some (.int .i64 cc) ∧ XD.cell? ⟨X4.heap.size, 10, none⟩ = some (.slice D1 Dn1 Dc1) ∧ XD.cell? ⟨X4.heap.size, 11, none⟩ = some (.slice D2 Dn2 Dc2) ∧ XD.cell? ⟨X4.heap.size, 12, none⟩ = some (.slice D3 Dn3 Dc3) ∧ XD.cell? ⟨w.heap.size, 0, none⟩ = some (.int .i64 ci) ∧ XD.cell? ⟨w.heap.size, 1, none⟩ = some (.int .i64 cp) ∧ XD.cell? ⟨w.heap.size, 2, none⟩ = some (.int .i64 ct) ∧ XD.cell? ⟨w.heap.size, 3, none⟩ = some (.int .i64 cv) ∧ XD.cell? ⟨w.heap.size, 4, none⟩ = some (.int .i64 cr) ∧ XD.cell? ⟨w.heap.size, 5, none⟩ = some (.int .i64 cd) ∧ XD.cell? ⟨w.heap.size, 6, none⟩ = some (.int .i64 cb) ∧ XD.cell? ⟨w.heap.size, 7, none⟩ = some (.int .i64 cbt) ∧ XD.cell? ⟨w.heap.size, 8, none⟩ = some (.slice A0 An0 Ac0) ∧ XD.cell? ⟨w.heap.size, 9, none⟩ = some (.int .i64 cc) ∧ XD.cell? ⟨w.heap.size, 10, none⟩ = some (.slice A1 An1 Ac1) ∧ XD.cell? ⟨w.heap.size, 11, none⟩ = some (.slice A2 An2 Ac2) ∧ XD.cell? ⟨w.heap.size, 12, none⟩ = some (.slice A3 An3 Ac3)) := ⟨KBa.out.cell 0 _ rfl, KBa.out.cell 1 _ rfl, KBa.out.cell 2 _ rfl, KBa.out.cell 3 _ rfl, KBa.out.cell 4 _ rfl, KBa.out.cell 5 _ rfl, KBa.out.cell 6 _ rfl, KBa.out.cell 7 _ rfl, KBa.out.cell 8 _ rfl, KBa.out.cell 9 _ rfl, KBa.out.cell 10 _ rfl, KBa.out.cell 11 _ rfl, KBa.out.cell 12 _ rfl, KAa.out.cell 0 _ rfl, KAa.out.cell 1 _ rfl, KAa.out.cell 2 _ rfl, KAa.out.cell 3 _ rfl, KAa.out.cell 4 _ rfl, KAa.out.cell 5 _ rfl, KAa.out.cell 6 _ rfl, KAa.out.cell 7 _ rfl, KAa.out.cell 8 _ rfl, KAa.out.cell 9 _ rfl, KAa.out.cell 10 _ rfl, KAa.out.cell 11 _ rfl, KAa.out.cell 12 _ rfl⟩
 clear hbd
 refine tF 0 S0.out ?_
 refine tF 1 S0.out ?_
 refine uNe 2 (fun K hK => ?_)
 go_simp
 refine (cT _ XD (HV.out.on BD.out) BD.out.size).mono ?_
 rintro e X7m ⟨q7, rfl, hE7, hb7m⟩
 have C7m : Hid (Below X3.heap.size X3 X7m) := CD.out.trans (hb7m.mono CD.out.size)
 have D7m : Hid (Below X5.heap.size X5 X7m) := DD.out.trans (hb7m.mono DD.out.size)
 have F7m : Hid (Below X7.heap.size X7 X7m) := FD.out.trans (hb7m.mono FD.out.size)
 have KBb : Hid (Blk X7m X4.heap.size #[.int .i64 ci, .int .i64 cp, .int .i64 ct, .int .i64 cv, .int .i64 cr, .int .i64 cd, .int .i64 cb, .int .i64 cbt, .slice D0 Dn0 Dc0, .int .i64 cc, .slice D1 Dn1 Dc1, .slice D2 Dn2 Dc2, .slice D3 Dn3 Dc3] 29) := KB.out.on D7m.out KB.out.lt
 have KAb : Hid (Blk X7m w.heap.size #[.int .i64 ci, .int .i64 cp, .int .i64 ct, .int .i64 cv, .int .i64 cr, .int .i64 cd, .int .i64 cb, .int .i64 cbt, .slice A0 An0 Ac0, .int .i64 cc, .slice A1 An1 Ac1, .slice A2 An2 Ac2, .slice A3 An3 Ac3] 25) := K3.out.on C7m.out K3.out.lt
 obtain ⟨Q0, Qn0, Qc0, Q1, Qn1, Qc1, Q2, Qn2, Qc2, Q3, Qn3, Qc3, rfl, hQ⟩ := hE7.sh
 unfold vCo
 simp only
 have cq := eqCore ⟨ci, cp, ct, cv, cr, cd, cb, cbt, lg, cc, ys, ns, ms⟩ (.agg #[.int .i64 ci, .int .i64 cp, .int .i64 ct, .int .i64 cv, .int .i64 cr, .int .i64 cd, .int .i64 cb, .int .i64 cbt, .slice D0 Dn0 Dc0, .int .i64 cc, .slice D1 Dn1 Dc1, .slice D2 Dn2 Dc2, .slice D3 Dn3 Dc3]) (.agg #[.int .i64 ci, .int .i64 cp, .int .i64 ct, .int .i64 cv, .int .i64 cr, .int .i64 cd, .int .i64 cb, .int .i64 cbt, .slice Q0 Qn0 Qc0, .int .i64 cc, .slice Q1 Qn1 Qc1, .slice Q2 Qn2 Qc2, .slice Q3 Qn3 Qc3]) X7m X7m.heap.size (R5.out.on D7m.out).lies hQ.lies HSh.out (Nat.le_refl _)
 clear hb7m S0 KBa KAa hE7 hQ
 go_wp2_with fail
 refine hK.out _ _ (fun _ _ => ⟨KBb.out.cell 0 _ rfl, KBb.out.cell 1 _ rfl, KBb.out.cell 2 _ rfl, KBb.out.cell 3 _ rfl, KBb.out.cell 4 _ rfl, KBb.out.cell 5 _ rfl, KBb.out.cell 6 _ rfl, KBb.out.cell 7 _ rfl, KBb.out.cell 8 _ rfl, KBb.out.cell 9 _ rfl, KBb.out.cell 10 _ rfl, KBb.out.cell 11 _ rfl, KBb.out.cell 12 _ rfl, KAb.out.cell 0 _ rfl, KAb.out.cell 1 _ rfl, KAb.out.cell 2 _ rfl, KAb.out.cell 3 _ rfl, KAb.out.cell 4 _ rfl, KAb.out.cell 5 _ rfl, KAb.out.cell 6 _ rfl, KAb.out.cell 7 _ rfl, KAb.out.cell 8 _ rfl, KAb.out.cell 9 _ rfl, KAb.out.cell 10 _ rfl, KAb.out.cell 11 _ rfl, KAb.out.cell 12 _ rfl⟩) ?_
 clear hK K
 try simp only [Act.put, zQ1, zQ2, zQ3]
 refine uNe 3 (fun K hK => ?_)
 go_simp
 refine cq.mono ?_
 rintro e X8 ⟨rfl, hb8⟩
 have C8 : Hid (Below X3.heap.size X3 X8) := C7m.out.trans (hb8.mono C7m.out.size)
 have D8 : Hid (Below X5.heap.size X5 X8) := D7m.out.trans (hb8.mono D7m.out.size)
 have F8 : Hid (Below X7.heap.size X7 X8) := F7m.out.trans (hb8.mono F7m.out.size)
 have KBc : Hid (Blk X8 X4.heap.size #[.int .i64 ci, .int .i64 cp, .int .i64 ct, .int .i64 cv, .int .i64 cr, .int .i64 cd, .int .i64 cb, .int .i64 cbt, .slice D0 Dn0 Dc0, .int .i64 cc, .slice D1 Dn1 Dc1, .slice D2 Dn2 Dc2, .slice D3 Dn3 Dc3] 29) := KB.out.on D8.out KB.out.lt
 have KAc : Hid (Blk X8 w.heap.size #[.int .i64 ci, .int .i64 cp, .int .i64 ct, .int .i64 cv, .int .i64 cr, .int .i64 cd, .int .i64 cb, .int .i64 cbt, .slice A0 An0 Ac0, .int .i64 cc, .slice A1 An1 Ac1, .slice A2 An2 Ac2, .slice A3 An3 Ac3] 25) := K3.out.on C8.out K3.out.lt
 clear hb8 cq KBb KAb
 go_wp2_with fail
 refine hK.out _ _ (fun _ _ => ⟨KBc.out.cell 0 _ rfl, KBc.out.cell 1 _ rfl, KBc.out.cell 2 _ rfl, KBc.out.cell 3 _ rfl, KBc.out.cell 4 _ rfl, KBc.out.cell 5 _ rfl, KBc.out.cell 6 _ rfl, KBc.out.cell 7 _ rfl, KBc.out.cell 8 _ rfl, KBc.out.cell 9 _ rfl, KBc.out.cell 10 _ rfl, KBc.out.cell 11 _ rfl, KBc.out.cell 12 _ rfl, KAc.out.cell 0 _ rfl, KAc.out.cell 1 _ rfl, KAc.out.cell 2 _ rfl, KAc.out.cell 3 _ rfl, KAc.out.cell 4 _ rfl, KAc.out.cell 5 _ rfl, KAc.out.cell 6 _ rfl, KAc.out.cell 7 _ rfl, KAc.out.cell 8 _ rfl, KAc.out.cell 9 _ rfl, KAc.out.cell 10 _ rfl, KAc.out.cell 11 _ rfl, KAc.out.cell 12 _ rfl⟩) ?_
 clear hK K
 try simp only [Act.put, zQ1, zQ2, zQ3]
 refine pF 4 ?_
 refine until_done (by kernel_rfl) ?_ _
 clear C7m D7m CD DD BD FD F7m KAc
 have G8 : Hid (CoRows X8 X5.heap.size ⟨e0, e1, e2, e3, e4, e5, e6, e7, el, e9, ey, en, em⟩ (.slice G0 Gn0 Gc0) (.slice G1 Gn1 Gc1) (.slice G2 Gn2 Gc2) (.slice G3 Gn3 Gc3)) := G7.out.on F8.out
 have M8 : Hid (MsO X8 X5.heap.size (.slice G4 Gn4 Gc4) LG) := M7.out.on F8.out
 have KG8 : Hid (Blk X8 X6a.heap.size #[.int .i64 e0, .int .i64 e1, .int .i64 e2, .int .i64 e3, .int .i64 e4, .int .i64 e5, .int .i64 e6, .int .i64 e7, .slice G0 Gn0 Gc0, .int .i64 e9, .slice G1 Gn1 Gc1, .slice G2 Gn2 Gc2, .slice G3 Gn3 Gc3] 29) := KG7.out.on F8.out KG7.out.lt
 have D48 : Hid (Below X4.heap.size X4 X8) := D5.out.trans (D8.out.mono D5.out.size)
 have R8 : Hid (CoRows X8 X3.heap.size ⟨ci, cp, ct, cv, cr, cd, cb, cbt, lg, cc, ys, ns, ms⟩ (.slice D0 Dn0 Dc0) (.slice D1 Dn1 Dc1) (.slice D2 Dn2 Dc2) (.slice D3 Dn3 Dc3)) := R5.out.on D8.out
 have kb0 := KBc.out.cell 0 _ rfl
 have kb1 := KBc.out.cell 1 _ rfl
 have kb2 := KBc.out.cell 2 _ rfl
 have kb3 := KBc.out.cell 3 _ rfl
 have kb4 := KBc.out.cell 4 _ rfl
 have kb5 := KBc.out.cell 5 _ rfl
 have kb6 := KBc.out.cell 6 _ rfl
 have kb7 := KBc.out.cell 7 _ rfl
 have kb8 := KBc.out.cell 8 _ rfl
 have kb9 := KBc.out.cell 9 _ rfl
 have kb10 := KBc.out.cell 10 _ rfl
 have kb11 := KBc.out.cell 11 _ rfl
 have kb12 := KBc.out.cell 12 _ rfl
 have cm := markCore ⟨ci, cp, ct, cv, cr, cd, cb, cbt, lg, cc, ys, ns, ms⟩ (.slice D0 Dn0 Dc0) (.slice D1 Dn1 Dc1) (.slice D2 Dn2 Dc2) (.slice D3 Dn3 Dc3) X3.heap.size X8 R8.out HSh.out C8.out.size
 unfold vCo at cm
 simp only at cm
 have HNb : Hid (∀ g, X5.heap.size ≤ g → NotC (.slice D0 Dn0 Dc0) (.slice D1 Dn1 Dc1) (.slice D2 Dn2 Dc2) (.slice D3 Dn3 Dc3) g) := fun g hg => R4.out.notNew (Nat.le_trans D5.out.size hg)
 generalize hkx : kCo ⟨ci, cp, ct, cv, cr, cd, cb, cbt, lg, cc, ys, ns, ms⟩ = kx at *
 have dkx : decide ((kx : Int) < 0) = false := decide_eq_false (by omega)
 clear hkx
 go_wp2_with fail
 refine cm.mono ?_
 rintro e X9 ⟨rfl, _, hb9, hk9⟩
 have C9 : Hid (Below X3.heap.size X3 X9) := C8.out.trans hb9
 have HZ9 : Hid (X8.heap.size ≤ X9.heap.size) := hb9.size
 have G9 : Hid (CoRows X9 X5.heap.size ⟨e0, e1, e2, e3, e4, e5, e6, e7, el, e9, ey, en, em⟩ (.slice G0 Gn0 Gc0) (.slice G1 Gn1 Gc1) (.slice G2 Gn2 Gc2) (.slice G3 Gn3 Gc3)) := G8.out.kept fun g hg hq => hk9 g hg (HNb.out g hq)
 have M9 : Hid (MsO X9 X5.heap.size (.slice G4 Gn4 Gc4) LG) := M8.out.kept fun g hg hq => hk9 g hg (HNb.out g hq)
 have KG9 : Hid (Blk X9 X6a.heap.size #[.int .i64 e0, .int .i64 e1, .int .i64 e2, .int .i64 e3, .int .i64 e4, .int .i64 e5, .int .i64 e6, .int .i64 e7, .slice G0 Gn0 Gc0, .int .i64 e9, .slice G1 Gn1 Gc1, .slice G2 Gn2 Gc2, .slice G3 Gn3 Gc3] 29) := (hk9 _ KG8.out.lt (HNb.out _ HG.out)).trans KG8.out
 clear hb9 hk9 cm kb0 kb1 kb2 kb3 kb4 kb5 kb6 kb7 kb8 kb9 kb10 kb11 kb12 KBc D48 G8 KG8 R8 M8
 have KW9 : Hid (Blk X9 X3a.heap.size #[.int .i64 e0, .int .i64 e1, .int .i64 e2, .int .i64 e3, .int .i64 e4, .int .i64 e5, .int .i64 e6, .int .i64 e7, .slice E0 En0 Ec0, .int .i64 e9, .slice E1 En1 Ec1, .slice E2 En2 Ec2, .slice E3 En3 Ec3] 29) := KW.out.on C9.out KW.out.lt
 have h0 := KW9.out.cell 0 _ rfl
 have h1 := KW9.out.cell 1 _ rfl
 have h2 := KW9.out.cell 2 _ rfl
 have h3 := KW9.out.cell 3 _ rfl
 have h4 := KW9.out.cell 4 _ rfl
 have h5 := KW9.out.cell 5 _ rfl
 have h6 := KW9.out.cell 6 _ rfl
 have h7 := KW9.out.cell 7 _ rfl
 have h8 := KW9.out.cell 8 _ rfl
 have h9 := KW9.out.cell 9 _ rfl
 have h10 := KW9.out.cell 10 _ rfl
 have h11 := KW9.out.cell 11 _ rfl
 have h12 := KW9.out.cell 12 _ rfl
 have j0 := KG9.out.cell 0 _ rfl
 have j1 := KG9.out.cell 1 _ rfl
 have j2 := KG9.out.cell 2 _ rfl
 have j3 := KG9.out.cell 3 _ rfl
 have j4 := KG9.out.cell 4 _ rfl
 have j5 := KG9.out.cell 5 _ rfl
 have j6 := KG9.out.cell 6 _ rfl
 have j7 := KG9.out.cell 7 _ rfl
 have j8 := KG9.out.cell 8 _ rfl
 have j9 := KG9.out.cell 9 _ rfl
 have j10 := KG9.out.cell 10 _ rfl
 have j11 := KG9.out.cell 11 _ rfl
 have j12 := KG9.out.cell 12 _ rfl
 have ce := eqCore ⟨e0, e1, e2, e3, e4, e5, e6, e7, el, e9, ey, en, em⟩ (.agg #[.int .i64 e0, .int .i64 e1, .int .i64 e2, .int .i64 e3, .int .i64 e4, .int .i64 e5, .int .i64 e6, .int .i64 e7, .slice G0 Gn0 Gc0, .int .i64 e9, .slice G1 Gn1 Gc1, .slice G2 Gn2 Gc2, .slice G3 Gn3 Gc3]) (.agg #[.int .i64 e0, .int .i64 e1, .int .i64 e2, .int .i64 e3, .int .i64 e4, .int .i64 e5, .int .i64 e6, .int .i64 e7, .slice E0 En0 Ec0, .int .i64 e9, .slice E1 En1 Ec1, .slice E2 En2 Ec2, .slice E3 En3 Ec3]) X9 X9.heap.size G9.out.lies (W3.out.on C9.out).lies HSy.out (Nat.le_refl _)
 go_wp2_with fail
 refine ce.mono ?_
 rintro e X10e ⟨rfl, he10⟩
 have C10e : Hid (Below X3.heap.size X3 X10e) := C9.out.trans (he10.mono C9.out.size)
 have HZe : Hid (X8.heap.size ≤ X10e.heap.size) := Nat.le_trans HZ9.out he10.size
 have G10e : Hid (CoRows X10e X5.heap.size ⟨e0, e1, e2, e3, e4, e5, e6, e7, el, e9, ey, en, em⟩ (.slice G0 Gn0 Gc0) (.slice G1 Gn1 Gc1) (.slice G2 Gn2 Gc2) (.slice G3 Gn3 Gc3)) := G9.out.on he10
 have M10e : Hid (MsO X10e X5.heap.size (.slice G4 Gn4 Gc4) LG) := M9.out.on he10
 have KG10e : Hid (Blk X10e X6a.heap.size #[.int .i64 e0, .int .i64 e1, .int .i64 e2, .int .i64 e3, .int .i64 e4, .int .i64 e5, .int .i64 e6, .int .i64 e7, .slice G0 Gn0 Gc0, .int .i64 e9, .slice G1 Gn1 Gc1, .slice G2 Gn2 Gc2, .slice G3 Gn3 Gc3] 29) := KG9.out.on he10 KG9.out.lt
 clear he10 ce h0 h1 h2 h3 h4 h5 h6 h7 h8 h9 h10 h11 h12 j0 j1 j2 j3 j4 j5 j6 j7 j8 j9 j10 j11 j12 KW9 G9 KG9 M9
 have ceM := eqMsgS MM _ _ X10e X10e.heap.size (M10e.out.viewM HLG.out) ((N3.out.on C10e.out).viewM HLE.out) HMl.out HMe.out (Nat.le_refl _)
 go_wp2_with fail
 refine ceM.mono ?_
 rintro e X10 ⟨rfl, he10⟩
 have C10 : Hid (Below X3.heap.size X3 X10) := C10e.out.trans (he10.mono C10e.out.size)
 have HZ : Hid (X8.heap.size ≤ X10.heap.size) := Nat.le_trans HZe.out he10.size
 have G10 : Hid (CoRows X10 X5.heap.size ⟨e0, e1, e2, e3, e4, e5, e6, e7, el, e9, ey, en, em⟩ (.slice G0 Gn0 Gc0) (.slice G1 Gn1 Gc1) (.slice G2 Gn2 Gc2) (.slice G3 Gn3 Gc3)) := G10e.out.on he10
 have M10 : Hid (MsO X10 X5.heap.size (.slice G4 Gn4 Gc4) LG) := M10e.out.on he10
 have KG10 : Hid (Blk X10 X6a.heap.size #[.int .i64 e0, .int .i64 e1, .int .i64 e2, .int .i64 e3, .int .i64 e4, .int .i64 e5, .int .i64 e6, .int .i64 e7, .slice G0 Gn0 Gc0, .int .i64 e9, .slice G1 Gn1 Gc1, .slice G2 Gn2 Gc2, .slice G3 Gn3 Gc3] 29) := KG10e.out.on he10 KG10e.out.lt
 clear he10 ceM C10e HZe G10e M10e KG10e
 have cm := markCore ⟨e0, e1, e2, e3, e4, e5, e6, e7, el, e9, ey, en, em⟩ (.slice G0 Gn0 Gc0) (.slice G1 Gn1 Gc1) (.slice G2 Gn2 Gc2) (.slice G3 Gn3 Gc3) X5.heap.size X10 G10.out HSy.out (Nat.le_trans D8.out.size HZ.out)
 unfold vCo at cm
 simp only at cm
 have cH := fun wx (h : CoMks wx X5.heap.size ⟨e0, e1, e2, e3, e4, e5, e6, e7, el, e9, ey, en, em⟩ (.slice G0 Gn0 Gc0) (.slice G1 Gn1 Gc1) (.slice G2 Gn2 Gc2) (.slice G3 Gn3 Gc3)) => heldCore ⟨e0, e1, e2, e3, e4, e5, e6, e7, el, e9, ey, en, em⟩ (.slice G0 Gn0 Gc0) (.slice G1 Gn1 Gc1) (.slice G2 Gn2 Gc2) (.slice G3 Gn3 Gc3) X5.heap.size wx h HSy.out
 unfold vCo at cH
 simp only at cH
 have HNg : Hid (NotC (.slice G0 Gn0 Gc0) (.slice G1 Gn1 Gc1) (.slice G2 Gn2 Gc2) (.slice G3 Gn3 Gc3) X6a.heap.size) := G10.out.notBlk KG10.out (by decide) (by decide)
 have HM : Hid (∀ wx wy, CoMks wx X5.heap.size ⟨e0, e1, e2, e3, e4, e5, e6, e7, el, e9, ey, en, em⟩ (.slice G0 Gn0 Gc0) (.slice G1 Gn1 Gc1) (.slice G2 Gn2 Gc2) (.slice G3 Gn3 Gc3) → Below wx.heap.size wx wy → CoMks wy X5.heap.size ⟨e0, e1, e2, e3, e4, e5, e6, e7, el, e9, ey, en, em⟩ (.slice G0 Gn0 Gc0) (.slice G1 Gn1 Gc1) (.slice G2 Gn2 Gc2) (.slice G3 Gn3 Gc3)) := fun wx wy h hb => h.on hb
 have HMx : Hid (∀ wx wy, CoMks wx X5.heap.size ⟨e0, e1, e2, e3, e4, e5, e6, e7, el, e9, ey, en, em⟩ (.slice G0 Gn0 Gc0) (.slice G1 Gn1 Gc1) (.slice G2 Gn2 Gc2) (.slice G3 Gn3 Gc3) → MsO wx X5.heap.size (.slice G4 Gn4 Gc4) LG → (∀ g, g < wx.heap.size → (Value.slice G4 Gn4 Gc4).ownBlock ≠ some g → (∀ q ∈ LG, q.2.ownBlock ≠ some g) → wy.heap[g]? = wx.heap[g]?) → CoMks wy X5.heap.size ⟨e0, e1, e2, e3, e4, e5, e6, e7, el, e9, ey, en, em⟩ (.slice G0 Gn0 Gc0) (.slice G1 Gn1 Gc1) (.slice G2 Gn2 Gc2) (.slice G3 Gn3 Gc3)) := fun wx wy h hm hk => h.markM hm HAG.out hk
 have hkb : kCo ⟨e0, e1, e2, e3, e4, e5, e6, e7, el, e9, ey, en, em⟩ ≤ 8000000 ∧ 1 ≤ kCo ⟨e0, e1, e2, e3, e4, e5, e6, e7, el, e9, ey, en, em⟩ := by
  have h1 := HSy.out.n; have h2 := HSy.out.y; have h3 := HSy.out.q; have h4 := HSy.out.m
  unfold kCo
  simp only at h1 h2 h3 h4 ⊢
  omega
 generalize hkk : kCo ⟨e0, e1, e2, e3, e4, e5, e6, e7, el, e9, ey, en, em⟩ = kk at *
 have HKb : Hid (kk ≤ 8000000 ∧ 1 ≤ kk) := hkb
 have dk : decide ((kk : Int) < 0) = false := decide_eq_false (by omega)
 clear hkk hkb
 have j0 := KG10.out.cell 0 _ rfl
 have j1 := KG10.out.cell 1 _ rfl
 have j2 := KG10.out.cell 2 _ rfl
 have j3 := KG10.out.cell 3 _ rfl
 have j4 := KG10.out.cell 4 _ rfl
 have j5 := KG10.out.cell 5 _ rfl
 have j6 := KG10.out.cell 6 _ rfl
 have j7 := KG10.out.cell 7 _ rfl
 have j8 := KG10.out.cell 8 _ rfl
 have j9 := KG10.out.cell 9 _ rfl
 have j10 := KG10.out.cell 10 _ rfl
 have j11 := KG10.out.cell 11 _ rfl
 have j12 := KG10.out.cell 12 _ rfl
 go_wp2_with fail
 refine cm.mono ?_
 rintro e X11e ⟨rfl, hM, hb11, hk11⟩
 have M11e := Hid.mk hM
 have N11e : Hid (MsO X11e X5.heap.size (.slice G4 Gn4 Gc4) LG) := M10.out.markC G10.out HAG.out hk11
 have C11e : Hid (Below X3.heap.size X3 X11e) := C10.out.trans (hb11.mono C5.out.size)
 have HZ11 : Hid (X5.heap.size ≤ X11e.heap.size) := Nat.le_trans (Nat.le_trans D8.out.size HZ.out) hb11.size
 have KG11e : Hid (Blk X11e X6a.heap.size #[.int .i64 e0, .int .i64 e1, .int .i64 e2, .int .i64 e3, .int .i64 e4, .int .i64 e5, .int .i64 e6, .int .i64 e7, .slice G0 Gn0 Gc0, .int .i64 e9, .slice G1 Gn1 Gc1, .slice G2 Gn2 Gc2, .slice G3 Gn3 Gc3] 29) := (hk11 _ KG10.out.lt HNg.out).trans KG10.out
 clear hb11 hk11 cm hM j0 j1 j2 j3 j4 j5 j6 j7 j8 j9 j10 j11 j12 G10 KG10 M10
 have cmm := markMsgS kk X5.heap.size (.slice G4 Gn4 Gc4) LG X11e N11e.out HLn.out HLm.out HKb.out.2 HKb.out.1 HZ11.out
 have HNm : Hid ((Value.slice G4 Gn4 Gc4).ownBlock ≠ some X6a.heap.size ∧ ∀ q ∈ LG, q.2.ownBlock ≠ some X6a.heap.size) := N11e.out.notOf KG11e.out (by decide) (by decide)
 have cHM := fun wx (h : MMk wx X5.heap.size kk (.slice G4 Gn4 Gc4) LG) => heldMsgS kk X5.heap.size (.slice G4 Gn4 Gc4) LG wx h HLn.out HLm.out HKb.out.2 HKb.out.1
 have hmb : mA kk LG LG.length ≤ 9000000 := by
  have := (mA_le (k := kk) HLm.out LG.length (Nat.le_refl _)).2
  have := HLn.out
  have := HKb.out
  omega
 have HMM2 : Hid (∀ wx wy, MMk wx X5.heap.size kk (.slice G4 Gn4 Gc4) LG → Below wx.heap.size wx wy → MMk wy X5.heap.size kk (.slice G4 Gn4 Gc4) LG) := fun wx wy h hb => h.on hb
 generalize mA kk LG LG.length = k2 at *
 have dk2 : decide ((k2 : Int) < 0) = false := decide_eq_false (by omega)
 clear hmb
 go_wp2_with fail
 refine cmm.mono ?_
 rintro e X11 ⟨rfl, hMM, hb11, hk11⟩
 have Q11 := Hid.mk hMM
 have M11 := Hid.mk (HMx.out _ _ M11e.out N11e.out hk11)
 have C11 : Hid (Below X3.heap.size X3 X11) := C11e.out.trans (hb11.mono C5.out.size)
 have KG11 : Hid (Blk X11 X6a.heap.size #[.int .i64 e0, .int .i64 e1, .int .i64 e2, .int .i64 e3, .int .i64 e4, .int .i64 e5, .int .i64 e6, .int .i64 e7, .slice G0 Gn0 Gc0, .int .i64 e9, .slice G1 Gn1 Gc1, .slice G2 Gn2 Gc2, .slice G3 Gn3 Gc3] 29) := (hk11 _ KG11e.out.lt HNm.out.1 HNm.out.2).trans KG11e.out
 clear hb11 hk11 cmm hMM M11e N11e C11e KG11e HZ11
 have j0 := KG11.out.cell 0 _ rfl
 have j1 := KG11.out.cell 1 _ rfl
 have j2 := KG11.out.cell 2 _ rfl
 have j3 := KG11.out.cell 3 _ rfl
 have j4 := KG11.out.cell 4 _ rfl
 have j5 := KG11.out.cell 5 _ rfl
 have j6 := KG11.out.cell 6 _ rfl
 have j7 := KG11.out.cell 7 _ rfl
 have j8 := KG11.out.cell 8 _ rfl
 have j9 := KG11.out.cell 9 _ rfl
 have j10 := KG11.out.cell 10 _ rfl
 have j11 := KG11.out.cell 11 _ rfl
 have j12 := KG11.out.cell 12 _ rfl
 go_wp2_with fail
 refine (cH _ M11.out).mono ?_
 rintro e X12e ⟨rfl, hb12⟩
 have C12e : Hid (Below X3.heap.size X3 X12e) := C11.out.trans (hb12.mono C11.out.size)
 have M12e := Hid.mk (HM.out _ _ M11.out hb12)
 have Q12e := Hid.mk (HMM2.out _ _ Q11.out hb12)
 have KG12e : Hid (Blk X12e X6a.heap.size #[.int .i64 e0, .int .i64 e1, .int .i64 e2, .int .i64 e3, .int .i64 e4, .int .i64 e5, .int .i64 e6, .int .i64 e7, .slice G0 Gn0 Gc0, .int .i64 e9, .slice G1 Gn1 Gc1, .slice G2 Gn2 Gc2, .slice G3 Gn3 Gc3] 29) := KG11.out.on hb12 KG11.out.lt
 clear hb12 j0 j1 j2 j3 j4 j5 j6 j7 j8 j9 j10 j11 j12 M11 KG11 Q11
 go_wp2_with fail
 refine (cHM _ Q12e.out).mono ?_
 rintro e X12 ⟨rfl, hb12⟩
 have C12 : Hid (Below X3.heap.size X3 X12) := C12e.out.trans (hb12.mono C12e.out.size)
 have M12 := Hid.mk (HM.out _ _ M12e.out hb12)
 have Q12 := Hid.mk (HMM2.out _ _ Q12e.out hb12)
 have KG12 : Hid (Blk X12 X6a.heap.size #[.int .i64 e0, .int .i64 e1, .int .i64 e2, .int .i64 e3, .int .i64 e4, .int .i64 e5, .int .i64 e6, .int .i64 e7, .slice G0 Gn0 Gc0, .int .i64 e9, .slice G1 Gn1 Gc1, .slice G2 Gn2 Gc2, .slice G3 Gn3 Gc3] 29) := KG12e.out.on hb12 KG12e.out.lt
 clear hb12 M12e Q12e KG12e C12e
 have KA : Hid (Blk X12 w.heap.size #[.int .i64 ci, .int .i64 cp, .int .i64 ct, .int .i64 cv, .int .i64 cr, .int .i64 cd, .int .i64 cb, .int .i64 cbt, .slice A0 An0 Ac0, .int .i64 cc, .slice A1 An1 Ac1, .slice A2 An2 Ac2, .slice A3 An3 Ac3] 25) := K3.out.on C12.out K3.out.lt
 have B12 : Hid (Below w.heap.size w X12) := B3.out.trans (C12.out.mono B3.out.size)
 have y0 := KA.out.cell 0 _ rfl
 have y1 := KA.out.cell 1 _ rfl
 have y2 := KA.out.cell 2 _ rfl
 have y3 := KA.out.cell 3 _ rfl
 have y4 := KA.out.cell 4 _ rfl
 have y5 := KA.out.cell 5 _ rfl
 have y6 := KA.out.cell 6 _ rfl
 have y7 := KA.out.cell 7 _ rfl
 have y8 := KA.out.cell 8 _ rfl
 have y9 := KA.out.cell 9 _ rfl
 have y10 := KA.out.cell 10 _ rfl
 have y11 := KA.out.cell 11 _ rfl
 have y12 := KA.out.cell 12 _ rfl
 go_wp2_with fail
 refine (cT _ X12 (HV.out.on B12.out) B12.out.size).mono ?_
 rintro e X13 ⟨q13, rfl, hE13, hb13⟩
 have C13 : Hid (Below X3.heap.size X3 X13) := C12.out.trans (hb13.mono C12.out.size)
 have M13 := Hid.mk (HM.out _ _ M12.out hb13)
 have Q13 := Hid.mk (HMM2.out _ _ Q12.out hb13)
 have KG13 : Hid (Blk X13 X6a.heap.size #[.int .i64 e0, .int .i64 e1, .int .i64 e2, .int .i64 e3, .int .i64 e4, .int .i64 e5, .int .i64 e6, .int .i64 e7, .slice G0 Gn0 Gc0, .int .i64 e9, .slice G1 Gn1 Gc1, .slice G2 Gn2 Gc2, .slice G3 Gn3 Gc3] 29) := KG12.out.on hb13 KG12.out.lt
 have c2s := cI q13 X13 X12.heap.size hE13 hb13.size
 obtain ⟨Q0, Qn0, Qc0, Q1, Qn1, Qc1, Q2, Qn2, Qc2, Q3, Qn3, Qc3, rfl, hQ⟩ := hE13.sh
 unfold vCo
 simp only
 clear hb13 y0 y1 y2 y3 y4 y5 y6 y7 y8 y9 y10 y11 y12 KA M12 KG12 hE13 hQ Q12
 unfold vCo at c2s
 simp only at c2s
 go_wp2_with fail
 refine c2s.mono ?_
 rintro e X14a ⟨⟨u14, s14, rfl, hS14⟩, hb14⟩
 obtain ⟨P0, Pn0, Pc0, P1, Pn1, Pc1, P2, Pn2, Pc2, P3, Pn3, Pc3, P4, Pn4, Pc4, LP, rfl, rfl, hP, hMP, hLP, hAP⟩ := hS14.sh
 unfold vCo
 simp only
 obtain ⟨X14, hX14⟩ : ∃ X14, X14 = X14a.alloc (.cells #[.int .i64 e0, .int .i64 e1, .int .i64 e2, .int .i64 e3, .int .i64 e4, .int .i64 e5, .int .i64 e6, .int .i64 e7, .slice P0 Pn0 Pc0, .int .i64 e9, .slice P1 Pn1 Pc1, .slice P2 Pn2 Pc2, .slice P3 Pn3 Pc3] 29) := ⟨_, rfl⟩
 have hbn : Below X14a.heap.size X14a X14 := by rw [hX14]; exact (Below.refl _ _).alloc (Nat.le_refl _) _
 have KH : Hid (Blk X14 X14a.heap.size #[.int .i64 e0, .int .i64 e1, .int .i64 e2, .int .i64 e3, .int .i64 e4, .int .i64 e5, .int .i64 e6, .int .i64 e7, .slice P0 Pn0 Pc0, .int .i64 e9, .slice P1 Pn1 Pc1, .slice P2 Pn2 Pc2, .slice P3 Pn3 Pc3] 29) := by unfold Hid; rw [hX14]; exact Blk.new X14a _ _
 have hb14' : Below X13.heap.size X13 X14 := hb14.trans (hbn.mono hb14.size)
 have C14 : Hid (Below X3.heap.size X3 X14) := C13.out.trans (hb14'.mono C13.out.size)
 have M14 := Hid.mk (HM.out _ _ M13.out hb14')
 have Q14 := Hid.mk (HMM2.out _ _ Q13.out hb14')
 have KG14 : Hid (Blk X14 X6a.heap.size #[.int .i64 e0, .int .i64 e1, .int .i64 e2, .int .i64 e3, .int .i64 e4, .int .i64 e5, .int .i64 e6, .int .i64 e7, .slice G0 Gn0 Gc0, .int .i64 e9, .slice G1 Gn1 Gc1, .slice G2 Gn2 Gc2, .slice G3 Gn3 Gc3] 29) := KG13.out.on hb14' KG13.out.lt
 have E14 : Hid (CoRows X14 X13.heap.size ⟨e0, e1, e2, e3, e4, e5, e6, e7, el, e9, ey, en, em⟩ (.slice P0 Pn0 Pc0) (.slice P1 Pn1 Pc1) (.slice P2 Pn2 Pc2) (.slice P3 Pn3 Pc3)) := hP.on hbn
 have P14 : Hid (MsO X14 X13.heap.size (.slice P4 Pn4 Pc4) LP) := hMP.on hbn
 have HLP : Hid (LP.map Prod.fst = MM) := hLP
 have ce := eqCore ⟨e0, e1, e2, e3, e4, e5, e6, e7, el, e9, ey, en, em⟩ (.agg #[.int .i64 e0, .int .i64 e1, .int .i64 e2, .int .i64 e3, .int .i64 e4, .int .i64 e5, .int .i64 e6, .int .i64 e7, .slice P0 Pn0 Pc0, .int .i64 e9, .slice P1 Pn1 Pc1, .slice P2 Pn2 Pc2, .slice P3 Pn3 Pc3]) (.agg #[.int .i64 e0, .int .i64 e1, .int .i64 e2, .int .i64 e3, .int .i64 e4, .int .i64 e5, .int .i64 e6, .int .i64 e7, .slice E0 En0 Ec0, .int .i64 e9, .slice E1 En1 Ec1, .slice E2 En2 Ec2, .slice E3 En3 Ec3]) X14 X14.heap.size E14.out.lies (W3.out.on C14.out).lies HSy.out (Nat.le_refl _)
 clear hb14 hbn hb14' c2s M13 KG13 hS14 hP hMP hLP hAP Q13
 have KW14 : Hid (Blk X14 X3a.heap.size #[.int .i64 e0, .int .i64 e1, .int .i64 e2, .int .i64 e3, .int .i64 e4, .int .i64 e5, .int .i64 e6, .int .i64 e7, .slice E0 En0 Ec0, .int .i64 e9, .slice E1 En1 Ec1, .slice E2 En2 Ec2, .slice E3 En3 Ec3] 29) := KW.out.on C14.out KW.out.lt
 have h0 := KW14.out.cell 0 _ rfl
 have h1 := KW14.out.cell 1 _ rfl
 have h2 := KW14.out.cell 2 _ rfl
 have h3 := KW14.out.cell 3 _ rfl
 have h4 := KW14.out.cell 4 _ rfl
 have h5 := KW14.out.cell 5 _ rfl
 have h6 := KW14.out.cell 6 _ rfl
 have h7 := KW14.out.cell 7 _ rfl
 have h8 := KW14.out.cell 8 _ rfl
 have h9 := KW14.out.cell 9 _ rfl
 have h10 := KW14.out.cell 10 _ rfl
 have h11 := KW14.out.cell 11 _ rfl
 have h12 := KW14.out.cell 12 _ rfl
 have j0 := KH.out.cell 0 _ rfl
 have j1 := KH.out.cell 1 _ rfl
 have j2 := KH.out.cell 2 _ rfl
 have j3 := KH.out.cell 3 _ rfl
 have j4 := KH.out.cell 4 _ rfl
 have j5 := KH.out.cell 5 _ rfl
 have j6 := KH.out.cell 6 _ rfl
 have j7 := KH.out.cell 7 _ rfl
 have j8 := KH.out.cell 8 _ rfl
 have j9 := KH.out.cell 9 _ rfl
 have j10 := KH.out.cell 10 _ rfl
 have j11 := KH.out.cell 11 _ rfl
 have j12 := KH.out.cell 12 _ rfl
 rw [hX14] at h0 h1 h2 h3 h4 h5 h6 h7 h8 h9 h10 h11 h12 j0 j1 j2 j3 j4 j5 j6 j7 j8 j9 j10 j11 j12
 go_wp2_with fail
 rw [← hX14]
 clear hX14 h0 h1 h2 h3 h4 h5 h6 h7 h8 h9 h10 h11 h12 j0 j1 j2 j3 j4 j5 j6 j7 j8 j9 j10 j11 j12
 refine ce.mono ?_
 rintro e X15e ⟨rfl, hb15⟩
 have C15e : Hid (Below X3.heap.size X3 X15e) := C14.out.trans (hb15.mono C14.out.size)
 have M15e := Hid.mk (HM.out _ _ M14.out hb15)
 have Q15e := Hid.mk (HMM2.out _ _ Q14.out hb15)
 have P15e := Hid.mk (P14.out.on hb15)
 have KG15e : Hid (Blk X15e X6a.heap.size #[.int .i64 e0, .int .i64 e1, .int .i64 e2, .int .i64 e3, .int .i64 e4, .int .i64 e5, .int .i64 e6, .int .i64 e7, .slice G0 Gn0 Gc0, .int .i64 e9, .slice G1 Gn1 Gc1, .slice G2 Gn2 Gc2, .slice G3 Gn3 Gc3] 29) := KG14.out.on hb15 KG14.out.lt
 clear hb15 ce M14 KG14 Q14 P14
 have ceM := eqMsgS MM _ _ X15e X15e.heap.size (P15e.out.viewM HLP.out) ((N3.out.on C15e.out).viewM HLE.out) HMl.out HMe.out (Nat.le_refl _)
 go_wp2_with fail
 refine ceM.mono ?_
 rintro e X15 ⟨rfl, hb15⟩
 have C15 : Hid (Below X3.heap.size X3 X15) := C15e.out.trans (hb15.mono C15e.out.size)
 have M15 := Hid.mk (HM.out _ _ M15e.out hb15)
 have Q15 := Hid.mk (HMM2.out _ _ Q15e.out hb15)
 have KG15 : Hid (Blk X15 X6a.heap.size #[.int .i64 e0, .int .i64 e1, .int .i64 e2, .int .i64 e3, .int .i64 e4, .int .i64 e5, .int .i64 e6, .int .i64 e7, .slice G0 Gn0 Gc0, .int .i64 e9, .slice G1 Gn1 Gc1, .slice G2 Gn2 Gc2, .slice G3 Gn3 Gc3] 29) := KG15e.out.on hb15 KG15e.out.lt
 clear hb15 ceM M15e Q15e KG15e C15e P15e
 have j0 := KG15.out.cell 0 _ rfl
 have j1 := KG15.out.cell 1 _ rfl
 have j2 := KG15.out.cell 2 _ rfl
 have j3 := KG15.out.cell 3 _ rfl
 have j4 := KG15.out.cell 4 _ rfl
 have j5 := KG15.out.cell 5 _ rfl
 have j6 := KG15.out.cell 6 _ rfl
 have j7 := KG15.out.cell 7 _ rfl
 have j8 := KG15.out.cell 8 _ rfl
 have j9 := KG15.out.cell 9 _ rfl
 have j10 := KG15.out.cell 10 _ rfl
 have j11 := KG15.out.cell 11 _ rfl
 have j12 := KG15.out.cell 12 _ rfl
 go_wp2_with fail
 refine (cH _ M15.out).mono ?_
 rintro e X16e ⟨rfl, hb16⟩
 have B16e : Hid (Below w.heap.size w X16e) := B3.out.trans ((C15.out.trans (hb16.mono C15.out.size)).mono B3.out.size)
 have Q16 := Hid.mk (HMM2.out _ _ Q15.out hb16)
 clear hb16 cH M15 Q15 j0 j1 j2 j3 j4 j5 j6 j7 j8 j9 j10 j11 j12
 go_wp2_with fail
 refine (cHM _ Q16.out).mono ?_
 rintro e X16 ⟨rfl, hb16⟩
 have B16 : Hid (Below w.heap.size w X16) := B16e.out.trans (hb16.mono B16e.out.size)
 clear hb16 cHM Q16 B16e
 go_wp2_with fail
 go_ret
 exact ⟨rfl, B16.out⟩
end Go.Proofs.Ytlhoonohpfpkbaa
