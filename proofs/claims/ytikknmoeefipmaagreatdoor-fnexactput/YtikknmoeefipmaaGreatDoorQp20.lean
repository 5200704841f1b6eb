/- EgAid EgSC EgS5 -/
import Derived.Test.YtikknmoeefipmaaGreatDoorQp10
import Derived.WalkKit
import Derived.ProofKit
import Derived.OpenShut
import Derived.Below
import Derived.WalkSmall
import Derived.BigQuiet
import Derived.Deep.QuietTactic
import Derived.Deep.RegionWith
import Derived.Handy
import Derived.Test.YtikknmoeefipmaaGreatDoorQp19
import Derived.Test.YtikknmoeefipmaaGreatDoorQp6
import Derived.Test.YtikknmoeefipmaaGreatDoorQp3
import Derived.Test.YtikknmoeefipmaaGreatDoorQp18
namespace Go.Proofs.YtikknmoeefipmaaGreatDoor
open Go.ChangeShapes Go.WideShapes Go.ChangeAt Go.RowKit Go.PlainAid
set_option linter.unusedVariables false
theorem res3 {w : World} {g : Nat} {a b c x y z : Value} {t : TypeId} (h : Blk w g #[a, b, c] t) :
  (w.cell? ⟨g, 0, none⟩ = some a ∧ w.frozen? ⟨g, 0, none⟩ = false) ∧ ((w.setCell ⟨g, 0, none⟩ x).cell? ⟨g, 1, none⟩ = some b ∧ (w.setCell ⟨g, 0, none⟩ x).frozen? ⟨g, 1, none⟩ = false) ∧
  (((w.setCell ⟨g, 0, none⟩ x).setCell ⟨g, 1, none⟩ y).cell? ⟨g, 2, none⟩ = some c ∧ ((w.setCell ⟨g, 0, none⟩ x).setCell ⟨g, 1, none⟩ y).frozen? ⟨g, 2, none⟩ = false) ∧
  ((((w.setCell ⟨g, 0, none⟩ x).setCell ⟨g, 1, none⟩ y).setCell ⟨g, 2, none⟩ z).cell? ⟨g, 0, none⟩ = some x ∧ (((w.setCell ⟨g, 0, none⟩ x).setCell ⟨g, 1, none⟩ y).setCell ⟨g, 2, none⟩ z).cell? ⟨g, 1, none⟩ = some y ∧ (((w.setCell ⟨g, 0, none⟩ x).setCell ⟨g, 1, none⟩ y).setCell ⟨g, 2, none⟩ z).cell? ⟨g, 2, none⟩ = some z) := by
 have h1 := h.set 0 x
 have h2 := h1.set 1 y
 have h3 := h2.set 2 z
 exact ⟨⟨h.cell 0 _ rfl, h.free 0⟩, ⟨h1.cell 1 _ rfl, h1.free 1⟩, ⟨h2.cell 2 _ rfl, h2.free 2⟩, h3.cell 0 _ rfl, h3.cell 1 _ rfl, h3.cell 2 _ rfl⟩
theorem Blk.set3 {w : World} {g : Nat} {a b c x y z : Value} {t : TypeId} (h : Blk w g #[a, b, c] t) : Blk (((w.setCell ⟨g, 0, none⟩ x).setCell ⟨g, 1, none⟩ y).setCell ⟨g, 2, none⟩ z) g #[x, y, z] t := ((h.set 0 x).set 1 y).set 2 z
theorem KeptBut.set3 {w : World} (g : Nat) (x y z : Value) : KeptBut g w (((w.setCell ⟨g, 0, none⟩ x).setCell ⟨g, 1, none⟩ y).setCell ⟨g, 2, none⟩ z) := (((KeptBut.refl g w).set 0 x).set 1 y).set 2 z
theorem Blk.but {w w' : World} {g h : Nat} {cs : Array Value} {t : TypeId} (hb : Blk w h cs t) (hk : KeptBut g w w') (hne : h ≠ g) : Blk w' h cs t := hk.blk hb hne
theorem SerO.butE {w w' : World} {base g : Nat} {v : Value} {L : List (Ser × Value)} {cs : Array Value} (h : SerO w base v L) (hK : Blk w g cs 35) (hk : KeptBut g w w') : SerO w' base v L :=
 ⟨hk.owns h.1 (h.1.notBlk hK (by decide)), fun p hp => hk.owns (h.2.1 p hp) ((h.2.1 p hp).notBlk hK (by decide)), h.2.2⟩
theorem Strs.butE {w w' : World} {base g : Nat} {v : Value} {l : List ByteArray} {cs : Array Value} (h : Strs w base v l) (hK : Blk w g cs 35) (hk : KeptBut g w w') : Strs w' base v l :=
 owns_strs (hk.owns (strs_owns h) ((strs_owns h).notBlk hK (by decide)))
theorem EngO.butE {w w' : World} {base g : Nat} {v : Value} {e : Eng} {cs : Array Value} (h : EngO w base v e) (hK : Blk w g cs 35) (hk : KeptBut g w w') : EngO w' base v e := by
 obtain ⟨vc, vf, L, h1, h2, h3, h4⟩ := h
 exact ⟨vc, vf, L, h1, h2, h3.butE hK hk, h4.butE hK hk⟩
theorem EngO.end3 {w : World} {base R : Nat} {vc vf : Value} {L : List (Ser × Value)} {e : Eng} {f : Int} {cs : Array Value} (hK : Blk w R cs 35) (hf : e.floor = f) (hL : L.map Prod.fst = e.cache) (hS : SerO w base vc L) (hT : Strs w base vf e.files) :
  EngO (((w.setCell ⟨R, 0, none⟩ (.int .i64 f)).setCell ⟨R, 1, none⟩ vc).setCell ⟨R, 2, none⟩ vf) base (.agg #[.int .i64 f, vc, vf]) e :=
 ⟨vc, vf, L, by rw [hf]; rfl, hL, hS.butE hK (KeptBut.set3 R _ _ _), hT.butE hK (KeptBut.set3 R _ _ _)⟩
theorem SerO.nilE (w : World) (base : Nat) : SerO w base (.slice none 0 0) [] := ⟨Owns.nil _ _ _ _, fun p hp => (by cases hp), List.Pairwise.nil⟩
theorem SerO.emptyE (w : World) (base : Nat) (hb : base ≤ w.heap.size) : SerO (w.alloc (.cells #[] 98)) base (.slice (some ⟨w.heap.size, 0, none⟩) 0 0) [] := ⟨Owns.empty w base 98 2 hb, fun p hp => (by cases hp), List.Pairwise.nil⟩
theorem below_set3 {w w' : World} {g : Nat} (h : Below w.heap.size w w') (hg : w.heap.size ≤ g) (x y z : Value) : Below w.heap.size w (((w'.setCell ⟨g, 0, none⟩ x).setCell ⟨g, 1, none⟩ y).setCell ⟨g, 2, none⟩ z) := ((h.setCell hg _).setCell hg _).setCell hg _
end Go.Proofs.YtikknmoeefipmaaGreatDoor
namespace Go.Proofs.YtikknmoeefipmaaGreatDoor
open Go.ChangeShapes Go.WideShapes Go.ChangeAt Go.RowKit Go.PlainAid
set_option linter.unusedVariables false
set_option maxRecDepth 20000 in
set_option maxHeartbeats 8000000 in
theorem specInto (L : List (Ser × Value)) (v vp : Value) (key : ByteArray) (p : List Pnt) (base B : Nat) (w : World) (hS : SerO w base v L) (hp : Lies w B 2 vp (ptR p)) (hB : B ≤ w.heap.size) (hbs : base ≤ w.heap.size) (hn : L.length ≤ 10) (hl2 : ∀ q ∈ L, q.1.pts.length ≤ 200) (hp2 : p.length ≤ 200) (hr : RiseK ((L.map Prod.fst).map Ser.key)) :
  Calls Tryz.prog 85 #[v, .string key, vp] w fun e w' => (∃ u M, e = .returned u ∧ M.map Prod.fst = intoR (L.map Prod.fst) key p ∧ SerO w' base u M) ∧ Below w.heap.size w w' := by
 obtain ⟨A, cap, rfl, hlk⟩ := sr_look hS.1.lies
 obtain ⟨Ap, cp, rfl, _⟩ := pt_look hp
 have HLk : Hid (∀ wx, Below w.heap.size w wx → ∀ j, j < L.length → ∃ g off, A = some ⟨g, off, none⟩ ∧ g < w.heap.size ∧ wx.cell? ⟨g, off + j * 2, none⟩ = some (.string (L.getD j default).1.key) ∧ wx.cell? ⟨g, off + j * 2 + 1, none⟩ = some (L.getD j default).2) := by
  intro wx hx j hj
  obtain ⟨g, off, e, hg, h1, h2⟩ := hlk j hj
  exact ⟨g, off, e, hg, by rw [hx.cell (p := ⟨_, _, none⟩) hg]; exact h1, by rw [hx.cell (p := ⟨_, _, none⟩) hg]; exact h2⟩
 have HS : Hid (SerO w base (.slice A L.length cap) L) := hS
 have HP : Hid (Lies w B 2 (.slice Ap p.length cp) (ptR p)) := hp
 have HB : Hid (B ≤ w.heap.size) := hB
 have HBs : Hid (base ≤ w.heap.size) := hbs
 have HL2 : Hid (∀ q ∈ L, q.1.pts.length ≤ 200) := hl2
 have HP2 : Hid (p.length ≤ 200) := hp2
 have HR : Hid (RiseK ((L.map Prod.fst).map Ser.key)) := hr
 obtain ⟨l, hl⟩ : ∃ l, L.map Prod.fst = l := ⟨_, rfl⟩
 have HLl : Hid (l.length = L.length ∧ ∀ j, j < L.length → l.getD j default = (L.getD j default).1) := by
  refine ⟨by rw [← hl, List.length_map], fun j hj => ?_⟩
  rw [← hl, ← getD_at _ j (by rw [List.length_map]; exact hj), ← getD_at _ j hj, List.getElem_map]
 rw [hl] at HR ⊢
 have HMp : Hid (L.map Prod.fst = l) := hl
 clear hlk hS hp hB hbs hl2 hp2 hr hl
 have q1 : (L.length : Int) ≤ 10 := by omega
 generalize hpl : p.length = pl at *
 have HPl : Hid (p.length = pl) := hpl
 clear hpl
 generalize hN : L.length = n at *
 have HN : Hid (L.length = n) := hN
 clear hN
 go_enter Tryz.func85, Tryz.ntmps85
 go_wp2_with fail
 go_loopw [7, 8, 9, 10] (fun v7 v8 v9 v10 wr => ∃ (k : Nat) (M : List (Ser × Value)) (put : Bool), k ≤ n ∧ v9 = .int .i64 (k : Int) ∧ v8 = .bool put ∧ Hid (IntoS l key p k (M.map Prod.fst) put ∧ M.length ≤ k + 1) ∧ Owns wr w.heap.size 98 2 v7 (srR M) ∧ (∀ q ∈ M, Owns wr base 90 2 q.2 (ptR q.1.pts)) ∧ (M.Pairwise fun a b => Apart a.2 b.2) ∧ (∀ q ∈ M, ∀ r ∈ L.drop k, Apart q.2 r.2) ∧ Below w.heap.size w wr) (fun _ _ i _ _ => n - (intOf i).toNat)
 case atStart => exact ⟨0, [], false, by omega, rfl, rfl, ⟨IntoS.start _ _ _, by simp⟩, Owns.empty w w.heap.size 98 2 (Nat.le_refl _), fun q hq => (by cases hq), List.Pairwise.nil, fun q hq => (by cases hq), (Below.refl _ _).alloc (Nat.le_refl _) _⟩
 case round =>
  obtain ⟨k, M, put, hk, rfl, rfl, HI, hOR, hOP, hPW, hAP, hb⟩ := hrel
  obtain ⟨A7, n7, c7, rfl⟩ := hOR.shape
  have OR : Hid (Owns wr w.heap.size 98 2 (.slice A7 n7 c7) (srR M)) := hOR
  have OP : Hid (∀ q ∈ M, Owns wr base 90 2 q.2 (ptR q.1.pts)) := hOP
  have PW : Hid (M.Pairwise fun a b => Apart a.2 b.2) := hPW
  have AP : Hid (∀ q ∈ M, ∀ r ∈ L.drop k, Apart q.2 r.2) := hAP
  have BW : Hid (Below w.heap.size w wr) := hb
  have LM : Hid (M.length ≤ 11) := by have := HI.out.2; unfold Hid; omega
  clear hOR hOP hPW hAP hb
  by_cases hlt : k < n
  ·have q4 : (k : Int) < (n : Int) := by omega
   obtain ⟨g, off, rfl, hg, e0, e1⟩ := HLk.out wr BW.out k hlt
   have HLk1 : Hid (∀ wx, Below w.heap.size w wx → wx.cell? ⟨g, off + k * 2, none⟩ = some (.string (L.getD k default).1.key) ∧ wx.cell? ⟨g, off + k * 2 + 1, none⟩ = some (L.getD k default).2) := fun wx hx => by
    obtain ⟨g', off', eg, _, h1, h2⟩ := HLk.out wx hx k hlt
    cases eg
    exact ⟨h1, h2⟩
   have hgl := HLl.out.2 k hlt
   have hmem : L.getD k default ∈ L := getD_mem L k (by rw [HN.out]; exact hlt)
   have HDk : Hid (L.drop k = L.getD k default :: L.drop (k + 1)) := by
    unfold Hid
    rw [List.drop_eq_getElem_cons (by rw [HN.out]; exact hlt), getD_at L k (by rw [HN.out]; exact hlt)]
   have HOx : Hid (∀ wx, Below w.heap.size w wx → Owns wx base 90 2 (L.getD k default).2 (ptR (L.getD k default).1.pts)) := fun wx hx => (HS.out.2.1 _ hmem).on hx
   have HXl := HL2.out _ hmem
   have HPWd : Hid (∀ r ∈ L.drop (k + 1), Apart (L.getD k default).2 r.2) := by
    have h1 : (L.drop k).Pairwise fun a b => Apart a.2 b.2 := List.Pairwise.sublist (List.drop_sublist k _) HS.out.2.2
    rw [HDk.out] at h1
    exact (List.pairwise_cons.1 h1).1
   generalize hx : L.getD k default = x at *
   obtain ⟨⟨xkey, xpts⟩, xu⟩ := x
   simp only at e0 e1 HLk1 HOx HXl HPWd
   obtain ⟨Ax, cx, rfl, _⟩ := pt_look ((HOx.out wr BW.out).lies)
   have HAx : Hid (∀ q ∈ M, Apart q.2 (.slice Ax xpts.length cx)) := fun q hq => AP.out q hq ((⟨xkey, xpts⟩ : Ser), Value.slice Ax xpts.length cx) (by rw [HDk.out]; simp)
   have HAr : Hid (∀ q ∈ M, ∀ r ∈ L.drop (k + 1), Apart q.2 r.2) := fun q hq r hr => AP.out q hq r (by rw [HDk.out]; simp [hr])
   have HGl : Hid (l.getD k default = ⟨xkey, xpts⟩) := hgl
   have hkl : k < l.length := by rw [HLl.out.1]; exact hlt
   clear hx hmem hgl hg
   have HXL : Hid (xpts.length ≤ 200) := HXl
   clear HXl
   generalize hxl : xpts.length = xl at *
   have HXl : Hid (xpts.length = xl) := hxl
   clear hxl
   cases put
   ·by_cases ha : ahd key xkey = true
    ·have HI1 : Hid (IntoS l key p (k + 1) (M.map Prod.fst ++ [⟨key, p⟩] ++ [⟨xkey, xpts⟩]) true) := by
      have := IntoS.ins HI.out.1 hkl HR.out (by rw [HGl.out]; exact ha)
      rw [HGl.out] at this
      exact this
     have hne : xkey ≠ key := fun e => by rw [e, ahd_irrefl] at ha; cases ha
     have l1 : Op.bytesLess key.toList xkey.toList = true := ha
     have l2 : (xkey.toList == key.toList) = false := (beq_eq_false_iff_ne).2 (fun e => hne (toList_inj e))
     clear ha hne
     obtain ⟨Y1, hY1⟩ : ∃ Y, Y = wr.alloc (.cells #[] 90) := ⟨_, rfl⟩
     have OY1 : Hid (Owns Y1 wr.heap.size 90 2 (.slice (some ⟨wr.heap.size, 0, none⟩) 0 0) []) := by unfold Hid; rw [hY1]; exact Owns.empty wr wr.heap.size 90 2 (Nat.le_refl _)
     have bY : Hid (Below wr.heap.size wr Y1) := by unfold Hid; rw [hY1]; exact (Below.refl _ _).alloc (Nat.le_refl _) _
     have BY : Hid (Below w.heap.size w Y1) := BW.out.trans (bY.out.mono BW.out.size)
     have LY : Hid (([] : List (List Value)).length + (ptR p).length ≤ 2097152) := by have := HP2.out; have := HPl.out; unfold Hid; rw [ptR_length]; simp; omega
     have LPY : Hid (Lies Y1 B 2 (.slice Ap pl cp) (ptR p)) := HP.out.on (BY.out.mono HB.out)
     have ZY : wr.heap.size ≤ Y1.heap.size := bY.out.size
     rw [hY1] at OY1 LPY ZY
     go_wp2_with (at_builtin; refine wpList_append_all rfl (.tmp 31) (.tmp 32) 48 90 (.agg #[.int .i64 0, .int .i64 0]) 2 16 rfl Tryz.underlying48 Tryz.infoPt rfl (by omega) wr.heap.size _ _ [] (ptR p) B rfl OY1.out LPY.out (pt_one p) rfl LY.out (by omega) ZY ?_; intro v' Y2 hO2 hb2 hk2 hw2; obtain ⟨A2, n2, c2, rfl⟩ := hO2.shape; refine Shut.out ?_)
     unfold Shut
     have b2 : Hid (Below wr.heap.size wr Y2) := by
      have h := hb2
      rw [← hY1] at h
      exact bY.out.trans h
     have OQ : Hid (Owns Y2 wr.heap.size 90 2 (.slice A2 n2 c2) (ptR p)) := hO2
     have OR0 : Hid (Owns Y2 w.heap.size 98 2 (.slice A7 n7 c7) (srR M)) := OR.out.on b2.out
     have OP0 : Hid (∀ q ∈ M, Owns Y2 base 90 2 q.2 (ptR q.1.pts)) := fun q hq => (OP.out q hq).on b2.out
     have BW0 : Hid (Below w.heap.size w Y2) := BW.out.trans (b2.out.mono BW.out.size)
     have AQ : Hid (∀ q ∈ M, Apart q.2 (.slice A2 n2 c2)) := fun q hq gg h1 h2 => by
      have := ((OP.out q hq).lt gg h1).2
      have := (OQ.out.lt gg h2).1
      omega
     have AQr : Hid (∀ (u : Value) (r : List Pnt), Owns w base 90 2 u (ptR r) → Apart (.slice A2 n2 c2) u) := fun u r hu gg h1 h2 => by
      have := (OQ.out.lt gg h1).1
      have := (hu.lt gg h2).2
      have := BW.out.size
      omega
     have HZ9 : Hid (base ≤ wr.heap.size) := Nat.le_trans HBs.out BW.out.size
     clear hO2 hb2 hk2 hw2 OY1 LPY hY1 bY BY LY ZY OR OP BW e0 e1
     have OR : Hid (Owns Y2 w.heap.size 98 2 (.slice A7 n7 c7) (srR M)) := OR0.out
     have OP : Hid (∀ q ∈ M, Owns Y2 base 90 2 q.2 (ptR q.1.pts)) := OP0.out
     have BW : Hid (Below w.heap.size w Y2) := BW0.out
     have OQb : Hid (Owns Y2 base 90 2 (.slice A2 n2 c2) (ptR p)) := OQ.out.mono HZ9.out
     clear OR0 OP0 BW0
     have Lr : Hid ((srR M).length ≤ 2097152) := by have := LM.out; unfold Hid; rw [srR_length]; omega
     have Zr : w.heap.size ≤ Y2.heap.size := BW.out.size
     go_wp2_with (at_builtin; refine wpList_append_row rfl (.tmp 29) (.tmp 35) 33 98 (.agg #[.string ⟨#[]⟩, .slice none 0 0]) 2 40 rfl Tryz.underlying33 Tryz.infoSr rfl (by omega) w.heap.size _ (srR M) rfl OR.out [.string key, .slice A2 n2 c2] rfl (sr_cells key rfl) rfl Lr.out (by omega) Zr ?_; intro v' Y3 hO5 hb5 hk5 hw5; obtain ⟨A8, n8, c8, rfl⟩ := hO5.shape; refine Shut.out ?_)
     unfold Shut
     have hne5 : ∀ (v : Value) (b : Nat) (e : TypeId) (sz : Nat) (r : List (List Value)), Owns Y2 b e sz v r → e ≠ 98 → Owns Y3 b e sz v r := fun v b e sz r ho hne => ho.kept fun gg hg hv => hk5 gg hg (fun hu => ho.apartT OR.out hne gg hv hu)
     have M1 : Hid (Owns Y3 w.heap.size 98 2 (.slice A8 n8 c8) (srR (M ++ [(⟨key, p⟩, .slice A2 n2 c2)]))) := by unfold Hid; rw [srR_append]; exact hO5
     have P1 : Hid (∀ q ∈ M ++ [((⟨key, p⟩ : Ser), Value.slice A2 n2 c2)], Owns Y3 base 90 2 q.2 (ptR q.1.pts)) := fun q hq => by
      rcases List.mem_append.1 hq with hq | hq
      ·exact hne5 _ _ _ _ _ (OP.out q hq) (by decide)
      ·rw [List.mem_singleton.1 hq]; exact hne5 _ _ _ _ _ OQb.out (by decide)
     have W1 : Hid ((M ++ [((⟨key, p⟩ : Ser), Value.slice A2 n2 c2)]).Pairwise fun a b => Apart a.2 b.2) := List.pairwise_append.2 ⟨PW.out, List.pairwise_singleton _ _, fun a ha b hb => by rw [List.mem_singleton.1 hb]; exact AQ.out a ha⟩
     have Q1 : Hid (∀ q ∈ M ++ [((⟨key, p⟩ : Ser), Value.slice A2 n2 c2)], Apart q.2 (.slice Ax xl cx) ∧ ∀ r ∈ L.drop (k + 1), Apart q.2 r.2) := fun q hq => by
      rcases List.mem_append.1 hq with hq | hq
      ·exact ⟨HAx.out q hq, HAr.out q hq⟩
      ·rw [List.mem_singleton.1 hq]
       exact ⟨AQr.out _ _ (HOx.out w (Below.refl _ _)), fun r hr => AQr.out _ _ (HS.out.2.1 r (List.mem_of_mem_drop hr))⟩
     have BW3 : Hid (Below w.heap.size w Y3) := BW.out.trans hb5
     have LM3 : Hid ((M ++ [((⟨key, p⟩ : Ser), Value.slice A2 n2 c2)]).length ≤ k + 1) := by
      rcases HI.out.1 with ⟨_, h, _⟩ | ⟨h, _⟩
      ·have := congrArg List.length h
       rw [List.length_map, List.length_take] at this
       unfold Hid
       rw [List.length_append, List.length_singleton]
       omega
      ·cases h
     clear hO5 hb5 hk5 hw5 hne5 OR OP BW OQ OQb AQ AQr PW Lr Zr
     obtain ⟨e0, e1⟩ := HLk1.out Y3 BW3.out
     generalize hM1 : M ++ [((⟨key, p⟩ : Ser), Value.slice A2 n2 c2)] = M' at *
     have HM' : Hid (M'.map Prod.fst = M.map Prod.fst ++ [⟨key, p⟩]) := by unfold Hid; rw [← hM1]; simp
     clear hM1
     obtain ⟨Y6, hY6⟩ : ∃ Y, Y = Y3.alloc (.cells #[.string xkey, .slice Ax xl cx] 98) := ⟨_, rfl⟩
     have K6 : Hid (Blk Y6 Y3.heap.size #[.string xkey, .slice Ax xl cx] 98) := by unfold Hid; rw [hY6]; exact Blk.new Y3 _ _
     have b6 : Hid (Below Y3.heap.size Y3 Y6) := by unfold Hid; rw [hY6]; exact (Below.refl _ _).alloc (Nat.le_refl _) _
     have ORt : Hid (Owns Y6 w.heap.size 98 2 (.slice A8 n8 c8) (srR M')) := M1.out.on b6.out
     have OPt : Hid (∀ q ∈ M', Owns Y6 base 90 2 q.2 (ptR q.1.pts)) := fun q hq => (P1.out q hq).on b6.out
     have BWt : Hid (Below w.heap.size w Y6) := BW3.out.trans (b6.out.mono BW3.out.size)
     have OXt : Hid (Owns Y6 base 90 2 (.slice Ax xl cx) (ptR xpts)) := HOx.out Y6 BWt.out
     have Lr : Hid ((srR M').length ≤ 2097152) := by have := LM3.out; unfold Hid; rw [srR_length]; omega
     have Zr : w.heap.size ≤ Y6.heap.size := BWt.out.size
     have k0 := K6.out.cell 0 _ rfl
     have k1 := K6.out.cell 1 _ rfl
     rw [hY6] at ORt Zr k0 k1
     go_wp2_with (at_builtin; refine wpList_append_row rfl (.tmp 50) (.tmp 52) 33 98 (.agg #[.string ⟨#[]⟩, .slice none 0 0]) 2 40 rfl Tryz.underlying33 Tryz.infoSr rfl (by omega) w.heap.size _ (srR M') rfl ORt.out [.string xkey, .slice Ax xl cx] rfl (sr_cells xkey rfl) (by rw [World.size_alloc]; rfl) Lr.out (by omega) Zr ?_; intro v' Y7 hO5 hb5 hk5 hw5; obtain ⟨A9, n9, c9, rfl⟩ := hO5.shape; refine Shut.out ?_)
     unfold Shut
     rw [← hY6] at hb5 hk5 ORt
     clear hY6
     have hne5 : ∀ (v : Value) (b : Nat) (e : TypeId) (sz : Nat) (r : List (List Value)), Owns Y6 b e sz v r → e ≠ 98 → Owns Y7 b e sz v r := fun v b e sz r ho hne => ho.kept fun gg hg hv => hk5 gg hg (fun hu => ho.apartT ORt.out hne gg hv hu)
     have M2 : Hid (Owns Y7 w.heap.size 98 2 (.slice A9 n9 c9) (srR (M' ++ [(⟨xkey, xpts⟩, .slice Ax xl cx)]))) := by unfold Hid; rw [srR_append]; exact hO5
     have P2 : Hid (∀ q ∈ M' ++ [((⟨xkey, xpts⟩ : Ser), Value.slice Ax xl cx)], Owns Y7 base 90 2 q.2 (ptR q.1.pts)) := fun q hq => by
      rcases List.mem_append.1 hq with hq | hq
      ·exact hne5 _ _ _ _ _ (OPt.out q hq) (by decide)
      ·rw [List.mem_singleton.1 hq]; exact hne5 _ _ _ _ _ OXt.out (by decide)
     have W2 : Hid ((M' ++ [((⟨xkey, xpts⟩ : Ser), Value.slice Ax xl cx)]).Pairwise fun a b => Apart a.2 b.2) := List.pairwise_append.2 ⟨W1.out, List.pairwise_singleton _ _, fun a ha b hb => by rw [List.mem_singleton.1 hb]; exact (Q1.out a ha).1⟩
     have Q2 : Hid (∀ q ∈ M' ++ [((⟨xkey, xpts⟩ : Ser), Value.slice Ax xl cx)], ∀ r ∈ L.drop (k + 1), Apart q.2 r.2) := fun q hq r hr => by
      rcases List.mem_append.1 hq with hq | hq
      ·exact (Q1.out q hq).2 r hr
      ·rw [List.mem_singleton.1 hq]; exact HPWd.out r hr
     have B7 : Hid (Below w.heap.size w Y7) := BWt.out.trans hb5
     clear hO5 hb5 hk5 hw5 hne5 k0 k1 K6 b6
     go_wp2_with fail
     go_roundw
     case rel => exact ⟨k + 1, _, true, by omega, by go_num, rfl, ⟨by rw [List.map_append, HM'.out]; exact HI1.out, by have := LM3.out; simp; omega⟩, M2.out, P2.out, W2.out, Q2.out, B7.out⟩
     case measure => simp [intOf]; omega
    ·have hb : ahd key xkey = false := by simpa using ha
     have l1 : Op.bytesLess key.toList xkey.toList = false := hb
     by_cases hne : xkey = key
     ·subst hne
      have HI1 : Hid (IntoS l xkey p (k + 1) (M.map Prod.fst ++ [⟨xkey, mrg xpts p⟩]) true) := by
       have := IntoS.mrg HI.out.1 hkl HR.out (by rw [HGl.out])
       rw [HGl.out] at this
       exact this
      have l2 : (xkey.toList == xkey.toList) = true := by simp
      clear ha hb
      obtain ⟨Y1, hY1⟩ : ∃ Y, Y = wr.alloc (.cells #[.string xkey, .slice Ax xl cx] 98) := ⟨_, rfl⟩
      have KY : Hid (Blk Y1 wr.heap.size #[.string xkey, .slice Ax xl cx] 98) := by unfold Hid; rw [hY1]; exact Blk.new wr _ _
      have bY : Hid (Below wr.heap.size wr Y1) := by unfold Hid; rw [hY1]; exact (Below.refl _ _).alloc (Nat.le_refl _) _
      have BY : Hid (Below w.heap.size w Y1) := BW.out.trans (bY.out.mono BW.out.size)
      have cM := specMergeL xpts p (.slice Ax xl cx) (.slice Ap pl cp) Y1 Y1.heap.size ((HOx.out Y1 BY.out).lies) ((HP.out.on (BY.out.mono HB.out)).mono (Nat.le_trans HB.out BY.out.size)) (by rw [HXl.out, HPl.out]; have := HXL.out; have := HP2.out; omega) (Nat.le_refl _)
      have HML : Hid ((mrg xpts p).length ≤ 400) := by have := mrg_length p xpts; have := HXL.out; have := HP2.out; have := HXl.out; have := HPl.out; unfold Hid; omega
      go_wp2_with fail
      rw [← hY1]
      clear hY1
      refine cM.mono ?_
      rintro e Y2 ⟨⟨u2, rfl, hO2⟩, hb2⟩
      obtain ⟨A2, n2, c2, rfl⟩ := hO2.shape
      have OQ : Hid (Owns Y2 Y1.heap.size 90 2 (.slice A2 n2 c2) (ptR (mrg xpts p))) := hO2
      have b2 : Hid (Below wr.heap.size wr Y2) := bY.out.trans (hb2.mono bY.out.size)
      have KY2 : Hid (Blk Y2 wr.heap.size #[.string xkey, .slice Ax xl cx] 98) := KY.out.on hb2 KY.out.lt
      clear hO2 hb2 cM
      have m1 : _ = some (Value.slice Ax xl cx) := KY2.out.cell 1 _ rfl
      have f1 := KY2.out.free 1
      obtain ⟨pX, hpX⟩ : ∃ pX, wr.heap.size = pX := ⟨_, rfl⟩
      obtain ⟨Y3, hY3⟩ : ∃ Y3, Y3 = Y2.setCell ⟨pX, 1, none⟩ (.slice A2 n2 c2) := ⟨_, rfl⟩
      have KY3 : Hid (Blk Y3 pX #[.string xkey, .slice A2 n2 c2] 98) := by unfold Hid; rw [hY3, ← hpX]; exact KY2.out.set 1 _
      have kb : Hid (KeptBut pX Y2 Y3) := by unfold Hid; rw [hY3]; exact (KeptBut.refl pX Y2).set 1 _
      have OR0 : Hid (Owns Y3 w.heap.size 98 2 (.slice A7 n7 c7) (srR M)) := kb.out.owns (OR.out.on b2.out) (fun e => by have := (OR.out.lt _ e).2; omega)
      have OP0 : Hid (∀ q ∈ M, Owns Y3 base 90 2 q.2 (ptR q.1.pts)) := fun q hq => kb.out.owns ((OP.out q hq).on b2.out) (fun e => by have := ((OP.out q hq).lt _ e).2; omega)
      have OQ0 : Hid (Owns Y3 Y1.heap.size 90 2 (.slice A2 n2 c2) (ptR (mrg xpts p))) := kb.out.owns OQ.out (fun e => by have := (OQ.out.lt _ e).1; have := KY.out.lt; omega)
      have BW0 : Hid (Below w.heap.size w Y3) := by
       have h1 := BW.out.trans (b2.out.mono BW.out.size)
       unfold Hid
       rw [hY3]
       exact h1.setCell (show w.heap.size ≤ pX by rw [← hpX]; exact BW.out.size) _
      have AQ : Hid (∀ q ∈ M, Apart q.2 (.slice A2 n2 c2)) := fun q hq gg h1 h2 => by
       have := ((OP.out q hq).lt gg h1).2
       have := (OQ.out.lt gg h2).1
       have := bY.out.size
       omega
      have AQr : Hid (∀ (u : Value) (r : List Pnt), Owns w base 90 2 u (ptR r) → Apart (.slice A2 n2 c2) u) := fun u r hu gg h1 h2 => by
       have := (OQ.out.lt gg h1).1
       have := (hu.lt gg h2).2
       have := BW.out.size
       have := bY.out.size
       omega
      have HZ9 : Hid (base ≤ Y1.heap.size) := Nat.le_trans HBs.out BY.out.size
      have k0 := KY3.out.cell 0 _ rfl
      have k1 := KY3.out.cell 1 _ rfl
      rw [hY3] at k0 k1
      clear OR OP BW e0 e1 b2 bY BY KY KY2 OQ
      have OR : Hid (Owns Y3 w.heap.size 98 2 (.slice A7 n7 c7) (srR M)) := OR0.out
      have OP : Hid (∀ q ∈ M, Owns Y3 base 90 2 q.2 (ptR q.1.pts)) := OP0.out
      have BW : Hid (Below w.heap.size w Y3) := BW0.out
      have OQb : Hid (Owns Y3 base 90 2 (.slice A2 n2 c2) (ptR (mrg xpts p))) := OQ0.out.mono HZ9.out
      clear OR0 OP0 BW0 OQ0 HZ9
      rw [hpX] at m1 f1 ⊢
      clear hpX
      have Lr : Hid ((srR M).length ≤ 2097152) := by have := LM.out; unfold Hid; rw [srR_length]; omega
      have Zr : w.heap.size ≤ Y3.heap.size := BW.out.size
      rw [hY3] at OR Zr
      go_wp2_with (at_builtin; refine wpList_append_row rfl (.tmp 50) (.tmp 52) 33 98 (.agg #[.string ⟨#[]⟩, .slice none 0 0]) 2 40 rfl Tryz.underlying33 Tryz.infoSr rfl (by omega) w.heap.size _ (srR M) rfl OR.out [.string xkey, .slice A2 n2 c2] rfl (sr_cells xkey rfl) (by first | rfl | (show Value.slice _ 1 1 = _; simp)) Lr.out (by omega) Zr ?_; intro v' Y4 hO5 hb5 hk5 hw5; obtain ⟨A8, n8, c8, rfl⟩ := hO5.shape; refine Shut.out ?_)
      unfold Shut
      rw [← hY3] at hb5 hk5 OR
      clear hY3
      have hne5 : ∀ (v : Value) (b : Nat) (e : TypeId) (sz : Nat) (r : List (List Value)), Owns Y3 b e sz v r → e ≠ 98 → Owns Y4 b e sz v r := fun v b e sz r ho hne => ho.kept fun gg hg hv => hk5 gg hg (fun hu => ho.apartT OR.out hne gg hv hu)
      have M1 : Hid (Owns Y4 w.heap.size 98 2 (.slice A8 n8 c8) (srR (M ++ [(⟨xkey, mrg xpts p⟩, .slice A2 n2 c2)]))) := by unfold Hid; rw [srR_append]; exact hO5
      have P1 : Hid (∀ q ∈ M ++ [((⟨xkey, mrg xpts p⟩ : Ser), Value.slice A2 n2 c2)], Owns Y4 base 90 2 q.2 (ptR q.1.pts)) := fun q hq => by
       rcases List.mem_append.1 hq with hq | hq
       ·exact hne5 _ _ _ _ _ (OP.out q hq) (by decide)
       ·rw [List.mem_singleton.1 hq]; exact hne5 _ _ _ _ _ OQb.out (by decide)
      have W1 : Hid ((M ++ [((⟨xkey, mrg xpts p⟩ : Ser), Value.slice A2 n2 c2)]).Pairwise fun a b => Apart a.2 b.2) := List.pairwise_append.2 ⟨PW.out, List.pairwise_singleton _ _, fun a ha b hb => by rw [List.mem_singleton.1 hb]; exact AQ.out a ha⟩
      have Q1 : Hid (∀ q ∈ M ++ [((⟨xkey, mrg xpts p⟩ : Ser), Value.slice A2 n2 c2)], ∀ r ∈ L.drop (k + 1), Apart q.2 r.2) := fun q hq r hr => by
       rcases List.mem_append.1 hq with hq | hq
       ·exact HAr.out q hq r hr
       ·rw [List.mem_singleton.1 hq]
        exact AQr.out _ _ (HS.out.2.1 r (List.mem_of_mem_drop hr))
      have BW3 : Hid (Below w.heap.size w Y4) := BW.out.trans hb5
      clear hO5 hb5 hk5 hw5 hne5 k0 k1 m1 f1
      go_wp2_with fail
      go_roundw
      case rel => exact ⟨k + 1, _, true, by omega, by go_num, rfl, ⟨by rw [List.map_append]; exact HI1.out, by have := HI.out.2; simp; omega⟩, M1.out, P1.out, W1.out, Q1.out, BW3.out⟩
      case measure => simp [intOf]; omega
     ·have HI1 : Hid (IntoS l key p (k + 1) (M.map Prod.fst ++ [⟨xkey, xpts⟩]) false) := by
       have := IntoS.pass HI.out.1 hkl (by rw [HGl.out]; exact hb) (by rw [HGl.out]; exact hne)
       rw [HGl.out] at this
       exact this
      have l2 : (xkey.toList == key.toList) = false := (beq_eq_false_iff_ne).2 (fun e => hne (toList_inj e))
      have LM3 : Hid (M.length ≤ k + 1) := HI.out.2
      have Q1 : Hid (∀ q ∈ M, Apart q.2 (.slice Ax xl cx) ∧ ∀ r ∈ L.drop (k + 1), Apart q.2 r.2) := fun q hq => ⟨HAx.out q hq, HAr.out q hq⟩
      clear ha hb hne
      obtain ⟨Y6, hY6⟩ : ∃ Y, Y = wr.alloc (.cells #[.string xkey, .slice Ax xl cx] 98) := ⟨_, rfl⟩
      have K6 : Hid (Blk Y6 wr.heap.size #[.string xkey, .slice Ax xl cx] 98) := by unfold Hid; rw [hY6]; exact Blk.new wr _ _
      have b6 : Hid (Below wr.heap.size wr Y6) := by unfold Hid; rw [hY6]; exact (Below.refl _ _).alloc (Nat.le_refl _) _
      have ORt : Hid (Owns Y6 w.heap.size 98 2 (.slice A7 n7 c7) (srR M)) := OR.out.on b6.out
      have OPt : Hid (∀ q ∈ M, Owns Y6 base 90 2 q.2 (ptR q.1.pts)) := fun q hq => (OP.out q hq).on b6.out
      have BWt : Hid (Below w.heap.size w Y6) := BW.out.trans (b6.out.mono BW.out.size)
      have OXt : Hid (Owns Y6 base 90 2 (.slice Ax xl cx) (ptR xpts)) := HOx.out Y6 BWt.out
      have Lr : Hid ((srR M).length ≤ 2097152) := by have := LM3.out; unfold Hid; rw [srR_length]; omega
      have Zr : w.heap.size ≤ Y6.heap.size := BWt.out.size
      have k0 := K6.out.cell 0 _ rfl
      have k1 := K6.out.cell 1 _ rfl
      rw [hY6] at ORt Zr k0 k1
      go_wp2_with (at_builtin; refine wpList_append_row rfl (.tmp 50) (.tmp 52) 33 98 (.agg #[.string ⟨#[]⟩, .slice none 0 0]) 2 40 rfl Tryz.underlying33 Tryz.infoSr rfl (by omega) w.heap.size _ (srR M) rfl ORt.out [.string xkey, .slice Ax xl cx] rfl (sr_cells xkey rfl) (by rw [World.size_alloc]; rfl) Lr.out (by omega) Zr ?_; intro v' Y7 hO5 hb5 hk5 hw5; obtain ⟨A9, n9, c9, rfl⟩ := hO5.shape; refine Shut.out ?_)
      unfold Shut
      rw [← hY6] at hb5 hk5 ORt
      clear hY6
      have hne5 : ∀ (v : Value) (b : Nat) (e : TypeId) (sz : Nat) (r : List (List Value)), Owns Y6 b e sz v r → e ≠ 98 → Owns Y7 b e sz v r := fun v b e sz r ho hne => ho.kept fun gg hg hv => hk5 gg hg (fun hu => ho.apartT ORt.out hne gg hv hu)
      have M2 : Hid (Owns Y7 w.heap.size 98 2 (.slice A9 n9 c9) (srR (M ++ [(⟨xkey, xpts⟩, .slice Ax xl cx)]))) := by unfold Hid; rw [srR_append]; exact hO5
      have P2 : Hid (∀ q ∈ M ++ [((⟨xkey, xpts⟩ : Ser), Value.slice Ax xl cx)], Owns Y7 base 90 2 q.2 (ptR q.1.pts)) := fun q hq => by
       rcases List.mem_append.1 hq with hq | hq
       ·exact hne5 _ _ _ _ _ (OPt.out q hq) (by decide)
       ·rw [List.mem_singleton.1 hq]; exact hne5 _ _ _ _ _ OXt.out (by decide)
      have W2 : Hid ((M ++ [((⟨xkey, xpts⟩ : Ser), Value.slice Ax xl cx)]).Pairwise fun a b => Apart a.2 b.2) := List.pairwise_append.2 ⟨PW.out, List.pairwise_singleton _ _, fun a ha b hb => by rw [List.mem_singleton.1 hb]; exact (Q1.out a ha).1⟩
      have Q2 : Hid (∀ q ∈ M ++ [((⟨xkey, xpts⟩ : Ser), Value.slice Ax xl cx)], ∀ r ∈ L.drop (k + 1), Apart q.2 r.2) := fun q hq r hr => by
       rcases List.mem_append.1 hq with hq | hq
       ·exact (Q1.out q hq).2 r hr
       ·rw [List.mem_singleton.1 hq]; exact HPWd.out r hr
      have B7 : Hid (Below w.heap.size w Y7) := BWt.out.trans hb5
      clear hO5 hb5 hk5 hw5 hne5 k0 k1 K6 b6
      go_wp2_with fail
      go_roundw
      case rel => exact ⟨k + 1, _, false, by omega, by go_num, rfl, ⟨by rw [List.map_append]; exact HI1.out, by have := LM3.out; simp; omega⟩, M2.out, P2.out, W2.out, Q2.out, B7.out⟩
      case measure => simp [intOf]; omega
   ·obtain ⟨hne, hi1⟩ := IntoS.more HI.out.1 hkl
    rw [HGl.out] at hne hi1
    have HI1 : Hid (IntoS l key p (k + 1) (M.map Prod.fst ++ [⟨xkey, xpts⟩]) true) := hi1
    have l2 : (xkey.toList == key.toList) = false := (beq_eq_false_iff_ne).2 (fun e => hne (toList_inj e))
    have LM3 : Hid (M.length ≤ k + 1) := HI.out.2
    have Q1 : Hid (∀ q ∈ M, Apart q.2 (.slice Ax xl cx) ∧ ∀ r ∈ L.drop (k + 1), Apart q.2 r.2) := fun q hq => ⟨HAx.out q hq, HAr.out q hq⟩
    clear hne hi1
    obtain ⟨Y6, hY6⟩ : ∃ Y, Y = wr.alloc (.cells #[.string xkey, .slice Ax xl cx] 98) := ⟨_, rfl⟩
    have K6 : Hid (Blk Y6 wr.heap.size #[.string xkey, .slice Ax xl cx] 98) := by unfold Hid; rw [hY6]; exact Blk.new wr _ _
    have b6 : Hid (Below wr.heap.size wr Y6) := by unfold Hid; rw [hY6]; exact (Below.refl _ _).alloc (Nat.le_refl _) _
    have ORt : Hid (Owns Y6 w.heap.size 98 2 (.slice A7 n7 c7) (srR M)) := OR.out.on b6.out
    have OPt : Hid (∀ q ∈ M, Owns Y6 base 90 2 q.2 (ptR q.1.pts)) := fun q hq => (OP.out q hq).on b6.out
    have BWt : Hid (Below w.heap.size w Y6) := BW.out.trans (b6.out.mono BW.out.size)
    have OXt : Hid (Owns Y6 base 90 2 (.slice Ax xl cx) (ptR xpts)) := HOx.out Y6 BWt.out
    have Lr : Hid ((srR M).length ≤ 2097152) := by have := LM3.out; unfold Hid; rw [srR_length]; omega
    have Zr : w.heap.size ≤ Y6.heap.size := BWt.out.size
    have k0 := K6.out.cell 0 _ rfl
    have k1 := K6.out.cell 1 _ rfl
    rw [hY6] at ORt Zr k0 k1
    go_wp2_with (at_builtin; refine wpList_append_row rfl (.tmp 50) (.tmp 52) 33 98 (.agg #[.string ⟨#[]⟩, .slice none 0 0]) 2 40 rfl Tryz.underlying33 Tryz.infoSr rfl (by omega) w.heap.size _ (srR M) rfl ORt.out [.string xkey, .slice Ax xl cx] rfl (sr_cells xkey rfl) (by rw [World.size_alloc]; rfl) Lr.out (by omega) Zr ?_; intro v' Y7 hO5 hb5 hk5 hw5; obtain ⟨A9, n9, c9, rfl⟩ := hO5.shape; refine Shut.out ?_)
    unfold Shut
    rw [← hY6] at hb5 hk5 ORt
    clear hY6
    have hne5 : ∀ (v : Value) (b : Nat) (e : TypeId) (sz : Nat) (r : List (List Value)), Owns Y6 b e sz v r → e ≠ 98 → Owns Y7 b e sz v r := fun v b e sz r ho hne => ho.kept fun gg hg hv => hk5 gg hg (fun hu => ho.apartT ORt.out hne gg hv hu)
    have M2 : Hid (Owns Y7 w.heap.size 98 2 (.slice A9 n9 c9) (srR (M ++ [(⟨xkey, xpts⟩, .slice Ax xl cx)]))) := by unfold Hid; rw [srR_append]; exact hO5
    have P2 : Hid (∀ q ∈ M ++ [((⟨xkey, xpts⟩ : Ser), Value.slice Ax xl cx)], Owns Y7 base 90 2 q.2 (ptR q.1.pts)) := fun q hq => by
     rcases List.mem_append.1 hq with hq | hq
     ·exact hne5 _ _ _ _ _ (OPt.out q hq) (by decide)
     ·rw [List.mem_singleton.1 hq]; exact hne5 _ _ _ _ _ OXt.out (by decide)
    have W2 : Hid ((M ++ [((⟨xkey, xpts⟩ : Ser), Value.slice Ax xl cx)]).Pairwise fun a b => Apart a.2 b.2) := List.pairwise_append.2 ⟨PW.out, List.pairwise_singleton _ _, fun a ha b hb => by rw [List.mem_singleton.1 hb]; exact (Q1.out a ha).1⟩
    have Q2 : Hid (∀ q ∈ M ++ [((⟨xkey, xpts⟩ : Ser), Value.slice Ax xl cx)], ∀ r ∈ L.drop (k + 1), Apart q.2 r.2) := fun q hq r hr => by
     rcases List.mem_append.1 hq with hq | hq
     ·exact (Q1.out q hq).2 r hr
     ·rw [List.mem_singleton.1 hq]; exact HPWd.out r hr
    have B7 : Hid (Below w.heap.size w Y7) := BWt.out.trans hb5
    clear hO5 hb5 hk5 hw5 hne5 k0 k1 K6 b6
    go_wp2_with fail
    go_roundw
    case rel => exact ⟨k + 1, _, true, by omega, by go_num, rfl, ⟨by rw [List.map_append]; exact HI1.out, by have := LM3.out; simp; omega⟩, M2.out, P2.out, W2.out, Q2.out, B7.out⟩
    case measure => simp [intOf]; omega
  ·obtain rfl : n = k := by omega
   have hi := HI.out.1
   rw [← HLl.out.1] at hi
   cases put
   ·have HF : Hid ((M ++ [((⟨key, p⟩ : Ser), (default : Value))]).map Prod.fst = intoR l key p) := by unfold Hid; rw [List.map_append]; exact hi.endF
    clear hi
    obtain ⟨Y1, hY1⟩ : ∃ Y, Y = wr.alloc (.cells #[] 90) := ⟨_, rfl⟩
    have OY1 : Hid (Owns Y1 wr.heap.size 90 2 (.slice (some ⟨wr.heap.size, 0, none⟩) 0 0) []) := by unfold Hid; rw [hY1]; exact Owns.empty wr wr.heap.size 90 2 (Nat.le_refl _)
    have bY : Hid (Below wr.heap.size wr Y1) := by unfold Hid; rw [hY1]; exact (Below.refl _ _).alloc (Nat.le_refl _) _
    have BY : Hid (Below w.heap.size w Y1) := BW.out.trans (bY.out.mono BW.out.size)
    have LY : Hid (([] : List (List Value)).length + (ptR p).length ≤ 2097152) := by have := HP2.out; have := HPl.out; unfold Hid; rw [ptR_length]; simp; omega
    have LPY : Hid (Lies Y1 B 2 (.slice Ap pl cp) (ptR p)) := HP.out.on (BY.out.mono HB.out)
    have ZY : wr.heap.size ≤ Y1.heap.size := bY.out.size
    rw [hY1] at OY1 LPY ZY
    go_wp2_with (at_builtin; refine wpList_append_all rfl (.tmp 58) (.tmp 59) 48 90 (.agg #[.int .i64 0, .int .i64 0]) 2 16 rfl Tryz.underlying48 Tryz.infoPt rfl (by omega) wr.heap.size _ _ [] (ptR p) B rfl OY1.out LPY.out (pt_one p) rfl LY.out (by omega) ZY ?_; intro v' Y2 hO2 hb2 hk2 hw2; obtain ⟨A2, n2, c2, rfl⟩ := hO2.shape; refine Shut.out ?_)
    unfold Shut
    have b2 : Hid (Below wr.heap.size wr Y2) := by
     have h := hb2
     rw [← hY1] at h
     exact bY.out.trans h
    have OQ : Hid (Owns Y2 wr.heap.size 90 2 (.slice A2 n2 c2) (ptR p)) := hO2
    have OR0 : Hid (Owns Y2 w.heap.size 98 2 (.slice A7 n7 c7) (srR M)) := OR.out.on b2.out
    have OP0 : Hid (∀ q ∈ M, Owns Y2 base 90 2 q.2 (ptR q.1.pts)) := fun q hq => (OP.out q hq).on b2.out
    have BW0 : Hid (Below w.heap.size w Y2) := BW.out.trans (b2.out.mono BW.out.size)
    have AQ : Hid (∀ q ∈ M, Apart q.2 (.slice A2 n2 c2)) := fun q hq gg h1 h2 => by
     have := ((OP.out q hq).lt gg h1).2
     have := (OQ.out.lt gg h2).1
     omega
    have HZ9 : Hid (base ≤ wr.heap.size) := Nat.le_trans HBs.out BW.out.size
    clear hO2 hb2 hk2 hw2 OY1 LPY hY1 bY BY LY ZY OR OP BW
    have OR : Hid (Owns Y2 w.heap.size 98 2 (.slice A7 n7 c7) (srR M)) := OR0.out
    have OP : Hid (∀ q ∈ M, Owns Y2 base 90 2 q.2 (ptR q.1.pts)) := OP0.out
    have BW : Hid (Below w.heap.size w Y2) := BW0.out
    have OQb : Hid (Owns Y2 base 90 2 (.slice A2 n2 c2) (ptR p)) := OQ.out.mono HZ9.out
    clear OR0 OP0 BW0
    have Lr : Hid ((srR M).length ≤ 2097152) := by have := LM.out; unfold Hid; rw [srR_length]; omega
    have Zr : w.heap.size ≤ Y2.heap.size := BW.out.size
    go_wp2_with (at_builtin; refine wpList_append_row rfl (.tmp 56) (.tmp 62) 33 98 (.agg #[.string ⟨#[]⟩, .slice none 0 0]) 2 40 rfl Tryz.underlying33 Tryz.infoSr rfl (by omega) w.heap.size _ (srR M) rfl OR.out [.string key, .slice A2 n2 c2] rfl (sr_cells key rfl) rfl Lr.out (by omega) Zr ?_; intro v' Y3 hO5 hb5 hk5 hw5; obtain ⟨A8, n8, c8, rfl⟩ := hO5.shape; refine Shut.out ?_)
    unfold Shut
    have hne5 : ∀ (v : Value) (b : Nat) (e : TypeId) (sz : Nat) (r : List (List Value)), Owns Y2 b e sz v r → e ≠ 98 → Owns Y3 b e sz v r := fun v b e sz r ho hne => ho.kept fun gg hg hv => hk5 gg hg (fun hu => ho.apartT OR.out hne gg hv hu)
    have M1 : Hid (Owns Y3 w.heap.size 98 2 (.slice A8 n8 c8) (srR (M ++ [(⟨key, p⟩, .slice A2 n2 c2)]))) := by unfold Hid; rw [srR_append]; exact hO5
    have P1 : Hid (∀ q ∈ M ++ [((⟨key, p⟩ : Ser), Value.slice A2 n2 c2)], Owns Y3 base 90 2 q.2 (ptR q.1.pts)) := fun q hq => by
     rcases List.mem_append.1 hq with hq | hq
     ·exact hne5 _ _ _ _ _ (OP.out q hq) (by decide)
     ·rw [List.mem_singleton.1 hq]; exact hne5 _ _ _ _ _ OQb.out (by decide)
    have W1 : Hid ((M ++ [((⟨key, p⟩ : Ser), Value.slice A2 n2 c2)]).Pairwise fun a b => Apart a.2 b.2) := List.pairwise_append.2 ⟨PW.out, List.pairwise_singleton _ _, fun a ha b hb => by rw [List.mem_singleton.1 hb]; exact AQ.out a ha⟩
    have BW3 : Hid (Below w.heap.size w Y3) := BW.out.trans hb5
    have HF2 : Hid ((M ++ [((⟨key, p⟩ : Ser), Value.slice A2 n2 c2)]).map Prod.fst = intoR l key p) := by have := HF.out; unfold Hid; rw [List.map_append] at this ⊢; exact this
    clear hO5 hb5 hk5 hw5 hne5
    go_wp2_with fail
    go_ret
    exact ⟨⟨_, _, rfl, HF2.out, M1.out.mono HBs.out, P1.out, W1.out⟩, BW3.out⟩
   ·have HF : Hid (M.map Prod.fst = intoR l key p) := hi.endT
    clear hi
    go_wp2_with fail
    go_ret
    exact ⟨⟨_, M, rfl, HF.out, OR.out.mono HBs.out, OP.out, PW.out⟩, BW.out⟩
end Go.Proofs.YtikknmoeefipmaaGreatDoor
namespace Go.Proofs.YtikknmoeefipmaaGreatDoor
open Go.ChangeShapes Go.WideShapes Go.ChangeAt Go.RowKit Go.PlainAid
set_option linter.unusedVariables false
noncomputable instance (e : Eng) : Decidable (EOk e) := Classical.propDecidable _
def COk (c : List Ser) : Prop := c.length ≤ 10 ∧ ∀ x ∈ c, x.pts.length ≤ 200 ∧ Rising x.pts ∧ (∀ p ∈ x.pts, inB p) ∧ x.key.size ≤ 1000
theorem SOk.col {c : List Ser} (h : SOk c) : COk c := by
 obtain ⟨h1, _, h3⟩ := (SOk_iff c).1 h
 refine ⟨by omega, fun x hx => ?_⟩
 obtain ⟨h4, h5, h6⟩ := (POk_iff _).1 (h3 x hx).2.2
 exact ⟨by omega, h5, h6, by have := (h3 x hx).1.2.1; omega⟩
theorem lays_col {e : Eng} (hc : COk e.cache) (hF : ∀ s ∈ e.files, isF s) : ∀ l ∈ lays e, COk l := fun l hl => by
 rcases List.mem_append.1 hl with h | h
 ·obtain ⟨s, hs, rfl⟩ := List.mem_map.1 h
  exact ((hF s hs).good).2.1.col
 ·rw [List.mem_singleton.1 h]; exact hc
theorem plain_keys {ls : List (List Ser)} {f : Int} (h : ∀ l ∈ ls, COk l) : ∀ x ∈ plainR ls f, x.key.size ≤ maxLen := fun x hx => by
 obtain ⟨l, hl, y, hy, e⟩ := mem_keysL.1 (mem_plainK hx).1
 rw [← e]
 have := ((h l hl).2 y hy).2.2.2
 unfold maxLen
 omega
theorem lays_ok {e : Eng} (hn : e.files.length ≤ 9) (hc : COk e.cache) (hF : ∀ s ∈ e.files, isF s) : LOk (lays e) := by
 have hall := lays_col hc hF
 refine ⟨⟨?_, fun l hl => ⟨(hall l hl).1, fun x hx => ((hall l hl).2 x hx).1⟩⟩, fun l hl x hx => ((hall l hl).2 x hx).2.1, fun l hl x hx => ((hall l hl).2 x hx).2.2.1⟩
 unfold lays laysF
 rw [List.length_append, List.length_map, List.length_singleton]
 omega
theorem plainE_short {e : Eng} (h : LOk (lays e)) : SShort (plainE e) := by
 refine ⟨?_, fun x hx => ?_⟩
 ·have h1 := plainK_len (lays e) e.floor (keysL (lays e))
  have h2 := h.1.keys
  unfold plainE plainR
  omega
 ·rw [(mem_plainK hx).2.1]
  have := h.has_len e.floor x.key
  omega
theorem first_at {x : Ser} (h : 1 ≤ x.pts.length) {w : World} {B n c : Nat} {A : Option Addr} (hu : Lies w B 2 (.slice A n c) (ptR x.pts)) : ∃ g off, A = some ⟨g, off, none⟩ ∧ g < B ∧ n = x.pts.length ∧ w.cell? ⟨g, off, none⟩ = some (.int .i64 (tAt x.pts 0)) := by
 obtain ⟨A', c', e, hl⟩ := pt_look hu
 cases e
 obtain ⟨g, off, e, hg, h1, _⟩ := hl 0 (by omega)
 refine ⟨g, off, e, hg, rfl, ?_⟩
 rw [Nat.zero_mul, Nat.add_zero] at h1
 exact h1
def InOk (e : Eng) : Prop := (0 ≤ e.floor ∧ e.floor ≤ 1099511627776) ∧ SOk e.cache ∧ cntS e.cache ≤ 40 ∧ e.files.length ≤ 4
theorem EOk.inOk {e : Eng} (h : EOk e) : InOk e := ⟨h.1.1, h.1.2.2.1, h.1.2.2.2.1, h.1.2.1⟩
set_option maxHeartbeats 4000000 in
theorem specEngineOk_no (e : Eng) (v : Value) (w : World) (B : Nat) (hv : EngV w B v e) (hs : EShort e) (hB : B ≤ w.heap.size) (hno : ¬ InOk e) :
  Calls Tryz.prog 35 #[v] w fun b w' => b = .returned (.bool false) ∧ Below w.heap.size w w' := by
 obtain ⟨vc, vf, rfl, hc, hl⟩ := hv
 unfold vE
 obtain ⟨Ac, cc, rfl, _⟩ := hc.look
 obtain ⟨A, cap, rfl, _⟩ := st_look hl
 have HV : Hid (EngV w B (vE e.floor (.slice Ac e.cache.length cc) (.slice A e.files.length cap)) e) := ⟨_, _, rfl, hc, hl⟩
 have HC : Hid (SerV w B (.slice Ac e.cache.length cc) e.cache) := hc
 have HB : Hid (B ≤ w.heap.size) := hB
 have HSh : Hid (EShort e) := hs
 obtain ⟨X0, hX0⟩ : ∃ X0, X0 = w.alloc (.cells #[.int .i64 e.floor, .slice Ac e.cache.length cc, .slice A e.files.length cap] 35) := ⟨_, rfl⟩
 have BX : Hid (Below w.heap.size w X0) := by unfold Hid; rw [hX0]; exact (Below.refl _ w).alloc (Nat.le_refl _) _
 have KX : Hid (Blk X0 w.heap.size #[.int .i64 e.floor, .slice Ac e.cache.length cc, .slice A e.files.length cap] 35) := by unfold Hid; rw [hX0]; exact Blk.new w _ _
 have ZB : Hid (B ≤ X0.heap.size) := Nat.le_trans hB BX.out.size
 by_cases hf : 0 ≤ e.floor ∧ e.floor ≤ 1099511627776
 ·have c0 := in_yes e.floor 0 1099511627776 X0 hf.1 hf.2
  have c1 := specSeriesOk e.cache _ X0 B (HC.out.on (BX.out.mono hB)) hs.1 hs.2.1 ZB.out
  by_cases hso : SOk e.cache
  ·rw [decide_eq_true hso] at c1
   have hco := hso.col
   have c2 := fun wx hx => specCount e.cache (.slice Ac e.cache.length cc) wx B hx (by have := hco.1; omega) (fun x hx => by have := (hco.2 x hx).1; omega)
   have qC := cntS_le e.cache (fun x hx => by have := (hco.2 x hx).1; omega) e.cache.length (Nat.le_refl _)
   rw [List.take_length] at qC
   have hcl := hco.1
   have hfl := hs.2.2.1
   have HN : Hid (¬ (cntS e.cache ≤ 40 ∧ e.files.length ≤ 4)) := fun h => hno ⟨hf, hso, h.1, h.2⟩
   clear hno hso hco hs hc hl hB hf
   have k0 := KX.out.cell 0 _ rfl
   have k1 := KX.out.cell 1 _ rfl
   have k2 := KX.out.cell 2 _ rfl
   have q1 : (e.cache.length : Int) ≤ 10 := by omega
   have q2 : (e.files.length : Int) ≤ 1048576 := by omega
   have q3 : (cntS e.cache : Int) ≤ 10000 := by omega
   go_enter Tryz.func35, Tryz.ntmps35
   go_wp2_with fail
   rw [← hX0]
   clear hX0
   refine c0.mono ?_
   rintro b X1 ⟨rfl, rfl⟩
   go_wp2_with fail
   refine c1.mono ?_
   rintro b X1 ⟨rfl, hlk⟩
   have K1 := KX.out.on hlk.below KX.out.lt
   have m1 := K1.cell 1 _ rfl
   have m2 := K1.cell 2 _ rfl
   have B1 : Hid (Below w.heap.size w X1) := BX.out.trans (hlk.below.mono BX.out.size)
   have c3 := c2 X1 (HC.out.on (B1.out.mono HB.out))
   clear hlk c2 c1 K1 k0 k1 k2
   go_wp2_with fail
   refine c3.mono ?_
   rintro b X2 ⟨rfl, rfl⟩
   clear c3
   generalize cntS e.cache = cn at *
   generalize e.files.length = fn at *
   by_cases h4 : 40 < cn
   ·have q5 : (40 : Int) < (cn : Int) := by omega
    go_wp2_with fail
    go_ret
    exact ⟨rfl, B1.out⟩
   ·have q5 : ¬ (40 : Int) < (cn : Int) := by omega
    have q6 : (4 : Int) < (fn : Int) := by have := HN.out; omega
    clear h4
    go_wp2_with fail
    go_ret
    exact ⟨rfl, B1.out⟩
  ·rw [decide_eq_false hso] at c1
   clear hno hso hs hc hl hB hf
   have k0 := KX.out.cell 0 _ rfl
   have k1 := KX.out.cell 1 _ rfl
   go_enter Tryz.func35, Tryz.ntmps35
   go_wp2_with fail
   rw [← hX0]
   clear hX0
   refine c0.mono ?_
   rintro b X1 ⟨rfl, rfl⟩
   go_wp2_with fail
   refine c1.mono ?_
   rintro b X1 ⟨rfl, hlk⟩
   have B1 : Hid (Below w.heap.size w X1) := BX.out.trans (hlk.below.mono BX.out.size)
   clear hlk c1 k0 k1
   go_wp2_with fail
   go_ret
   exact ⟨rfl, B1.out⟩
 ·have c0 := in_no e.floor 0 1099511627776 X0 (by omega)
  clear hno hs hc hl hB hf
  have k0 := KX.out.cell 0 _ rfl
  go_enter Tryz.func35, Tryz.ntmps35
  go_wp2_with fail
  rw [← hX0]
  clear hX0
  refine c0.mono ?_
  rintro b X1 ⟨rfl, rfl⟩
  go_wp2_with fail
  go_ret
  exact ⟨rfl, BX.out⟩
set_option maxHeartbeats 4000000 in
theorem specEngineOk_in (e : Eng) (v : Value) (w : World) (B : Nat) (hv : EngV w B v e) (hs : EShort e) (hB : B ≤ w.heap.size) (hin : InOk e) :
  Calls Tryz.prog 35 #[v] w fun b w' => b = .returned (.bool (decide (EOk e))) ∧ Below w.heap.size w w' := by
 obtain ⟨vc, vf, rfl, hc, hl⟩ := hv
 unfold vE
 obtain ⟨Ac, cc, rfl, _⟩ := hc.look
 obtain ⟨A, cap, rfl, _⟩ := st_look hl
 have HV : Hid (EngV w B (vE e.floor (.slice Ac e.cache.length cc) (.slice A e.files.length cap)) e) := ⟨_, _, rfl, hc, hl⟩
 have HC : Hid (SerV w B (.slice Ac e.cache.length cc) e.cache) := hc
 have HB : Hid (B ≤ w.heap.size) := hB
 have HSh : Hid (EShort e) := hs
 obtain ⟨X0, hX0⟩ : ∃ X0, X0 = w.alloc (.cells #[.int .i64 e.floor, .slice Ac e.cache.length cc, .slice A e.files.length cap] 35) := ⟨_, rfl⟩
 have BX : Hid (Below w.heap.size w X0) := by unfold Hid; rw [hX0]; exact (Below.refl _ w).alloc (Nat.le_refl _) _
 have KX : Hid (Blk X0 w.heap.size #[.int .i64 e.floor, .slice Ac e.cache.length cc, .slice A e.files.length cap] 35) := by unfold Hid; rw [hX0]; exact Blk.new w _ _
 have ZB : Hid (B ≤ X0.heap.size) := Nat.le_trans hB BX.out.size
 obtain ⟨hf, hso, h40, h4⟩ := hin
 have c0 := in_yes e.floor 0 1099511627776 X0 hf.1 hf.2
 have c1 := specSeriesOk e.cache _ X0 B (HC.out.on (BX.out.mono hB)) hs.1 hs.2.1 ZB.out
 rw [decide_eq_true hso] at c1
 have hco := hso.col
 have c2 := fun wx hx => specCount e.cache (.slice Ac e.cache.length cc) wx B hx (by have := hco.1; omega) (fun x hx => by have := (hco.2 x hx).1; omega)
 have HIn : Hid (InOk e) := ⟨hf, hso, h40, h4⟩
 have hcl := hso.1
 have HL : Hid (∀ wx, Below w.heap.size w wx → ∀ j, j < e.cache.length → ∃ g off u, Ac = some ⟨g, off, none⟩ ∧ g < B ∧ wx.cell? ⟨g, off + j * 2, none⟩ = some (.string (e.cache.getD j default).key) ∧ wx.cell? ⟨g, off + j * 2 + 1, none⟩ = some u ∧ Lies wx B 2 u (ptR (e.cache.getD j default).pts)) := fun wx hx => by
  obtain ⟨A', c', e', h⟩ := (HC.out.on (hx.mono HB.out)).look
  cases e'
  exact h
 have HOne : Hid (∀ j, j < e.cache.length → 1 ≤ (e.cache.getD j default).pts.length ∧ (e.cache.getD j default).pts.length ≤ 60) := fun j hj => ⟨(hso.2 j hj).2.1, (hso.2 j hj).2.2.1⟩
 have HBad : Hid (∀ j, j < e.cache.length → tAt (e.cache.getD j default).pts 0 < e.floor → decide (EOk e) = false) := fun j hj h => decide_eq_false fun hok => by
  have := hok.1.2.2.2.2 _ (getD_mem _ j hj)
  omega
 have HGood : Hid ((∀ j, j < e.cache.length → e.floor ≤ tAt (e.cache.getD j default).pts 0) → PreOk e) := fun h => ⟨hf, h4, hso, h40, fun x hx => by
  obtain ⟨j, hj, rfl⟩ := List.getElem_of_mem hx
  rw [getD_at _ j hj]
  exact h j hj⟩
 have k0 := KX.out.cell 0 _ rfl
 have k1 := KX.out.cell 1 _ rfl
 have k2 := KX.out.cell 2 _ rfl
 have q1 : (e.cache.length : Int) ≤ 5 := by omega
 have q2 : (e.files.length : Int) ≤ 4 := by omega
 have q3 : (cntS e.cache : Int) ≤ 40 := by omega
 clear hso hco hs hc hl hB hf h40 h4
 go_enter Tryz.func35, Tryz.ntmps35
 go_wp2_with fail
 rw [← hX0]
 clear hX0
 refine c0.mono ?_
 rintro b X1 ⟨rfl, rfl⟩
 go_wp2_with fail
 refine c1.mono ?_
 rintro b X1 ⟨rfl, hlk⟩
 have K1 := KX.out.on hlk.below KX.out.lt
 have HK1 : Hid (Blk X1 w.heap.size #[.int .i64 e.floor, .slice Ac e.cache.length cc, .slice A e.files.length cap] 35) := K1
 have m0 := K1.cell 0 _ rfl
 have m1 := K1.cell 1 _ rfl
 have m2 := K1.cell 2 _ rfl
 have B1 : Hid (Below w.heap.size w X1) := BX.out.trans (hlk.below.mono BX.out.size)
 have c3 := c2 X1 (HC.out.on (B1.out.mono HB.out))
 clear hlk c2 c1 K1 k0 k1 k2
 go_wp2_with fail
 refine c3.mono ?_
 rintro b X2 ⟨rfl, rfl⟩
 clear c3
 generalize hcn : cntS e.cache = cn at *
 clear hcn
 generalize hfn : e.files.length = fn at *
 have HFN : Hid (e.files.length = fn) := hfn
 clear hfn
 generalize hn : e.cache.length = n at *
 have HCN : Hid (e.cache.length = n) := hn
 clear hn
 have q5 : ¬ (40 : Int) < (cn : Int) := by omega
 have q6 : ¬ (4 : Int) < (fn : Int) := by omega
 generalize hfl : e.floor = f at *
 have HFl : Hid (e.floor = f) := hfl
 clear hfl
 go_wp2_with fail
 go_loopw [3] (fun v3 wr => ∃ i : Nat, i ≤ n ∧ v3 = .int .i64 (i : Int) ∧ Hid (∀ j, j < i → f ≤ tAt (e.cache.getD j default).pts 0) ∧ Like X1 wr) (fun i _ => n - (intOf i).toNat)
 case atStart => exact ⟨0, by omega, rfl, fun j hj => by omega, Like.refl _⟩
 case round =>
  obtain ⟨i, hi, rfl, HI, hlk⟩ := hrel
  have HLk : Hid (Like X1 wr) := hlk
  have K2 := HK1.out.on hlk.below HK1.out.lt
  have HK2 : Hid (Blk wr w.heap.size #[.int .i64 f, .slice Ac n cc, .slice A fn cap] 35) := K2
  have n0 := K2.cell 0 _ rfl
  have n1 := K2.cell 1 _ rfl
  have n2 := K2.cell 2 _ rfl
  have B2 : Hid (Below w.heap.size w wr) := B1.out.trans (hlk.below.mono B1.out.size)
  clear hlk K2 m0 m1 m2
  by_cases hlt : i < n
  ·have q4 : (i : Int) < (n : Int) := by omega
   obtain ⟨g, off, u, rfl, hg, e1, e2, hu⟩ := HL.out wr B2.out i hlt
   obtain ⟨A5, n5, c5, rfl⟩ : ∃ A5 n5 c5, u = .slice A5 n5 c5 := by obtain ⟨A5, c5, e, _⟩ := hu; exact ⟨_, _, _, e⟩
   obtain ⟨g5, o5, rfl, hg5, hn5, e5⟩ := first_at (HOne.out i hlt).1 hu
   have q7 := HOne.out i hlt
   rw [← hn5] at q7
   have q8 : (0 : Int) < (n5 : Int) := by omega
   have q9 : (n5 : Int) ≤ 60 := by omega
   have HBi : Hid (tAt (e.cache.getD i default).pts 0 < f → decide (EOk e) = false) := HBad.out i hlt
   have HIn2 : Hid (f ≤ tAt (e.cache.getD i default).pts 0 → ∀ j, j < i + 1 → f ≤ tAt (e.cache.getD j default).pts 0) := fun h j hj => by
    by_cases e : j = i
    ·rw [e]; exact h
    ·exact HI.out j (by omega)
   clear hu hn5 q7 e1
   generalize tAt (e.cache.getD i default).pts 0 = t at *
   have HF : ∀ wx : World, Like X1 wx → wx.cell? ⟨w.heap.size, 1, none⟩ = some (.slice (some ⟨g, off, none⟩) n cc) ∧ wx.cell? ⟨w.heap.size, 0, none⟩ = some (.int .i64 f) ∧ wx.cell? ⟨g, off + i * 2 + 1, none⟩ = some (.slice (some ⟨g5, o5, none⟩) n5 c5) ∧ wx.cell? ⟨g5, o5, none⟩ = some (.int .i64 t) := fun wx hx => by
    have hh : wx.heap = wr.heap := hx.1.trans HLk.out.1.symm
    rw [cell?_heap hh, cell?_heap hh, cell?_heap hh, cell?_heap hh]
    exact ⟨n1, n0, e2, e5⟩
   by_cases hlow : t < f
   ·have HD : Hid (decide (EOk e) = false) := HBi.out hlow
    clear HF
    go_wp2_with fail
    go_quiet (fail)
    go_wp2_with fail
    go_ret
    exact ⟨by rw [HD.out]; rfl, B2.out.trans ((below_drewN wr nq).mono B2.out.size)⟩
   ·have q10 : f ≤ t := by omega
    have HI2 : Hid (∀ j, j < i + 1 → f ≤ tAt (e.cache.getD j default).pts 0) := HIn2.out q10
    clear HF
    go_wp2_with fail
    go_quiet (fail)
    go_wp2_with fail
    go_roundw
    case rel => exact ⟨i + 1, by omega, by go_num, HI2, HLk.out.drewN _⟩
    case measure => simp [intOf]; omega
  ·obtain rfl : i = n := by omega
   have HPre : Hid (PreOk e) := HGood.out HI.out
   have c4 := specLayers e _ wr B (HV.out.on (B2.out.mono HB.out)) (by have := HPre.out.2.1; omega) HSh.out.2.2.2 (Nat.le_trans HB.out B2.out.size)
   unfold vE at c4
   go_wp2_with fail
   refine c4.mono ?_
   rintro b X3 ⟨⟨u, ok, rfl, hA⟩, hb3⟩
   have HA : Hid ((ok = true ∧ (∀ s ∈ e.files, isF s) ∧ LayV X3 X3.heap.size u (lays e)) ∨ (ok = false ∧ ∃ s ∈ e.files, ¬ isF s)) := hA
   have K3 := HK2.out.on hb3 HK2.out.lt
   have p0 := K3.cell 0 _ rfl
   have B3 : Hid (Below w.heap.size w X3) := B2.out.trans (hb3.mono B2.out.size)
   clear hA hb3 c4 n0 n1 n2 K3
   rcases HA.out with ⟨rfl, hF, hLv⟩ | ⟨rfl, s, hsm, hsn⟩
   ·have HCol : Hid (∀ l ∈ lays e, COk l) := lays_col HIn.out.2.1.col hF
    have HLok : Hid (LOk (lays e)) := lays_ok (by have := HPre.out.2.1; omega) HIn.out.2.1.col hF
    have c5 := specPlainL (lays e) f u X3 X3.heap.size hLv HLok.out (Nat.le_refl _)
    have HD : Hid (decide (SOk (plainE e)) = decide (EOk e)) := by
     unfold Hid
     rw [decide_eq_decide]
     exact ⟨fun h => ⟨HPre.out, hF, h⟩, fun h => h.2.2⟩
    have HPe : Hid (plainE e = plainR (lays e) f) := by unfold Hid plainE; rw [HFl.out]
    have HShp : Hid (SShort (plainE e)) := plainE_short HLok.out
    obtain ⟨Au, cu, rfl, _⟩ := hLv.look
    clear hF hLv HA
    go_wp2_with fail
    refine c5.mono ?_
    rintro b X4 ⟨⟨u4, L, rfl, hL, hS⟩, hb4⟩
    have B4 : Hid (Below w.heap.size w X4) := B3.out.trans (hb4.mono B3.out.size)
    have c6 := specSeriesOk (plainE e) u4 X4 X4.heap.size (by rw [HPe.out, ← hL]; exact hS.view) HShp.out (by rw [HPe.out]; exact plain_keys HCol.out) (Nat.le_refl _)
    rw [HD.out] at c6
    clear hL hS hb4 c5
    go_wp2_with fail
    refine c6.mono ?_
    rintro b X5 ⟨rfl, hlk⟩
    have B5 : Hid (Below w.heap.size w X5) := B4.out.trans (hlk.below.mono B4.out.size)
    clear hlk c6
    go_wp2_with fail
    go_ret
    exact ⟨rfl, B5.out⟩
   ·have HD : Hid (decide (EOk e) = false) := decide_eq_false fun h => hsn (h.2.1 s hsm)
    clear hsm hsn HA
    go_wp2_with fail
    go_ret
    exact ⟨by rw [HD.out]; rfl, B3.out⟩
theorem specEngineOk (e : Eng) (v : Value) (w : World) (B : Nat) (hv : EngV w B v e) (hs : EShort e) (hB : B ≤ w.heap.size) :
  Calls Tryz.prog 35 #[v] w fun b w' => b = .returned (.bool (decide (EOk e))) ∧ Below w.heap.size w w' := by
 by_cases h : InOk e
 ·exact specEngineOk_in e v w B hv hs hB h
 ·rw [decide_eq_false fun hok : EOk e => h hok.inOk]
  exact specEngineOk_no e v w B hv hs hB h
end Go.Proofs.YtikknmoeefipmaaGreatDoor
