/- RpSpec -/
import Derived.Test.YtdimaoloapbeoaaGreatDoorRows
import Derived.Test.YtdimaoloapbeoaaGreatDoorQv21
import Derived.Test.YtdimaoloapbeoaaGreatDoorQv24
import Derived.Test.YtdimaoloapbeoaaGreatDoorQv20
import Derived.Lib.OwnKind
namespace Go.Proofs.YtdimaoloapbeoaaGreatDoor
open Go.ChangeShapes Go.WideShapes Go.ChangeAt Go.RowKit Go.PlainAid
set_option linter.unusedVariables false
theorem Owns.notBlk {w : World} {base : Nat} {e t : TypeId} {sz g : Nat} {v : Value} {R : List (List Value)} {cs : Array Value} (h : Owns w base e sz v R) (hb : Blk w g cs t) (hne : e ≠ t) : v.ownBlock ≠ some g := by
 intro hg
 obtain ⟨c, fz, e1⟩ := Lib.ownsRow_kind h.2 g hg
 unfold Blk at hb
 rw [e1] at hb
 cases hb
 exact hne rfl
set_option maxRecDepth 20000 in
set_option maxHeartbeats 16000000 in
theorem specReplay (s : ByteArray) (w : World) (hs : s.size ≤ 1048576) :
  Calls Tryz.prog 18 #[.string s] w fun e w' => ∃ K u, Ends s K ∧ e = .returned (.tuple #[u, .int .i64 ((rep (bods s K)).2.1 : Int), .bool (rep (bods s K)).2.2]) ∧ WalO w' w.heap.size u (rep (bods s K)).1 ∧ Below w.heap.size w w' := by
 have HS : Hid (s.size ≤ 1048576) := hs
 have cF := fun wx => spec_frames s wx hs
 clear hs
 go_enter Tryz.func18, Tryz.ntmps18
 go_wp2_with fail
 have b0 : Below w.heap.size w (w.alloc (.cells #[.int .i64 0, .int .i64 0, .int .i64 0, .int .i64 0, .slice none 0 0] 30)) := (Below.refl _ _).alloc (Nat.le_refl _) _
 have k0 := Blk.new w #[.int .i64 0, .int .i64 0, .int .i64 0, .int .i64 0, .slice none 0 0] 30
 generalize w.alloc (.cells #[.int .i64 0, .int .i64 0, .int .i64 0, .int .i64 0, .slice none 0 0] 30) = W at *
 refine (cF W).mono ?_
 rintro e w1 ⟨K, v, hE, rfl, hS, hb1⟩
 have B1 : Hid (Below w.heap.size w w1) := b0.trans (hb1.mono b0.size)
 have R1 : Hid (Blk w1 w.heap.size #[.int .i64 0, .int .i64 0, .int .i64 0, .int .i64 0, .slice none 0 0] 30) := k0.on hb1 k0.lt
 have HE : Hid (Ends s K) := hE
 have hK := hE.1.pos_le
 obtain ⟨A, cap, rfl, hlk⟩ := strs_look hS
 have HSZ : Hid (∀ x ∈ bods s K, x.size ≤ 1048576) := fun x hx => Nat.le_trans (bods_size s K x hx) HS.out
 rw [bods_length] at hlk ⊢
 have HL : Hid (∀ j, j < K → ∃ g, A = some ⟨g, 0, none⟩ ∧ g < w1.heap.size ∧ W.heap.size ≤ g ∧ w1.cell? ⟨g, j, none⟩ = some (.string ((bods s K).getD j default))) := hlk
 have HN : Hid ((bods s K).length = K) := bods_length s K
 have qK : (K : Int) ≤ 200000 := by have := HS.out; omega
 have RL : Hid (w.heap.size < w1.heap.size) := R1.out.lt
 clear hE hS hb1 hlk k0 b0 cF hK
 generalize hbs : bods s K = bs at *
 have HBS : Hid (bods s K = bs) := hbs
 clear hbs
 by_cases h0 : K = 0
 ·subst h0
  obtain rfl : bs = [] := List.eq_nil_of_length_eq_zero HN.out
  have r0 := R1.out.cell 0 (.int .i64 0) rfl
  have f0 := R1.out.free 0
  have r1 := R1.out.cell 1 (.int .i64 0) rfl
  have f1 := R1.out.free 1
  have r2 := R1.out.cell 2 (.int .i64 0) rfl
  have f2 := R1.out.free 2
  have r3 := R1.out.cell 3 (.int .i64 0) rfl
  have f3 := R1.out.free 3
  have r4 := R1.out.cell 4 (.slice none 0 0) rfl
  have f4 := R1.out.free 4
  go_wp2_with fail
  have hF := (((((R1.out.set 0 (.int .i64 0)).set 1 (.int .i64 0)).set 2 (.int .i64 0)).set 3 (.int .i64 0)).set 4 (.slice none 0 0))
  have FB := (((((B1.out.setCell (Nat.le_refl _) (.int .i64 0) (p := ⟨w.heap.size, 0, none⟩)).setCell (Nat.le_refl _) (.int .i64 0) (p := ⟨w.heap.size, 1, none⟩)).setCell (Nat.le_refl _) (.int .i64 0) (p := ⟨w.heap.size, 2, none⟩)).setCell (Nat.le_refl _) (.int .i64 0) (p := ⟨w.heap.size, 3, none⟩)).setCell (Nat.le_refl _) (.slice none 0 0) (p := ⟨w.heap.size, 4, none⟩))
  generalize (((((w1.setCell ⟨w.heap.size, 0, none⟩ (.int .i64 0)).setCell ⟨w.heap.size, 1, none⟩ (.int .i64 0)).setCell ⟨w.heap.size, 2, none⟩ (.int .i64 0)).setCell ⟨w.heap.size, 3, none⟩ (.int .i64 0)).setCell ⟨w.heap.size, 4, none⟩ (.slice none 0 0)) = WF at *
  have hG : Blk WF w.heap.size #[.int .i64 0, .int .i64 0, .int .i64 0, .int .i64 0, .slice none 0 0] 30 := hF
  have mm0 := hG.cell 0 (.int .i64 0) rfl
  have mm1 := hG.cell 1 (.int .i64 0) rfl
  have mm2 := hG.cell 2 (.int .i64 0) rfl
  have mm3 := hG.cell 3 (.int .i64 0) rfl
  have mm4 := hG.cell 4 (.slice none 0 0) rfl
  exact bodyPost_ret (v := .tuple #[.agg #[.int .i64 0, .int .i64 0, .int .i64 0, .int .i64 0, .slice none 0 0], .int .i64 0, .bool false]) (by simp [results, go_sem, mm0, mm1, mm2, mm3, mm4]) rfl ⟨0, _, HE.out, rfl, ⟨_, rfl, Owns.nil _ _ _ _⟩, FB⟩
 have q0 : ((K : Int) == 0) = false := by simpa using h0
 obtain ⟨b, bt, rfl⟩ : ∃ b bt, bs = b :: bt := by
  cases bs with
  | nil => exact absurd HN.out.symm h0
  | cons b bt => exact ⟨b, bt, rfl⟩
 obtain ⟨g, rfl, hg, hWg, hc0⟩ := HL.out 0 (by omega)
 have hb0 : b.size ≤ 1048576 := HSZ.out b (List.mem_cons_self ..)
 have G1 : Hid (g < w1.heap.size) := hg
 have cR := fun wx => ansS b (rd b) wx hb0 (rd_is b)
 replace hc0 : w1.cell? ⟨g, 0, none⟩ = some (.string b) := hc0
 clear hb0 hg hWg
 cases hrd : rd b with
 | none =>
  have hbeg : beg b = none := by unfold beg; rw [hrd]
  rw [hrd] at cR
  simp only [ansV] at cR
  go_wp2_with fail
  refine (cR w1).mono ?_
  rintro e w2 ⟨rfl, hb2⟩
  have B2 : Hid (Below w.heap.size w w2) := B1.out.trans (hb2.mono B1.out.size)
  have R2 : Hid (Blk w2 w.heap.size #[.int .i64 0, .int .i64 0, .int .i64 0, .int .i64 0, .slice none 0 0] 30) := R1.out.on hb2 R1.out.lt
  clear hb2 cR
  have r0 := (R2.out.alloc (.cells #[.int .i64 0, .int .i64 0, .int .i64 0, .int .i64 0, .string ⟨#[]⟩] 102)).cell 0 (.int .i64 0) rfl
  have f0 := (R2.out.alloc (.cells #[.int .i64 0, .int .i64 0, .int .i64 0, .int .i64 0, .string ⟨#[]⟩] 102)).free 0
  have r1 := (R2.out.alloc (.cells #[.int .i64 0, .int .i64 0, .int .i64 0, .int .i64 0, .string ⟨#[]⟩] 102)).cell 1 (.int .i64 0) rfl
  have f1 := (R2.out.alloc (.cells #[.int .i64 0, .int .i64 0, .int .i64 0, .int .i64 0, .string ⟨#[]⟩] 102)).free 1
  have r2 := (R2.out.alloc (.cells #[.int .i64 0, .int .i64 0, .int .i64 0, .int .i64 0, .string ⟨#[]⟩] 102)).cell 2 (.int .i64 0) rfl
  have f2 := (R2.out.alloc (.cells #[.int .i64 0, .int .i64 0, .int .i64 0, .int .i64 0, .string ⟨#[]⟩] 102)).free 2
  have r3 := (R2.out.alloc (.cells #[.int .i64 0, .int .i64 0, .int .i64 0, .int .i64 0, .string ⟨#[]⟩] 102)).cell 3 (.int .i64 0) rfl
  have f3 := (R2.out.alloc (.cells #[.int .i64 0, .int .i64 0, .int .i64 0, .int .i64 0, .string ⟨#[]⟩] 102)).free 3
  have r4 := (R2.out.alloc (.cells #[.int .i64 0, .int .i64 0, .int .i64 0, .int .i64 0, .string ⟨#[]⟩] 102)).cell 4 (.slice none 0 0) rfl
  have f4 := (R2.out.alloc (.cells #[.int .i64 0, .int .i64 0, .int .i64 0, .int .i64 0, .string ⟨#[]⟩] 102)).free 4
  go_wp2_with fail
  have hF := ((((((R2.out.alloc (.cells #[.int .i64 0, .int .i64 0, .int .i64 0, .int .i64 0, .string ⟨#[]⟩] 102)).set 0 (.int .i64 0)).set 1 (.int .i64 0)).set 2 (.int .i64 0)).set 3 (.int .i64 0)).set 4 (.slice none 0 0))
  have FB := ((((((B2.out.alloc B2.out.size (.cells #[.int .i64 0, .int .i64 0, .int .i64 0, .int .i64 0, .string ⟨#[]⟩] 102)).setCell (Nat.le_refl _) (.int .i64 0) (p := ⟨w.heap.size, 0, none⟩)).setCell (Nat.le_refl _) (.int .i64 0) (p := ⟨w.heap.size, 1, none⟩)).setCell (Nat.le_refl _) (.int .i64 0) (p := ⟨w.heap.size, 2, none⟩)).setCell (Nat.le_refl _) (.int .i64 0) (p := ⟨w.heap.size, 3, none⟩)).setCell (Nat.le_refl _) (.slice none 0 0) (p := ⟨w.heap.size, 4, none⟩))
  generalize ((((((w2.alloc (.cells #[.int .i64 0, .int .i64 0, .int .i64 0, .int .i64 0, .string ⟨#[]⟩] 102)).setCell ⟨w.heap.size, 0, none⟩ (.int .i64 0)).setCell ⟨w.heap.size, 1, none⟩ (.int .i64 0)).setCell ⟨w.heap.size, 2, none⟩ (.int .i64 0)).setCell ⟨w.heap.size, 3, none⟩ (.int .i64 0)).setCell ⟨w.heap.size, 4, none⟩ (.slice none 0 0)) = WF at *
  have hG : Blk WF w.heap.size #[.int .i64 0, .int .i64 0, .int .i64 0, .int .i64 0, .slice none 0 0] 30 := hF
  have mm0 := hG.cell 0 (.int .i64 0) rfl
  have mm1 := hG.cell 1 (.int .i64 0) rfl
  have mm2 := hG.cell 2 (.int .i64 0) rfl
  have mm3 := hG.cell 3 (.int .i64 0) rfl
  have mm4 := hG.cell 4 (.slice none 0 0) rfl
  exact bodyPost_ret (v := .tuple #[.agg #[.int .i64 0, .int .i64 0, .int .i64 0, .int .i64 0, .slice none 0 0], .int .i64 0, .bool false]) (by simp [results, go_sem, mm0, mm1, mm2, mm3, mm4]) rfl ⟨K, .agg #[.int .i64 0, .int .i64 0, .int .i64 0, .int .i64 0, .slice none 0 0], HE.out, by rw [HBS.out, rep_none hbeg]; rfl, by rw [HBS.out, rep_none hbeg]; exact ⟨_, rfl, Owns.nil _ _ _ _⟩, FB⟩
 | some q =>
  rw [hrd] at cR
  simp only [ansV, vRcd] at cR
  have hqd : q.data.size ≤ 900 := recOk_data q (rd_ok hrd)
  by_cases hk : q.kind = 4
  ·have hbeg : beg b = some (begW q) := by unfold beg; rw [hrd]; simp only; rw [if_pos hk]
   obtain ⟨qk, qt, qi, qv, qd⟩ := q
   simp only at hk hqd cR
   subst hk
   have HOW : Hid (OnWay (b :: bt) 1 (begW (⟨4, qt, qi, qv, qd⟩ : Rcd)) (8 + b.size)) := OnWay.begin hbeg (HSZ.out b (List.mem_cons_self ..))
   have hbz : b.size ≤ 1048576 := HSZ.out b (List.mem_cons_self ..)
   go_wp2_with fail
   refine (cR w1).mono ?_
   rintro e w2 ⟨rfl, hb2⟩
   have C2 : Below w1.heap.size w1 w2 := hb2
   have KQ := Blk.new w2 #[.int .i64 4, .int .i64 qt, .int .i64 qi, .int .i64 qv, .string qd] 102
   have CQ := C2.alloc C2.size (.cells #[.int .i64 4, .int .i64 qt, .int .i64 qi, .int .i64 qv, .string qd] 102)
   have KX := Blk.new (w2.alloc (.cells #[.int .i64 4, .int .i64 qt, .int .i64 qi, .int .i64 qv, .string qd] 102)) #[.int .i64 qt, .int .i64 (-1), .int .i64 qi, .int .i64 qt, .slice none 0 0] 30
   have KQ2 := KQ.alloc (.cells #[.int .i64 qt, .int .i64 (-1), .int .i64 qi, .int .i64 qt, .slice none 0 0] 30)
   have CX := CQ.alloc CQ.size (.cells #[.int .i64 qt, .int .i64 (-1), .int .i64 qi, .int .i64 qt, .slice none 0 0] 30)
   have hcx : ((w2.alloc (.cells #[.int .i64 4, .int .i64 qt, .int .i64 qi, .int .i64 qv, .string qd] 102)).alloc (.cells #[.int .i64 qt, .int .i64 (-1), .int .i64 qi, .int .i64 qt, .slice none 0 0] 30)).cell? ⟨g, 0, none⟩ = some (.string b) := by rw [CX.cell (p := ⟨_, _, none⟩) G1.out]; exact hc0
   have y0 := KQ.cell 0 (.int .i64 4) rfl
   have y1 := KQ.cell 1 (.int .i64 qt) rfl
   have y2 := KQ.cell 2 (.int .i64 qi) rfl
   have y3 := KQ.cell 3 (.int .i64 qv) rfl
   have y4 := KQ.cell 4 (.string qd) rfl
   simp only [World.size_alloc] at KX
   go_wp2_with fail
   generalize (w2.alloc (.cells #[.int .i64 4, .int .i64 qt, .int .i64 qi, .int .i64 qv, .string qd] 102)).alloc (.cells #[.int .i64 qt, .int .i64 (-1), .int .i64 qi, .int .i64 qt, .slice none 0 0] 30) = w4 at *
   have NZ : Hid (w2.heap.size ≠ w2.heap.size + 1) := Nat.ne_of_lt (Nat.lt_succ_self _)
   have LQ : Hid (w1.heap.size ≤ w2.heap.size) := C2.size
   clear y0 y1 y2 y3 y4 KQ CQ hcx C2 hb2 hc0 cR
   generalize hzx : w2.heap.size + 1 = zx at *
   generalize w2.heap.size = zq at *
   have LX : Hid (w1.heap.size ≤ zx) := by have := LQ.out; unfold Hid; omega
   have st : Below w1.heap.size w1 w4 ∧ Blk w4 zq #[.int .i64 4, .int .i64 qt, .int .i64 qi, .int .i64 qv, .string qd] 102 ∧ Blk w4 zx #[.int .i64 qt, .int .i64 (-1), .int .i64 qi, .int .i64 qt, .slice none 0 0] 30 := ⟨CX, KQ2, KX⟩
   clear CX KQ2 KX hzx
   go_loopw [8, 10, 11] (fun v8 v10 v11 wr => ∃ (i nn : Nat) (x : Wl) (A1 : Option Addr) (m1 c1 : Nat) (qc : Rcd), i ≤ K ∧ v8 = .bool true ∧ v10 = .int .i64 (nn : Int) ∧ v11 = .int .i64 (i : Int) ∧ OnWay (b :: bt) i x nn ∧ Below w1.heap.size w1 wr ∧ Blk wr zq #[.int .i64 qc.kind, .int .i64 qc.term, .int .i64 qc.index, .int .i64 qc.vote, .string qc.data] 102 ∧ Blk wr zx #[.int .i64 x.term, .int .i64 x.vote, .int .i64 x.base, .int .i64 x.bterm, .slice A1 m1 c1] 30 ∧ Owns wr w1.heap.size 59 2 (.slice A1 m1 c1) (entR x.ents)) (fun _ _ i _ => K - (intOf i).toNat)
   case atStart => exact ⟨1, 8 + b.size, begW (⟨4, qt, qi, qv, qd⟩ : Rcd), none, 0, 0, (⟨4, qt, qi, qv, qd⟩ : Rcd), by omega, rfl, by go_num, rfl, HOW.out, st.1, st.2.1, st.2.2, Owns.nil _ _ _ _⟩
   case round =>
    obtain ⟨i, nn, x, A1, m1, c1, qc, hin, rfl, rfl, rfl, hOW, hC, hQ, hX, hO⟩ := hrel
    have OW : Hid (OnWay (b :: bt) i x nn) := hOW
    have CR : Hid (Below w1.heap.size w1 wr) := hC
    have QR : Hid (Blk wr zq #[.int .i64 qc.kind, .int .i64 qc.term, .int .i64 qc.index, .int .i64 qc.vote, .string qc.data] 102) := hQ
    have XR : Hid (Blk wr zx #[.int .i64 x.term, .int .i64 x.vote, .int .i64 x.base, .int .i64 x.bterm, .slice A1 m1 c1] 30) := hX
    have OR : Hid (Owns wr w1.heap.size 59 2 (.slice A1 m1 c1) (entR x.ents)) := hO
    have hnl := hOW.le
    have qnn : (nn : Int) ≤ 209716800000 := by omega
    clear hOW hC hQ hX hO hnl st HOW
    by_cases hlt : i < K
    ·have q4 : (i : Int) < (K : Int) := by omega
     obtain ⟨g', eg, hg', _, hc⟩ := HL.out i hlt
     cases eg
     rw [← CR.out.cell (p := ⟨_, _, none⟩) G1.out] at hc
     have hsz : ((b :: bt).getD i default).size ≤ 1048576 := HSZ.out _ (getD_mem (b :: bt) i (by rw [HN.out]; exact hlt))
     have cR := fun wx => ansS ((b :: bt).getD i default) (rd ((b :: bt).getD i default)) wx hsz (rd_is _)
     have HNX : Hid (∀ hf : (stp x ((b :: bt).getD i default)).2 = true, OnWay (b :: bt) (i + 1) (stp x ((b :: bt).getD i default)).1 (nn + (8 + ((b :: bt).getD i default).size))) := fun hf => OW.out.next (by rw [HN.out]; exact hlt) hsz hf
     have HST : Hid (∀ hf : (stp x ((b :: bt).getD i default)).2 = false, rep (b :: bt) = (x, nn, true)) := fun hf => OW.out.stop (by rw [HN.out]; exact hlt) hf
     generalize hsi : (b :: bt).getD i default = si at *
     have HSI : Hid ((b :: bt).getD i default = si) := hsi
     clear hsi
     have HOK : Hid (walOk x = true) := OW.out.ok
     clear hg' OW
     cases hrd : rd si with
     | none =>
      have hst := walStep_none hrd x HOK.out
      have hrep := HST.out (by rw [hst.2])
      rw [hrd] at cR
      simp only [ansV] at cR
      have cW := fun wx hx => specWalStep x ⟨0, 0, 0, 0, ⟨#[]⟩⟩ (.agg #[.int .i64 x.term, .int .i64 x.vote, .int .i64 x.base, .int .i64 x.bterm, .slice A1 m1 c1]) wx wx.heap.size hx (fitsW_ok HOK.out) (Nat.zero_le _) (Nat.le_refl _)
      rw [hst.1] at cW
      simp only [vRcd] at cW
      go_wp2_with fail
      refine (cR wr).mono ?_
      rintro e w2 ⟨rfl, hb2⟩
      have C2 : Hid (Below w1.heap.size w1 w2) := CR.out.trans (hb2.mono CR.out.size)
      have Q2 : Hid (Blk w2 zq #[.int .i64 qc.kind, .int .i64 qc.term, .int .i64 qc.index, .int .i64 qc.vote, .string qc.data] 102) := QR.out.on hb2 QR.out.lt
      have X2 : Hid (Blk w2 zx #[.int .i64 x.term, .int .i64 x.vote, .int .i64 x.base, .int .i64 x.bterm, .slice A1 m1 c1] 30) := XR.out.on hb2 XR.out.lt
      have O2 : Hid (Owns w2 w1.heap.size 59 2 (.slice A1 m1 c1) (entR x.ents)) := OR.out.on hb2
      clear hb2 cR hc
      have r0 := Q2.out.cell 0 (.int .i64 qc.kind) rfl
      have f0 := Q2.out.free 0
      have r1 := Q2.out.cell 1 (.int .i64 qc.term) rfl
      have f1 := Q2.out.free 1
      have r2 := Q2.out.cell 2 (.int .i64 qc.index) rfl
      have f2 := Q2.out.free 2
      have r3 := Q2.out.cell 3 (.int .i64 qc.vote) rfl
      have f3 := Q2.out.free 3
      have r4 := Q2.out.cell 4 (.string qc.data) rfl
      have f4 := Q2.out.free 4
      have Q3 := (((((Q2.out.set 0 (.int .i64 0)).set 1 (.int .i64 0)).set 2 (.int .i64 0)).set 3 (.int .i64 0)).set 4 (.string ⟨#[]⟩))
      have X3 := (((((X2.out.other (Ne.symm NZ.out) 0 (.int .i64 0)).other (Ne.symm NZ.out) 1 (.int .i64 0)).other (Ne.symm NZ.out) 2 (.int .i64 0)).other (Ne.symm NZ.out) 3 (.int .i64 0)).other (Ne.symm NZ.out) 4 (.string ⟨#[]⟩))
      have O3 := (((((O2.out.other (O2.out.notBlk Q2.out (by decide)) 0 (.int .i64 0)).other (O2.out.notBlk Q2.out (by decide)) 1 (.int .i64 0)).other (O2.out.notBlk Q2.out (by decide)) 2 (.int .i64 0)).other (O2.out.notBlk Q2.out (by decide)) 3 (.int .i64 0)).other (O2.out.notBlk Q2.out (by decide)) 4 (.string ⟨#[]⟩))
      have C3 := (((((C2.out.setCell LQ.out (.int .i64 0) (p := ⟨zq, 0, none⟩)).setCell LQ.out (.int .i64 0) (p := ⟨zq, 1, none⟩)).setCell LQ.out (.int .i64 0) (p := ⟨zq, 2, none⟩)).setCell LQ.out (.int .i64 0) (p := ⟨zq, 3, none⟩)).setCell LQ.out (.string ⟨#[]⟩) (p := ⟨zq, 4, none⟩))
      replace Q3 : Blk (((((w2.setCell ⟨zq, 0, none⟩ (.int .i64 0)).setCell ⟨zq, 1, none⟩ (.int .i64 0)).setCell ⟨zq, 2, none⟩ (.int .i64 0)).setCell ⟨zq, 3, none⟩ (.int .i64 0)).setCell ⟨zq, 4, none⟩ (.string ⟨#[]⟩)) zq #[.int .i64 0, .int .i64 0, .int .i64 0, .int .i64 0, .string ⟨#[]⟩] 102 := Q3
      have y0 := Q3.cell 0 (.int .i64 0) rfl
      have y1 := Q3.cell 1 (.int .i64 0) rfl
      have y2 := Q3.cell 2 (.int .i64 0) rfl
      have y3 := Q3.cell 3 (.int .i64 0) rfl
      have y4 := Q3.cell 4 (.string ⟨#[]⟩) rfl
      have x0 := X3.cell 0 (.int .i64 x.term) rfl
      have x1 := X3.cell 1 (.int .i64 x.vote) rfl
      have x2 := X3.cell 2 (.int .i64 x.base) rfl
      have x3 := X3.cell 3 (.int .i64 x.bterm) rfl
      have x4 := X3.cell 4 (.slice A1 m1 c1) rfl
      go_wp2_with fail
      generalize (((((w2.setCell ⟨zq, 0, none⟩ (.int .i64 0)).setCell ⟨zq, 1, none⟩ (.int .i64 0)).setCell ⟨zq, 2, none⟩ (.int .i64 0)).setCell ⟨zq, 3, none⟩ (.int .i64 0)).setCell ⟨zq, 4, none⟩ (.string ⟨#[]⟩)) = w3 at *
      have QH : Hid (Blk w3 zq #[.int .i64 0, .int .i64 0, .int .i64 0, .int .i64 0, .string ⟨#[]⟩] 102) := Q3
      have XH : Hid (Blk w3 zx #[.int .i64 x.term, .int .i64 x.vote, .int .i64 x.base, .int .i64 x.bterm, .slice A1 m1 c1] 30) := X3
      have OH : Hid (Owns w3 w1.heap.size 59 2 (.slice A1 m1 c1) (entR x.ents)) := O3
      have CH : Hid (Below w1.heap.size w1 w3) := C3
      clear Q3 X3 O3 C3 r0 r1 r2 r3 r4 f0 f1 f2 f3 f4 y0 y1 y2 y3 y4 x0 x1 x2 x3 x4 Q2 X2 O2 C2
      refine (cW w3 ⟨_, rfl, OH.out.lies⟩).mono ?_
      rintro e w4 ⟨u4, b4, rfl, ⟨hO4, hbe⟩, hb4⟩
      replace hbe := hbe.symm
      subst hbe
      obtain ⟨s4, rfl, o4⟩ := hO4
      obtain ⟨A2, m2, c2, rfl⟩ := o4.shape
      have bx : Below w4.heap.size w4 (w4.alloc (.cells #[.int .i64 x.term, .int .i64 x.vote, .int .i64 x.base, .int .i64 x.bterm, .slice A2 m2 c2] 30)) := (Below.refl _ _).alloc (Nat.le_refl _) _
      have K5 := Blk.new w4 #[.int .i64 x.term, .int .i64 x.vote, .int .i64 x.base, .int .i64 x.bterm, .slice A2 m2 c2] 30
      have X4 := XH.out.on hb4 XH.out.lt
      have Q4 := QH.out.on hb4 QH.out.lt
      have C4 : Below w1.heap.size w1 w4 := CH.out.trans (hb4.mono CH.out.size)
      have C5 := C4.trans (bx.mono C4.size)
      have X5 := X4.on bx X4.lt
      have Q5 := Q4.on bx Q4.lt
      have O5 := (OH.out.on hb4).on bx
      have o5 := o4.on bx
      have n5 : zx ≠ w4.heap.size := Nat.ne_of_lt X4.lt
      have L3 : Hid (w1.heap.size ≤ w3.heap.size) := CH.out.size
      clear hb4 cW bx X4 Q4 C4 o4
      have BR := B1.out.trans (C5.mono B1.out.size)
      have RR := R1.out.on C5 RL.out
      have x0 := X5.cell 0 (.int .i64 x.term) rfl
      have x1 := X5.cell 1 (.int .i64 x.vote) rfl
      have x2 := X5.cell 2 (.int .i64 x.base) rfl
      have x3 := X5.cell 3 (.int .i64 x.bterm) rfl
      have x4 := X5.cell 4 (.slice A1 m1 c1) rfl
      have r0 := RR.cell 0 (.int .i64 0) rfl
      have f0 := RR.free 0
      have r1 := RR.cell 1 (.int .i64 0) rfl
      have f1 := RR.free 1
      have r2 := RR.cell 2 (.int .i64 0) rfl
      have f2 := RR.free 2
      have r3 := RR.cell 3 (.int .i64 0) rfl
      have f3 := RR.free 3
      have r4 := RR.cell 4 (.slice none 0 0) rfl
      have f4 := RR.free 4
      go_wp2_with fail
      have hF := (((((RR.set 0 (.int .i64 x.term)).set 1 (.int .i64 x.vote)).set 2 (.int .i64 x.base)).set 3 (.int .i64 x.bterm)).set 4 (.slice A1 m1 c1))
      have FB := (((((BR.setCell (Nat.le_refl _) (.int .i64 x.term) (p := ⟨w.heap.size, 0, none⟩)).setCell (Nat.le_refl _) (.int .i64 x.vote) (p := ⟨w.heap.size, 1, none⟩)).setCell (Nat.le_refl _) (.int .i64 x.base) (p := ⟨w.heap.size, 2, none⟩)).setCell (Nat.le_refl _) (.int .i64 x.bterm) (p := ⟨w.heap.size, 3, none⟩)).setCell (Nat.le_refl _) (.slice A1 m1 c1) (p := ⟨w.heap.size, 4, none⟩))
      have FO := (((((O5.other (O5.notBlk RR (by decide)) 0 (.int .i64 x.term)).other (O5.notBlk RR (by decide)) 1 (.int .i64 x.vote)).other (O5.notBlk RR (by decide)) 2 (.int .i64 x.base)).other (O5.notBlk RR (by decide)) 3 (.int .i64 x.bterm)).other (O5.notBlk RR (by decide)) 4 (.slice A1 m1 c1))
      generalize ((((((w4.alloc (.cells #[.int .i64 x.term, .int .i64 x.vote, .int .i64 x.base, .int .i64 x.bterm, .slice A2 m2 c2] 30)).setCell ⟨w.heap.size, 0, none⟩ (.int .i64 x.term)).setCell ⟨w.heap.size, 1, none⟩ (.int .i64 x.vote)).setCell ⟨w.heap.size, 2, none⟩ (.int .i64 x.base)).setCell ⟨w.heap.size, 3, none⟩ (.int .i64 x.bterm)).setCell ⟨w.heap.size, 4, none⟩ (.slice A1 m1 c1)) = WF at *
      have hG : Blk WF w.heap.size #[.int .i64 x.term, .int .i64 x.vote, .int .i64 x.base, .int .i64 x.bterm, .slice A1 m1 c1] 30 := hF
      have mm0 := hG.cell 0 (.int .i64 x.term) rfl
      have mm1 := hG.cell 1 (.int .i64 x.vote) rfl
      have mm2 := hG.cell 2 (.int .i64 x.base) rfl
      have mm3 := hG.cell 3 (.int .i64 x.bterm) rfl
      have mm4 := hG.cell 4 (.slice A1 m1 c1) rfl
      exact bodyPost_ret (v := .tuple #[.agg #[.int .i64 x.term, .int .i64 x.vote, .int .i64 x.base, .int .i64 x.bterm, .slice A1 m1 c1], .int .i64 (nn : Int), .bool true]) (by simp [results, go_sem, mm0, mm1, mm2, mm3, mm4]) rfl ⟨K, .agg #[.int .i64 x.term, .int .i64 x.vote, .int .i64 x.base, .int .i64 x.bterm, .slice A1 m1 c1], HE.out, by rw [HBS.out, hrep], by rw [HBS.out, hrep]; exact ⟨_, rfl, FO.mono (Nat.le_of_lt RL.out)⟩, FB⟩
     | some p =>
      have hst := walStep_some hrd x HOK.out
      have hpd : p.data.size ≤ maxLen := by have := recOk_data p (rd_ok hrd); unfold maxLen; omega
      rw [hrd] at cR
      simp only [ansV, vRcd] at cR
      have cW := fun wx hx => specWalStep x p (.agg #[.int .i64 x.term, .int .i64 x.vote, .int .i64 x.base, .int .i64 x.bterm, .slice A1 m1 c1]) wx wx.heap.size hx (fitsW_ok HOK.out) hpd (Nat.le_refl _)
      rw [hst] at cW
      simp only [vRcd] at cW
      clear hst hpd
      generalize hsp : stp x si = sp at *
      obtain ⟨y, fit⟩ := sp
      simp only at cW HNX HST
      go_wp2_with fail
      refine (cR wr).mono ?_
      rintro e w2 ⟨rfl, hb2⟩
      have C2 : Hid (Below w1.heap.size w1 w2) := CR.out.trans (hb2.mono CR.out.size)
      have Q2 : Hid (Blk w2 zq #[.int .i64 qc.kind, .int .i64 qc.term, .int .i64 qc.index, .int .i64 qc.vote, .string qc.data] 102) := QR.out.on hb2 QR.out.lt
      have X2 : Hid (Blk w2 zx #[.int .i64 x.term, .int .i64 x.vote, .int .i64 x.base, .int .i64 x.bterm, .slice A1 m1 c1] 30) := XR.out.on hb2 XR.out.lt
      have O2 : Hid (Owns w2 w1.heap.size 59 2 (.slice A1 m1 c1) (entR x.ents)) := OR.out.on hb2
      clear hb2 cR hc
      have r0 := Q2.out.cell 0 (.int .i64 qc.kind) rfl
      have f0 := Q2.out.free 0
      have r1 := Q2.out.cell 1 (.int .i64 qc.term) rfl
      have f1 := Q2.out.free 1
      have r2 := Q2.out.cell 2 (.int .i64 qc.index) rfl
      have f2 := Q2.out.free 2
      have r3 := Q2.out.cell 3 (.int .i64 qc.vote) rfl
      have f3 := Q2.out.free 3
      have r4 := Q2.out.cell 4 (.string qc.data) rfl
      have f4 := Q2.out.free 4
      have Q3 := (((((Q2.out.set 0 (.int .i64 p.kind)).set 1 (.int .i64 p.term)).set 2 (.int .i64 p.index)).set 3 (.int .i64 p.vote)).set 4 (.string p.data))
      have X3 := (((((X2.out.other (Ne.symm NZ.out) 0 (.int .i64 p.kind)).other (Ne.symm NZ.out) 1 (.int .i64 p.term)).other (Ne.symm NZ.out) 2 (.int .i64 p.index)).other (Ne.symm NZ.out) 3 (.int .i64 p.vote)).other (Ne.symm NZ.out) 4 (.string p.data))
      have O3 := (((((O2.out.other (O2.out.notBlk Q2.out (by decide)) 0 (.int .i64 p.kind)).other (O2.out.notBlk Q2.out (by decide)) 1 (.int .i64 p.term)).other (O2.out.notBlk Q2.out (by decide)) 2 (.int .i64 p.index)).other (O2.out.notBlk Q2.out (by decide)) 3 (.int .i64 p.vote)).other (O2.out.notBlk Q2.out (by decide)) 4 (.string p.data))
      have C3 := (((((C2.out.setCell LQ.out (.int .i64 p.kind) (p := ⟨zq, 0, none⟩)).setCell LQ.out (.int .i64 p.term) (p := ⟨zq, 1, none⟩)).setCell LQ.out (.int .i64 p.index) (p := ⟨zq, 2, none⟩)).setCell LQ.out (.int .i64 p.vote) (p := ⟨zq, 3, none⟩)).setCell LQ.out (.string p.data) (p := ⟨zq, 4, none⟩))
      replace Q3 : Blk (((((w2.setCell ⟨zq, 0, none⟩ (.int .i64 p.kind)).setCell ⟨zq, 1, none⟩ (.int .i64 p.term)).setCell ⟨zq, 2, none⟩ (.int .i64 p.index)).setCell ⟨zq, 3, none⟩ (.int .i64 p.vote)).setCell ⟨zq, 4, none⟩ (.string p.data)) zq #[.int .i64 p.kind, .int .i64 p.term, .int .i64 p.index, .int .i64 p.vote, .string p.data] 102 := Q3
      have y0 := Q3.cell 0 (.int .i64 p.kind) rfl
      have y1 := Q3.cell 1 (.int .i64 p.term) rfl
      have y2 := Q3.cell 2 (.int .i64 p.index) rfl
      have y3 := Q3.cell 3 (.int .i64 p.vote) rfl
      have y4 := Q3.cell 4 (.string p.data) rfl
      have x0 := X3.cell 0 (.int .i64 x.term) rfl
      have x1 := X3.cell 1 (.int .i64 x.vote) rfl
      have x2 := X3.cell 2 (.int .i64 x.base) rfl
      have x3 := X3.cell 3 (.int .i64 x.bterm) rfl
      have x4 := X3.cell 4 (.slice A1 m1 c1) rfl
      go_wp2_with fail
      generalize (((((w2.setCell ⟨zq, 0, none⟩ (.int .i64 p.kind)).setCell ⟨zq, 1, none⟩ (.int .i64 p.term)).setCell ⟨zq, 2, none⟩ (.int .i64 p.index)).setCell ⟨zq, 3, none⟩ (.int .i64 p.vote)).setCell ⟨zq, 4, none⟩ (.string p.data)) = w3 at *
      have QH : Hid (Blk w3 zq #[.int .i64 p.kind, .int .i64 p.term, .int .i64 p.index, .int .i64 p.vote, .string p.data] 102) := Q3
      have XH : Hid (Blk w3 zx #[.int .i64 x.term, .int .i64 x.vote, .int .i64 x.base, .int .i64 x.bterm, .slice A1 m1 c1] 30) := X3
      have OH : Hid (Owns w3 w1.heap.size 59 2 (.slice A1 m1 c1) (entR x.ents)) := O3
      have CH : Hid (Below w1.heap.size w1 w3) := C3
      clear Q3 X3 O3 C3 r0 r1 r2 r3 r4 f0 f1 f2 f3 f4 y0 y1 y2 y3 y4 x0 x1 x2 x3 x4 Q2 X2 O2 C2
      refine (cW w3 ⟨_, rfl, OH.out.lies⟩).mono ?_
      rintro e w4 ⟨u4, b4, rfl, ⟨hO4, hbe⟩, hb4⟩
      replace hbe := hbe.symm
      subst hbe
      obtain ⟨s4, rfl, o4⟩ := hO4
      obtain ⟨A2, m2, c2, rfl⟩ := o4.shape
      have bx : Below w4.heap.size w4 (w4.alloc (.cells #[.int .i64 y.term, .int .i64 y.vote, .int .i64 y.base, .int .i64 y.bterm, .slice A2 m2 c2] 30)) := (Below.refl _ _).alloc (Nat.le_refl _) _
      have K5 := Blk.new w4 #[.int .i64 y.term, .int .i64 y.vote, .int .i64 y.base, .int .i64 y.bterm, .slice A2 m2 c2] 30
      have X4 := XH.out.on hb4 XH.out.lt
      have Q4 := QH.out.on hb4 QH.out.lt
      have C4 : Below w1.heap.size w1 w4 := CH.out.trans (hb4.mono CH.out.size)
      have C5 := C4.trans (bx.mono C4.size)
      have X5 := X4.on bx X4.lt
      have Q5 := Q4.on bx Q4.lt
      have O5 := (OH.out.on hb4).on bx
      have o5 := o4.on bx
      have n5 : zx ≠ w4.heap.size := Nat.ne_of_lt X4.lt
      have L3 : Hid (w1.heap.size ≤ w3.heap.size) := CH.out.size
      clear hb4 cW bx X4 Q4 C4 o4
      cases fit with
      | false =>
       have hrep := HST.out rfl
       have BR := B1.out.trans (C5.mono B1.out.size)
       have RR := R1.out.on C5 RL.out
       have x0 := X5.cell 0 (.int .i64 x.term) rfl
       have x1 := X5.cell 1 (.int .i64 x.vote) rfl
       have x2 := X5.cell 2 (.int .i64 x.base) rfl
       have x3 := X5.cell 3 (.int .i64 x.bterm) rfl
       have x4 := X5.cell 4 (.slice A1 m1 c1) rfl
       have r0 := RR.cell 0 (.int .i64 0) rfl
       have f0 := RR.free 0
       have r1 := RR.cell 1 (.int .i64 0) rfl
       have f1 := RR.free 1
       have r2 := RR.cell 2 (.int .i64 0) rfl
       have f2 := RR.free 2
       have r3 := RR.cell 3 (.int .i64 0) rfl
       have f3 := RR.free 3
       have r4 := RR.cell 4 (.slice none 0 0) rfl
       have f4 := RR.free 4
       go_wp2_with fail
       have hF := (((((RR.set 0 (.int .i64 x.term)).set 1 (.int .i64 x.vote)).set 2 (.int .i64 x.base)).set 3 (.int .i64 x.bterm)).set 4 (.slice A1 m1 c1))
       have FB := (((((BR.setCell (Nat.le_refl _) (.int .i64 x.term) (p := ⟨w.heap.size, 0, none⟩)).setCell (Nat.le_refl _) (.int .i64 x.vote) (p := ⟨w.heap.size, 1, none⟩)).setCell (Nat.le_refl _) (.int .i64 x.base) (p := ⟨w.heap.size, 2, none⟩)).setCell (Nat.le_refl _) (.int .i64 x.bterm) (p := ⟨w.heap.size, 3, none⟩)).setCell (Nat.le_refl _) (.slice A1 m1 c1) (p := ⟨w.heap.size, 4, none⟩))
       have FO := (((((O5.other (O5.notBlk RR (by decide)) 0 (.int .i64 x.term)).other (O5.notBlk RR (by decide)) 1 (.int .i64 x.vote)).other (O5.notBlk RR (by decide)) 2 (.int .i64 x.base)).other (O5.notBlk RR (by decide)) 3 (.int .i64 x.bterm)).other (O5.notBlk RR (by decide)) 4 (.slice A1 m1 c1))
       generalize ((((((w4.alloc (.cells #[.int .i64 y.term, .int .i64 y.vote, .int .i64 y.base, .int .i64 y.bterm, .slice A2 m2 c2] 30)).setCell ⟨w.heap.size, 0, none⟩ (.int .i64 x.term)).setCell ⟨w.heap.size, 1, none⟩ (.int .i64 x.vote)).setCell ⟨w.heap.size, 2, none⟩ (.int .i64 x.base)).setCell ⟨w.heap.size, 3, none⟩ (.int .i64 x.bterm)).setCell ⟨w.heap.size, 4, none⟩ (.slice A1 m1 c1)) = WF at *
       have hG : Blk WF w.heap.size #[.int .i64 x.term, .int .i64 x.vote, .int .i64 x.base, .int .i64 x.bterm, .slice A1 m1 c1] 30 := hF
       have mm0 := hG.cell 0 (.int .i64 x.term) rfl
       have mm1 := hG.cell 1 (.int .i64 x.vote) rfl
       have mm2 := hG.cell 2 (.int .i64 x.base) rfl
       have mm3 := hG.cell 3 (.int .i64 x.bterm) rfl
       have mm4 := hG.cell 4 (.slice A1 m1 c1) rfl
       exact bodyPost_ret (v := .tuple #[.agg #[.int .i64 x.term, .int .i64 x.vote, .int .i64 x.base, .int .i64 x.bterm, .slice A1 m1 c1], .int .i64 (nn : Int), .bool true]) (by simp [results, go_sem, mm0, mm1, mm2, mm3, mm4]) rfl ⟨K, .agg #[.int .i64 x.term, .int .i64 x.vote, .int .i64 x.base, .int .i64 x.bterm, .slice A1 m1 c1], HE.out, by rw [HBS.out, hrep], by rw [HBS.out, hrep]; exact ⟨_, rfl, FO.mono (Nat.le_of_lt RL.out)⟩, FB⟩
      | true =>
       have HW := HNX.out rfl
       have x0 := X5.cell 0 (.int .i64 x.term) rfl
       have f0 := X5.free 0
       have x1 := X5.cell 1 (.int .i64 x.vote) rfl
       have f1 := X5.free 1
       have x2 := X5.cell 2 (.int .i64 x.base) rfl
       have f2 := X5.free 2
       have x3 := X5.cell 3 (.int .i64 x.bterm) rfl
       have f3 := X5.free 3
       have x4 := X5.cell 4 (.slice A1 m1 c1) rfl
       have f4 := X5.free 4
       have y0 := K5.cell 0 (.int .i64 y.term) rfl
       have y1 := K5.cell 1 (.int .i64 y.vote) rfl
       have y2 := K5.cell 2 (.int .i64 y.base) rfl
       have y3 := K5.cell 3 (.int .i64 y.bterm) rfl
       have y4 := K5.cell 4 (.slice A2 m2 c2) rfl
       have X6 := (((((X5.set 0 (.int .i64 y.term)).set 1 (.int .i64 y.vote)).set 2 (.int .i64 y.base)).set 3 (.int .i64 y.bterm)).set 4 (.slice A2 m2 c2))
       have Q6 := (((((Q5.other NZ.out 0 (.int .i64 y.term)).other NZ.out 1 (.int .i64 y.vote)).other NZ.out 2 (.int .i64 y.base)).other NZ.out 3 (.int .i64 y.bterm)).other NZ.out 4 (.slice A2 m2 c2))
       have O6 := (((((o5.other (o5.notBlk X5 (by decide)) 0 (.int .i64 y.term)).other (o5.notBlk X5 (by decide)) 1 (.int .i64 y.vote)).other (o5.notBlk X5 (by decide)) 2 (.int .i64 y.base)).other (o5.notBlk X5 (by decide)) 3 (.int .i64 y.bterm)).other (o5.notBlk X5 (by decide)) 4 (.slice A2 m2 c2))
       have C6 := (((((C5.setCell LX.out (.int .i64 y.term) (p := ⟨zx, 0, none⟩)).setCell LX.out (.int .i64 y.vote) (p := ⟨zx, 1, none⟩)).setCell LX.out (.int .i64 y.base) (p := ⟨zx, 2, none⟩)).setCell LX.out (.int .i64 y.bterm) (p := ⟨zx, 3, none⟩)).setCell LX.out (.slice A2 m2 c2) (p := ⟨zx, 4, none⟩))
       have hc6 := HL.out i hlt
       obtain ⟨g6, eg6, _, _, hc6⟩ := hc6
       cases eg6
       rw [← C6.cell (p := ⟨_, _, none⟩) G1.out, HSI.out] at hc6
       go_wp2_with fail
       generalize ((((((w4.alloc (.cells #[.int .i64 y.term, .int .i64 y.vote, .int .i64 y.base, .int .i64 y.bterm, .slice A2 m2 c2] 30)).setCell ⟨zx, 0, none⟩ (.int .i64 y.term)).setCell ⟨zx, 1, none⟩ (.int .i64 y.vote)).setCell ⟨zx, 2, none⟩ (.int .i64 y.base)).setCell ⟨zx, 3, none⟩ (.int .i64 y.bterm)).setCell ⟨zx, 4, none⟩ (.slice A2 m2 c2)) = w6 at *
       go_roundw
       case rel => exact ⟨i + 1, nn + (8 + si.size), y, A2, m2, c2, p, by omega, rfl, by go_num, by go_num, HW, C6, Q6, X6, O6.mono L3.out⟩
       case measure => simp [intOf]; omega
    ·have hrep := OW.out.done (by rw [HN.out]; omega)
     have BR : Hid (Below w.heap.size w wr) := B1.out.trans (CR.out.mono B1.out.size)
     have RR : Hid (Blk wr w.heap.size #[.int .i64 0, .int .i64 0, .int .i64 0, .int .i64 0, .slice none 0 0] 30) := R1.out.on CR.out RL.out
     have x0 := XR.out.cell 0 (.int .i64 x.term) rfl
     have x1 := XR.out.cell 1 (.int .i64 x.vote) rfl
     have x2 := XR.out.cell 2 (.int .i64 x.base) rfl
     have x3 := XR.out.cell 3 (.int .i64 x.bterm) rfl
     have x4 := XR.out.cell 4 (.slice A1 m1 c1) rfl
     have r0 := RR.out.cell 0 (.int .i64 0) rfl
     have f0 := RR.out.free 0
     have r1 := RR.out.cell 1 (.int .i64 0) rfl
     have f1 := RR.out.free 1
     have r2 := RR.out.cell 2 (.int .i64 0) rfl
     have f2 := RR.out.free 2
     have r3 := RR.out.cell 3 (.int .i64 0) rfl
     have f3 := RR.out.free 3
     have r4 := RR.out.cell 4 (.slice none 0 0) rfl
     have f4 := RR.out.free 4
     go_wp2_with fail
     have hF := (((((RR.out.set 0 (.int .i64 x.term)).set 1 (.int .i64 x.vote)).set 2 (.int .i64 x.base)).set 3 (.int .i64 x.bterm)).set 4 (.slice A1 m1 c1))
     have FB := (((((BR.out.setCell (Nat.le_refl _) (.int .i64 x.term) (p := ⟨w.heap.size, 0, none⟩)).setCell (Nat.le_refl _) (.int .i64 x.vote) (p := ⟨w.heap.size, 1, none⟩)).setCell (Nat.le_refl _) (.int .i64 x.base) (p := ⟨w.heap.size, 2, none⟩)).setCell (Nat.le_refl _) (.int .i64 x.bterm) (p := ⟨w.heap.size, 3, none⟩)).setCell (Nat.le_refl _) (.slice A1 m1 c1) (p := ⟨w.heap.size, 4, none⟩))
     have FO := (((((OR.out.other (OR.out.notBlk RR.out (by decide)) 0 (.int .i64 x.term)).other (OR.out.notBlk RR.out (by decide)) 1 (.int .i64 x.vote)).other (OR.out.notBlk RR.out (by decide)) 2 (.int .i64 x.base)).other (OR.out.notBlk RR.out (by decide)) 3 (.int .i64 x.bterm)).other (OR.out.notBlk RR.out (by decide)) 4 (.slice A1 m1 c1))
     generalize (((((wr.setCell ⟨w.heap.size, 0, none⟩ (.int .i64 x.term)).setCell ⟨w.heap.size, 1, none⟩ (.int .i64 x.vote)).setCell ⟨w.heap.size, 2, none⟩ (.int .i64 x.base)).setCell ⟨w.heap.size, 3, none⟩ (.int .i64 x.bterm)).setCell ⟨w.heap.size, 4, none⟩ (.slice A1 m1 c1)) = WF at *
     have hG : Blk WF w.heap.size #[.int .i64 x.term, .int .i64 x.vote, .int .i64 x.base, .int .i64 x.bterm, .slice A1 m1 c1] 30 := hF
     have mm0 := hG.cell 0 (.int .i64 x.term) rfl
     have mm1 := hG.cell 1 (.int .i64 x.vote) rfl
     have mm2 := hG.cell 2 (.int .i64 x.base) rfl
     have mm3 := hG.cell 3 (.int .i64 x.bterm) rfl
     have mm4 := hG.cell 4 (.slice A1 m1 c1) rfl
     exact bodyPost_ret (v := .tuple #[.agg #[.int .i64 x.term, .int .i64 x.vote, .int .i64 x.base, .int .i64 x.bterm, .slice A1 m1 c1], .int .i64 (nn : Int), .bool true]) (by simp [results, go_sem, mm0, mm1, mm2, mm3, mm4]) rfl ⟨K, .agg #[.int .i64 x.term, .int .i64 x.vote, .int .i64 x.base, .int .i64 x.bterm, .slice A1 m1 c1], HE.out, by rw [HBS.out, hrep], by rw [HBS.out, hrep]; exact ⟨_, rfl, FO.mono (Nat.le_of_lt RL.out)⟩, FB⟩
  ·have hbeg : beg b = none := by unfold beg; rw [hrd]; simp only; rw [if_neg hk]
   have zk : (q.kind == 4) = false := by simpa using hk
   go_wp2_with fail
   refine (cR w1).mono ?_
   rintro e w2 ⟨rfl, hb2⟩
   have B2 : Hid (Below w.heap.size w w2) := B1.out.trans (hb2.mono B1.out.size)
   have R2 : Hid (Blk w2 w.heap.size #[.int .i64 0, .int .i64 0, .int .i64 0, .int .i64 0, .slice none 0 0] 30) := R1.out.on hb2 R1.out.lt
   have KQ := Blk.new w2 #[.int .i64 q.kind, .int .i64 q.term, .int .i64 q.index, .int .i64 q.vote, .string q.data] 102
   have y0 := KQ.cell 0 (.int .i64 q.kind) rfl
   have y1 := KQ.cell 1 (.int .i64 q.term) rfl
   have y2 := KQ.cell 2 (.int .i64 q.index) rfl
   have y3 := KQ.cell 3 (.int .i64 q.vote) rfl
   have y4 := KQ.cell 4 (.string q.data) rfl
   clear hb2 cR
   have r0 := (R2.out.alloc (.cells #[.int .i64 q.kind, .int .i64 q.term, .int .i64 q.index, .int .i64 q.vote, .string q.data] 102)).cell 0 (.int .i64 0) rfl
   have f0 := (R2.out.alloc (.cells #[.int .i64 q.kind, .int .i64 q.term, .int .i64 q.index, .int .i64 q.vote, .string q.data] 102)).free 0
   have r1 := (R2.out.alloc (.cells #[.int .i64 q.kind, .int .i64 q.term, .int .i64 q.index, .int .i64 q.vote, .string q.data] 102)).cell 1 (.int .i64 0) rfl
   have f1 := (R2.out.alloc (.cells #[.int .i64 q.kind, .int .i64 q.term, .int .i64 q.index, .int .i64 q.vote, .string q.data] 102)).free 1
   have r2 := (R2.out.alloc (.cells #[.int .i64 q.kind, .int .i64 q.term, .int .i64 q.index, .int .i64 q.vote, .string q.data] 102)).cell 2 (.int .i64 0) rfl
   have f2 := (R2.out.alloc (.cells #[.int .i64 q.kind, .int .i64 q.term, .int .i64 q.index, .int .i64 q.vote, .string q.data] 102)).free 2
   have r3 := (R2.out.alloc (.cells #[.int .i64 q.kind, .int .i64 q.term, .int .i64 q.index, .int .i64 q.vote, .string q.data] 102)).cell 3 (.int .i64 0) rfl
   have f3 := (R2.out.alloc (.cells #[.int .i64 q.kind, .int .i64 q.term, .int .i64 q.index, .int .i64 q.vote, .string q.data] 102)).free 3
   have r4 := (R2.out.alloc (.cells #[.int .i64 q.kind, .int .i64 q.term, .int .i64 q.index, .int .i64 q.vote, .string q.data] 102)).cell 4 (.slice none 0 0) rfl
   have f4 := (R2.out.alloc (.cells #[.int .i64 q.kind, .int .i64 q.term, .int .i64 q.index, .int .i64 q.vote, .string q.data] 102)).free 4
   go_wp2_with fail
   have hF := ((((((R2.out.alloc (.cells #[.int .i64 q.kind, .int .i64 q.term, .int .i64 q.index, .int .i64 q.vote, .string q.data] 102)).set 0 (.int .i64 0)).set 1 (.int .i64 0)).set 2 (.int .i64 0)).set 3 (.int .i64 0)).set 4 (.slice none 0 0))
   have FB := ((((((B2.out.alloc B2.out.size (.cells #[.int .i64 q.kind, .int .i64 q.term, .int .i64 q.index, .int .i64 q.vote, .string q.data] 102)).setCell (Nat.le_refl _) (.int .i64 0) (p := ⟨w.heap.size, 0, none⟩)).setCell (Nat.le_refl _) (.int .i64 0) (p := ⟨w.heap.size, 1, none⟩)).setCell (Nat.le_refl _) (.int .i64 0) (p := ⟨w.heap.size, 2, none⟩)).setCell (Nat.le_refl _) (.int .i64 0) (p := ⟨w.heap.size, 3, none⟩)).setCell (Nat.le_refl _) (.slice none 0 0) (p := ⟨w.heap.size, 4, none⟩))
   generalize ((((((w2.alloc (.cells #[.int .i64 q.kind, .int .i64 q.term, .int .i64 q.index, .int .i64 q.vote, .string q.data] 102)).setCell ⟨w.heap.size, 0, none⟩ (.int .i64 0)).setCell ⟨w.heap.size, 1, none⟩ (.int .i64 0)).setCell ⟨w.heap.size, 2, none⟩ (.int .i64 0)).setCell ⟨w.heap.size, 3, none⟩ (.int .i64 0)).setCell ⟨w.heap.size, 4, none⟩ (.slice none 0 0)) = WF at *
   have hG : Blk WF w.heap.size #[.int .i64 0, .int .i64 0, .int .i64 0, .int .i64 0, .slice none 0 0] 30 := hF
   have mm0 := hG.cell 0 (.int .i64 0) rfl
   have mm1 := hG.cell 1 (.int .i64 0) rfl
   have mm2 := hG.cell 2 (.int .i64 0) rfl
   have mm3 := hG.cell 3 (.int .i64 0) rfl
   have mm4 := hG.cell 4 (.slice none 0 0) rfl
   exact bodyPost_ret (v := .tuple #[.agg #[.int .i64 0, .int .i64 0, .int .i64 0, .int .i64 0, .slice none 0 0], .int .i64 0, .bool false]) (by simp [results, go_sem, mm0, mm1, mm2, mm3, mm4]) rfl ⟨K, .agg #[.int .i64 0, .int .i64 0, .int .i64 0, .int .i64 0, .slice none 0 0], HE.out, by rw [HBS.out, rep_none hbeg]; rfl, by rw [HBS.out, rep_none hbeg]; exact ⟨_, rfl, Owns.nil _ _ _ _⟩, FB⟩
end Go.Proofs.YtdimaoloapbeoaaGreatDoor
