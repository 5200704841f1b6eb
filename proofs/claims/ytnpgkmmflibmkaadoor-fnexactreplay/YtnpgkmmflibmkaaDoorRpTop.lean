/-
  Contract of spec.Replay.
-/
import Derived.Test.YtnpgkmmflibmkaaDoorRows
import Derived.Test.YtnpgkmmflibmkaaDoorRpA
import Derived.Test.YtnpgkmmflibmkaaDoorFrames
import Derived.Test.YtnpgkmmflibmkaaDoorStSpec
import Derived.Lib.OwnKind
import Derived.Test.YtnpgkmmflibmkaaDoorUntil
import Derived.Test.YtnpgkmmflibmkaaDoorUntilS
import Derived.Deep.RegionHeld3
import Derived.Test.YtnpgkmmflibmkaaDoorWkHd
namespace Go.Proofs.YtnpgkmmflibmkaaDoor
open Go.ChangeShapes Go.WideShapes Go.ChangeAt Go.RowKit Go.PlainAid
set_option linter.unusedVariables false

theorem Owns.notBlk {w : World} {base : Nat} {e t : TypeId} {sz g : Nat} {v : Value} {R : List (List Value)} {cs : Array Value} (h : Owns w base e sz v R) (hb : Blk w g cs t) (hne : e ≠ t) : v.ownBlock ≠ some g := by
  intro hg
  obtain ⟨c, fz, e1⟩ := Lib.ownsRow_kind h.2 g hg
  unfold Blk at hb
  rw [e1] at hb
  cases hb
  exact hne rfl

set_option maxRecDepth 20000 in
set_option maxHeartbeats 16000000 in
theorem specReplay (s : ByteArray) (w : World) (hs : s.size ≤ 1048576) :
    Calls Tryd.prog 4 #[.string s] w fun e w' => ∃ K u, Ends s K ∧ e = .returned (.tuple #[u, .int .i64 ((rep (bods s K)).2.1 : Int), .bool (rep (bods s K)).2.2]) ∧ WalO w' w.heap.size u (rep (bods s K)).1 ∧ Below w.heap.size w w' := by
  have HS : Hid (s.size ≤ 1048576) := hs
  have cF := fun wx => spec_frames s wx hs
  clear hs
  go_enter Tryd.func4, Tryd.ntmps4
  go_wp2_with fail
  have b0 : Below w.heap.size w (w.alloc (.cells #[.int .i64 0, .int .i64 0, .int .i64 0, .int .i64 0, .slice none 0 0] 24)) := (Below.refl _ _).alloc (Nat.le_refl _) _
  have k0 := Blk.new w #[.int .i64 0, .int .i64 0, .int .i64 0, .int .i64 0, .slice none 0 0] 24
  generalize w.alloc (.cells #[.int .i64 0, .int .i64 0, .int .i64 0, .int .i64 0, .slice none 0 0] 24) = W at *
  refine (cF W).mono ?_
  rintro e w1 ⟨K, v, hE, rfl, hS, hb1⟩
  have B1 : Hid (Below w.heap.size w w1) := b0.trans (hb1.mono b0.size)
  have R1 : Hid (Blk w1 w.heap.size #[.int .i64 0, .int .i64 0, .int .i64 0, .int .i64 0, .slice none 0 0] 24) := k0.on hb1 k0.lt
  have HE : Hid (Ends s K) := hE
  have hK := hE.1.pos_le
  obtain ⟨A, cap, rfl, hlk⟩ := strs_look hS
  have HSZ : Hid (∀ x ∈ bods s K, x.size ≤ 1048576) := fun x hx => Nat.le_trans (bods_size s K x hx) HS.out
  rw [bods_length] at hlk ⊢
  have HL : Hid (∀ j, j < K → ∃ g, A = some ⟨g, 0, none⟩ ∧ g < w1.heap.size ∧ W.heap.size ≤ g ∧ w1.cell? ⟨g, j, none⟩ = some (.string ((bods s K).getD j default))) := hlk
  have HN : Hid ((bods s K).length = K) := bods_length s K
  have qK : (K : Int) ≤ 200000 := by have := HS.out; omega
  have RL : Hid (w.heap.size < w1.heap.size) := R1.out.lt
  clear hE hS hb1 hlk k0 b0 cF hK
  generalize hbs : bods s K = bs at *
  have HBS : Hid (bods s K = bs) := hbs
  clear hbs
  by_cases h0 : K = 0
  · subst h0
    obtain rfl : bs = [] := List.eq_nil_of_length_eq_zero HN.out
    have r0 := R1.out.cell 0 (.int .i64 0) rfl
    have f0 := R1.out.free 0
    have r1 := R1.out.cell 1 (.int .i64 0) rfl
    have f1 := R1.out.free 1
    have r2 := R1.out.cell 2 (.int .i64 0) rfl
    have f2 := R1.out.free 2
    have r3 := R1.out.cell 3 (.int .i64 0) rfl
    have f3 := R1.out.free 3
    have r4 := R1.out.cell 4 (.slice none 0 0) rfl
    have f4 := R1.out.free 4
    go_wp2_with fail
    have hF := (((((R1.out.set 0 (.int .i64 0)).set 1 (.int .i64 0)).set 2 (.int .i64 0)).set 3 (.int .i64 0)).set 4 (.slice none 0 0))
    have FB := (((((B1.out.setCell (Nat.le_refl _) (.int .i64 0) (p := ⟨w.heap.size, 0, none⟩)).setCell (Nat.le_refl _) (.int .i64 0) (p := ⟨w.heap.size, 1, none⟩)).setCell (Nat.le_refl _) (.int .i64 0) (p := ⟨w.heap.size, 2, none⟩)).setCell (Nat.le_refl _) (.int .i64 0) (p := ⟨w.heap.size, 3, none⟩)).setCell (Nat.le_refl _) (.slice none 0 0) (p := ⟨w.heap.size, 4, none⟩))
    generalize (((((w1.setCell ⟨w.heap.size, 0, none⟩ (.int .i64 0)).setCell ⟨w.heap.size, 1, none⟩ (.int .i64 0)).setCell ⟨w.heap.size, 2, none⟩ (.int .i64 0)).setCell ⟨w.heap.size, 3, none⟩ (.int .i64 0)).setCell ⟨w.heap.size, 4, none⟩ (.slice none 0 0)) = WF at *
    have hG : Blk WF w.heap.size #[.int .i64 0, .int .i64 0, .int .i64 0, .int .i64 0, .slice none 0 0] 24 := hF
    have mm0 := hG.cell 0 (.int .i64 0) rfl
    have mm1 := hG.cell 1 (.int .i64 0) rfl
    have mm2 := hG.cell 2 (.int .i64 0) rfl
    have mm3 := hG.cell 3 (.int .i64 0) rfl
    have mm4 := hG.cell 4 (.slice none 0 0) rfl
    exact bodyPost_ret (v := .tuple #[.agg #[.int .i64 0, .int .i64 0, .int .i64 0, .int .i64 0, .slice none 0 0], .int .i64 0, .bool false]) (by simp [results, go_sem, mm0, mm1, mm2, mm3, mm4]) rfl ⟨0, _, HE.out, rfl, ⟨_, rfl, Owns.nil _ _ _ _⟩, FB⟩
  have q0 : ((K : Int) == 0) = false := by simpa using h0
  obtain ⟨b, bt, rfl⟩ : ∃ b bt, bs = b :: bt := by
    cases bs with
    | nil => exact absurd HN.out.symm h0
    | cons b bt => exact ⟨b, bt, rfl⟩
  obtain ⟨g, rfl, hg, hWg, hc0⟩ := HL.out 0 (by omega)
  have hb0 : b.size ≤ 1048576 := HSZ.out b (List.mem_cons_self ..)
  have G1 : Hid (g < w1.heap.size) := hg
  have cR := fun wx => ansS b (rd b) wx hb0 (rd_is b)
  replace hc0 : w1.cell? ⟨g, 0, none⟩ = some (.string b) := hc0
  clear hb0 hg hWg
  cases hrd : rd b with
  | none =>
    have hbeg : beg b = none := by unfold beg; rw [hrd]
    rw [hrd] at cR
    simp only [ansV] at cR
    go_wp2_with fail
    refine (cR w1).mono ?_
    rintro e w2 ⟨rfl, hb2⟩
    have B2 : Hid (Below w.heap.size w w2) := B1.out.trans (hb2.mono B1.out.size)
    have R2 : Hid (Blk w2 w.heap.size #[.int .i64 0, .int .i64 0, .int .i64 0, .int .i64 0, .slice none 0 0] 24) := R1.out.on hb2 R1.out.lt
    clear hb2 cR
    have r0 := (R2.out.alloc (.cells #[.int .i64 0, .int .i64 0, .int .i64 0, .int .i64 0, .string ⟨#[]⟩] 34)).cell 0 (.int .i64 0) rfl
    have f0 := (R2.out.alloc (.cells #[.int .i64 0, .int .i64 0, .int .i64 0, .int .i64 0, .string ⟨#[]⟩] 34)).free 0
    have r1 := (R2.out.alloc (.cells #[.int .i64 0, .int .i64 0, .int .i64 0, .int .i64 0, .string ⟨#[]⟩] 34)).cell 1 (.int .i64 0) rfl
    have f1 := (R2.out.alloc (.cells #[.int .i64 0, .int .i64 0, .int .i64 0, .int .i64 0, .string ⟨#[]⟩] 34)).free 1
    have r2 := (R2.out.alloc (.cells #[.int .i64 0, .int .i64 0, .int .i64 0, .int .i64 0, .string ⟨#[]⟩] 34)).cell 2 (.int .i64 0) rfl
    have f2 := (R2.out.alloc (.cells #[.int .i64 0, .int .i64 0, .int .i64 0, .int .i64 0, .string ⟨#[]⟩] 34)).free 2
    have r3 := (R2.out.alloc (.cells #[.int .i64 0, .int .i64 0, .int .i64 0, .int .i64 0, .string ⟨#[]⟩] 34)).cell 3 (.int .i64 0) rfl
    have f3 := (R2.out.alloc (.cells #[.int .i64 0, .int .i64 0, .int .i64 0, .int .i64 0, .string ⟨#[]⟩] 34)).free 3
    have r4 := (R2.out.alloc (.cells #[.int .i64 0, .int .i64 0, .int .i64 0, .int .i64 0, .string ⟨#[]⟩] 34)).cell 4 (.slice none 0 0) rfl
    have f4 := (R2.out.alloc (.cells #[.int .i64 0, .int .i64 0, .int .i64 0, .int .i64 0, .string ⟨#[]⟩] 34)).free 4
    go_wp2_with fail
    have hF := ((((((R2.out.alloc (.cells #[.int .i64 0, .int .i64 0, .int .i64 0, .int .i64 0, .string ⟨#[]⟩] 34)).set 0 (.int .i64 0)).set 1 (.int .i64 0)).set 2 (.int .i64 0)).set 3 (.int .i64 0)).set 4 (.slice none 0 0))
    have FB := ((((((B2.out.alloc B2.out.size (.cells #[.int .i64 0, .int .i64 0, .int .i64 0, .int .i64 0, .string ⟨#[]⟩] 34)).setCell (Nat.le_refl _) (.int .i64 0) (p := ⟨w.heap.size, 0, none⟩)).setCell (Nat.le_refl _) (.int .i64 0) (p := ⟨w.heap.size, 1, none⟩)).setCell (Nat.le_refl _) (.int .i64 0) (p := ⟨w.heap.size, 2, none⟩)).setCell (Nat.le_refl _) (.int .i64 0) (p := ⟨w.heap.size, 3, none⟩)).setCell (Nat.le_refl _) (.slice none 0 0) (p := ⟨w.heap.size, 4, none⟩))
    generalize ((((((w2.alloc (.cells #[.int .i64 0, .int .i64 0, .int .i64 0, .int .i64 0, .string ⟨#[]⟩] 34)).setCell ⟨w.heap.size, 0, none⟩ (.int .i64 0)).setCell ⟨w.heap.size, 1, none⟩ (.int .i64 0)).setCell ⟨w.heap.size, 2, none⟩ (.int .i64 0)).setCell ⟨w.heap.size, 3, none⟩ (.int .i64 0)).setCell ⟨w.heap.size, 4, none⟩ (.slice none 0 0)) = WF at *
    have hG : Blk WF w.heap.size #[.int .i64 0, .int .i64 0, .int .i64 0, .int .i64 0, .slice none 0 0] 24 := hF
    have mm0 := hG.cell 0 (.int .i64 0) rfl
    have mm1 := hG.cell 1 (.int .i64 0) rfl
    have mm2 := hG.cell 2 (.int .i64 0) rfl
    have mm3 := hG.cell 3 (.int .i64 0) rfl
    have mm4 := hG.cell 4 (.slice none 0 0) rfl
    exact bodyPost_ret (v := .tuple #[.agg #[.int .i64 0, .int .i64 0, .int .i64 0, .int .i64 0, .slice none 0 0], .int .i64 0, .bool false]) (by simp [results, go_sem, mm0, mm1, mm2, mm3, mm4]) rfl ⟨K, .agg #[.int .i64 0, .int .i64 0, .int .i64 0, .int .i64 0, .slice none 0 0], HE.out, by rw [HBS.out, rep_none hbeg]; rfl, by rw [HBS.out, rep_none hbeg]; exact ⟨_, rfl, Owns.nil _ _ _ _⟩, FB⟩
  | some q =>
    rw [hrd] at cR
    simp only [ansV, vRcd] at cR
    have hqd : q.data.size ≤ 900 := recOk_data q (rd_ok hrd)
    by_cases hk : q.kind = 4
    · have hbeg : beg b = some (begW q) := by unfold beg; rw [hrd]; simp only; rw [if_pos hk]
      obtain ⟨qk, qt, qi, qv, qd⟩ := q
      simp only at hk hqd cR
      subst hk
      have HOW : Hid (OnWay (b :: bt) 1 (begW (⟨4, qt, qi, qv, qd⟩ : Rcd)) (8 + b.size)) := OnWay.begin hbeg (HSZ.out b (List.mem_cons_self ..))
      have hbz : b.size ≤ 1048576 := HSZ.out b (List.mem_cons_self ..)
      go_wp2_with fail
      refine (cR w1).mono ?_
      rintro e w2 ⟨rfl, hb2⟩
      have C2 : Below w1.heap.size w1 w2 := hb2
      have KQ := Blk.new w2 #[.int .i64 4, .int .i64 qt, .int .i64 qi, .int .i64 qv, .string qd] 34
      have CQ := C2.alloc C2.size (.cells #[.int .i64 4, .int .i64 qt, .int .i64 qi, .int .i64 qv, .string qd] 34)
      have KX := Blk.new (w2.alloc (.cells #[.int .i64 4, .int .i64 qt, .int .i64 qi, .int .i64 qv, .string qd] 34)) #[.int .i64 qt, .int .i64 (-1), .int .i64 qi, .int .i64 qt, .slice none 0 0] 24
      have KQ2 := KQ.alloc (.cells #[.int .i64 qt, .int .i64 (-1), .int .i64 qi, .int .i64 qt, .slice none 0 0] 24)
      have CX := CQ.alloc CQ.size (.cells #[.int .i64 qt, .int .i64 (-1), .int .i64 qi, .int .i64 qt, .slice none 0 0] 24)
      have hcx : ((w2.alloc (.cells #[.int .i64 4, .int .i64 qt, .int .i64 qi, .int .i64 qv, .string qd] 34)).alloc (.cells #[.int .i64 qt, .int .i64 (-1), .int .i64 qi, .int .i64 qt, .slice none 0 0] 24)).cell? ⟨g, 0, none⟩ = some (.string b) := by rw [CX.cell (p := ⟨_, _, none⟩) G1.out]; exact hc0
      have y0 := KQ.cell 0 (.int .i64 4) rfl
      have y1 := KQ.cell 1 (.int .i64 qt) rfl
      have y2 := KQ.cell 2 (.int .i64 qi) rfl
      have y3 := KQ.cell 3 (.int .i64 qv) rfl
      have y4 := KQ.cell 4 (.string qd) rfl
      simp only [World.size_alloc] at KX
      go_wp2_with fail
      generalize (w2.alloc (.cells #[.int .i64 4, .int .i64 qt, .int .i64 qi, .int .i64 qv, .string qd] 34)).alloc (.cells #[.int .i64 qt, .int .i64 (-1), .int .i64 qi, .int .i64 qt, .slice none 0 0] 24) = w4 at *
      have NZ : Hid (w2.heap.size ≠ w2.heap.size + 1) := Nat.ne_of_lt (Nat.lt_succ_self _)
      have LQ : Hid (w1.heap.size ≤ w2.heap.size) := C2.size
      clear y0 y1 y2 y3 y4 KQ CQ hcx C2 hb2 hc0 cR
      generalize hzx : w2.heap.size + 1 = zx at *
      generalize w2.heap.size = zq at *
      have LX : Hid (w1.heap.size ≤ zx) := by have := LQ.out; unfold Hid; omega
      have st : Below w1.heap.size w1 w4 ∧ Blk w4 zq #[.int .i64 4, .int .i64 qt, .int .i64 qi, .int .i64 qv, .string qd] 34 ∧ Blk w4 zx #[.int .i64 qt, .int .i64 (-1), .int .i64 qi, .int .i64 qt, .slice none 0 0] 24 := ⟨CX, KQ2, KX⟩
      clear CX KQ2 KX hzx
      go_loopw [8, 10, 11] (fun v8 v10 v11 wr => ∃ (i nn : Nat) (x : Wl) (A1 : Option Addr) (m1 c1 : Nat) (qc : Rcd), i ≤ K ∧ v8 = .bool true ∧ v10 = .int .i64 (nn : Int) ∧ v11 = .int .i64 (i : Int) ∧ OnWay (b :: bt) i x nn ∧ Below w1.heap.size w1 wr ∧ Blk wr zq #[.int .i64 qc.kind, .int .i64 qc.term, .int .i64 qc.index, .int .i64 qc.vote, .string qc.data] 34 ∧ Blk wr zx #[.int .i64 x.term, .int .i64 x.vote, .int .i64 x.base, .int .i64 x.bterm, .slice A1 m1 c1] 24 ∧ Owns wr w1.heap.size 56 2 (.slice A1 m1 c1) (entR x.ents)) (fun _ _ i _ => K - (intOf i).toNat)
      case atStart => exact ⟨1, 8 + b.size, begW (⟨4, qt, qi, qv, qd⟩ : Rcd), none, 0, 0, (⟨4, qt, qi, qv, qd⟩ : Rcd), by omega, rfl, by go_num, rfl, HOW.out, st.1, st.2.1, st.2.2, Owns.nil _ _ _ _⟩
      case round =>
        obtain ⟨i, nn, x, A1, m1, c1, qc, hin, rfl, rfl, rfl, hOW, hC, hQ, hX, hO⟩ := hrel
        have OW : Hid (OnWay (b :: bt) i x nn) := hOW
        have CR : Hid (Below w1.heap.size w1 wr) := hC
        have QR : Hid (Blk wr zq #[.int .i64 qc.kind, .int .i64 qc.term, .int .i64 qc.index, .int .i64 qc.vote, .string qc.data] 34) := hQ
        have XR : Hid (Blk wr zx #[.int .i64 x.term, .int .i64 x.vote, .int .i64 x.base, .int .i64 x.bterm, .slice A1 m1 c1] 24) := hX
        have OR : Hid (Owns wr w1.heap.size 56 2 (.slice A1 m1 c1) (entR x.ents)) := hO
        have hnl := hOW.le
        have qnn : (nn : Int) ≤ 209716800000 := by omega
        clear hOW hC hQ hX hO hnl st HOW
        by_cases hlt : i < K
        · have q4 : (i : Int) < (K : Int) := by omega
          obtain ⟨g', eg, hg', _, hc⟩ := HL.out i hlt
          cases eg
          rw [← CR.out.cell (p := ⟨_, _, none⟩) G1.out] at hc
          have hsz : ((b :: bt).getD i default).size ≤ 1048576 := HSZ.out _ (getD_mem (b :: bt) i (by rw [HN.out]; exact hlt))
          have cR := fun wx => ansS ((b :: bt).getD i default) (rd ((b :: bt).getD i default)) wx hsz (rd_is _)
          have HNX : Hid (∀ hf : (stp x ((b :: bt).getD i default)).2 = true, OnWay (b :: bt) (i + 1) (stp x ((b :: bt).getD i default)).1 (nn + (8 + ((b :: bt).getD i default).size))) := fun hf => OW.out.next (by rw [HN.out]; exact hlt) hsz hf
          have HST : Hid (∀ hf : (stp x ((b :: bt).getD i default)).2 = false, rep (b :: bt) = (x, nn, true)) := fun hf => OW.out.stop (by rw [HN.out]; exact hlt) hf
          generalize hsi : (b :: bt).getD i default = si at *
          have HSI : Hid ((b :: bt).getD i default = si) := hsi
          clear hsi
          have HOK : Hid (walOk x = true) := OW.out.ok
          clear hg' OW
          cases hrd : rd si with
          | none =>
            have hst := walStep_none hrd x HOK.out
            have hrep := HST.out (by rw [hst.2])
            rw [hrd] at cR
            simp only [ansV] at cR
            have cW := fun wx hx => specWalStep x ⟨0, 0, 0, 0, ⟨#[]⟩⟩ (.agg #[.int .i64 x.term, .int .i64 x.vote, .int .i64 x.base, .int .i64 x.bterm, .slice A1 m1 c1]) wx wx.heap.size hx (fitsW_ok HOK.out) (Nat.zero_le _) (Nat.le_refl _)
            rw [hst.1] at cW
            simp only [vRcd] at cW
            go_wp2_with fail
            refine (cR wr).mono ?_
            rintro e w2 ⟨rfl, hb2⟩
            have C2 : Hid (Below w1.heap.size w1 w2) := CR.out.trans (hb2.mono CR.out.size)
            have Q2 : Hid (Blk w2 zq #[.int .i64 qc.kind, .int .i64 qc.term, .int .i64 qc.index, .int .i64 qc.vote, .string qc.data] 34) := QR.out.on hb2 QR.out.lt
            have X2 : Hid (Blk w2 zx #[.int .i64 x.term, .int .i64 x.vote, .int .i64 x.base, .int .i64 x.bterm, .slice A1 m1 c1] 24) := XR.out.on hb2 XR.out.lt
            have O2 : Hid (Owns w2 w1.heap.size 56 2 (.slice A1 m1 c1) (entR x.ents)) := OR.out.on hb2
            clear hb2 cR hc
            have r0 := Q2.out.cell 0 (.int .i64 qc.kind) rfl
            have f0 := Q2.out.free 0
            have r1 := Q2.out.cell 1 (.int .i64 qc.term) rfl
            have f1 := Q2.out.free 1
            have r2 := Q2.out.cell 2 (.int .i64 qc.index) rfl
            have f2 := Q2.out.free 2
            have r3 := Q2.out.cell 3 (.int .i64 qc.vote) rfl
            have f3 := Q2.out.free 3
            have r4 := Q2.out.cell 4 (.string qc.data) rfl
            have f4 := Q2.out.free 4
            have Q3 := (((((Q2.out.set 0 (.int .i64 0)).set 1 (.int .i64 0)).set 2 (.int .i64 0)).set 3 (.int .i64 0)).set 4 (.string ⟨#[]⟩))
            have X3 := (((((X2.out.other (Ne.symm NZ.out) 0 (.int .i64 0)).other (Ne.symm NZ.out) 1 (.int .i64 0)).other (Ne.symm NZ.out) 2 (.int .i64 0)).other (Ne.symm NZ.out) 3 (.int .i64 0)).other (Ne.symm NZ.out) 4 (.string ⟨#[]⟩))
            have O3 := (((((O2.out.other (O2.out.notBlk Q2.out (by decide)) 0 (.int .i64 0)).other (O2.out.notBlk Q2.out (by decide)) 1 (.int .i64 0)).other (O2.out.notBlk Q2.out (by decide)) 2 (.int .i64 0)).other (O2.out.notBlk Q2.out (by decide)) 3 (.int .i64 0)).other (O2.out.notBlk Q2.out (by decide)) 4 (.string ⟨#[]⟩))
            have C3 := (((((C2.out.setCell LQ.out (.int .i64 0) (p := ⟨zq, 0, none⟩)).setCell LQ.out (.int .i64 0) (p := ⟨zq, 1, none⟩)).setCell LQ.out (.int .i64 0) (p := ⟨zq, 2, none⟩)).setCell LQ.out (.int .i64 0) (p := ⟨zq, 3, none⟩)).setCell LQ.out (.string ⟨#[]⟩) (p := ⟨zq, 4, none⟩))
            replace Q3 : Blk (((((w2.setCell ⟨zq, 0, none⟩ (.int .i64 0)).setCell ⟨zq, 1, none⟩ (.int .i64 0)).setCell ⟨zq, 2, none⟩ (.int .i64 0)).setCell ⟨zq, 3, none⟩ (.int .i64 0)).setCell ⟨zq, 4, none⟩ (.string ⟨#[]⟩)) zq #[.int .i64 0, .int .i64 0, .int .i64 0, .int .i64 0, .string ⟨#[]⟩] 34 := Q3
            have y0 := Q3.cell 0 (.int .i64 0) rfl
            have y1 := Q3.cell 1 (.int .i64 0) rfl
            have y2 := Q3.cell 2 (.int .i64 0) rfl
            have y3 := Q3.cell 3 (.int .i64 0) rfl
            have y4 := Q3.cell 4 (.string ⟨#[]⟩) rfl
            have x0 := X3.cell 0 (.int .i64 x.term) rfl
            have x1 := X3.cell 1 (.int .i64 x.vote) rfl
            have x2 := X3.cell 2 (.int .i64 x.base) rfl
            have x3 := X3.cell 3 (.int .i64 x.bterm) rfl
            have x4 := X3.cell 4 (.slice A1 m1 c1) rfl
            go_wp2_with fail
            generalize (((((w2.setCell ⟨zq, 0, none⟩ (.int .i64 0)).setCell ⟨zq, 1, none⟩ (.int .i64 0)).setCell ⟨zq, 2, none⟩ (.int .i64 0)).setCell ⟨zq, 3, none⟩ (.int .i64 0)).setCell ⟨zq, 4, none⟩ (.string ⟨#[]⟩)) = w3 at *
            have QH : Hid (Blk w3 zq #[.int .i64 0, .int .i64 0, .int .i64 0, .int .i64 0, .string ⟨#[]⟩] 34) := Q3
            have XH : Hid (Blk w3 zx #[.int .i64 x.term, .int .i64 x.vote, .int .i64 x.base, .int .i64 x.bterm, .slice A1 m1 c1] 24) := X3
            have OH : Hid (Owns w3 w1.heap.size 56 2 (.slice A1 m1 c1) (entR x.ents)) := O3
            have CH : Hid (Below w1.heap.size w1 w3) := C3
            clear Q3 X3 O3 C3 r0 r1 r2 r3 r4 f0 f1 f2 f3 f4 y0 y1 y2 y3 y4 x0 x1 x2 x3 x4 Q2 X2 O2 C2
            refine (cW w3 ⟨_, rfl, OH.out.lies⟩).mono ?_
            rintro e w4 ⟨u4, b4, rfl, ⟨hO4, hbe⟩, hb4⟩
            replace hbe := hbe.symm
            subst hbe
            obtain ⟨s4, rfl, o4⟩ := hO4
            obtain ⟨A2, m2, c2, rfl⟩ := o4.shape
            have bx : Below w4.heap.size w4 (w4.alloc (.cells #[.int .i64 x.term, .int .i64 x.vote, .int .i64 x.base, .int .i64 x.bterm, .slice A2 m2 c2] 24)) := (Below.refl _ _).alloc (Nat.le_refl _) _
            have K5 := Blk.new w4 #[.int .i64 x.term, .int .i64 x.vote, .int .i64 x.base, .int .i64 x.bterm, .slice A2 m2 c2] 24
            have X4 := XH.out.on hb4 XH.out.lt
            have Q4 := QH.out.on hb4 QH.out.lt
            have C4 : Below w1.heap.size w1 w4 := CH.out.trans (hb4.mono CH.out.size)
            have C5 := C4.trans (bx.mono C4.size)
            have X5 := X4.on bx X4.lt
            have Q5 := Q4.on bx Q4.lt
            have O5 := (OH.out.on hb4).on bx
            have o5 := o4.on bx
            have n5 : zx ≠ w4.heap.size := Nat.ne_of_lt X4.lt
            have L3 : Hid (w1.heap.size ≤ w3.heap.size) := CH.out.size
            clear hb4 cW bx X4 Q4 C4 o4
            have BR := B1.out.trans (C5.mono B1.out.size)
            have RR := R1.out.on C5 RL.out
            have x0 := X5.cell 0 (.int .i64 x.term) rfl
            have x1 := X5.cell 1 (.int .i64 x.vote) rfl
            have x2 := X5.cell 2 (.int .i64 x.base) rfl
            have x3 := X5.cell 3 (.int .i64 x.bterm) rfl
            have x4 := X5.cell 4 (.slice A1 m1 c1) rfl
            have r0 := RR.cell 0 (.int .i64 0) rfl
            have f0 := RR.free 0
            have r1 := RR.cell 1 (.int .i64 0) rfl
            have f1 := RR.free 1
            have r2 := RR.cell 2 (.int .i64 0) rfl
            have f2 := RR.free 2
            have r3 := RR.cell 3 (.int .i64 0) rfl
            have f3 := RR.free 3
            have r4 := RR.cell 4 (.slice none 0 0) rfl
            have f4 := RR.free 4
            go_wp2_with fail
            have hF := (((((RR.set 0 (.int .i64 x.term)).set 1 (.int .i64 x.vote)).set 2 (.int .i64 x.base)).set 3 (.int .i64 x.bterm)).set 4 (.slice A1 m1 c1))
            have FB := (((((BR.setCell (Nat.le_refl _) (.int .i64 x.term) (p := ⟨w.heap.size, 0, none⟩)).setCell (Nat.le_refl _) (.int .i64 x.vote) (p := ⟨w.heap.size, 1, none⟩)).setCell (Nat.le_refl _) (.int .i64 x.base) (p := ⟨w.heap.size, 2, none⟩)).setCell (Nat.le_refl _) (.int .i64 x.bterm) (p := ⟨w.heap.size, 3, none⟩)).setCell (Nat.le_refl _) (.slice A1 m1 c1) (p := ⟨w.heap.size, 4, none⟩))
            have FO := (((((O5.other (O5.notBlk RR (by decide)) 0 (.int .i64 x.term)).other (O5.notBlk RR (by decide)) 1 (.int .i64 x.vote)).other (O5.notBlk RR (by decide)) 2 (.int .i64 x.base)).other (O5.notBlk RR (by decide)) 3 (.int .i64 x.bterm)).other (O5.notBlk RR (by decide)) 4 (.slice A1 m1 c1))
            generalize ((((((w4.alloc (.cells #[.int .i64 x.term, .int .i64 x.vote, .int .i64 x.base, .int .i64 x.bterm, .slice A2 m2 c2] 24)).setCell ⟨w.heap.size, 0, none⟩ (.int .i64 x.term)).setCell ⟨w.heap.size, 1, none⟩ (.int .i64 x.vote)).setCell ⟨w.heap.size, 2, none⟩ (.int .i64 x.base)).setCell ⟨w.heap.size, 3, none⟩ (.int .i64 x.bterm)).setCell ⟨w.heap.size, 4, none⟩ (.slice A1 m1 c1)) = WF at *
            have hG : Blk WF w.heap.size #[.int .i64 x.term, .int .i64 x.vote, .int .i64 x.base, .int .i64 x.bterm, .slice A1 m1 c1] 24 := hF
            have mm0 := hG.cell 0 (.int .i64 x.term) rfl
            have mm1 := hG.cell 1 (.int .i64 x.vote) rfl
            have mm2 := hG.cell 2 (.int .i64 x.base) rfl
            have mm3 := hG.cell 3 (.int .i64 x.bterm) rfl
            have mm4 := hG.cell 4 (.slice A1 m1 c1) rfl
            exact bodyPost_ret (v := .tuple #[.agg #[.int .i64 x.term, .int .i64 x.vote, .int .i64 x.base, .int .i64 x.bterm, .slice A1 m1 c1], .int .i64 (nn : Int), .bool true]) (by simp [results, go_sem, mm0, mm1, mm2, mm3, mm4]) rfl ⟨K, .agg #[.int .i64 x.term, .int .i64 x.vote, .int .i64 x.base, .int .i64 x.bterm, .slice A1 m1 c1], HE.out, by rw [HBS.out, hrep], by rw [HBS.out, hrep]; exact ⟨_, rfl, FO.mono (Nat.le_of_lt RL.out)⟩, FB⟩
          | some p =>
            have hst := walStep_some hrd x HOK.out
            have hpd : p.data.size ≤ maxLen := by have := recOk_data p (rd_ok hrd); unfold maxLen; omega
            rw [hrd] at cR
            simp only [ansV, vRcd] at cR
            have cW := fun wx hx => specWalStep x p (.agg #[.int .i64 x.term, .int .i64 x.vote, .int .i64 x.base, .int .i64 x.bterm, .slice A1 m1 c1]) wx wx.heap.size hx (fitsW_ok HOK.out) hpd (Nat.le_refl _)
            rw [hst] at cW
            simp only [vRcd] at cW
            clear hst hpd
            generalize hsp : stp x si = sp at *
            obtain ⟨y, fit⟩ := sp
            simp only at cW HNX HST
            go_wp2_with fail
            refine (cR wr).mono ?_
            rintro e w2 ⟨rfl, hb2⟩
            have C2 : Hid (Below w1.heap.size w1 w2) := CR.out.trans (hb2.mono CR.out.size)
            have Q2 : Hid (Blk w2 zq #[.int .i64 qc.kind, .int .i64 qc.term, .int .i64 qc.index, .int .i64 qc.vote, .string qc.data] 34) := QR.out.on hb2 QR.out.lt
            have X2 : Hid (Blk w2 zx #[.int .i64 x.term, .int .i64 x.vote, .int .i64 x.base, .int .i64 x.bterm, .slice A1 m1 c1] 24) := XR.out.on hb2 XR.out.lt
            have O2 : Hid (Owns w2 w1.heap.size 56 2 (.slice A1 m1 c1) (entR x.ents)) := OR.out.on hb2
            clear hb2 cR hc
            have r0 := Q2.out.cell 0 (.int .i64 qc.kind) rfl
            have f0 := Q2.out.free 0
            have r1 := Q2.out.cell 1 (.int .i64 qc.term) rfl
            have f1 := Q2.out.free 1
            have r2 := Q2.out.cell 2 (.int .i64 qc.index) rfl
            have f2 := Q2.out.free 2
            have r3 := Q2.out.cell 3 (.int .i64 qc.vote) rfl
            have f3 := Q2.out.free 3
            have r4 := Q2.out.cell 4 (.string qc.data) rfl
            have f4 := Q2.out.free 4
            have Q3 := (((((Q2.out.set 0 (.int .i64 p.kind)).set 1 (.int .i64 p.term)).set 2 (.int .i64 p.index)).set 3 (.int .i64 p.vote)).set 4 (.string p.data))
            have X3 := (((((X2.out.other (Ne.symm NZ.out) 0 (.int .i64 p.kind)).other (Ne.symm NZ.out) 1 (.int .i64 p.term)).other (Ne.symm NZ.out) 2 (.int .i64 p.index)).other (Ne.symm NZ.out) 3 (.int .i64 p.vote)).other (Ne.symm NZ.out) 4 (.string p.data))
            have O3 := (((((O2.out.other (O2.out.notBlk Q2.out (by decide)) 0 (.int .i64 p.kind)).other (O2.out.notBlk Q2.out (by decide)) 1 (.int .i64 p.term)).other (O2.out.notBlk Q2.out (by decide)) 2 (.int .i64 p.index)).other (O2.out.notBlk Q2.out (by decide)) 3 (.int .i64 p.vote)).other (O2.out.notBlk Q2.out (by decide)) 4 (.string p.data))
            have C3 := (((((C2.out.setCell LQ.out (.int .i64 p.kind) (p := ⟨zq, 0, none⟩)).setCell LQ.out (.int .i64 p.term) (p := ⟨zq, 1, none⟩)).setCell LQ.out (.int .i64 p.index) (p := ⟨zq, 2, none⟩)).setCell LQ.out (.int .i64 p.vote) (p := ⟨zq, 3, none⟩)).setCell LQ.out (.string p.data) (p := ⟨zq, 4, none⟩))
            replace Q3 : Blk (((((w2.setCell ⟨zq, 0, none⟩ (.int .i64 p.kind)).setCell ⟨zq, 1, none⟩ (.int .i64 p.term)).setCell ⟨zq, 2, none⟩ (.int .i64 p.index)).setCell ⟨zq, 3, none⟩ (.int .i64 p.vote)).setCell ⟨zq, 4, none⟩ (.string p.data)) zq #[.int .i64 p.kind, .int .i64 p.term, .int .i64 p.index, .int .i64 p.vote, .string p.data] 34 := Q3
            have y0 := Q3.cell 0 (.int .i64 p.kind) rfl
            have y1 := Q3.cell 1 (.int .i64 p.term) rfl
            have y2 := Q3.cell 2 (.int .i64 p.index) rfl
            have y3 := Q3.cell 3 (.int .i64 p.vote) rfl
            have y4 := Q3.cell 4 (.string p.data) rfl
            have x0 := X3.cell 0 (.int .i64 x.term) rfl
            have x1 := X3.cell 1 (.int .i64 x.vote) rfl
            have x2 := X3.cell 2 (.int .i64 x.base) rfl
            have x3 := X3.cell 3 (.int .i64 x.bterm) rfl
            have x4 := X3.cell 4 (.slice A1 m1 c1) rfl
            go_wp2_with fail
            generalize (((((w2.setCell ⟨zq, 0, none⟩ (.int .i64 p.kind)).setCell ⟨zq, 1, none⟩ (.int .i64 p.term)).setCell ⟨zq, 2, none⟩ (.int .i64 p.index)).setCell ⟨zq, 3, none⟩ (.int .i64 p.vote)).setCell ⟨zq, 4, none⟩ (.string p.data)) = w3 at *
            have QH : Hid (Blk w3 zq #[.int .i64 p.kind, .int .i64 p.term, .int .i64 p.index, .int .i64 p.vote, .string p.data] 34) := Q3
            have XH : Hid (Blk w3 zx #[.int .i64 x.term, .int .i64 x.vote, .int .i64 x.base, .int .i64 x.bterm, .slice A1 m1 c1] 24) := X3
            have OH : Hid (Owns w3 w1.heap.size 56 2 (.slice A1 m1 c1) (entR x.ents)) := O3
            have CH : Hid (Below w1.heap.size w1 w3) := C3
            clear Q3 X3 O3 C3 r0 r1 r2 r3 r4 f0 f1 f2 f3 f4 y0 y1 y2 y3 y4 x0 x1 x2 x3 x4 Q2 X2 O2 C2
            refine (cW w3 ⟨_, rfl, OH.out.lies⟩).mono ?_
            rintro e w4 ⟨u4, b4, rfl, ⟨hO4, hbe⟩, hb4⟩
            replace hbe := hbe.symm
            subst hbe
            obtain ⟨s4, rfl, o4⟩ := hO4
            obtain ⟨A2, m2, c2, rfl⟩ := o4.shape
            have bx : Below w4.heap.size w4 (w4.alloc (.cells #[.int .i64 y.term, .int .i64 y.vote, .int .i64 y.base, .int .i64 y.bterm, .slice A2 m2 c2] 24)) := (Below.refl _ _).alloc (Nat.le_refl _) _
            have K5 := Blk.new w4 #[.int .i64 y.term, .int .i64 y.vote, .int .i64 y.base, .int .i64 y.bterm, .slice A2 m2 c2] 24
            have X4 := XH.out.on hb4 XH.out.lt
            have Q4 := QH.out.on hb4 QH.out.lt
            have C4 : Below w1.heap.size w1 w4 := CH.out.trans (hb4.mono CH.out.size)
            have C5 := C4.trans (bx.mono C4.size)
            have X5 := X4.on bx X4.lt
            have Q5 := Q4.on bx Q4.lt
            have O5 := (OH.out.on hb4).on bx
            have o5 := o4.on bx
            have n5 : zx ≠ w4.heap.size := Nat.ne_of_lt X4.lt
            have L3 : Hid (w1.heap.size ≤ w3.heap.size) := CH.out.size
            clear hb4 cW bx X4 Q4 C4 o4
            cases fit with
            | false =>
              have hrep := HST.out rfl
              have BR := B1.out.trans (C5.mono B1.out.size)
              have RR := R1.out.on C5 RL.out
              have x0 := X5.cell 0 (.int .i64 x.term) rfl
              have x1 := X5.cell 1 (.int .i64 x.vote) rfl
              have x2 := X5.cell 2 (.int .i64 x.base) rfl
              have x3 := X5.cell 3 (.int .i64 x.bterm) rfl
              have x4 := X5.cell 4 (.slice A1 m1 c1) rfl
              have r0 := RR.cell 0 (.int .i64 0) rfl
              have f0 := RR.free 0
              have r1 := RR.cell 1 (.int .i64 0) rfl
              have f1 := RR.free 1
              have r2 := RR.cell 2 (.int .i64 0) rfl
              have f2 := RR.free 2
              have r3 := RR.cell 3 (.int .i64 0) rfl
              have f3 := RR.free 3
              have r4 := RR.cell 4 (.slice none 0 0) rfl
              have f4 := RR.free 4
              go_wp2_with fail
              have hF := (((((RR.set 0 (.int .i64 x.term)).set 1 (.int .i64 x.vote)).set 2 (.int .i64 x.base)).set 3 (.int .i64 x.bterm)).set 4 (.slice A1 m1 c1))
              have FB := (((((BR.setCell (Nat.le_refl _) (.int .i64 x.term) (p := ⟨w.heap.size, 0, none⟩)).setCell (Nat.le_refl _) (.int .i64 x.vote) (p := ⟨w.heap.size, 1, none⟩)).setCell (Nat.le_refl _) (.int .i64 x.base) (p := ⟨w.heap.size, 2, none⟩)).setCell (Nat.le_refl _) (.int .i64 x.bterm) (p := ⟨w.heap.size, 3, none⟩)).setCell (Nat.le_refl _) (.slice A1 m1 c1) (p := ⟨w.heap.size, 4, none⟩))
              have FO := (((((O5.other (O5.notBlk RR (by decide)) 0 (.int .i64 x.term)).other (O5.notBlk RR (by decide)) 1 (.int .i64 x.vote)).other (O5.notBlk RR (by decide)) 2 (.int .i64 x.base)).other (O5.notBlk RR (by decide)) 3 (.int .i64 x.bterm)).other (O5.notBlk RR (by decide)) 4 (.slice A1 m1 c1))
              generalize ((((((w4.alloc (.cells #[.int .i64 y.term, .int .i64 y.vote, .int .i64 y.base, .int .i64 y.bterm, .slice A2 m2 c2] 24)).setCell ⟨w.heap.size, 0, none⟩ (.int .i64 x.term)).setCell ⟨w.heap.size, 1, none⟩ (.int .i64 x.vote)).setCell ⟨w.heap.size, 2, none⟩ (.int .i64 x.base)).setCell ⟨w.heap.size, 3, none⟩ (.int .i64 x.bterm)).setCell ⟨w.heap.size, 4, none⟩ (.slice A1 m1 c1)) = WF at *
              have hG : Blk WF w.heap.size #[.int .i64 x.term, .int .i64 x.vote, .int .i64 x.base, .int .i64 x.bterm, .slice A1 m1 c1] 24 := hF
              have mm0 := hG.cell 0 (.int .i64 x.term) rfl
              have mm1 := hG.cell 1 (.int .i64 x.vote) rfl
              have mm2 := hG.cell 2 (.int .i64 x.base) rfl
              have mm3 := hG.cell 3 (.int .i64 x.bterm) rfl
              have mm4 := hG.cell 4 (.slice A1 m1 c1) rfl
              exact bodyPost_ret (v := .tuple #[.agg #[.int .i64 x.term, .int .i64 x.vote, .int .i64 x.base, .int .i64 x.bterm, .slice A1 m1 c1], .int .i64 (nn : Int), .bool true]) (by simp [results, go_sem, mm0, mm1, mm2, mm3, mm4]) rfl ⟨K, .agg #[.int .i64 x.term, .int .i64 x.vote, .int .i64 x.base, .int .i64 x.bterm, .slice A1 m1 c1], HE.out, by rw [HBS.out, hrep], by rw [HBS.out, hrep]; exact ⟨_, rfl, FO.mono (Nat.le_of_lt RL.out)⟩, FB⟩
            | true =>
              have HW := HNX.out rfl
              have x0 := X5.cell 0 (.int .i64 x.term) rfl
              have f0 := X5.free 0
              have x1 := X5.cell 1 (.int .i64 x.vote) rfl
              have f1 := X5.free 1
              have x2 := X5.cell 2 (.int .i64 x.base) rfl
              have f2 := X5.free 2
              have x3 := X5.cell 3 (.int .i64 x.bterm) rfl
              have f3 := X5.free 3
              have x4 := X5.cell 4 (.slice A1 m1 c1) rfl
              have f4 := X5.free 4
              have y0 := K5.cell 0 (.int .i64 y.term) rfl
              have y1 := K5.cell 1 (.int .i64 y.vote) rfl
              have y2 := K5.cell 2 (.int .i64 y.base) rfl
              have y3 := K5.cell 3 (.int .i64 y.bterm) rfl
              have y4 := K5.cell 4 (.slice A2 m2 c2) rfl
              have X6 := (((((X5.set 0 (.int .i64 y.term)).set 1 (.int .i64 y.vote)).set 2 (.int .i64 y.base)).set 3 (.int .i64 y.bterm)).set 4 (.slice A2 m2 c2))
              have Q6 := (((((Q5.other NZ.out 0 (.int .i64 y.term)).other NZ.out 1 (.int .i64 y.vote)).other NZ.out 2 (.int .i64 y.base)).other NZ.out 3 (.int .i64 y.bterm)).other NZ.out 4 (.slice A2 m2 c2))
              have O6 := (((((o5.other (o5.notBlk X5 (by decide)) 0 (.int .i64 y.term)).other (o5.notBlk X5 (by decide)) 1 (.int .i64 y.vote)).other (o5.notBlk X5 (by decide)) 2 (.int .i64 y.base)).other (o5.notBlk X5 (by decide)) 3 (.int .i64 y.bterm)).other (o5.notBlk X5 (by decide)) 4 (.slice A2 m2 c2))
              have C6 := (((((C5.setCell LX.out (.int .i64 y.term) (p := ⟨zx, 0, none⟩)).setCell LX.out (.int .i64 y.vote) (p := ⟨zx, 1, none⟩)).setCell LX.out (.int .i64 y.base) (p := ⟨zx, 2, none⟩)).setCell LX.out (.int .i64 y.bterm) (p := ⟨zx, 3, none⟩)).setCell LX.out (.slice A2 m2 c2) (p := ⟨zx, 4, none⟩))
              have hc6 := HL.out i hlt
              obtain ⟨g6, eg6, _, _, hc6⟩ := hc6
              cases eg6
              rw [← C6.cell (p := ⟨_, _, none⟩) G1.out, HSI.out] at hc6
              go_wp2_with fail
              generalize ((((((w4.alloc (.cells #[.int .i64 y.term, .int .i64 y.vote, .int .i64 y.base, .int .i64 y.bterm, .slice A2 m2 c2] 24)).setCell ⟨zx, 0, none⟩ (.int .i64 y.term)).setCell ⟨zx, 1, none⟩ (.int .i64 y.vote)).setCell ⟨zx, 2, none⟩ (.int .i64 y.base)).setCell ⟨zx, 3, none⟩ (.int .i64 y.bterm)).setCell ⟨zx, 4, none⟩ (.slice A2 m2 c2)) = w6 at *
              go_roundw
              case rel => exact ⟨i + 1, nn + (8 + si.size), y, A2, m2, c2, p, by omega, rfl, by go_num, by go_num, HW, C6, Q6, X6, O6.mono L3.out⟩
              case measure => simp [intOf]; omega
        · have hrep := OW.out.done (by rw [HN.out]; omega)
          have BR : Hid (Below w.heap.size w wr) := B1.out.trans (CR.out.mono B1.out.size)
          have RR : Hid (Blk wr w.heap.size #[.int .i64 0, .int .i64 0, .int .i64 0, .int .i64 0, .slice none 0 0] 24) := R1.out.on CR.out RL.out
          have x0 := XR.out.cell 0 (.int .i64 x.term) rfl
          have x1 := XR.out.cell 1 (.int .i64 x.vote) rfl
          have x2 := XR.out.cell 2 (.int .i64 x.base) rfl
          have x3 := XR.out.cell 3 (.int .i64 x.bterm) rfl
          have x4 := XR.out.cell 4 (.slice A1 m1 c1) rfl
          have r0 := RR.out.cell 0 (.int .i64 0) rfl
          have f0 := RR.out.free 0
          have r1 := RR.out.cell 1 (.int .i64 0) rfl
          have f1 := RR.out.free 1
          have r2 := RR.out.cell 2 (.int .i64 0) rfl
          have f2 := RR.out.free 2
          have r3 := RR.out.cell 3 (.int .i64 0) rfl
          have f3 := RR.out.free 3
          have r4 := RR.out.cell 4 (.slice none 0 0) rfl
          have f4 := RR.out.free 4
          go_wp2_with fail
          have hF := (((((RR.out.set 0 (.int .i64 x.term)).set 1 (.int .i64 x.vote)).set 2 (.int .i64 x.base)).set 3 (.int .i64 x.bterm)).set 4 (.slice A1 m1 c1))
          have FB := (((((BR.out.setCell (Nat.le_refl _) (.int .i64 x.term) (p := ⟨w.heap.size, 0, none⟩)).setCell (Nat.le_refl _) (.int .i64 x.vote) (p := ⟨w.heap.size, 1, none⟩)).setCell (Nat.le_refl _) (.int .i64 x.base) (p := ⟨w.heap.size, 2, none⟩)).setCell (Nat.le_refl _) (.int .i64 x.bterm) (p := ⟨w.heap.size, 3, none⟩)).setCell (Nat.le_refl _) (.slice A1 m1 c1) (p := ⟨w.heap.size, 4, none⟩))
          have FO := (((((OR.out.other (OR.out.notBlk RR.out (by decide)) 0 (.int .i64 x.term)).other (OR.out.notBlk RR.out (by decide)) 1 (.int .i64 x.vote)).other (OR.out.notBlk RR.out (by decide)) 2 (.int .i64 x.base)).other (OR.out.notBlk RR.out (by decide)) 3 (.int .i64 x.bterm)).other (OR.out.notBlk RR.out (by decide)) 4 (.slice A1 m1 c1))
          generalize (((((wr.setCell ⟨w.heap.size, 0, none⟩ (.int .i64 x.term)).setCell ⟨w.heap.size, 1, none⟩ (.int .i64 x.vote)).setCell ⟨w.heap.size, 2, none⟩ (.int .i64 x.base)).setCell ⟨w.heap.size, 3, none⟩ (.int .i64 x.bterm)).setCell ⟨w.heap.size, 4, none⟩ (.slice A1 m1 c1)) = WF at *
          have hG : Blk WF w.heap.size #[.int .i64 x.term, .int .i64 x.vote, .int .i64 x.base, .int .i64 x.bterm, .slice A1 m1 c1] 24 := hF
          have mm0 := hG.cell 0 (.int .i64 x.term) rfl
          have mm1 := hG.cell 1 (.int .i64 x.vote) rfl
          have mm2 := hG.cell 2 (.int .i64 x.base) rfl
          have mm3 := hG.cell 3 (.int .i64 x.bterm) rfl
          have mm4 := hG.cell 4 (.slice A1 m1 c1) rfl
          exact bodyPost_ret (v := .tuple #[.agg #[.int .i64 x.term, .int .i64 x.vote, .int .i64 x.base, .int .i64 x.bterm, .slice A1 m1 c1], .int .i64 (nn : Int), .bool true]) (by simp [results, go_sem, mm0, mm1, mm2, mm3, mm4]) rfl ⟨K, .agg #[.int .i64 x.term, .int .i64 x.vote, .int .i64 x.base, .int .i64 x.bterm, .slice A1 m1 c1], HE.out, by rw [HBS.out, hrep], by rw [HBS.out, hrep]; exact ⟨_, rfl, FO.mono (Nat.le_of_lt RL.out)⟩, FB⟩
    · have hbeg : beg b = none := by unfold beg; rw [hrd]; simp only; rw [if_neg hk]
      have zk : (q.kind == 4) = false := by simpa using hk
      go_wp2_with fail
      refine (cR w1).mono ?_
      rintro e w2 ⟨rfl, hb2⟩
      have B2 : Hid (Below w.heap.size w w2) := B1.out.trans (hb2.mono B1.out.size)
      have R2 : Hid (Blk w2 w.heap.size #[.int .i64 0, .int .i64 0, .int .i64 0, .int .i64 0, .slice none 0 0] 24) := R1.out.on hb2 R1.out.lt
      have KQ := Blk.new w2 #[.int .i64 q.kind, .int .i64 q.term, .int .i64 q.index, .int .i64 q.vote, .string q.data] 34
      have y0 := KQ.cell 0 (.int .i64 q.kind) rfl
      have y1 := KQ.cell 1 (.int .i64 q.term) rfl
      have y2 := KQ.cell 2 (.int .i64 q.index) rfl
      have y3 := KQ.cell 3 (.int .i64 q.vote) rfl
      have y4 := KQ.cell 4 (.string q.data) rfl
      clear hb2 cR
      have r0 := (R2.out.alloc (.cells #[.int .i64 q.kind, .int .i64 q.term, .int .i64 q.index, .int .i64 q.vote, .string q.data] 34)).cell 0 (.int .i64 0) rfl
      have f0 := (R2.out.alloc (.cells #[.int .i64 q.kind, .int .i64 q.term, .int .i64 q.index, .int .i64 q.vote, .string q.data] 34)).free 0
      have r1 := (R2.out.alloc (.cells #[.int .i64 q.kind, .int .i64 q.term, .int .i64 q.index, .int .i64 q.vote, .string q.data] 34)).cell 1 (.int .i64 0) rfl
      have f1 := (R2.out.alloc (.cells #[.int .i64 q.kind, .int .i64 q.term, .int .i64 q.index, .int .i64 q.vote, .string q.data] 34)).free 1
      have r2 := (R2.out.alloc (.cells #[.int .i64 q.kind, .int .i64 q.term, .int .i64 q.index, .int .i64 q.vote, .string q.data] 34)).cell 2 (.int .i64 0) rfl
      have f2 := (R2.out.alloc (.cells #[.int .i64 q.kind, .int .i64 q.term, .int .i64 q.index, .int .i64 q.vote, .string q.data] 34)).free 2
      have r3 := (R2.out.alloc (.cells #[.int .i64 q.kind, .int .i64 q.term, .int .i64 q.index, .int .i64 q.vote, .string q.data] 34)).cell 3 (.int .i64 0) rfl
      have f3 := (R2.out.alloc (.cells #[.int .i64 q.kind, .int .i64 q.term, .int .i64 q.index, .int .i64 q.vote, .string q.data] 34)).free 3
      have r4 := (R2.out.alloc (.cells #[.int .i64 q.kind, .int .i64 q.term, .int .i64 q.index, .int .i64 q.vote, .string q.data] 34)).cell 4 (.slice none 0 0) rfl
      have f4 := (R2.out.alloc (.cells #[.int .i64 q.kind, .int .i64 q.term, .int .i64 q.index, .int .i64 q.vote, .string q.data] 34)).free 4
      go_wp2_with fail
      have hF := ((((((R2.out.alloc (.cells #[.int .i64 q.kind, .int .i64 q.term, .int .i64 q.index, .int .i64 q.vote, .string q.data] 34)).set 0 (.int .i64 0)).set 1 (.int .i64 0)).set 2 (.int .i64 0)).set 3 (.int .i64 0)).set 4 (.slice none 0 0))
      have FB := ((((((B2.out.alloc B2.out.size (.cells #[.int .i64 q.kind, .int .i64 q.term, .int .i64 q.index, .int .i64 q.vote, .string q.data] 34)).setCell (Nat.le_refl _) (.int .i64 0) (p := ⟨w.heap.size, 0, none⟩)).setCell (Nat.le_refl _) (.int .i64 0) (p := ⟨w.heap.size, 1, none⟩)).setCell (Nat.le_refl _) (.int .i64 0) (p := ⟨w.heap.size, 2, none⟩)).setCell (Nat.le_refl _) (.int .i64 0) (p := ⟨w.heap.size, 3, none⟩)).setCell (Nat.le_refl _) (.slice none 0 0) (p := ⟨w.heap.size, 4, none⟩))
      generalize ((((((w2.alloc (.cells #[.int .i64 q.kind, .int .i64 q.term, .int .i64 q.index, .int .i64 q.vote, .string q.data] 34)).setCell ⟨w.heap.size, 0, none⟩ (.int .i64 0)).setCell ⟨w.heap.size, 1, none⟩ (.int .i64 0)).setCell ⟨w.heap.size, 2, none⟩ (.int .i64 0)).setCell ⟨w.heap.size, 3, none⟩ (.int .i64 0)).setCell ⟨w.heap.size, 4, none⟩ (.slice none 0 0)) = WF at *
      have hG : Blk WF w.heap.size #[.int .i64 0, .int .i64 0, .int .i64 0, .int .i64 0, .slice none 0 0] 24 := hF
      have mm0 := hG.cell 0 (.int .i64 0) rfl
      have mm1 := hG.cell 1 (.int .i64 0) rfl
      have mm2 := hG.cell 2 (.int .i64 0) rfl
      have mm3 := hG.cell 3 (.int .i64 0) rfl
      have mm4 := hG.cell 4 (.slice none 0 0) rfl
      exact bodyPost_ret (v := .tuple #[.agg #[.int .i64 0, .int .i64 0, .int .i64 0, .int .i64 0, .slice none 0 0], .int .i64 0, .bool false]) (by simp [results, go_sem, mm0, mm1, mm2, mm3, mm4]) rfl ⟨K, .agg #[.int .i64 0, .int .i64 0, .int .i64 0, .int .i64 0, .slice none 0 0], HE.out, by rw [HBS.out, rep_none hbeg]; rfl, by rw [HBS.out, rep_none hbeg]; exact ⟨_, rfl, Owns.nil _ _ _ _⟩, FB⟩
end Go.Proofs.YtnpgkmmflibmkaaDoor

/-
  Contract of impl.Replay.
-/
namespace Go.Proofs.YtnpgkmmflibmkaaDoor
open Go.ChangeShapes Go.WideShapes Go.ChangeAt Go.RowKit Go.PlainAid
set_option linter.unusedVariables false

theorem stp_no {x : Wl} {s : ByteArray} (h : (stp x s).2 = false) : (stp x s).1 = x := by
  unfold stp at h ⊢
  cases hr : rd s with
  | none => rfl
  | some q =>
    rw [hr] at h
    simp only at h ⊢
    split
    · rename_i hf
      rw [if_pos hf] at h
      cases h
    · rfl
theorem wok_in {x : Wl} (h : walOk x = true) : x.ents.length ≤ 60 ∧ 0 ≤ x.base ∧ x.base ≤ 100000 := by
  have w := wOk_of h
  have := w.s
  exact ⟨w.n, based0 w.b, by omega⟩

set_option maxRecDepth 20000 in
set_option maxHeartbeats 16000000 in
theorem implReplay (s : ByteArray) (w : World) (hs : s.size ≤ 1048576) (ht : SumTab w) (a0 a1 a2 : Addr) (he : Errs w a0 a1 a2) :
    Calls Tryd.prog 5 #[.string s] w fun e w' => ∃ K u, Ends s K ∧ e = .returned (.tuple #[u, .int .i64 ((rep (bods s K)).2.1 : Int), .bool (rep (bods s K)).2.2]) ∧ WalO w' w.heap.size u (rep (bods s K)).1 ∧ Below w.heap.size w w' := by
  have HS : Hid (s.size ≤ 1048576) := hs
  have b0 : Below w.heap.size w (w.alloc (.cells #[.int .i64 0, .int .i64 0, .int .i64 0, .int .i64 0, .slice none 0 0] 24)) := (Below.refl _ _).alloc (Nat.le_refl _) _
  have k0 := Blk.new w #[.int .i64 0, .int .i64 0, .int .i64 0, .int .i64 0, .slice none 0 0] 24
  have cF := impl_frames s (w.alloc (.cells #[.int .i64 0, .int .i64 0, .int .i64 0, .int .i64 0, .slice none 0 0] 24)) hs (ht.on b0) a0 a1 a2 (he.on b0)
  clear hs ht he
  go_enter Tryd.func5, Tryd.ntmps5
  go_wp2_with fail
  generalize w.alloc (.cells #[.int .i64 0, .int .i64 0, .int .i64 0, .int .i64 0, .slice none 0 0] 24) = W at *
  refine cF.mono ?_
  rintro e w1 ⟨K, v, hE, rfl, hS, hb1⟩
  have B1 : Hid (Below w.heap.size w w1) := b0.trans (hb1.mono b0.size)
  have R1 : Hid (Blk w1 w.heap.size #[.int .i64 0, .int .i64 0, .int .i64 0, .int .i64 0, .slice none 0 0] 24) := k0.on hb1 k0.lt
  have HE : Hid (Ends s K) := hE
  have hK := hE.1.pos_le
  obtain ⟨A, cap, rfl, hlk⟩ := strs_look hS
  have hroom := hS.room.1
  have HSZ : Hid (∀ x ∈ bods s K, x.size ≤ 1048576) := fun x hx => Nat.le_trans (bods_size s K x hx) HS.out
  rw [bods_length] at hlk hroom ⊢
  have HRM : Hid (K ≤ cap) := hroom
  have HL : Hid (∀ j, j < K → ∃ g, A = some ⟨g, 0, none⟩ ∧ g < w1.heap.size ∧ W.heap.size ≤ g ∧ w1.cell? ⟨g, j, none⟩ = some (.string ((bods s K).getD j default))) := hlk
  have HN : Hid ((bods s K).length = K) := bods_length s K
  have qK : (K : Int) ≤ 200000 := by have := HS.out; omega
  have RL : Hid (w.heap.size < w1.heap.size) := R1.out.lt
  clear hE hS hb1 hlk k0 b0 cF hK hroom
  generalize hbs : bods s K = bs at *
  have HBS : Hid (bods s K = bs) := hbs
  clear hbs
  by_cases h0 : K = 0
  · subst h0
    obtain rfl : bs = [] := List.eq_nil_of_length_eq_zero HN.out
    have r0 := R1.out.cell 0 (.int .i64 0) rfl
    have f0 := R1.out.free 0
    have r1 := R1.out.cell 1 (.int .i64 0) rfl
    have f1 := R1.out.free 1
    have r2 := R1.out.cell 2 (.int .i64 0) rfl
    have f2 := R1.out.free 2
    have r3 := R1.out.cell 3 (.int .i64 0) rfl
    have f3 := R1.out.free 3
    have r4 := R1.out.cell 4 (.slice none 0 0) rfl
    have f4 := R1.out.free 4
    go_wp2_with fail
    have hF := (((((R1.out.set 0 (.int .i64 0)).set 1 (.int .i64 0)).set 2 (.int .i64 0)).set 3 (.int .i64 0)).set 4 (.slice none 0 0))
    have FB := (((((B1.out.setCell (Nat.le_refl _) (.int .i64 0) (p := ⟨w.heap.size, 0, none⟩)).setCell (Nat.le_refl _) (.int .i64 0) (p := ⟨w.heap.size, 1, none⟩)).setCell (Nat.le_refl _) (.int .i64 0) (p := ⟨w.heap.size, 2, none⟩)).setCell (Nat.le_refl _) (.int .i64 0) (p := ⟨w.heap.size, 3, none⟩)).setCell (Nat.le_refl _) (.slice none 0 0) (p := ⟨w.heap.size, 4, none⟩))
    generalize (((((w1.setCell ⟨w.heap.size, 0, none⟩ (.int .i64 0)).setCell ⟨w.heap.size, 1, none⟩ (.int .i64 0)).setCell ⟨w.heap.size, 2, none⟩ (.int .i64 0)).setCell ⟨w.heap.size, 3, none⟩ (.int .i64 0)).setCell ⟨w.heap.size, 4, none⟩ (.slice none 0 0)) = WF at *
    have hG : Blk WF w.heap.size #[.int .i64 0, .int .i64 0, .int .i64 0, .int .i64 0, .slice none 0 0] 24 := hF
    have mm0 := hG.cell 0 (.int .i64 0) rfl
    have mm1 := hG.cell 1 (.int .i64 0) rfl
    have mm2 := hG.cell 2 (.int .i64 0) rfl
    have mm3 := hG.cell 3 (.int .i64 0) rfl
    have mm4 := hG.cell 4 (.slice none 0 0) rfl
    first
      | exact bodyPost_ret (v := .tuple #[.agg #[.int .i64 0, .int .i64 0, .int .i64 0, .int .i64 0, .slice none 0 0], .int .i64 0, .bool false]) (by simp [results, go_sem, mm0, mm1, mm2, mm3, mm4]) rfl ⟨0, _, HE.out, rfl, ⟨_, rfl, Owns.nil _ _ _ _⟩, FB⟩
      | exact bodyPost_ret (v := .tuple #[.agg #[.int .i64 0, .int .i64 0, .int .i64 0, .int .i64 0, .slice none 0 0], .int .i64 0, .bool false]) (by simp [results, go_sem, mm0, mm1, mm2, mm3, mm4]) rfl ⟨0, HE.out, _, rfl, ⟨_, rfl, Owns.nil _ _ _ _⟩, FB⟩
  have q0 : ((K : Int) == 0) = false := by simpa using h0
  obtain ⟨b, bt, rfl⟩ : ∃ b bt, bs = b :: bt := by
    cases bs with
    | nil => exact absurd HN.out.symm h0
    | cons b bt => exact ⟨b, bt, rfl⟩
  obtain ⟨g, rfl, hg, hWg, hc0⟩ := HL.out 0 (by omega)
  have hb0 : b.size ≤ 1048576 := HSZ.out b (List.mem_cons_self ..)
  have G1 : Hid (g < w1.heap.size) := hg
  obtain ⟨q, hqd, hrd, cQ⟩ := readRecA b hb0
  have cB := fun wx => begunV q wx
  have hbeg := beg_rec hrd
  replace hc0 : w1.cell? ⟨g, 0, none⟩ = some (.string b) := hc0
  obtain ⟨A', c', hcut, hA'⟩ := cut_strs g K cap (by omega) HRM.out
  have HA' : Hid (1 < K → A' = some ⟨g, 1, none⟩) := hA'
  clear hg hWg hrd hA'
  by_cases hk : recOk q = true ∧ q.kind = 4
  · rw [if_pos hk] at cB hbeg
    have HOW : Hid (OnWay (b :: bt) 1 (begW q) (8 + b.size)) := OnWay.begin hbeg hb0
    clear hk
    generalize recV q = rv at *
    go_wp2_with fail
    refine (cQ w1).mono ?_
    rintro e w2 ⟨rfl, hb2⟩
    go_wp2_with fail
    refine (cB w2).mono ?_
    rintro e w3 ⟨rfl, hb3⟩
    have C3 : Below w1.heap.size w1 w3 := hb2.trans (hb3.mono hb2.size)
    have KX := Blk.new w3 #[.int .i64 q.term, .int .i64 (-1), .int .i64 q.index, .int .i64 q.term, .slice none 0 0] 24
    have CX := C3.alloc C3.size (.cells #[.int .i64 q.term, .int .i64 (-1), .int .i64 q.index, .int .i64 q.term, .slice none 0 0] 24)
    have hcx : (w3.alloc (.cells #[.int .i64 q.term, .int .i64 (-1), .int .i64 q.index, .int .i64 q.term, .slice none 0 0] 24)).cell? ⟨g, 0, none⟩ = some (.string b) := by rw [CX.cell (p := ⟨_, _, none⟩) G1.out]; exact hc0
    go_wp2_with fail
    generalize w3.alloc (.cells #[.int .i64 q.term, .int .i64 (-1), .int .i64 q.index, .int .i64 q.term, .slice none 0 0] 24) = w4 at *
    have LX : Hid (w1.heap.size ≤ w3.heap.size) := C3.size
    have L4 : Hid (w1.heap.size ≤ w4.heap.size) := CX.size
    have LX4 : Hid (w3.heap.size < w4.heap.size) := KX.lt
    clear hb2 hb3 C3 hcx hc0 cQ cB
    generalize w3.heap.size = zx at *
    have st : Below w1.heap.size w1 w4 ∧ Blk w4 zx #[.int .i64 q.term, .int .i64 (-1), .int .i64 q.index, .int .i64 q.term, .slice none 0 0] 24 := ⟨CX, KX⟩
    clear CX KX
    go_loopw [8, 9, 40] (fun v8 v9 v40 wr => ∃ (k nn : Nat) (x : Wl) (A1 : Option Addr) (m1 c1 : Nat), k ≤ K - 1 ∧ v8 = .bool true ∧ v9 = .int .i64 (nn : Int) ∧ v40 = .int .i64 (k : Int) ∧ OnWay (b :: bt) (k + 1) x nn ∧ Below w1.heap.size w1 wr ∧ w4.heap.size ≤ wr.heap.size ∧ Blk wr zx #[.int .i64 x.term, .int .i64 x.vote, .int .i64 x.base, .int .i64 x.bterm, .slice A1 m1 c1] 24 ∧ Owns wr w4.heap.size 56 2 (.slice A1 m1 c1) (entR x.ents)) (fun _ _ i _ => K - (intOf i).toNat)
    case atStart => exact ⟨0, 8 + b.size, begW q, none, 0, 0, by omega, rfl, by go_num, rfl, HOW.out, st.1, Nat.le_refl _, st.2, Owns.nil _ _ _ _⟩
    case round =>
      obtain ⟨k, nn, x, A1, m1, c1, hin, rfl, rfl, rfl, hOW, hC, hZ, hX, hO⟩ := hrel
      have OW : Hid (OnWay (b :: bt) (k + 1) x nn) := hOW
      have CR : Hid (Below w1.heap.size w1 wr) := hC
      have ZR : Hid (w4.heap.size ≤ wr.heap.size) := hZ
      have XR : Hid (Blk wr zx #[.int .i64 x.term, .int .i64 x.vote, .int .i64 x.base, .int .i64 x.bterm, .slice A1 m1 c1] 24) := hX
      have OR : Hid (Owns wr w4.heap.size 56 2 (.slice A1 m1 c1) (entR x.ents)) := hO
      have hnl := hOW.le
      have qnn : (nn : Int) ≤ 209716800000 := by omega
      clear hOW hC hZ hX hO hnl st HOW
      by_cases hlt : k < K - 1
      · have q4 : (k : Int) < ((K - 1 : Nat) : Int) := by omega
        have hAe := HA'.out (by omega)
        subst hAe
        obtain ⟨g', eg, hg', _, hc⟩ := HL.out (k + 1) (by omega)
        cases eg
        rw [← CR.out.cell (p := ⟨_, _, none⟩) G1.out, Nat.add_comm k 1] at hc
        have hsz : ((b :: bt).getD (k + 1) default).size ≤ 1048576 := HSZ.out _ (getD_mem (b :: bt) (k + 1) (by rw [HN.out]; omega))
        obtain ⟨p, hpd, hrp, cP⟩ := readRecA ((b :: bt).getD (k + 1) default) hsz
        have cS := fun wx hx hb => steppedV x p (.agg #[.int .i64 x.term, .int .i64 x.vote, .int .i64 x.base, .int .i64 x.bterm, .slice A1 m1 c1]) wx w4.heap.size hx (wok_in OW.out.ok).1 (wok_in OW.out.ok).2.1 (wok_in OW.out.ok).2.2 hb hpd
        rw [stepR_stp hrp x] at cS
        have HNX : Hid (∀ hf : (stp x ((b :: bt).getD (k + 1) default)).2 = true, OnWay (b :: bt) (k + 1 + 1) (stp x ((b :: bt).getD (k + 1) default)).1 (nn + (8 + ((b :: bt).getD (k + 1) default).size))) := fun hf => OW.out.next (by rw [HN.out]; omega) hsz hf
        have HST : Hid (∀ hf : (stp x ((b :: bt).getD (k + 1) default)).2 = false, rep (b :: bt) = ((stp x ((b :: bt).getD (k + 1) default)).1, nn, true)) := fun hf => by rw [stp_no hf]; exact OW.out.stop (by rw [HN.out]; omega) hf
        rw [Nat.add_comm k 1] at hsz cP cS HNX HST
        generalize (b :: bt).getD (1 + k) default = si at *
        generalize stp x si = sp at *
        obtain ⟨y, fit⟩ := sp
        simp only at cS HNX HST
        generalize recV p = rv at *
        clear hg' OW hrp hpd
        have S0 : Hid (wr.drew.cell? ⟨zx, 0, none⟩ = some (.int .i64 x.term) ∧ wr.drew.cell? ⟨zx, 1, none⟩ = some (.int .i64 x.vote) ∧ wr.drew.cell? ⟨zx, 2, none⟩ = some (.int .i64 x.base) ∧ wr.drew.cell? ⟨zx, 3, none⟩ = some (.int .i64 x.bterm) ∧ wr.drew.cell? ⟨zx, 4, none⟩ = some (.slice A1 m1 c1)) := ⟨XR.out.cell 0 _ rfl, XR.out.cell 1 _ rfl, XR.out.cell 2 _ rfl, XR.out.cell 3 _ rfl, XR.out.cell 4 _ rfl⟩
        go_wp2_with fail
        refine wp_region_until (fun w' => w'.cell? ⟨zx, 0, none⟩ = some (.int .i64 x.term) ∧ w'.cell? ⟨zx, 1, none⟩ = some (.int .i64 x.vote) ∧ w'.cell? ⟨zx, 2, none⟩ = some (.int .i64 x.base) ∧ w'.cell? ⟨zx, 3, none⟩ = some (.int .i64 x.bterm) ∧ w'.cell? ⟨zx, 4, none⟩ = some (.slice A1 m1 c1)) (fun i => i == 7 || i == 8) 9 (by rfl) (by kernel_rfl) ?_
        have CRX : Hid (Below w1.heap.size w1 wr.drew) := CR.out.drew
        have ZRX : Hid (w4.heap.size ≤ wr.drew.heap.size) := ZR.out
        have XRX : Hid (Blk wr.drew zx #[.int .i64 x.term, .int .i64 x.vote, .int .i64 x.base, .int .i64 x.bterm, .slice A1 m1 c1] 24) := XR.out
        have ORX : Hid (Owns wr.drew w4.heap.size 56 2 (.slice A1 m1 c1) (entR x.ents)) := OR.out.heap rfl
        clear hc
        generalize wr.drew = rgX at *
        refine until_take 0 (v := ?_) (by rfl) (by kernel_rfl) (by exact fun _ _ _ h => h) (by rfl) ?_ S0.out ?_
        rotate_left
        · intro w hSw
          try dsimp only at hSw
          go_simp
          try with_reducible rfl
        try simp only [Act.put, List.setIfInBounds_toArray, List.set_cons_zero, List.set_cons_succ]
        refine until_pure 1 (v := ?_) (by rfl) (by kernel_rfl) (by exact fun _ _ _ h => h) (by rfl) ?_ ?_
        rotate_left
        · intro w
          go_simp
          try with_reducible rfl
        try simp only [Act.put, List.setIfInBounds_toArray, List.set_cons_zero, List.set_cons_succ]
        refine until_one 2 (by rfl) (by kernel_rfl) (fun KC hK => ?_)
        go_simp
        refine (cP rgX).mono ?_
        rintro e w5 ⟨rfl, hb5⟩
        have C5 : Hid (Below w1.heap.size w1 w5) := CRX.out.trans (hb5.mono CRX.out.size)
        have Z5 : Hid (w4.heap.size ≤ w5.heap.size) := Nat.le_trans ZRX.out hb5.size
        have X5 : Hid (Blk w5 zx #[.int .i64 x.term, .int .i64 x.vote, .int .i64 x.base, .int .i64 x.bterm, .slice A1 m1 c1] 24) := XRX.out.on hb5 XRX.out.lt
        have O5 : Hid (Owns w5 w4.heap.size 56 2 (.slice A1 m1 c1) (entR x.ents)) := ORX.out.on hb5
        clear hb5 cP
        go_wp2_with fail
        refine hK.out _ _ (fun _ _ => ⟨X5.out.cell 0 _ rfl, X5.out.cell 1 _ rfl, X5.out.cell 2 _ rfl, X5.out.cell 3 _ rfl, X5.out.cell 4 _ rfl⟩) ?_
        clear hK KC
        try simp only [Act.put, List.setIfInBounds_toArray, List.set_cons_zero, List.set_cons_succ]
        refine until_one 3 (by rfl) (by kernel_rfl) (fun KC hK => ?_)
        go_simp
        refine (cS w5 ⟨_, rfl, O5.out⟩ Z5.out).mono ?_
        rintro e w6 ⟨u4, b4, rfl, ⟨hO4, hbe⟩, hb6⟩
        replace hbe := hbe.symm
        subst hbe
        obtain ⟨s4, rfl, o4⟩ := hO4
        obtain ⟨A2, m2, c2, rfl⟩ := o4.shape
        have C6 : Hid (Below w1.heap.size w1 w6) := C5.out.trans (hb6.mono L4.out)
        have Z6 : Hid (w4.heap.size ≤ w6.heap.size) := Nat.le_trans Z5.out hb6.size
        have X6 : Hid (Blk w6 zx #[.int .i64 x.term, .int .i64 x.vote, .int .i64 x.base, .int .i64 x.bterm, .slice A1 m1 c1] 24) := X5.out.on hb6 LX4.out
        have O6 : Hid (Owns w6 w4.heap.size 56 2 (.slice A2 m2 c2) (entR y.ents)) := o4
        clear hb6 cS o4
        go_wp2_with fail
        refine hK.out _ _ (fun _ _ => ⟨X6.out.cell 0 _ rfl, X6.out.cell 1 _ rfl, X6.out.cell 2 _ rfl, X6.out.cell 3 _ rfl, X6.out.cell 4 _ rfl⟩) ?_
        clear hK KC
        try simp only [Act.put, List.setIfInBounds_toArray, List.set_cons_zero, List.set_cons_succ]
        refine until_pure 4 (v := ?_) (by rfl) (by kernel_rfl) (by exact fun _ _ _ h => h) (by rfl) ?_ ?_
        rotate_left
        · intro w
          go_simp
          try with_reducible rfl
        try simp only [Act.put, List.setIfInBounds_toArray, List.set_cons_zero, List.set_cons_succ]
        refine until_pure 5 (v := ?_) (by rfl) (by kernel_rfl) (by exact fun _ _ _ h => h) (by rfl) ?_ ?_
        rotate_left
        · intro w
          go_simp
          try with_reducible rfl
        try simp only [Act.put, List.setIfInBounds_toArray, List.set_cons_zero, List.set_cons_succ]
        refine until_pure 6 (v := ?_) (by rfl) (by kernel_rfl) (by exact fun _ _ _ h => h) (by rfl) ?_ ?_
        rotate_left
        · intro w
          go_simp
          try with_reducible rfl
        try simp only [Act.put, List.setIfInBounds_toArray, List.set_cons_zero, List.set_cons_succ]
        refine until_one 7 (by rfl) (by kernel_rfl) (fun KC hK => ?_)
        have x0 := X6.out.cell 0 (.int .i64 x.term) rfl
        have f0 := X6.out.free 0
        have x1 := X6.out.cell 1 (.int .i64 x.vote) rfl
        have f1 := X6.out.free 1
        have x2 := X6.out.cell 2 (.int .i64 x.base) rfl
        have f2 := X6.out.free 2
        have x3 := X6.out.cell 3 (.int .i64 x.bterm) rfl
        have f3 := X6.out.free 3
        have x4 := X6.out.cell 4 (.slice A1 m1 c1) rfl
        have f4 := X6.out.free 4
        go_simp
        have X7 := (((((X6.out.set 0 (.int .i64 y.term)).set 1 (.int .i64 y.vote)).set 2 (.int .i64 y.base)).set 3 (.int .i64 y.bterm)).set 4 (.slice A2 m2 c2))
        have O7 := (((((O6.out.other (O6.out.notBlk X6.out (by decide)) 0 (.int .i64 y.term)).other (O6.out.notBlk X6.out (by decide)) 1 (.int .i64 y.vote)).other (O6.out.notBlk X6.out (by decide)) 2 (.int .i64 y.base)).other (O6.out.notBlk X6.out (by decide)) 3 (.int .i64 y.bterm)).other (O6.out.notBlk X6.out (by decide)) 4 (.slice A2 m2 c2))
        have C7 := (((((C6.out.setCell LX.out (.int .i64 y.term) (p := ⟨zx, 0, none⟩)).setCell LX.out (.int .i64 y.vote) (p := ⟨zx, 1, none⟩)).setCell LX.out (.int .i64 y.base) (p := ⟨zx, 2, none⟩)).setCell LX.out (.int .i64 y.bterm) (p := ⟨zx, 3, none⟩)).setCell LX.out (.slice A2 m2 c2) (p := ⟨zx, 4, none⟩))
        have Z7 : w4.heap.size ≤ ((((((w6.setCell ⟨zx, 0, none⟩ (.int .i64 y.term)).setCell ⟨zx, 1, none⟩ (.int .i64 y.vote)).setCell ⟨zx, 2, none⟩ (.int .i64 y.base)).setCell ⟨zx, 3, none⟩ (.int .i64 y.bterm)).setCell ⟨zx, 4, none⟩ (.slice A2 m2 c2))).heap.size := by simpa using Z6.out
        clear x0 x1 x2 x3 x4 f0 f1 f2 f3 f4 X6 O6 C6 Z6
        generalize (((((w6.setCell ⟨zx, 0, none⟩ (.int .i64 y.term)).setCell ⟨zx, 1, none⟩ (.int .i64 y.vote)).setCell ⟨zx, 2, none⟩ (.int .i64 y.base)).setCell ⟨zx, 3, none⟩ (.int .i64 y.bterm)).setCell ⟨zx, 4, none⟩ (.slice A2 m2 c2)) = w7 at *
        replace X7 : Blk w7 zx #[.int .i64 y.term, .int .i64 y.vote, .int .i64 y.base, .int .i64 y.bterm, .slice A2 m2 c2] 24 := X7
        refine hK.out _ _ (fun h => by cases h) ?_
        clear hK KC S0
        try simp only [Act.put, List.setIfInBounds_toArray, List.set_cons_zero, List.set_cons_succ]
        refine until_pure 8 (v := ?_) (by rfl) (by kernel_rfl) (by exact fun _ _ _ h => h) (by rfl) ?_ ?_
        rotate_left
        · intro w
          go_simp
          try with_reducible rfl
        try simp only [Act.put, List.setIfInBounds_toArray, List.set_cons_zero, List.set_cons_succ]
        refine until_done (by kernel_rfl) ?_ _
        cases fit with
        | false =>
          have hrep := HST.out rfl
          have BR := B1.out.trans (C7.mono B1.out.size)
          have RR := R1.out.on C7 RL.out
          have x0 := X7.cell 0 (.int .i64 y.term) rfl
          have x1 := X7.cell 1 (.int .i64 y.vote) rfl
          have x2 := X7.cell 2 (.int .i64 y.base) rfl
          have x3 := X7.cell 3 (.int .i64 y.bterm) rfl
          have x4 := X7.cell 4 (.slice A2 m2 c2) rfl
          have r0 := RR.cell 0 (.int .i64 0) rfl
          have f0 := RR.free 0
          have r1 := RR.cell 1 (.int .i64 0) rfl
          have f1 := RR.free 1
          have r2 := RR.cell 2 (.int .i64 0) rfl
          have f2 := RR.free 2
          have r3 := RR.cell 3 (.int .i64 0) rfl
          have f3 := RR.free 3
          have r4 := RR.cell 4 (.slice none 0 0) rfl
          have f4 := RR.free 4
          go_wp2_with fail
          have hF := (((((RR.set 0 (.int .i64 y.term)).set 1 (.int .i64 y.vote)).set 2 (.int .i64 y.base)).set 3 (.int .i64 y.bterm)).set 4 (.slice A2 m2 c2))
          have FB := (((((BR.setCell (Nat.le_refl _) (.int .i64 y.term) (p := ⟨w.heap.size, 0, none⟩)).setCell (Nat.le_refl _) (.int .i64 y.vote) (p := ⟨w.heap.size, 1, none⟩)).setCell (Nat.le_refl _) (.int .i64 y.base) (p := ⟨w.heap.size, 2, none⟩)).setCell (Nat.le_refl _) (.int .i64 y.bterm) (p := ⟨w.heap.size, 3, none⟩)).setCell (Nat.le_refl _) (.slice A2 m2 c2) (p := ⟨w.heap.size, 4, none⟩))
          have FO := (((((O7.other (O7.notBlk RR (by decide)) 0 (.int .i64 y.term)).other (O7.notBlk RR (by decide)) 1 (.int .i64 y.vote)).other (O7.notBlk RR (by decide)) 2 (.int .i64 y.base)).other (O7.notBlk RR (by decide)) 3 (.int .i64 y.bterm)).other (O7.notBlk RR (by decide)) 4 (.slice A2 m2 c2))
          generalize (((((w7.setCell ⟨w.heap.size, 0, none⟩ (.int .i64 y.term)).setCell ⟨w.heap.size, 1, none⟩ (.int .i64 y.vote)).setCell ⟨w.heap.size, 2, none⟩ (.int .i64 y.base)).setCell ⟨w.heap.size, 3, none⟩ (.int .i64 y.bterm)).setCell ⟨w.heap.size, 4, none⟩ (.slice A2 m2 c2)) = WF at *
          have hG : Blk WF w.heap.size #[.int .i64 y.term, .int .i64 y.vote, .int .i64 y.base, .int .i64 y.bterm, .slice A2 m2 c2] 24 := hF
          have mm0 := hG.cell 0 (.int .i64 y.term) rfl
          have mm1 := hG.cell 1 (.int .i64 y.vote) rfl
          have mm2 := hG.cell 2 (.int .i64 y.base) rfl
          have mm3 := hG.cell 3 (.int .i64 y.bterm) rfl
          have mm4 := hG.cell 4 (.slice A2 m2 c2) rfl
          first
            | exact bodyPost_ret (v := .tuple #[.agg #[.int .i64 y.term, .int .i64 y.vote, .int .i64 y.base, .int .i64 y.bterm, .slice A2 m2 c2], .int .i64 (nn : Int), .bool true]) (by simp [results, go_sem, mm0, mm1, mm2, mm3, mm4]) rfl ⟨K, .agg #[.int .i64 y.term, .int .i64 y.vote, .int .i64 y.base, .int .i64 y.bterm, .slice A2 m2 c2], HE.out, by rw [HBS.out, hrep], by rw [HBS.out, hrep]; exact ⟨_, rfl, FO.mono (Nat.le_trans (Nat.le_of_lt RL.out) L4.out)⟩, FB⟩
            | exact bodyPost_ret (v := .tuple #[.agg #[.int .i64 y.term, .int .i64 y.vote, .int .i64 y.base, .int .i64 y.bterm, .slice A2 m2 c2], .int .i64 (nn : Int), .bool true]) (by simp [results, go_sem, mm0, mm1, mm2, mm3, mm4]) rfl ⟨K, HE.out, .agg #[.int .i64 y.term, .int .i64 y.vote, .int .i64 y.base, .int .i64 y.bterm, .slice A2 m2 c2], by rw [HBS.out, hrep], by rw [HBS.out, hrep]; exact ⟨_, rfl, FO.mono (Nat.le_trans (Nat.le_of_lt RL.out) L4.out)⟩, FB⟩
        | true =>
          have HW := HNX.out rfl
          rw [Nat.add_comm 1 k] at HW
          go_wp2_with fail
          go_roundw
          case rel => exact ⟨k + 1, nn + (8 + si.size), y, A2, m2, c2, by omega, rfl, by go_num, by go_num, HW, C7, Z7, X7, O7⟩
          case measure => simp [intOf]; omega
      · have hrep := OW.out.done (by rw [HN.out]; omega)
        have BR := B1.out.trans (CR.out.mono B1.out.size)
        have RR := R1.out.on CR.out RL.out
        have x0 := XR.out.cell 0 (.int .i64 x.term) rfl
        have x1 := XR.out.cell 1 (.int .i64 x.vote) rfl
        have x2 := XR.out.cell 2 (.int .i64 x.base) rfl
        have x3 := XR.out.cell 3 (.int .i64 x.bterm) rfl
        have x4 := XR.out.cell 4 (.slice A1 m1 c1) rfl
        have r0 := RR.cell 0 (.int .i64 0) rfl
        have f0 := RR.free 0
        have r1 := RR.cell 1 (.int .i64 0) rfl
        have f1 := RR.free 1
        have r2 := RR.cell 2 (.int .i64 0) rfl
        have f2 := RR.free 2
        have r3 := RR.cell 3 (.int .i64 0) rfl
        have f3 := RR.free 3
        have r4 := RR.cell 4 (.slice none 0 0) rfl
        have f4 := RR.free 4
        go_wp2_with fail
        have hF := (((((RR.set 0 (.int .i64 x.term)).set 1 (.int .i64 x.vote)).set 2 (.int .i64 x.base)).set 3 (.int .i64 x.bterm)).set 4 (.slice A1 m1 c1))
        have FB := (((((BR.setCell (Nat.le_refl _) (.int .i64 x.term) (p := ⟨w.heap.size, 0, none⟩)).setCell (Nat.le_refl _) (.int .i64 x.vote) (p := ⟨w.heap.size, 1, none⟩)).setCell (Nat.le_refl _) (.int .i64 x.base) (p := ⟨w.heap.size, 2, none⟩)).setCell (Nat.le_refl _) (.int .i64 x.bterm) (p := ⟨w.heap.size, 3, none⟩)).setCell (Nat.le_refl _) (.slice A1 m1 c1) (p := ⟨w.heap.size, 4, none⟩))
        have FO := (((((OR.out.other (OR.out.notBlk RR (by decide)) 0 (.int .i64 x.term)).other (OR.out.notBlk RR (by decide)) 1 (.int .i64 x.vote)).other (OR.out.notBlk RR (by decide)) 2 (.int .i64 x.base)).other (OR.out.notBlk RR (by decide)) 3 (.int .i64 x.bterm)).other (OR.out.notBlk RR (by decide)) 4 (.slice A1 m1 c1))
        generalize (((((wr.setCell ⟨w.heap.size, 0, none⟩ (.int .i64 x.term)).setCell ⟨w.heap.size, 1, none⟩ (.int .i64 x.vote)).setCell ⟨w.heap.size, 2, none⟩ (.int .i64 x.base)).setCell ⟨w.heap.size, 3, none⟩ (.int .i64 x.bterm)).setCell ⟨w.heap.size, 4, none⟩ (.slice A1 m1 c1)) = WF at *
        have hG : Blk WF w.heap.size #[.int .i64 x.term, .int .i64 x.vote, .int .i64 x.base, .int .i64 x.bterm, .slice A1 m1 c1] 24 := hF
        have mm0 := hG.cell 0 (.int .i64 x.term) rfl
        have mm1 := hG.cell 1 (.int .i64 x.vote) rfl
        have mm2 := hG.cell 2 (.int .i64 x.base) rfl
        have mm3 := hG.cell 3 (.int .i64 x.bterm) rfl
        have mm4 := hG.cell 4 (.slice A1 m1 c1) rfl
        first
          | exact bodyPost_ret (v := .tuple #[.agg #[.int .i64 x.term, .int .i64 x.vote, .int .i64 x.base, .int .i64 x.bterm, .slice A1 m1 c1], .int .i64 (nn : Int), .bool true]) (by simp [results, go_sem, mm0, mm1, mm2, mm3, mm4]) rfl ⟨K, .agg #[.int .i64 x.term, .int .i64 x.vote, .int .i64 x.base, .int .i64 x.bterm, .slice A1 m1 c1], HE.out, by rw [HBS.out, hrep], by rw [HBS.out, hrep]; exact ⟨_, rfl, FO.mono (Nat.le_trans (Nat.le_of_lt RL.out) L4.out)⟩, FB⟩
          | exact bodyPost_ret (v := .tuple #[.agg #[.int .i64 x.term, .int .i64 x.vote, .int .i64 x.base, .int .i64 x.bterm, .slice A1 m1 c1], .int .i64 (nn : Int), .bool true]) (by simp [results, go_sem, mm0, mm1, mm2, mm3, mm4]) rfl ⟨K, HE.out, .agg #[.int .i64 x.term, .int .i64 x.vote, .int .i64 x.base, .int .i64 x.bterm, .slice A1 m1 c1], by rw [HBS.out, hrep], by rw [HBS.out, hrep]; exact ⟨_, rfl, FO.mono (Nat.le_trans (Nat.le_of_lt RL.out) L4.out)⟩, FB⟩
  · rw [if_neg hk] at cB hbeg
    clear hk
    generalize recV q = rv at *
    go_wp2_with fail
    refine (cQ w1).mono ?_
    rintro e w2 ⟨rfl, hb2⟩
    go_wp2_with fail
    refine (cB w2).mono ?_
    rintro e w3 ⟨rfl, hb3⟩
    have C3 : Below w1.heap.size w1 w3 := hb2.trans (hb3.mono hb2.size)
    have B3 : Hid (Below w.heap.size w w3) := B1.out.trans (C3.mono B1.out.size)
    have R3 : Hid (Blk w3 w.heap.size #[.int .i64 0, .int .i64 0, .int .i64 0, .int .i64 0, .slice none 0 0] 24) := R1.out.on C3 RL.out
    clear hb2 hb3 C3 cQ cB
    have r0 := (R3.out.alloc (.cells #[.int .i64 0, .int .i64 0, .int .i64 0, .int .i64 0, .slice none 0 0] 24)).cell 0 (.int .i64 0) rfl
    have f0 := (R3.out.alloc (.cells #[.int .i64 0, .int .i64 0, .int .i64 0, .int .i64 0, .slice none 0 0] 24)).free 0
    have r1 := (R3.out.alloc (.cells #[.int .i64 0, .int .i64 0, .int .i64 0, .int .i64 0, .slice none 0 0] 24)).cell 1 (.int .i64 0) rfl
    have f1 := (R3.out.alloc (.cells #[.int .i64 0, .int .i64 0, .int .i64 0, .int .i64 0, .slice none 0 0] 24)).free 1
    have r2 := (R3.out.alloc (.cells #[.int .i64 0, .int .i64 0, .int .i64 0, .int .i64 0, .slice none 0 0] 24)).cell 2 (.int .i64 0) rfl
    have f2 := (R3.out.alloc (.cells #[.int .i64 0, .int .i64 0, .int .i64 0, .int .i64 0, .slice none 0 0] 24)).free 2
    have r3 := (R3.out.alloc (.cells #[.int .i64 0, .int .i64 0, .int .i64 0, .int .i64 0, .slice none 0 0] 24)).cell 3 (.int .i64 0) rfl
    have f3 := (R3.out.alloc (.cells #[.int .i64 0, .int .i64 0, .int .i64 0, .int .i64 0, .slice none 0 0] 24)).free 3
    have r4 := (R3.out.alloc (.cells #[.int .i64 0, .int .i64 0, .int .i64 0, .int .i64 0, .slice none 0 0] 24)).cell 4 (.slice none 0 0) rfl
    have f4 := (R3.out.alloc (.cells #[.int .i64 0, .int .i64 0, .int .i64 0, .int .i64 0, .slice none 0 0] 24)).free 4
    go_wp2_with fail
    have hF := ((((((R3.out.alloc (.cells #[.int .i64 0, .int .i64 0, .int .i64 0, .int .i64 0, .slice none 0 0] 24)).set 0 (.int .i64 0)).set 1 (.int .i64 0)).set 2 (.int .i64 0)).set 3 (.int .i64 0)).set 4 (.slice none 0 0))
    have FB := ((((((B3.out.alloc B3.out.size (.cells #[.int .i64 0, .int .i64 0, .int .i64 0, .int .i64 0, .slice none 0 0] 24)).setCell (Nat.le_refl _) (.int .i64 0) (p := ⟨w.heap.size, 0, none⟩)).setCell (Nat.le_refl _) (.int .i64 0) (p := ⟨w.heap.size, 1, none⟩)).setCell (Nat.le_refl _) (.int .i64 0) (p := ⟨w.heap.size, 2, none⟩)).setCell (Nat.le_refl _) (.int .i64 0) (p := ⟨w.heap.size, 3, none⟩)).setCell (Nat.le_refl _) (.slice none 0 0) (p := ⟨w.heap.size, 4, none⟩))
    generalize ((((((w3.alloc (.cells #[.int .i64 0, .int .i64 0, .int .i64 0, .int .i64 0, .slice none 0 0] 24)).setCell ⟨w.heap.size, 0, none⟩ (.int .i64 0)).setCell ⟨w.heap.size, 1, none⟩ (.int .i64 0)).setCell ⟨w.heap.size, 2, none⟩ (.int .i64 0)).setCell ⟨w.heap.size, 3, none⟩ (.int .i64 0)).setCell ⟨w.heap.size, 4, none⟩ (.slice none 0 0)) = WF at *
    have hG : Blk WF w.heap.size #[.int .i64 0, .int .i64 0, .int .i64 0, .int .i64 0, .slice none 0 0] 24 := hF
    have mm0 := hG.cell 0 (.int .i64 0) rfl
    have mm1 := hG.cell 1 (.int .i64 0) rfl
    have mm2 := hG.cell 2 (.int .i64 0) rfl
    have mm3 := hG.cell 3 (.int .i64 0) rfl
    have mm4 := hG.cell 4 (.slice none 0 0) rfl
    first
      | exact bodyPost_ret (v := .tuple #[.agg #[.int .i64 0, .int .i64 0, .int .i64 0, .int .i64 0, .slice none 0 0], .int .i64 0, .bool false]) (by simp [results, go_sem, mm0, mm1, mm2, mm3, mm4]) rfl ⟨K, .agg #[.int .i64 0, .int .i64 0, .int .i64 0, .int .i64 0, .slice none 0 0], HE.out, by rw [HBS.out, rep_none hbeg]; rfl, by rw [HBS.out, rep_none hbeg]; exact ⟨_, rfl, Owns.nil _ _ _ _⟩, FB⟩
      | exact bodyPost_ret (v := .tuple #[.agg #[.int .i64 0, .int .i64 0, .int .i64 0, .int .i64 0, .slice none 0 0], .int .i64 0, .bool false]) (by simp [results, go_sem, mm0, mm1, mm2, mm3, mm4]) rfl ⟨K, HE.out, .agg #[.int .i64 0, .int .i64 0, .int .i64 0, .int .i64 0, .slice none 0 0], by rw [HBS.out, rep_none hbeg]; rfl, by rw [HBS.out, rep_none hbeg]; exact ⟨_, rfl, Owns.nil _ _ _ _⟩, FB⟩
end Go.Proofs.YtnpgkmmflibmkaaDoor

/-
  The law FnExactReplay answers true at every text.
-/
namespace Go.Proofs.YtnpgkmmflibmkaaDoor
open Go.ChangeShapes Go.WideShapes Go.ChangeAt Go.RowKit Go.PlainAid
set_option linter.unusedVariables false

theorem Blk.spare {w w' : World} {g : Nat} {cs : Array Value} {t : TypeId} {u : Value} (h : Blk w g cs t) (hk : ∀ g, g < w.heap.size → u.ownBlock ≠ some g → w'.heap[g]? = w.heap[g]?) (hu : u.ownBlock ≠ some g) : Blk w' g cs t := by
  unfold Blk
  rw [hk g h.lt hu]
  exact h
theorem goOn_ok : ∀ (l : List ByteArray) (x : Wl), walOk x = true → walOk (goOn x l).1 = true
  | [], x, h => h
  | s :: r, x, h => by
    cases hf : (stp x s).2
    · rw [goOn_no x s r hf]
      exact h
    · rw [goOn_yes x s r hf]
      exact goOn_ok r _ (stp_ok x s h)
theorem rep_len (bs : List ByteArray) : (rep bs).1.ents.length ≤ 60 := by
  cases bs with
  | nil => exact Nat.zero_le _
  | cons s r =>
    cases hb : beg s with
    | none =>
      rw [rep_none hb]
      exact Nat.zero_le _
    | some x =>
      rw [rep, hb]
      exact (wOk_of (goOn_ok r x (beg_some hb))).n

set_option maxRecDepth 20000 in
set_option maxHeartbeats 16000000 in
theorem law_fnExactReplay (s : ByteArray) (w : World) (hs0 : s.size ≤ maxLen) (ht : SumTab w) (a0 a1 a2 : Addr) (he : Errs w a0 a1 a2) :
    Calls Tryd.prog 3 #[.string s] w fun e w' => e = .returned (.bool true) ∧ Below w.heap.size w w' := by
  unfold maxLen at hs0
  by_cases hs : 1048576 < s.size
  · have q : (1048576 : Int) < (s.size : Int) := by omega
    go_enter Tryd.func3, Tryd.ntmps3
    go_wp2_with fail
    go_ret
    exact ⟨rfl, Below.refl _ _⟩
  replace hs : s.size ≤ 1048576 := by omega
  have q : (s.size : Int) ≤ 1048576 := by omega
  have HT : Hid (SumTab w) := ht
  have HR : Hid (Errs w a0 a1 a2) := he
  have cI := fun wx ht he => implReplay s wx hs ht a0 a1 a2 he
  have cS := specReplay s w hs
  clear ht he hs0
  go_enter Tryd.func3, Tryd.ntmps3
  go_wp2_with fail
  refine cS.mono ?_
  rintro e w1 ⟨K, uS, hE, rfl, hO, hb1⟩
  have HE : Hid (Ends s K) := hE
  have LR : Hid ((rep (bods s K)).1.ents.length ≤ 60) := rep_len _
  generalize hR : rep (bods s K) = R at *
  have HRK : Hid (rep (bods s K) = R) := hR
  obtain ⟨s1, rfl, o1⟩ := hO
  obtain ⟨A1, m1, c1, rfl⟩ := o1.shape
  have bx : Below w1.heap.size w1 (w1.alloc (.cells #[.int .i64 R.1.term, .int .i64 R.1.vote, .int .i64 R.1.base, .int .i64 R.1.bterm, .slice A1 m1 c1] 24)) := (Below.refl _ _).alloc (Nat.le_refl _) _
  have b2 := hb1.trans (bx.mono hb1.size)
  have KS := Blk.new w1 #[.int .i64 R.1.term, .int .i64 R.1.vote, .int .i64 R.1.base, .int .i64 R.1.bterm, .slice A1 m1 c1] 24
  have oS := o1.on bx
  clear hR hE cS
  go_wp2_with fail
  generalize w1.alloc (.cells #[.int .i64 R.1.term, .int .i64 R.1.vote, .int .i64 R.1.base, .int .i64 R.1.bterm, .slice A1 m1 c1] 24) = w2 at *
  have B2 : Hid (Below w.heap.size w w2) := b2
  generalize w1.heap.size = p3 at *
  have K2 : Hid (Blk w2 p3 #[.int .i64 R.1.term, .int .i64 R.1.vote, .int .i64 R.1.base, .int .i64 R.1.bterm, .slice A1 m1 c1] 24) := KS
  have TV : Hid (WalV w2 w2.heap.size (.agg #[.int .i64 R.1.term, .int .i64 R.1.vote, .int .i64 R.1.base, .int .i64 R.1.bterm, .slice A1 m1 c1]) R.1) := ⟨_, rfl, oS.lies⟩
  have L3 : Hid (p3 < w2.heap.size) := KS.lt
  clear bx b2 KS oS o1 hb1
  refine (cI w2 (HT.out.on B2.out) (HR.out.on B2.out)).mono ?_
  rintro e w3 ⟨K', uG, hE', rfl, hO', hb3⟩
  obtain rfl : K = K' := HE.out.one hE'
  rw [HRK.out] at hO' ⊢
  obtain ⟨s2, rfl, o2⟩ := hO'
  obtain ⟨A2, m2, c2, rfl⟩ := o2.shape
  have bx : Below w3.heap.size w3 (w3.alloc (.cells #[.int .i64 R.1.term, .int .i64 R.1.vote, .int .i64 R.1.base, .int .i64 R.1.bterm, .slice A2 m2 c2] 24)) := (Below.refl _ _).alloc (Nat.le_refl _) _
  have b4 : Below w2.heap.size w2 (w3.alloc (.cells #[.int .i64 R.1.term, .int .i64 R.1.vote, .int .i64 R.1.base, .int .i64 R.1.bterm, .slice A2 m2 c2] 24)) := hb3.trans (bx.mono hb3.size)
  have KG := Blk.new w3 #[.int .i64 R.1.term, .int .i64 R.1.vote, .int .i64 R.1.base, .int .i64 R.1.bterm, .slice A2 m2 c2] 24
  have oG := o2.on bx
  clear hE' o2
  have g0 := KG.cell 0 (.int .i64 R.1.term) rfl
  have g1 := KG.cell 1 (.int .i64 R.1.vote) rfl
  have g2 := KG.cell 2 (.int .i64 R.1.base) rfl
  have g3 := KG.cell 3 (.int .i64 R.1.bterm) rfl
  have g4 := KG.cell 4 (.slice A2 m2 c2) rfl
  have k0 := (K2.out.on b4 L3.out).cell 0 (.int .i64 R.1.term) rfl
  have k1 := (K2.out.on b4 L3.out).cell 1 (.int .i64 R.1.vote) rfl
  have k2 := (K2.out.on b4 L3.out).cell 2 (.int .i64 R.1.base) rfl
  have k3 := (K2.out.on b4 L3.out).cell 3 (.int .i64 R.1.bterm) rfl
  have k4 := (K2.out.on b4 L3.out).cell 4 (.slice A1 m1 c1) rfl
  have n1 : ((R.2.1 : Int) != (R.2.1 : Int)) = false := by simp
  have n2 : (R.2.2 != R.2.2) = false := by cases R.2.2 <;> rfl
  go_wp2_with fail
  generalize w3.alloc (.cells #[.int .i64 R.1.term, .int .i64 R.1.vote, .int .i64 R.1.base, .int .i64 R.1.bterm, .slice A2 m2 c2] 24) = w4 at *
  generalize w3.heap.size = p6 at *
  have C4 : Hid (Below w2.heap.size w2 w4) := b4
  have G4 : Hid (Blk w4 p6 #[.int .i64 R.1.term, .int .i64 R.1.vote, .int .i64 R.1.base, .int .i64 R.1.bterm, .slice A2 m2 c2] 24) := KG
  have O4 : Hid (Owns w4 w2.heap.size 56 2 (.slice A2 m2 c2) (entR R.1.ents)) := oG
  clear bx b4 KG oG hb3 g0 g1 g2 g3 g4 k0 k1 k2 k3 k4
  refine (eqWal R.1 (.agg #[.int .i64 R.1.term, .int .i64 R.1.vote, .int .i64 R.1.base, .int .i64 R.1.bterm, .slice A2 m2 c2]) (.agg #[.int .i64 R.1.term, .int .i64 R.1.vote, .int .i64 R.1.base, .int .i64 R.1.bterm, .slice A1 m1 c1]) w4 w4.heap.size ⟨_, rfl, O4.out.lies⟩ ((TV.out.on C4.out).mono C4.out.size) (by have := LR.out; omega) (Nat.le_refl _)).mono ?_
  rintro e w5 ⟨rfl, hb5⟩
  have C5 : Hid (Below w2.heap.size w2 w5) := C4.out.trans (hb5.mono C4.out.size)
  have G5 : Hid (Blk w5 p6 #[.int .i64 R.1.term, .int .i64 R.1.vote, .int .i64 R.1.base, .int .i64 R.1.bterm, .slice A2 m2 c2] 24) := G4.out.on hb5 G4.out.lt
  have O5 : Hid (Owns w5 w2.heap.size 56 2 (.slice A2 m2 c2) (entR R.1.ents)) := O4.out.on hb5
  have cM := markWal 1 w2.heap.size R.1.term R.1.vote R.1.base R.1.bterm (.slice A2 m2 c2) (entR R.1.ents) w5 O5.out (by rw [entR_length]; have := LR.out; omega) (Nat.le_refl _) (by omega) C5.out.size
  have cH := fun wx h => heldWal 1 (entR R.1.ents).length R.1.term R.1.vote R.1.base R.1.bterm (.slice A2 m2 c2) wx wx.heap.size h (by rw [entR_length]; have := LR.out; omega) (Nat.le_refl _) (by omega) (Nat.le_refl _)
  generalize hMM : (1 + 2 * (entR R.1.ents).length : Nat) = MM at *
  have qM0 : decide ((MM : Int) < 0) = false := decide_eq_false (by omega)
  have nM : ((MM : Int) != (MM : Int)) = false := by simp
  generalize newR (mkEnt 1) (entR R.1.ents).length = NR at *
  clear hMM hb5 C4 G4 O4
  have g0 := G5.out.cell 0 (.int .i64 R.1.term) rfl
  have g1 := G5.out.cell 1 (.int .i64 R.1.vote) rfl
  have g2 := G5.out.cell 2 (.int .i64 R.1.base) rfl
  have g3 := G5.out.cell 3 (.int .i64 R.1.bterm) rfl
  have g4 := G5.out.cell 4 (.slice A2 m2 c2) rfl
  go_wp2_with fail
  refine cM.mono ?_
  rintro e w6 ⟨rfl, hN6, hb6, hk6⟩
  have C6 : Hid (Below w2.heap.size w2 w6) := C5.out.trans hb6
  have G6 : Hid (Blk w6 p6 #[.int .i64 R.1.term, .int .i64 R.1.vote, .int .i64 R.1.base, .int .i64 R.1.bterm, .slice A2 m2 c2] 24) := G5.out.spare hk6 (O5.out.notBlk G5.out (by decide))
  have N6 : Hid (Owns w6 w2.heap.size 56 2 (.slice A2 m2 c2) NR) := hN6
  clear hN6 hb6 hk6 cM g0 g1 g2 g3 g4 C5 G5 O5
  have g0 := G6.out.cell 0 (.int .i64 R.1.term) rfl
  have g1 := G6.out.cell 1 (.int .i64 R.1.vote) rfl
  have g2 := G6.out.cell 2 (.int .i64 R.1.base) rfl
  have g3 := G6.out.cell 3 (.int .i64 R.1.bterm) rfl
  have g4 := G6.out.cell 4 (.slice A2 m2 c2) rfl
  go_wp2_with fail
  refine (cH w6 N6.out.lies).mono ?_
  rintro e w7 ⟨rfl, hb7⟩
  have C7 : Hid (Below w2.heap.size w2 w7) := C6.out.trans (hb7.mono C6.out.size)
  have G7 : Hid (Blk w7 p6 #[.int .i64 R.1.term, .int .i64 R.1.vote, .int .i64 R.1.base, .int .i64 R.1.bterm, .slice A2 m2 c2] 24) := G6.out.on hb7 G6.out.lt
  have N7 : Hid (Owns w7 w2.heap.size 56 2 (.slice A2 m2 c2) NR) := N6.out.on hb7
  have B7 : Hid (Below w.heap.size w w7) := B2.out.trans (C7.out.mono B2.out.size)
  clear hb7 g0 g1 g2 g3 g4 C6 G6 N6
  go_wp2_with fail
  refine (cI w7 (HT.out.on B7.out) (HR.out.on B7.out)).mono ?_
  rintro e w8 ⟨K', uH, hE', rfl, hO', hb8⟩
  obtain rfl : K = K' := HE.out.one hE'
  rw [HRK.out] at hO' ⊢
  obtain ⟨s3, rfl, o3⟩ := hO'
  obtain ⟨A3, m3, c3, rfl⟩ := o3.shape
  have bx : Below w8.heap.size w8 (w8.alloc (.cells #[.int .i64 R.1.term, .int .i64 R.1.vote, .int .i64 R.1.base, .int .i64 R.1.bterm, .slice A3 m3 c3] 24)) := (Below.refl _ _).alloc (Nat.le_refl _) _
  have b9 := hb8.trans (bx.mono hb8.size)
  have KH := Blk.new w8 #[.int .i64 R.1.term, .int .i64 R.1.vote, .int .i64 R.1.base, .int .i64 R.1.bterm, .slice A3 m3 c3] 24
  have oH := o3.on bx
  have C9 : Hid (Below w2.heap.size w2 (w8.alloc (.cells #[.int .i64 R.1.term, .int .i64 R.1.vote, .int .i64 R.1.base, .int .i64 R.1.bterm, .slice A3 m3 c3] 24))) := C7.out.trans (b9.mono C7.out.size)
  have G9 : Hid (Blk (w8.alloc (.cells #[.int .i64 R.1.term, .int .i64 R.1.vote, .int .i64 R.1.base, .int .i64 R.1.bterm, .slice A3 m3 c3] 24)) p6 #[.int .i64 R.1.term, .int .i64 R.1.vote, .int .i64 R.1.base, .int .i64 R.1.bterm, .slice A2 m2 c2] 24) := G7.out.on b9 G7.out.lt
  have N9 : Hid (Owns (w8.alloc (.cells #[.int .i64 R.1.term, .int .i64 R.1.vote, .int .i64 R.1.base, .int .i64 R.1.bterm, .slice A3 m3 c3] 24)) w2.heap.size 56 2 (.slice A2 m2 c2) NR) := N7.out.on b9
  have g0 := KH.cell 0 (.int .i64 R.1.term) rfl
  have g1 := KH.cell 1 (.int .i64 R.1.vote) rfl
  have g2 := KH.cell 2 (.int .i64 R.1.base) rfl
  have g3 := KH.cell 3 (.int .i64 R.1.bterm) rfl
  have g4 := KH.cell 4 (.slice A3 m3 c3) rfl
  have k0 := (K2.out.on C9.out L3.out).cell 0 (.int .i64 R.1.term) rfl
  have k1 := (K2.out.on C9.out L3.out).cell 1 (.int .i64 R.1.vote) rfl
  have k2 := (K2.out.on C9.out L3.out).cell 2 (.int .i64 R.1.base) rfl
  have k3 := (K2.out.on C9.out L3.out).cell 3 (.int .i64 R.1.bterm) rfl
  have k4 := (K2.out.on C9.out L3.out).cell 4 (.slice A1 m1 c1) rfl
  clear hE' o3
  go_wp2_with fail
  generalize w8.alloc (.cells #[.int .i64 R.1.term, .int .i64 R.1.vote, .int .i64 R.1.base, .int .i64 R.1.bterm, .slice A3 m3 c3] 24) = w9 at *
  clear g0 g1 g2 g3 g4 k0 k1 k2 k3 k4
  refine (eqWal R.1 (.agg #[.int .i64 R.1.term, .int .i64 R.1.vote, .int .i64 R.1.base, .int .i64 R.1.bterm, .slice A3 m3 c3]) (.agg #[.int .i64 R.1.term, .int .i64 R.1.vote, .int .i64 R.1.base, .int .i64 R.1.bterm, .slice A1 m1 c1]) w9 w9.heap.size ⟨_, rfl, oH.lies⟩ ((TV.out.on C9.out).mono C9.out.size) (by have := LR.out; omega) (Nat.le_refl _)).mono ?_
  rintro e wa ⟨rfl, hba⟩
  have Ca : Hid (Below w2.heap.size w2 wa) := C9.out.trans (hba.mono C9.out.size)
  have Ga : Hid (Blk wa p6 #[.int .i64 R.1.term, .int .i64 R.1.vote, .int .i64 R.1.base, .int .i64 R.1.bterm, .slice A2 m2 c2] 24) := G9.out.on hba G9.out.lt
  have Na : Hid (Owns wa w2.heap.size 56 2 (.slice A2 m2 c2) NR) := N9.out.on hba
  clear hba oH KH bx b9 hb8 C9 G9 N9
  have g0 := Ga.out.cell 0 (.int .i64 R.1.term) rfl
  have g1 := Ga.out.cell 1 (.int .i64 R.1.vote) rfl
  have g2 := Ga.out.cell 2 (.int .i64 R.1.base) rfl
  have g3 := Ga.out.cell 3 (.int .i64 R.1.bterm) rfl
  have g4 := Ga.out.cell 4 (.slice A2 m2 c2) rfl
  go_wp2_with fail
  refine (cH wa Na.out.lies).mono ?_
  rintro e wb ⟨rfl, hbb⟩
  have Bb : Hid (Below w.heap.size w wb) := (B2.out.trans (Ca.out.mono B2.out.size)).trans (hbb.mono (Nat.le_trans B2.out.size Ca.out.size))
  clear hbb
  go_wp2_with fail
  go_ret
  exact ⟨rfl, Bb.out⟩
end Go.Proofs.YtnpgkmmflibmkaaDoor
