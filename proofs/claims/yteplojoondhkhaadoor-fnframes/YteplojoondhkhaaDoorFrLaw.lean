/-
  The walk of laws.FnFrames out of contracts: whatever the code, the bodies that are framed are read, and where the text is cut off, those that are whole are.
-/
import Derived.Test.YteplojoondhkhaaDoorFrames
import Derived.Test.YteplojoondhkhaaDoorRowAid
import Derived.Test.YteplojoondhkhaaDoorFrCat
import Derived.Test.YteplojoondhkhaaDoorLawAid
namespace Go.Proofs.YteplojoondhkhaaDoor
open Go.ChangeShapes Go.WideShapes Go.ChangeAt Go.RowKit Go.PlainAid
set_option linter.unusedVariables false

theorem Tryd.info3 : (Tryd.prog.info? 3).map (fun i => (i.zero, i.size, i.bytes)) = some (some (.int .i64 0), 1, 8) := by kernel_rfl

set_option maxHeartbeats 400000 in
theorem frames_big (w : World) (ao : Option Addr) (len cap : Nat) (hl : 1048576 < len) (h2 : len ≤ 9223372036854775807) :
    Calls Tryd.prog 3 #[.slice ao len cap] w fun e w' => e = .returned (.bool true) ∧ Below w.heap.size w w' := by
  have c1 := big_yes w ao len cap hl h2
  go_enter Tryd.func3, Tryd.ntmps3
  go_wp2_with fail
  refine c1.mono ?_
  rintro e w1 ⟨rfl, rfl⟩
  go_wp2_with fail
  go_ret
  exact ⟨rfl, Below.refl _ _⟩

/-- Bodies that the law frames. -/
def Bods (l : List ByteArray) : Prop := ∀ b ∈ l, 1 ≤ b.size ∧ b.size ≤ 41
theorem Bods.snoc {l : List ByteArray} (h : Bods l) (b : ByteArray) (h1 : 1 ≤ b.size) (h2 : b.size ≤ 41) : Bods (l ++ [b]) := by
  intro x hx
  rcases List.mem_append.1 hx with hx | hx
  · exact h x hx
  · rw [List.mem_singleton.1 hx]
    exact ⟨h1, h2⟩
theorem Bods.size {l : List ByteArray} (h : Bods l) : (cat l).size ≤ 49 * l.length := cat_size l fun b hb => (h b hb).2
theorem Bods.frames {l : List ByteArray} (h : Bods l) : ∀ b ∈ l, 1 ≤ b.size ∧ b.size ≤ 2000 := fun b hb => by
  have := h b hb
  omega

set_option maxRecDepth 20000 in
set_option maxHeartbeats 4000000 in
theorem law_frames (w : World) (ao : Option Addr) (len cap : Nat) (cs : Nat → Nat) (hl : len ≤ 1048576) (hcs : CodeIs w w.heap.size ao len cs) (ht : SumTab w) (a0 a1 a2 : Addr) (he : Errs w a0 a1 a2) :
    Calls Tryd.prog 3 #[.slice ao len cap] w fun e w' => e = .returned (.bool true) ∧ Below w.heap.size w w' := by
  have HT : Hid (SumTab w) := ht
  have HE : Hid (Errs w a0 a1 a2) := he
  have HC : Hid (CodeIs w w.heap.size ao len cs) := hcs
  have HLN : Hid (len ≤ 1048576) := hl
  have c1 := big_no w ao len cap hl
  clear ht he hcs hl
  go_enter Tryd.func3, Tryd.ntmps3
  go_wp2_with fail
  refine c1.mono ?_
  rintro e w1 ⟨rfl, rfl⟩
  go_wp2_with fail
  go_loopw [3, 4, 5, 6] (fun v3 v4 v5 v6 wr => ∃ l : List ByteArray, l.length ≤ 5 ∧ Bods l ∧ v6 = .int .i64 (l.length : Int) ∧ v5 = .string (cat l) ∧ Strs wr w.heap.size v3 l ∧ Ints wr w.heap.size v4 (endsL l) ∧ Below w.heap.size w wr) (fun _ _ _ i _ => 5 - (intOf i).toNat)
  case atStart =>
    refine ⟨[], by simp, by intro b hb; simp at hb, rfl, rfl, (Strs.empty w _ (Nat.le_refl _)).alloc _, ?_, ((Below.refl _ _).alloc (Nat.le_refl _) _).alloc (by simp) _⟩
    rw [endsL_nil]
    have h := Ints.one (w.alloc (.cells #[] 9)) w.heap.size 0 (by simp)
    rw [World.size_alloc] at h
    exact h
  case round =>
    obtain ⟨l, h5, hbods, rfl, rfl, hS, hI, hB⟩ := hrel
    have HO : Hid (Bods l) := hbods
    have HS : Hid (Strs wr w.heap.size u3 l) := hS
    have HI : Hid (Ints wr w.heap.size u4 (endsL l)) := hI
    have HB : Hid (Below w.heap.size w wr) := hB
    have HCS : Hid ((cat l).size ≤ 49 * l.length) := hbods.size
    have c2 := at_any wr ao len cap cs 0 HLN.out (by omega) (HC.out.on hB)
    have hx0 := atV_lt HC.out 0
    clear hS hI hB hbods
    generalize atV len cs 0 = x0 at *
    go_wp2_with fail
    refine c2.mono ?_
    rintro e w2 ⟨rfl, rfl⟩
    by_cases hlt : (l.length : Int) < 1 + (x0 : Int) % 5
    · have hl4 : l.length ≤ 4 := by omega
      have q4 : (l.length : Int) ≤ 4 := by omega
      have c3 := fresh_any wr ao len cap cs l.length HLN.out (by omega) (HC.out.on HB.out)
      have HFL : Hid ((frL cs l.length (min len 600)).length ≤ 601) := by unfold Hid; rw [frL_length]; omega
      generalize frL cs l.length (min len 600) = fr at *
      go_wp2_with fail
      refine c3.mono ?_
      rintro e w3 ⟨v, rfl, hbuf, hb3⟩
      obtain ⟨ao', cap', rfl, hcode⟩ := hbuf.code
      have c4 := drawHex w3 ao' fr.length cap' _ (by have := HFL.out; omega) hcode
      have htl := textV_length fr.length (fun j => (fr.getD j 0).toNat) 40 (newP fr.length (fun j => (fr.getD j 0).toNat)) (by omega)
      have B3 : Hid (Below w.heap.size w w3) := HB.out.trans (hb3.mono HB.out.size)
      have S3 : Hid (Strs w3 w.heap.size u3 l) := HS.out.on hb3
      have I3 : Hid (Ints w3 w.heap.size u4 (endsL l)) := HI.out.on hb3
      clear hbuf hcode hb3
      generalize textV fr.length (fun j => (fr.getD j 0).toNat) 40 (newP fr.length (fun j => (fr.getD j 0).toNat)) = T at *
      have hTs : (txt T).size ≤ 40 := by rw [txt_size]; omega
      have hz1 : (⟨#[120]⟩ : ByteArray).size = 1 := rfl
      have hsum0 : (⟨#[120]⟩ : ByteArray).size + (txt T).size ≤ 9223372036854775807 := by omega
      have HB1 : Hid (1 ≤ ((⟨#[120]⟩ : ByteArray) ++ txt T).size) := by unfold Hid; rw [ByteArray.size_append]; omega
      have HB2 : Hid (((⟨#[120]⟩ : ByteArray) ++ txt T).size ≤ 41) := by unfold Hid; rw [ByteArray.size_append]; omega
      clear htl hTs hz1
      go_wp2_with fail
      refine c4.mono ?_
      rintro e w4 ⟨rfl, hb4⟩
      have B4 : Hid (Below w.heap.size w w4) := B3.out.trans (hb4.mono B3.out.size)
      have S4 := S3.out.on hb4
      have I4 : Hid (Ints w4 w.heap.size u4 (endsL l)) := I3.out.on hb4
      have hsz4 := B4.out.size
      clear hb4
      generalize hbb : (⟨#[120]⟩ : ByteArray) ++ txt T = b at *
      go_wp2_with (at_builtin; refine wpList_append_str2 rfl (.tmp 30) (.tmp 32) 24 rfl Tryd.underlying24 Tryd.info9 w.heap.size _ l rfl S4 b rfl (by omega) hsz4 ?_; intro v' w5 S5 hb5 hk5)
      have I5 : Hid (Ints w5 w.heap.size u4 (endsL l)) := I4.out.kept fun g hg hu => hk5 g hg fun e => apart_rows S4 I4.out g e hu
      have B5 : Hid (Below w.heap.size w w5) := B4.out.trans hb5
      have c5 := impl_frame b w5 (by have := HB2.out; omega) (HT.out.on B5.out)
      have EF : frame b = frameOf b := by rw [frame, if_neg (by have := HB1.out; have := HB2.out; omega)]
      rw [EF] at c5
      have EC : Hid (cat (l ++ [b]) = cat l ++ frameOf b) := cat_snoc l b
      have hsum1 : (cat l).size + (frameOf b).size ≤ 9223372036854775807 := by have := HCS.out; have := HB2.out; rw [frameOf_size]; omega
      have hcat : cat l ++ frameOf b = cat (l ++ [b]) := EC.out.symm
      have HL1 : Hid ((l ++ [b]).length = l.length + 1) := by unfold Hid; simp
      have HEL : Hid ((endsL l).length = l.length + 1) := endsL_length l
      have HES : Hid (endsL (l ++ [b]) = endsL l ++ [(cat (l ++ [b])).size]) := endsL_snoc l b
      have hN1 : Hid (Bods (l ++ [b])) := HO.out.snoc b HB1.out HB2.out
      have S5' : Hid (Strs w5 w.heap.size v' (l ++ [b])) := S5
      clear hk5 hb5 S4 S5 EF hbb
      go_wp2_with fail
      refine c5.mono ?_
      rintro e w6 ⟨rfl, hb6⟩
      have B6 : Hid (Below w.heap.size w w6) := B5.out.trans (hb6.mono B5.out.size)
      have S6 : Hid (Strs w6 w.heap.size v' (l ++ [b])) := S5'.out.on hb6
      have I6 := I5.out.on hb6
      have hsz6 := B6.out.size
      clear hb6
      generalize hcc : cat (l ++ [b]) = C at *
      generalize frameOf b = F at *
      go_wp2_with (at_builtin; refine wpList_append_int2 rfl (.tmp 38) (.tmp 41) 25 rfl Tryd.underlying25 Tryd.info3 w.heap.size _ (endsL l) rfl I6 C.size _ rfl rfl (by rw [HEL.out]; omega) hsz6 ?_; intro v2 w7 I7 hb7 hk7)
      have S7 : Hid (Strs w7 w.heap.size v' (l ++ [b])) := S6.out.kept fun g hg hu => hk7 g hg fun e => apart_rows S6.out I6 g hu e
      clear hk7
      go_roundw
      case rel => exact ⟨l ++ [b], by rw [HL1.out]; omega, hN1.out, by rw [HL1.out]; go_num, by rw [hcc], S7.out, by rw [HES.out]; exact I7, B6.out.trans hb7⟩
      case measure => simp [intOf]; omega
    · have c3 := at_any wr ao len cap cs 1 HLN.out (by omega) (HC.out.on HB.out)
      have c4 := at_any wr ao len cap cs 2 HLN.out (by omega) (HC.out.on HB.out)
      have hx1 := atV_lt HC.out 1
      have hx2 := atV_lt HC.out 2
      generalize atV len cs 1 = x1 at *
      generalize atV len cs 2 = x2 at *
      have HF : Hid (∀ b ∈ l, 1 ≤ b.size ∧ b.size ≤ 2000) := HO.out.frames
      have hCs : (cat l).size ≤ 245 := by have := HCS.out; omega
      have q1 : ((cat l).size : Int) ≤ 245 := by omega
      obtain ⟨k, hk⟩ : ∃ k : Nat, k = (x1 * 256 + x2) % ((cat l).size + 1) := ⟨_, rfl⟩
      have hkle : k ≤ (cat l).size := by have := Nat.mod_lt (x1 * 256 + x2) (show 0 < (cat l).size + 1 by omega); omega
      have e1 : ((x1 : Int) * 256 + (x2 : Int)).tmod (((cat l).size : Int) + 1) = (k : Int) := by
        rw [hk, Int.natCast_emod, Int.tmod_eq_emod_of_nonneg (by omega)]
        norm_cast
      have e2 : ((x1 : Int) * 256 + (x2 : Int)) % (((cat l).size : Int) + 1) = (k : Int) := by
        rw [hk, Int.natCast_emod]
        norm_cast
      have q2 : (k : Int) ≤ ((cat l).size : Int) := by omega
      have e3 : ¬ (((cat l).size : Int) + 1 = 0) := by omega
      have e4 : ((((cat l).size : Int) + 1) == 0) = false := by simp only [beq_eq_false_iff_ne, ne_eq]; omega
      have HK : Hid (k ≤ (cat l).size) := hkle
      have hts : ((cat l).extract 0 k).size ≤ 1048576 := by rw [ByteArray.size_extract]; omega
      have c5 := impl_frames ((cat l).extract 0 k) wr hts (HT.out.on HB.out) a0 a1 a2 (HE.out.on HB.out)
      have HU : Hid (∀ K, Ends ((cat l).extract 0 k) K → K ≤ l.length ∧ pos ((cat l).extract 0 k) K = endAt l K ∧ bods ((cat l).extract 0 k) K = l.take K ∧ endAt l K ≤ k ∧ (K = l.length ∨ k < endAt l (K + 1))) := fun K hK => cut_ends l k K HK.out HF.out hK
      clear hk hkle hts hCs
      generalize cat l = S at *
      go_wp2_with fail
      refine c3.mono ?_
      rintro e w3 ⟨rfl, rfl⟩
      go_wp2_with fail
      refine c4.mono ?_
      rintro e w3 ⟨rfl, rfl⟩
      go_wp2_with fail
      refine c5.mono ?_
      rintro e w6 ⟨K, v9, hK, rfl, hS9, hb6⟩
      obtain ⟨hKl, hpos, hbods, hEk, hlast⟩ := HU.out K hK
      rw [hpos]
      rw [hbods] at hS9
      have B6 : Hid (Below w.heap.size w w6) := HB.out.trans (hb6.mono HB.out.size)
      have S6 := HS.out.on hb6
      have I6 := HI.out.on hb6
      have hl9 : (l.take K).length = K := by rw [List.length_take]; omega
      have hlE := endsL_length l
      obtain ⟨A9, ca9, hv9, h9⟩ := hS9.look
      obtain ⟨A3, ca3, hv3, h3⟩ := S6.look
      obtain ⟨A4, ca4, hv4, h4⟩ := I6.look
      obtain ⟨g4, hA4, hz4⟩ := h4 0 (by omega)
      have H9 : Hid (∀ j, j < K → ∃ g, A9 = some ⟨g, 0, none⟩ ∧ w6.cell? ⟨g, j, none⟩ = some (.string (l.getD j ByteArray.empty))) := fun j hj => by
        obtain ⟨g, e, hc⟩ := h9 j (by omega)
        refine ⟨g, e, ?_⟩
        rw [hc, List.getElem_take, List.getD_eq_getElem?_getD, List.getElem?_eq_getElem (by omega)]
        rfl
      have H3 : Hid (∀ j, j < K → ∃ g, A3 = some ⟨g, 0, none⟩ ∧ w6.cell? ⟨g, j, none⟩ = some (.string (l.getD j ByteArray.empty))) := fun j hj => by
        obtain ⟨g, e, hc⟩ := h3 j (by omega)
        refine ⟨g, e, ?_⟩
        rw [hc, List.getD_eq_getElem?_getD, List.getElem?_eq_getElem (by omega)]
        rfl
      have H4 : Hid (∀ j, j ≤ l.length → w6.cell? ⟨g4, j, none⟩ = some (.int .i64 (endAt l j : Int))) := fun j hj => by
        obtain ⟨g, e, hc⟩ := h4 j (by omega)
        rw [hA4] at e
        obtain rfl : g4 = g := by cases e; rfl
        rw [hc, endsL_get]
      have HM : Hid (∀ j, j ≤ K → endAt l j ≤ k) := fun j hj => Nat.le_trans (endAt_mono l j K hj hKl) hEk
      have HLast : Hid (K = l.length ∨ k < endAt l (K + 1)) := hlast
      rw [hl9] at hv9
      rw [hlE] at hv4
      subst hA4
      subst hv9
      subst hv3
      subst hv4
      clear hz4 h9 h3 h4 hS9 S6 I6 hl9 hlE hbods hpos hK hlast hb6 hEk
      generalize hn : l.length = n at *
      have q7 : (K : Int) ≤ (n : Int) := by omega
      have q8 : (n : Int) ≤ 5 := by omega
      go_wp2_with fail
      go_loop [11] (fun v11 => ∃ j : Nat, j ≤ K ∧ v11 = .int .i64 (j : Int)) (fun i => K - (intOf i).toNat)
      case atStart => exact ⟨0, by omega, rfl⟩
      case round =>
        obtain ⟨j, hj, rfl⟩ := hrel
        by_cases hjK : j < K
        · have q9 : (j : Int) + 1 < (n : Int) + 1 := by omega
          have e5 := H4.out (j + 1) (by omega)
          have q10 : (endAt l (j + 1) : Int) ≤ (k : Int) := by have := HM.out (j + 1) (by omega); omega
          generalize endAt l (j + 1) = E at *
          go_wp2_with fail
          go_round
          case rel => exact ⟨j + 1, by omega, by go_num⟩
          case measure => simp [intOf]; omega
        · obtain rfl : j = K := by omega
          have e6 := H4.out j (by omega)
          generalize endAt l j = E0 at *
          rcases HLast.out with hKn | hgt
          · have q14 : decide ((j : Int) + 1 < (n : Int) + 1) = false := decide_eq_false (by omega)
            have q15 : (n : Int) + 1 ≤ (j : Int) + 1 := by omega
            have HKN : Hid (j = n) := hKn
            clear hKn
            go_wp2_with fail
            go_loopw [12] (fun v12 wx => ∃ i : Nat, i ≤ j ∧ v12 = .int .i64 (i : Int) ∧ Like w6 wx) (fun i _ => j - (intOf i).toNat)
            case atStart => exact ⟨0, by omega, rfl, Like.refl _⟩
            case round =>
              obtain ⟨i, hi, rfl, hL⟩ := hrel
              by_cases hij : i < j
              · obtain ⟨g9, rfl, d9⟩ := H9.out i hij
                obtain ⟨g3, rfl, d3⟩ := H3.out i hij
                rw [← cell?_heap hL.1] at d9 d3
                have q12 : (i : Int) < (j : Int) := by omega
                have q13 : (i : Int) < (n : Int) := by omega
                generalize l.getD i ByteArray.empty = X at *
                go_wp2_with fail
                go_quiet (fail)
                go_wp2_with fail
                go_roundw
                case rel => exact ⟨i + 1, by omega, by go_num, hL.drewN _⟩
                case measure => simp [intOf]; omega
              · have q12 : (j : Int) ≤ (i : Int) := by omega
                go_wp2_with fail
                go_ret
                exact ⟨rfl, B6.out.trans (hL.below.mono B6.out.size)⟩
          · have hjn : j + 1 ≤ n ∨ n < j + 1 := by omega
            rcases hjn with hjn | hjn
            · have q14 : decide ((j : Int) + 1 < (n : Int) + 1) = true := decide_eq_true (by omega)
              have q16 : (j : Int) + 1 < (n : Int) + 1 := by omega
              have e7 := H4.out (j + 1) hjn
              have q15 : (k : Int) < (endAt l (j + 1) : Int) := by omega
              have q17 : decide ((endAt l (j + 1) : Int) ≤ (k : Int)) = false := decide_eq_false (by omega)
              generalize endAt l (j + 1) = E1 at *
              go_wp2_with fail
              go_loopw [12] (fun v12 wx => ∃ i : Nat, i ≤ j ∧ v12 = .int .i64 (i : Int) ∧ Like w6 wx) (fun i _ => j - (intOf i).toNat)
              case atStart => exact ⟨0, by omega, rfl, Like.refl _⟩
              case round =>
                obtain ⟨i, hi, rfl, hL⟩ := hrel
                by_cases hij : i < j
                · obtain ⟨g9, rfl, d9⟩ := H9.out i hij
                  obtain ⟨g3, rfl, d3⟩ := H3.out i hij
                  rw [← cell?_heap hL.1] at d9 d3
                  have q12 : (i : Int) < (j : Int) := by omega
                  have q13 : (i : Int) < (n : Int) := by omega
                  generalize l.getD i ByteArray.empty = X at *
                  go_wp2_with fail
                  go_quiet (fail)
                  go_wp2_with fail
                  go_roundw
                  case rel => exact ⟨i + 1, by omega, by go_num, hL.drewN _⟩
                  case measure => simp [intOf]; omega
                · have q12 : (j : Int) ≤ (i : Int) := by omega
                  go_wp2_with fail
                  go_ret
                  exact ⟨rfl, B6.out.trans (hL.below.mono B6.out.size)⟩
            · have q14 : decide ((j : Int) + 1 < (n : Int) + 1) = false := decide_eq_false (by omega)
              have q15 : (n : Int) + 1 ≤ (j : Int) + 1 := by omega
              go_wp2_with fail
              go_loopw [12] (fun v12 wx => ∃ i : Nat, i ≤ j ∧ v12 = .int .i64 (i : Int) ∧ Like w6 wx) (fun i _ => j - (intOf i).toNat)
              case atStart => exact ⟨0, by omega, rfl, Like.refl _⟩
              case round =>
                obtain ⟨i, hi, rfl, hL⟩ := hrel
                by_cases hij : i < j
                · obtain ⟨g9, rfl, d9⟩ := H9.out i hij
                  obtain ⟨g3, rfl, d3⟩ := H3.out i hij
                  rw [← cell?_heap hL.1] at d9 d3
                  have q12 : (i : Int) < (j : Int) := by omega
                  have q13 : (i : Int) < (n : Int) := by omega
                  generalize l.getD i ByteArray.empty = X at *
                  go_wp2_with fail
                  go_quiet (fail)
                  go_wp2_with fail
                  go_roundw
                  case rel => exact ⟨i + 1, by omega, by go_num, hL.drewN _⟩
                  case measure => simp [intOf]; omega
                · have q12 : (j : Int) ≤ (i : Int) := by omega
                  go_wp2_with fail
                  go_ret
                  exact ⟨rfl, B6.out.trans (hL.below.mono B6.out.size)⟩
end Go.Proofs.YteplojoondhkhaaDoor
