/-
  The walk of FnBlock.
-/
import Derived.Test.YtlknemfnacnleaaDoorRows
import Derived.Test.YtlknemfnacnleaaDoorBkDraw
import Derived.Test.YtlknemfnacnleaaDoorPtSam1
import Derived.Test.YtlknemfnacnleaaDoorBkReadS
namespace Go.Proofs.YtlknemfnacnleaaDoor
open Go.ChangeShapes Go.WideShapes Go.ChangeAt Go.RowKit Go.PlainAid
set_option linter.unusedVariables false

set_option maxRecDepth 20000 in
set_option maxHeartbeats 8000000 in
theorem law_fnBlock (ao : Option Addr) (len cap : Nat) (cs : Nat → Nat) (w : World) (h : CodeIs w w.heap.size ao len cs) (hl : len ≤ 9223372036854775807) (ht : SumTab w) (a0 a1 a2 : Addr) (he : Errs w a0 a1 a2) : Calls Tryd.prog 5 #[.slice ao len cap] w fun e w' => e = .returned (.bool true) ∧ Below w.heap.size w w' := by
  by_cases hbig : 1048576 < len
  · have c0 := big_yes w ao len cap hbig hl
    go_enter Tryd.func5, Tryd.ntmps5
    go_wp2_with fail
    refine c0.mono ?_
    rintro e w' ⟨rfl, rfl⟩
    go_wp2_with fail
    go_ret
    exact ⟨rfl, Below.refl _ _⟩
  have c0 := big_no w ao len cap (by omega)
  have hl2 : len ≤ 1048576 := by omega
  have cD := drawShowBlock w ao len cap cs hl2 h
  have HC : Hid (CodeIs w w.heap.size ao len cs) := h
  have ST : Hid (SumTab w) := ht
  have ER : Hid (Errs w a0 a1 a2) := he
  have cR := fun (s : ByteArray) (hs : s.size ≤ 1048576) wx (hx : Below w.heap.size w wx) => implReadBlock s wx hs (ST.out.on hx) a0 a1 a2 (ER.out.on hx)
  clear hbig h hl ht he
  go_enter Tryd.func5, Tryd.ntmps5
  go_wp2_with fail
  refine c0.mono ?_
  rintro e w' ⟨rfl, rfl⟩
  go_wp2_with fail
  refine cD.mono ?_
  rintro e w1 ⟨⟨u, l, rfl, hO, hln⟩, hb⟩
  have O1 : Hid (Owns w1 w.heap.size 40 2 u (ptR l)) := hO
  have B1 : Hid (Below w.heap.size w w1) := hb
  have LL : Hid (l.length ≤ 1048576) := by unfold Hid; omega
  clear hO hb hln cD c0
  have cS := implShowBlock l u w1 w1.heap.size O1.out.lies LL.out (Nat.le_refl _) (ST.out.on B1.out)
  go_wp2_with fail
  refine cS.mono ?_
  rintro e w2 ⟨rfl, hb⟩
  have O2 : Hid (Owns w2 w.heap.size 40 2 u (ptR l)) := O1.out.on hb
  have B2 : Hid (Below w.heap.size w w2) := B1.out.trans (hb.mono B1.out.size)
  clear hb cS O1
  go_wp2_with fail
  refine (cR (showB l) (by have := showB_size l; omega) w2 B2.out).mono ?_
  rintro e w3 ⟨⟨ux, x, ok, hA, rfl, hO⟩, hb⟩
  have X3 : Hid (Owns w3 w2.heap.size 40 2 ux (ptR x)) := hO
  have O3 : Hid (Owns w3 w.heap.size 40 2 u (ptR l)) := O2.out.on hb
  have B3 : Hid (Below w.heap.size w w3) := B2.out.trans (hb.mono B2.out.size)
  have HX : Hid ((1 ≤ l.length ∧ POk l → ok = true ∧ x = l) ∧ (¬ (1 ≤ l.length ∧ POk l) → ok = false)) := by
    refine ⟨fun hh => ?_, fun hh => ?_⟩
    · have hg : Good (showB l) l := ⟨hh.1, hh.2, rfl⟩
      rcases hA with ⟨h1, h2⟩ | ⟨_, _, h3⟩
      · exact ⟨h1, h2.one hg⟩
      · exact absurd hg (h3 l)
    · rcases hA with ⟨_, h2⟩ | ⟨h1, _⟩
      · rw [showB, if_neg hh] at h2
        exact absurd h2 (empty_not_good x)
      · exact h1
  clear hA hO hb O2
  have cK := specPointsOk l u w3 w3.heap.size O3.out.lies LL.out (Nat.le_refl _)
  obtain ⟨Au, cu, rfl, _⟩ := pt_look O3.out.lies
  have ql : (l.length : Int) ≤ 1048576 := by have := LL.out; omega
  by_cases hok : ¬ POk l
  · have e1 : ok = false := HX.out.2 (fun hh => hok hh.2)
    subst e1
    rw [decide_eq_false hok] at cK
    clear hok HX
    go_wp2_with fail
    refine cK.mono ?_
    rintro e w4 ⟨rfl, hL⟩
    have B4 : Hid (Below w.heap.size w w4) := B3.out.trans (hL.below.mono B3.out.size)
    clear hL cK O3 X3
    have cT := drawReadBlock w4 ao len cap cs hl2 (HC.out.on B4.out)
    go_wp2_with fail
    refine cT.mono ?_
    rintro e w5 ⟨⟨t, rfl, htz⟩, hb⟩
    have B5 : Hid (Below w.heap.size w w5) := B4.out.trans (hb.mono B4.out.size)
    clear hb cT
    go_wp2_with fail
    refine (cR t (by omega) w5 B5.out).mono ?_
    rintro e w6 ⟨⟨uy, y, fine, hA, rfl, hO⟩, hb⟩
    have Y6 : Hid (Owns w6 w5.heap.size 40 2 uy (ptR y)) := hO
    have B6 : Hid (Below w.heap.size w w6) := B5.out.trans (hb.mono B5.out.size)
    have HY : Hid (RbAns t y fine) := hA
    clear hA hO hb
    cases fine with
    | false =>
      have hcode := atV_lt HC.out 0
      have hcode1 := atV_lt HC.out 1
      have cA0 := fun wx (hx : Below w.heap.size w wx) => at_any wx ao len cap cs 0 hl2 (by omega) (HC.out.on hx)
      have cA1 := fun wx (hx : Below w.heap.size w wx) => at_any wx ao len cap cs 1 hl2 (by omega) (HC.out.on hx)
      have BE : Hid (Below w.heap.size w (w6.alloc (.cells #[] 40))) := B6.out.alloc B6.out.size _
      have OE : Hid (Owns (w6.alloc (.cells #[] 40)) w6.heap.size 40 2 (.slice (some ⟨w6.heap.size, 0, none⟩) 0 0) []) := Owns.empty w6 _ _ _ (Nat.le_refl _)
      have WE : Hid (Below w6.heap.size w6 (w6.alloc (.cells #[] 40))) := (Below.refl _ _).alloc (Nat.le_refl _) _
      generalize atV len cs 0 = b0 at *
      generalize atV len cs 1 = b1 at *
      obtain ⟨st, hst⟩ : ∃ st : Int, st = 1 + (b0 : Int) := ⟨_, rfl⟩
      have HST : Hid (1 ≤ st ∧ st ≤ 256) := by unfold Hid; omega
      obtain ⟨N, hN⟩ : ∃ N : Nat, N = 2 + b1 % 50 := ⟨_, rfl⟩
      have HNN : Hid (2 ≤ N ∧ N ≤ 51) := by unfold Hid; omega
      have hN2 : (2 : Int) + (b1 : Int) % 50 = (N : Int) := by omega
      have qb1 : (b1 : Int) ≤ 255 := by omega
      have qb0 : (b0 : Int) ≤ 255 := by omega
      go_wp2_with fail
      generalize w6.alloc (.cells #[] 40) = wE at *
      refine (cA0 wE BE.out).mono ?_
      rintro e w' ⟨rfl, rfl⟩
      go_wp2_with fail
      rw [← hst]
      clear hst qb0 hcode hcode1 hN
      go_loopw [10, 12] (fun v10 v12 wr => ∃ k : Nat, k ≤ N ∧ v12 = .int .i64 (k : Int) ∧ Owns wr w6.heap.size 40 2 v10 (ptR (evenP st k)) ∧ Below w6.heap.size w6 wr) (fun _ i _ => N - (intOf i).toNat)
      case atStart => exact ⟨0, by omega, rfl, OE.out, WE.out⟩
      case round =>
        obtain ⟨k, hk, rfl, hO, hb⟩ := hrel
        have HO : Hid (Owns wr w6.heap.size 40 2 u10 (ptR (evenP st k))) := hO
        have HB1 : Hid (Below w6.heap.size w6 wr) := hb
        have BW : Hid (Below w.heap.size w wr) := B6.out.trans (hb.mono B6.out.size)
        obtain ⟨A5, c5, rfl, _⟩ := pt_look hO.lies
        rw [evenP_length] at HO ⊢
        have q51 : (N : Int) ≤ 51 := by have := HNN.out; omega
        have cA1r := cA1 wr BW.out
        clear hO hb
        by_cases hlt : k < N
        · have q2 : (k : Int) < (N : Int) := by omega
          have q2n : (k : Int) < 2 + (b1 : Int) % 50 := by omega
          have hms := mul_step st k HST.out.1 HST.out.2 (by have := HNN.out; omega)
          have m0 : 0 ≤ (k : Int) * st := hms.1
          have m1 : (k : Int) * st ≤ 15360 := hms.2
          have Z1 : w6.heap.size ≤ wr.heap.size := HB1.out.size
          have L1 : Hid ((ptR (evenP st k)).length ≤ 2097152) := by unfold Hid; rw [ptR_length, evenP_length]; omega
          clear hms
          go_wp2_with fail
          refine cA1r.mono ?_
          rintro e w' ⟨rfl, rfl⟩
          go_wp2_with (at_builtin; refine wpList_append_row (w := wr) rfl (.tmp 76) (.tmp 84) 25 40 (.agg #[.int .i64 0, .int .i64 0]) 2 16 rfl Tryd.underlying25 Tryd.infoPt rfl (by omega) w6.heap.size (.slice A5 k c5) (ptR (evenP st k)) rfl HO.out [.int .i64 (1000 + (k : Int) * st), .int .i64 (5 + (k : Int))] rfl (pt_cells _ _) rfl L1.out (by omega) Z1 ?_; intro u' w9 hO9 hb9 _ _)
          have O9 : Hid (Owns w9 w6.heap.size 40 2 u' (ptR (evenP st (k + 1)))) := by unfold Hid; rw [evenP_snoc, ptR_snoc']; exact hO9
          have B9 : Hid (Below w6.heap.size w6 w9) := HB1.out.trans hb9
          clear hO9 hb9
          go_wp2_with fail
          go_roundw
          case rel => exact ⟨k + 1, by omega, by go_num, O9.out, B9.out⟩
          case measure => simp [intOf]; omega
        · obtain rfl : k = N := by omega
          obtain ⟨hsh, hlen, hpos⟩ := even_show st k HST.out.1 HST.out.2 (by have := HNN.out; omega) (by have := HNN.out; omega)
          have cS3 := implShowBlock (evenP st k) (.slice A5 k c5) wr wr.heap.size HO.out.lies (by rw [evenP_length]; have := HNN.out; omega) (Nat.le_refl _) (ST.out.on BW.out)
          rw [hsh] at cS3
          have hsz : (frameOf (txt (bodyB (evenP st k)))).size = 8 + (bodyB (evenP st k)).length := by rw [frameOf_size, txt_size]
          have HCUT : Hid (∀ m, ¬ Good ((frameOf (txt (bodyB (evenP st k)))).extract 0 ((frameOf (txt (bodyB (evenP st k)))).size - 1)) m) := even_cut _ (by have := HNN.out; omega) _ (by omega)
          generalize frameOf (txt (bodyB (evenP st k))) = ee at *
          generalize (bodyB (evenP st k)).length = bl at *
          have z1 : (ee.size : Int) ≤ 20 + 3 * (k : Int) := by omega
          have z2 : (9 : Int) ≤ (ee.size : Int) := by omega
          have z3 : (ee.size : Int) ≤ 1000 := by have := HNN.out; omega
          have z4 : ((ee.size : Int) - 1).toNat = ee.size - 1 := by omega
          have z5 : ¬ ee.toList = [] := fun h0 => by
            have := congrArg List.length h0
            rw [Lib.toList_data] at this
            have h2 : ee.data.size = 0 := by rw [← Array.length_toList]; exact this
            have h3 : ee.size = 0 := h2
            omega
          have z6 : (ee.toList == ([] : List UInt8)) = false := by rw [beq_eq_false_iff_ne]; exact z5
          have z7 : (ee.toList == (ByteArray.mk #[]).toList) = false := by rw [beq_eq_false_iff_ne, Lib.toList_data (ByteArray.mk #[])]; exact z5
          have z8 : ee.toList.isEmpty = false := by cases hh : ee.toList with | nil => exact absurd hh z5 | cons _ _ => rfl
          have cR4 := cR (ee.extract 0 (ee.size - 1)) (by rw [ByteArray.size_extract]; omega)
          have dlt : decide ((k : Int) < (k : Int)) = false := decide_eq_false (by omega)
          have dlt2 : decide ((k : Int) < 2 + (b1 : Int) % 50) = false := decide_eq_false (by omega)
          clear hsh hlen hpos hsz
          go_wp2_with fail
          refine cA1r.mono ?_
          rintro e w' ⟨rfl, rfl⟩
          go_wp2_with fail
          refine cS3.mono ?_
          rintro e w10 ⟨rfl, hb⟩
          have B10 : Hid (Below w.heap.size w w10) := BW.out.trans (hb.mono BW.out.size)
          clear hb cS3
          go_wp2_with fail
          refine (cR4 w10 B10.out).mono ?_
          rintro e w11 ⟨⟨up, p, part, hA, rfl, _⟩, hb⟩
          have B11 : Hid (Below w.heap.size w w11) := B10.out.trans (hb.mono B10.out.size)
          obtain rfl : part = false := by
            rcases hA with ⟨_, h2⟩ | ⟨h1, _⟩
            · exact absurd h2 (HCUT.out p)
            · exact h1
          clear hA hb
          go_wp2_with fail
          go_ret
          exact ⟨rfl, B11.out⟩
    | true =>
      have HG : Hid (Good t y) := by
        rcases HY.out with ⟨_, h2⟩ | ⟨h1, _⟩
        · exact h2
        · cases h1
      have LY : Hid (y.length ≤ 1048576) := by unfold Hid; have := HG.out.2.1.1; omega
      have cS2 := implShowBlock y uy w6 w6.heap.size Y6.out.lies LY.out (Nat.le_refl _) (ST.out.on B6.out)
      rw [HG.out.2.2] at cS2
      go_wp2_with fail
      refine cS2.mono ?_
      rintro e w7 ⟨rfl, hb⟩
      have Y7 : Hid (Owns w7 w5.heap.size 40 2 uy (ptR y)) := Y6.out.on hb
      have B7 : Hid (Below w.heap.size w w7) := B6.out.trans (hb.mono B6.out.size)
      clear hb cS2 Y6
      have cP2 := implPointsOk y uy w7 w7.heap.size Y7.out.lies LY.out (Nat.le_refl _)
      rw [decide_eq_true HG.out.2.1] at cP2
      go_wp2_with fail
      refine cP2.mono ?_
      rintro e w8 ⟨rfl, hb⟩
      have B8 : Hid (Below w.heap.size w w8) := B7.out.trans (hb.mono B7.out.size)
      clear hb cP2
      have hcode := atV_lt HC.out 0
      have hcode1 := atV_lt HC.out 1
      have cA0 := fun wx (hx : Below w.heap.size w wx) => at_any wx ao len cap cs 0 hl2 (by omega) (HC.out.on hx)
      have cA1 := fun wx (hx : Below w.heap.size w wx) => at_any wx ao len cap cs 1 hl2 (by omega) (HC.out.on hx)
      have BE : Hid (Below w.heap.size w (w8.alloc (.cells #[] 40))) := B8.out.alloc B8.out.size _
      have OE : Hid (Owns (w8.alloc (.cells #[] 40)) w8.heap.size 40 2 (.slice (some ⟨w8.heap.size, 0, none⟩) 0 0) []) := Owns.empty w8 _ _ _ (Nat.le_refl _)
      have WE : Hid (Below w8.heap.size w8 (w8.alloc (.cells #[] 40))) := (Below.refl _ _).alloc (Nat.le_refl _) _
      generalize atV len cs 0 = b0 at *
      generalize atV len cs 1 = b1 at *
      obtain ⟨st, hst⟩ : ∃ st : Int, st = 1 + (b0 : Int) := ⟨_, rfl⟩
      have HST : Hid (1 ≤ st ∧ st ≤ 256) := by unfold Hid; omega
      obtain ⟨N, hN⟩ : ∃ N : Nat, N = 2 + b1 % 50 := ⟨_, rfl⟩
      have HNN : Hid (2 ≤ N ∧ N ≤ 51) := by unfold Hid; omega
      have hN2 : (2 : Int) + (b1 : Int) % 50 = (N : Int) := by omega
      have qb1 : (b1 : Int) ≤ 255 := by omega
      have qb0 : (b0 : Int) ≤ 255 := by omega
      go_wp2_with fail
      generalize w8.alloc (.cells #[] 40) = wE at *
      refine (cA0 wE BE.out).mono ?_
      rintro e w' ⟨rfl, rfl⟩
      go_wp2_with fail
      rw [← hst]
      clear hst qb0 hcode hcode1 hN
      go_loopw [10, 12] (fun v10 v12 wr => ∃ k : Nat, k ≤ N ∧ v12 = .int .i64 (k : Int) ∧ Owns wr w8.heap.size 40 2 v10 (ptR (evenP st k)) ∧ Below w8.heap.size w8 wr) (fun _ i _ => N - (intOf i).toNat)
      case atStart => exact ⟨0, by omega, rfl, OE.out, WE.out⟩
      case round =>
        obtain ⟨k, hk, rfl, hO, hb⟩ := hrel
        have HO : Hid (Owns wr w8.heap.size 40 2 u10 (ptR (evenP st k))) := hO
        have HB1 : Hid (Below w8.heap.size w8 wr) := hb
        have BW : Hid (Below w.heap.size w wr) := B8.out.trans (hb.mono B8.out.size)
        obtain ⟨A5, c5, rfl, _⟩ := pt_look hO.lies
        rw [evenP_length] at HO ⊢
        have q51 : (N : Int) ≤ 51 := by have := HNN.out; omega
        have cA1r := cA1 wr BW.out
        clear hO hb
        by_cases hlt : k < N
        · have q2 : (k : Int) < (N : Int) := by omega
          have q2n : (k : Int) < 2 + (b1 : Int) % 50 := by omega
          have hms := mul_step st k HST.out.1 HST.out.2 (by have := HNN.out; omega)
          have m0 : 0 ≤ (k : Int) * st := hms.1
          have m1 : (k : Int) * st ≤ 15360 := hms.2
          have Z1 : w8.heap.size ≤ wr.heap.size := HB1.out.size
          have L1 : Hid ((ptR (evenP st k)).length ≤ 2097152) := by unfold Hid; rw [ptR_length, evenP_length]; omega
          clear hms
          go_wp2_with fail
          refine cA1r.mono ?_
          rintro e w' ⟨rfl, rfl⟩
          go_wp2_with (at_builtin; refine wpList_append_row (w := wr) rfl (.tmp 76) (.tmp 84) 25 40 (.agg #[.int .i64 0, .int .i64 0]) 2 16 rfl Tryd.underlying25 Tryd.infoPt rfl (by omega) w8.heap.size (.slice A5 k c5) (ptR (evenP st k)) rfl HO.out [.int .i64 (1000 + (k : Int) * st), .int .i64 (5 + (k : Int))] rfl (pt_cells _ _) rfl L1.out (by omega) Z1 ?_; intro u' w9 hO9 hb9 _ _)
          have O9 : Hid (Owns w9 w8.heap.size 40 2 u' (ptR (evenP st (k + 1)))) := by unfold Hid; rw [evenP_snoc, ptR_snoc']; exact hO9
          have B9 : Hid (Below w8.heap.size w8 w9) := HB1.out.trans hb9
          clear hO9 hb9
          go_wp2_with fail
          go_roundw
          case rel => exact ⟨k + 1, by omega, by go_num, O9.out, B9.out⟩
          case measure => simp [intOf]; omega
        · obtain rfl : k = N := by omega
          obtain ⟨hsh, hlen, hpos⟩ := even_show st k HST.out.1 HST.out.2 (by have := HNN.out; omega) (by have := HNN.out; omega)
          have cS3 := implShowBlock (evenP st k) (.slice A5 k c5) wr wr.heap.size HO.out.lies (by rw [evenP_length]; have := HNN.out; omega) (Nat.le_refl _) (ST.out.on BW.out)
          rw [hsh] at cS3
          have hsz : (frameOf (txt (bodyB (evenP st k)))).size = 8 + (bodyB (evenP st k)).length := by rw [frameOf_size, txt_size]
          have HCUT : Hid (∀ m, ¬ Good ((frameOf (txt (bodyB (evenP st k)))).extract 0 ((frameOf (txt (bodyB (evenP st k)))).size - 1)) m) := even_cut _ (by have := HNN.out; omega) _ (by omega)
          generalize frameOf (txt (bodyB (evenP st k))) = ee at *
          generalize (bodyB (evenP st k)).length = bl at *
          have z1 : (ee.size : Int) ≤ 20 + 3 * (k : Int) := by omega
          have z2 : (9 : Int) ≤ (ee.size : Int) := by omega
          have z3 : (ee.size : Int) ≤ 1000 := by have := HNN.out; omega
          have z4 : ((ee.size : Int) - 1).toNat = ee.size - 1 := by omega
          have z5 : ¬ ee.toList = [] := fun h0 => by
            have := congrArg List.length h0
            rw [Lib.toList_data] at this
            have h2 : ee.data.size = 0 := by rw [← Array.length_toList]; exact this
            have h3 : ee.size = 0 := h2
            omega
          have z6 : (ee.toList == ([] : List UInt8)) = false := by rw [beq_eq_false_iff_ne]; exact z5
          have z7 : (ee.toList == (ByteArray.mk #[]).toList) = false := by rw [beq_eq_false_iff_ne, Lib.toList_data (ByteArray.mk #[])]; exact z5
          have z8 : ee.toList.isEmpty = false := by cases hh : ee.toList with | nil => exact absurd hh z5 | cons _ _ => rfl
          have cR4 := cR (ee.extract 0 (ee.size - 1)) (by rw [ByteArray.size_extract]; omega)
          have dlt : decide ((k : Int) < (k : Int)) = false := decide_eq_false (by omega)
          have dlt2 : decide ((k : Int) < 2 + (b1 : Int) % 50) = false := decide_eq_false (by omega)
          clear hsh hlen hpos hsz
          go_wp2_with fail
          refine cA1r.mono ?_
          rintro e w' ⟨rfl, rfl⟩
          go_wp2_with fail
          refine cS3.mono ?_
          rintro e w10 ⟨rfl, hb⟩
          have B10 : Hid (Below w.heap.size w w10) := BW.out.trans (hb.mono BW.out.size)
          clear hb cS3
          go_wp2_with fail
          refine (cR4 w10 B10.out).mono ?_
          rintro e w11 ⟨⟨up, p, part, hA, rfl, _⟩, hb⟩
          have B11 : Hid (Below w.heap.size w w11) := B10.out.trans (hb.mono B10.out.size)
          obtain rfl : part = false := by
            rcases hA with ⟨_, h2⟩ | ⟨h1, _⟩
            · exact absurd h2 (HCUT.out p)
            · exact h1
          clear hA hb
          go_wp2_with fail
          go_ret
          exact ⟨rfl, B11.out⟩
  have hok' : POk l := (Decidable.not_not (p := POk l)).1 hok
  rw [decide_eq_true hok'] at cK
  by_cases h0 : l.length = 0
  · have e1 : ok = false := HX.out.2 (fun hh => by omega)
    subst e1
    rw [h0]
    rw [h0] at cK O3
    clear hok hok' HX h0 ql
    go_wp2_with fail
    refine cK.mono ?_
    rintro e w4 ⟨rfl, hL⟩
    have B4 : Hid (Below w.heap.size w w4) := B3.out.trans (hL.below.mono B3.out.size)
    clear hL cK O3 X3
    have cT := drawReadBlock w4 ao len cap cs hl2 (HC.out.on B4.out)
    go_wp2_with fail
    refine cT.mono ?_
    rintro e w5 ⟨⟨t, rfl, htz⟩, hb⟩
    have B5 : Hid (Below w.heap.size w w5) := B4.out.trans (hb.mono B4.out.size)
    clear hb cT
    go_wp2_with fail
    refine (cR t (by omega) w5 B5.out).mono ?_
    rintro e w6 ⟨⟨uy, y, fine, hA, rfl, hO⟩, hb⟩
    have Y6 : Hid (Owns w6 w5.heap.size 40 2 uy (ptR y)) := hO
    have B6 : Hid (Below w.heap.size w w6) := B5.out.trans (hb.mono B5.out.size)
    have HY : Hid (RbAns t y fine) := hA
    clear hA hO hb
    cases fine with
    | false =>
      have hcode := atV_lt HC.out 0
      have hcode1 := atV_lt HC.out 1
      have cA0 := fun wx (hx : Below w.heap.size w wx) => at_any wx ao len cap cs 0 hl2 (by omega) (HC.out.on hx)
      have cA1 := fun wx (hx : Below w.heap.size w wx) => at_any wx ao len cap cs 1 hl2 (by omega) (HC.out.on hx)
      have BE : Hid (Below w.heap.size w (w6.alloc (.cells #[] 40))) := B6.out.alloc B6.out.size _
      have OE : Hid (Owns (w6.alloc (.cells #[] 40)) w6.heap.size 40 2 (.slice (some ⟨w6.heap.size, 0, none⟩) 0 0) []) := Owns.empty w6 _ _ _ (Nat.le_refl _)
      have WE : Hid (Below w6.heap.size w6 (w6.alloc (.cells #[] 40))) := (Below.refl _ _).alloc (Nat.le_refl _) _
      generalize atV len cs 0 = b0 at *
      generalize atV len cs 1 = b1 at *
      obtain ⟨st, hst⟩ : ∃ st : Int, st = 1 + (b0 : Int) := ⟨_, rfl⟩
      have HST : Hid (1 ≤ st ∧ st ≤ 256) := by unfold Hid; omega
      obtain ⟨N, hN⟩ : ∃ N : Nat, N = 2 + b1 % 50 := ⟨_, rfl⟩
      have HNN : Hid (2 ≤ N ∧ N ≤ 51) := by unfold Hid; omega
      have hN2 : (2 : Int) + (b1 : Int) % 50 = (N : Int) := by omega
      have qb1 : (b1 : Int) ≤ 255 := by omega
      have qb0 : (b0 : Int) ≤ 255 := by omega
      go_wp2_with fail
      generalize w6.alloc (.cells #[] 40) = wE at *
      refine (cA0 wE BE.out).mono ?_
      rintro e w' ⟨rfl, rfl⟩
      go_wp2_with fail
      rw [← hst]
      clear hst qb0 hcode hcode1 hN
      go_loopw [10, 12] (fun v10 v12 wr => ∃ k : Nat, k ≤ N ∧ v12 = .int .i64 (k : Int) ∧ Owns wr w6.heap.size 40 2 v10 (ptR (evenP st k)) ∧ Below w6.heap.size w6 wr) (fun _ i _ => N - (intOf i).toNat)
      case atStart => exact ⟨0, by omega, rfl, OE.out, WE.out⟩
      case round =>
        obtain ⟨k, hk, rfl, hO, hb⟩ := hrel
        have HO : Hid (Owns wr w6.heap.size 40 2 u10 (ptR (evenP st k))) := hO
        have HB1 : Hid (Below w6.heap.size w6 wr) := hb
        have BW : Hid (Below w.heap.size w wr) := B6.out.trans (hb.mono B6.out.size)
        obtain ⟨A5, c5, rfl, _⟩ := pt_look hO.lies
        rw [evenP_length] at HO ⊢
        have q51 : (N : Int) ≤ 51 := by have := HNN.out; omega
        have cA1r := cA1 wr BW.out
        clear hO hb
        by_cases hlt : k < N
        · have q2 : (k : Int) < (N : Int) := by omega
          have q2n : (k : Int) < 2 + (b1 : Int) % 50 := by omega
          have hms := mul_step st k HST.out.1 HST.out.2 (by have := HNN.out; omega)
          have m0 : 0 ≤ (k : Int) * st := hms.1
          have m1 : (k : Int) * st ≤ 15360 := hms.2
          have Z1 : w6.heap.size ≤ wr.heap.size := HB1.out.size
          have L1 : Hid ((ptR (evenP st k)).length ≤ 2097152) := by unfold Hid; rw [ptR_length, evenP_length]; omega
          clear hms
          go_wp2_with fail
          refine cA1r.mono ?_
          rintro e w' ⟨rfl, rfl⟩
          go_wp2_with (at_builtin; refine wpList_append_row (w := wr) rfl (.tmp 76) (.tmp 84) 25 40 (.agg #[.int .i64 0, .int .i64 0]) 2 16 rfl Tryd.underlying25 Tryd.infoPt rfl (by omega) w6.heap.size (.slice A5 k c5) (ptR (evenP st k)) rfl HO.out [.int .i64 (1000 + (k : Int) * st), .int .i64 (5 + (k : Int))] rfl (pt_cells _ _) rfl L1.out (by omega) Z1 ?_; intro u' w9 hO9 hb9 _ _)
          have O9 : Hid (Owns w9 w6.heap.size 40 2 u' (ptR (evenP st (k + 1)))) := by unfold Hid; rw [evenP_snoc, ptR_snoc']; exact hO9
          have B9 : Hid (Below w6.heap.size w6 w9) := HB1.out.trans hb9
          clear hO9 hb9
          go_wp2_with fail
          go_roundw
          case rel => exact ⟨k + 1, by omega, by go_num, O9.out, B9.out⟩
          case measure => simp [intOf]; omega
        · obtain rfl : k = N := by omega
          obtain ⟨hsh, hlen, hpos⟩ := even_show st k HST.out.1 HST.out.2 (by have := HNN.out; omega) (by have := HNN.out; omega)
          have cS3 := implShowBlock (evenP st k) (.slice A5 k c5) wr wr.heap.size HO.out.lies (by rw [evenP_length]; have := HNN.out; omega) (Nat.le_refl _) (ST.out.on BW.out)
          rw [hsh] at cS3
          have hsz : (frameOf (txt (bodyB (evenP st k)))).size = 8 + (bodyB (evenP st k)).length := by rw [frameOf_size, txt_size]
          have HCUT : Hid (∀ m, ¬ Good ((frameOf (txt (bodyB (evenP st k)))).extract 0 ((frameOf (txt (bodyB (evenP st k)))).size - 1)) m) := even_cut _ (by have := HNN.out; omega) _ (by omega)
          generalize frameOf (txt (bodyB (evenP st k))) = ee at *
          generalize (bodyB (evenP st k)).length = bl at *
          have z1 : (ee.size : Int) ≤ 20 + 3 * (k : Int) := by omega
          have z2 : (9 : Int) ≤ (ee.size : Int) := by omega
          have z3 : (ee.size : Int) ≤ 1000 := by have := HNN.out; omega
          have z4 : ((ee.size : Int) - 1).toNat = ee.size - 1 := by omega
          have z5 : ¬ ee.toList = [] := fun h0 => by
            have := congrArg List.length h0
            rw [Lib.toList_data] at this
            have h2 : ee.data.size = 0 := by rw [← Array.length_toList]; exact this
            have h3 : ee.size = 0 := h2
            omega
          have z6 : (ee.toList == ([] : List UInt8)) = false := by rw [beq_eq_false_iff_ne]; exact z5
          have z7 : (ee.toList == (ByteArray.mk #[]).toList) = false := by rw [beq_eq_false_iff_ne, Lib.toList_data (ByteArray.mk #[])]; exact z5
          have z8 : ee.toList.isEmpty = false := by cases hh : ee.toList with | nil => exact absurd hh z5 | cons _ _ => rfl
          have cR4 := cR (ee.extract 0 (ee.size - 1)) (by rw [ByteArray.size_extract]; omega)
          have dlt : decide ((k : Int) < (k : Int)) = false := decide_eq_false (by omega)
          have dlt2 : decide ((k : Int) < 2 + (b1 : Int) % 50) = false := decide_eq_false (by omega)
          clear hsh hlen hpos hsz
          go_wp2_with fail
          refine cA1r.mono ?_
          rintro e w' ⟨rfl, rfl⟩
          go_wp2_with fail
          refine cS3.mono ?_
          rintro e w10 ⟨rfl, hb⟩
          have B10 : Hid (Below w.heap.size w w10) := BW.out.trans (hb.mono BW.out.size)
          clear hb cS3
          go_wp2_with fail
          refine (cR4 w10 B10.out).mono ?_
          rintro e w11 ⟨⟨up, p, part, hA, rfl, _⟩, hb⟩
          have B11 : Hid (Below w.heap.size w w11) := B10.out.trans (hb.mono B10.out.size)
          obtain rfl : part = false := by
            rcases hA with ⟨_, h2⟩ | ⟨h1, _⟩
            · exact absurd h2 (HCUT.out p)
            · exact h1
          clear hA hb
          go_wp2_with fail
          go_ret
          exact ⟨rfl, B11.out⟩
    | true =>
      have HG : Hid (Good t y) := by
        rcases HY.out with ⟨_, h2⟩ | ⟨h1, _⟩
        · exact h2
        · cases h1
      have LY : Hid (y.length ≤ 1048576) := by unfold Hid; have := HG.out.2.1.1; omega
      have cS2 := implShowBlock y uy w6 w6.heap.size Y6.out.lies LY.out (Nat.le_refl _) (ST.out.on B6.out)
      rw [HG.out.2.2] at cS2
      go_wp2_with fail
      refine cS2.mono ?_
      rintro e w7 ⟨rfl, hb⟩
      have Y7 : Hid (Owns w7 w5.heap.size 40 2 uy (ptR y)) := Y6.out.on hb
      have B7 : Hid (Below w.heap.size w w7) := B6.out.trans (hb.mono B6.out.size)
      clear hb cS2 Y6
      have cP2 := implPointsOk y uy w7 w7.heap.size Y7.out.lies LY.out (Nat.le_refl _)
      rw [decide_eq_true HG.out.2.1] at cP2
      go_wp2_with fail
      refine cP2.mono ?_
      rintro e w8 ⟨rfl, hb⟩
      have B8 : Hid (Below w.heap.size w w8) := B7.out.trans (hb.mono B7.out.size)
      clear hb cP2
      have hcode := atV_lt HC.out 0
      have hcode1 := atV_lt HC.out 1
      have cA0 := fun wx (hx : Below w.heap.size w wx) => at_any wx ao len cap cs 0 hl2 (by omega) (HC.out.on hx)
      have cA1 := fun wx (hx : Below w.heap.size w wx) => at_any wx ao len cap cs 1 hl2 (by omega) (HC.out.on hx)
      have BE : Hid (Below w.heap.size w (w8.alloc (.cells #[] 40))) := B8.out.alloc B8.out.size _
      have OE : Hid (Owns (w8.alloc (.cells #[] 40)) w8.heap.size 40 2 (.slice (some ⟨w8.heap.size, 0, none⟩) 0 0) []) := Owns.empty w8 _ _ _ (Nat.le_refl _)
      have WE : Hid (Below w8.heap.size w8 (w8.alloc (.cells #[] 40))) := (Below.refl _ _).alloc (Nat.le_refl _) _
      generalize atV len cs 0 = b0 at *
      generalize atV len cs 1 = b1 at *
      obtain ⟨st, hst⟩ : ∃ st : Int, st = 1 + (b0 : Int) := ⟨_, rfl⟩
      have HST : Hid (1 ≤ st ∧ st ≤ 256) := by unfold Hid; omega
      obtain ⟨N, hN⟩ : ∃ N : Nat, N = 2 + b1 % 50 := ⟨_, rfl⟩
      have HNN : Hid (2 ≤ N ∧ N ≤ 51) := by unfold Hid; omega
      have hN2 : (2 : Int) + (b1 : Int) % 50 = (N : Int) := by omega
      have qb1 : (b1 : Int) ≤ 255 := by omega
      have qb0 : (b0 : Int) ≤ 255 := by omega
      go_wp2_with fail
      generalize w8.alloc (.cells #[] 40) = wE at *
      refine (cA0 wE BE.out).mono ?_
      rintro e w' ⟨rfl, rfl⟩
      go_wp2_with fail
      rw [← hst]
      clear hst qb0 hcode hcode1 hN
      go_loopw [10, 12] (fun v10 v12 wr => ∃ k : Nat, k ≤ N ∧ v12 = .int .i64 (k : Int) ∧ Owns wr w8.heap.size 40 2 v10 (ptR (evenP st k)) ∧ Below w8.heap.size w8 wr) (fun _ i _ => N - (intOf i).toNat)
      case atStart => exact ⟨0, by omega, rfl, OE.out, WE.out⟩
      case round =>
        obtain ⟨k, hk, rfl, hO, hb⟩ := hrel
        have HO : Hid (Owns wr w8.heap.size 40 2 u10 (ptR (evenP st k))) := hO
        have HB1 : Hid (Below w8.heap.size w8 wr) := hb
        have BW : Hid (Below w.heap.size w wr) := B8.out.trans (hb.mono B8.out.size)
        obtain ⟨A5, c5, rfl, _⟩ := pt_look hO.lies
        rw [evenP_length] at HO ⊢
        have q51 : (N : Int) ≤ 51 := by have := HNN.out; omega
        have cA1r := cA1 wr BW.out
        clear hO hb
        by_cases hlt : k < N
        · have q2 : (k : Int) < (N : Int) := by omega
          have q2n : (k : Int) < 2 + (b1 : Int) % 50 := by omega
          have hms := mul_step st k HST.out.1 HST.out.2 (by have := HNN.out; omega)
          have m0 : 0 ≤ (k : Int) * st := hms.1
          have m1 : (k : Int) * st ≤ 15360 := hms.2
          have Z1 : w8.heap.size ≤ wr.heap.size := HB1.out.size
          have L1 : Hid ((ptR (evenP st k)).length ≤ 2097152) := by unfold Hid; rw [ptR_length, evenP_length]; omega
          clear hms
          go_wp2_with fail
          refine cA1r.mono ?_
          rintro e w' ⟨rfl, rfl⟩
          go_wp2_with (at_builtin; refine wpList_append_row (w := wr) rfl (.tmp 76) (.tmp 84) 25 40 (.agg #[.int .i64 0, .int .i64 0]) 2 16 rfl Tryd.underlying25 Tryd.infoPt rfl (by omega) w8.heap.size (.slice A5 k c5) (ptR (evenP st k)) rfl HO.out [.int .i64 (1000 + (k : Int) * st), .int .i64 (5 + (k : Int))] rfl (pt_cells _ _) rfl L1.out (by omega) Z1 ?_; intro u' w9 hO9 hb9 _ _)
          have O9 : Hid (Owns w9 w8.heap.size 40 2 u' (ptR (evenP st (k + 1)))) := by unfold Hid; rw [evenP_snoc, ptR_snoc']; exact hO9
          have B9 : Hid (Below w8.heap.size w8 w9) := HB1.out.trans hb9
          clear hO9 hb9
          go_wp2_with fail
          go_roundw
          case rel => exact ⟨k + 1, by omega, by go_num, O9.out, B9.out⟩
          case measure => simp [intOf]; omega
        · obtain rfl : k = N := by omega
          obtain ⟨hsh, hlen, hpos⟩ := even_show st k HST.out.1 HST.out.2 (by have := HNN.out; omega) (by have := HNN.out; omega)
          have cS3 := implShowBlock (evenP st k) (.slice A5 k c5) wr wr.heap.size HO.out.lies (by rw [evenP_length]; have := HNN.out; omega) (Nat.le_refl _) (ST.out.on BW.out)
          rw [hsh] at cS3
          have hsz : (frameOf (txt (bodyB (evenP st k)))).size = 8 + (bodyB (evenP st k)).length := by rw [frameOf_size, txt_size]
          have HCUT : Hid (∀ m, ¬ Good ((frameOf (txt (bodyB (evenP st k)))).extract 0 ((frameOf (txt (bodyB (evenP st k)))).size - 1)) m) := even_cut _ (by have := HNN.out; omega) _ (by omega)
          generalize frameOf (txt (bodyB (evenP st k))) = ee at *
          generalize (bodyB (evenP st k)).length = bl at *
          have z1 : (ee.size : Int) ≤ 20 + 3 * (k : Int) := by omega
          have z2 : (9 : Int) ≤ (ee.size : Int) := by omega
          have z3 : (ee.size : Int) ≤ 1000 := by have := HNN.out; omega
          have z4 : ((ee.size : Int) - 1).toNat = ee.size - 1 := by omega
          have z5 : ¬ ee.toList = [] := fun h0 => by
            have := congrArg List.length h0
            rw [Lib.toList_data] at this
            have h2 : ee.data.size = 0 := by rw [← Array.length_toList]; exact this
            have h3 : ee.size = 0 := h2
            omega
          have z6 : (ee.toList == ([] : List UInt8)) = false := by rw [beq_eq_false_iff_ne]; exact z5
          have z7 : (ee.toList == (ByteArray.mk #[]).toList) = false := by rw [beq_eq_false_iff_ne, Lib.toList_data (ByteArray.mk #[])]; exact z5
          have z8 : ee.toList.isEmpty = false := by cases hh : ee.toList with | nil => exact absurd hh z5 | cons _ _ => rfl
          have cR4 := cR (ee.extract 0 (ee.size - 1)) (by rw [ByteArray.size_extract]; omega)
          have dlt : decide ((k : Int) < (k : Int)) = false := decide_eq_false (by omega)
          have dlt2 : decide ((k : Int) < 2 + (b1 : Int) % 50) = false := decide_eq_false (by omega)
          clear hsh hlen hpos hsz
          go_wp2_with fail
          refine cA1r.mono ?_
          rintro e w' ⟨rfl, rfl⟩
          go_wp2_with fail
          refine cS3.mono ?_
          rintro e w10 ⟨rfl, hb⟩
          have B10 : Hid (Below w.heap.size w w10) := BW.out.trans (hb.mono BW.out.size)
          clear hb cS3
          go_wp2_with fail
          refine (cR4 w10 B10.out).mono ?_
          rintro e w11 ⟨⟨up, p, part, hA, rfl, _⟩, hb⟩
          have B11 : Hid (Below w.heap.size w w11) := B10.out.trans (hb.mono B10.out.size)
          obtain rfl : part = false := by
            rcases hA with ⟨_, h2⟩ | ⟨h1, _⟩
            · exact absurd h2 (HCUT.out p)
            · exact h1
          clear hA hb
          go_wp2_with fail
          go_ret
          exact ⟨rfl, B11.out⟩
  obtain ⟨e1, e2⟩ := HX.out.1 ⟨by omega, hok'⟩
  subst e1
  subst e2
  have q0 : (0 : Int) < (x.length : Int) := by omega
  have d0 : decide (0 < x.length) = true := decide_eq_true (by omega)
  clear hok hok' HX
  go_wp2_with fail
  refine cK.mono ?_
  rintro e w3' ⟨rfl, hL⟩
  have B3' : Hid (Below w.heap.size w w3') := B3.out.trans (hL.below.mono B3.out.size)
  have cQ := samePoints x ux (.slice Au x.length cu) w3' w3'.heap.size (X3.out.on hL.below).lies (O3.out.on hL.below).lies LL.out
  clear hL cK
  go_wp2_with fail
  refine cQ.mono ?_
  rintro e w4 ⟨rfl, hL⟩
  have B4 : Hid (Below w.heap.size w w4) := B3'.out.trans (hL.below.mono B3'.out.size)
  clear hL cQ O3 X3
  have cT := drawReadBlock w4 ao len cap cs hl2 (HC.out.on B4.out)
  go_wp2_with fail
  refine cT.mono ?_
  rintro e w5 ⟨⟨t, rfl, htz⟩, hb⟩
  have B5 : Hid (Below w.heap.size w w5) := B4.out.trans (hb.mono B4.out.size)
  clear hb cT
  go_wp2_with fail
  refine (cR t (by omega) w5 B5.out).mono ?_
  rintro e w6 ⟨⟨uy, y, fine, hA, rfl, hO⟩, hb⟩
  have Y6 : Hid (Owns w6 w5.heap.size 40 2 uy (ptR y)) := hO
  have B6 : Hid (Below w.heap.size w w6) := B5.out.trans (hb.mono B5.out.size)
  have HY : Hid (RbAns t y fine) := hA
  clear hA hO hb
  cases fine with
  | false =>
    have hcode := atV_lt HC.out 0
    have hcode1 := atV_lt HC.out 1
    have cA0 := fun wx (hx : Below w.heap.size w wx) => at_any wx ao len cap cs 0 hl2 (by omega) (HC.out.on hx)
    have cA1 := fun wx (hx : Below w.heap.size w wx) => at_any wx ao len cap cs 1 hl2 (by omega) (HC.out.on hx)
    have BE : Hid (Below w.heap.size w (w6.alloc (.cells #[] 40))) := B6.out.alloc B6.out.size _
    have OE : Hid (Owns (w6.alloc (.cells #[] 40)) w6.heap.size 40 2 (.slice (some ⟨w6.heap.size, 0, none⟩) 0 0) []) := Owns.empty w6 _ _ _ (Nat.le_refl _)
    have WE : Hid (Below w6.heap.size w6 (w6.alloc (.cells #[] 40))) := (Below.refl _ _).alloc (Nat.le_refl _) _
    generalize atV len cs 0 = b0 at *
    generalize atV len cs 1 = b1 at *
    obtain ⟨st, hst⟩ : ∃ st : Int, st = 1 + (b0 : Int) := ⟨_, rfl⟩
    have HST : Hid (1 ≤ st ∧ st ≤ 256) := by unfold Hid; omega
    obtain ⟨N, hN⟩ : ∃ N : Nat, N = 2 + b1 % 50 := ⟨_, rfl⟩
    have HNN : Hid (2 ≤ N ∧ N ≤ 51) := by unfold Hid; omega
    have hN2 : (2 : Int) + (b1 : Int) % 50 = (N : Int) := by omega
    have qb1 : (b1 : Int) ≤ 255 := by omega
    have qb0 : (b0 : Int) ≤ 255 := by omega
    go_wp2_with fail
    generalize w6.alloc (.cells #[] 40) = wE at *
    refine (cA0 wE BE.out).mono ?_
    rintro e w' ⟨rfl, rfl⟩
    go_wp2_with fail
    rw [← hst]
    clear hst qb0 hcode hcode1 hN
    go_loopw [10, 12] (fun v10 v12 wr => ∃ k : Nat, k ≤ N ∧ v12 = .int .i64 (k : Int) ∧ Owns wr w6.heap.size 40 2 v10 (ptR (evenP st k)) ∧ Below w6.heap.size w6 wr) (fun _ i _ => N - (intOf i).toNat)
    case atStart => exact ⟨0, by omega, rfl, OE.out, WE.out⟩
    case round =>
      obtain ⟨k, hk, rfl, hO, hb⟩ := hrel
      have HO : Hid (Owns wr w6.heap.size 40 2 u10 (ptR (evenP st k))) := hO
      have HB1 : Hid (Below w6.heap.size w6 wr) := hb
      have BW : Hid (Below w.heap.size w wr) := B6.out.trans (hb.mono B6.out.size)
      obtain ⟨A5, c5, rfl, _⟩ := pt_look hO.lies
      rw [evenP_length] at HO ⊢
      have q51 : (N : Int) ≤ 51 := by have := HNN.out; omega
      have cA1r := cA1 wr BW.out
      clear hO hb
      by_cases hlt : k < N
      · have q2 : (k : Int) < (N : Int) := by omega
        have q2n : (k : Int) < 2 + (b1 : Int) % 50 := by omega
        have hms := mul_step st k HST.out.1 HST.out.2 (by have := HNN.out; omega)
        have m0 : 0 ≤ (k : Int) * st := hms.1
        have m1 : (k : Int) * st ≤ 15360 := hms.2
        have Z1 : w6.heap.size ≤ wr.heap.size := HB1.out.size
        have L1 : Hid ((ptR (evenP st k)).length ≤ 2097152) := by unfold Hid; rw [ptR_length, evenP_length]; omega
        clear hms
        go_wp2_with fail
        refine cA1r.mono ?_
        rintro e w' ⟨rfl, rfl⟩
        go_wp2_with (at_builtin; refine wpList_append_row (w := wr) rfl (.tmp 76) (.tmp 84) 25 40 (.agg #[.int .i64 0, .int .i64 0]) 2 16 rfl Tryd.underlying25 Tryd.infoPt rfl (by omega) w6.heap.size (.slice A5 k c5) (ptR (evenP st k)) rfl HO.out [.int .i64 (1000 + (k : Int) * st), .int .i64 (5 + (k : Int))] rfl (pt_cells _ _) rfl L1.out (by omega) Z1 ?_; intro u' w9 hO9 hb9 _ _)
        have O9 : Hid (Owns w9 w6.heap.size 40 2 u' (ptR (evenP st (k + 1)))) := by unfold Hid; rw [evenP_snoc, ptR_snoc']; exact hO9
        have B9 : Hid (Below w6.heap.size w6 w9) := HB1.out.trans hb9
        clear hO9 hb9
        go_wp2_with fail
        go_roundw
        case rel => exact ⟨k + 1, by omega, by go_num, O9.out, B9.out⟩
        case measure => simp [intOf]; omega
      · obtain rfl : k = N := by omega
        obtain ⟨hsh, hlen, hpos⟩ := even_show st k HST.out.1 HST.out.2 (by have := HNN.out; omega) (by have := HNN.out; omega)
        have cS3 := implShowBlock (evenP st k) (.slice A5 k c5) wr wr.heap.size HO.out.lies (by rw [evenP_length]; have := HNN.out; omega) (Nat.le_refl _) (ST.out.on BW.out)
        rw [hsh] at cS3
        have hsz : (frameOf (txt (bodyB (evenP st k)))).size = 8 + (bodyB (evenP st k)).length := by rw [frameOf_size, txt_size]
        have HCUT : Hid (∀ m, ¬ Good ((frameOf (txt (bodyB (evenP st k)))).extract 0 ((frameOf (txt (bodyB (evenP st k)))).size - 1)) m) := even_cut _ (by have := HNN.out; omega) _ (by omega)
        generalize frameOf (txt (bodyB (evenP st k))) = ee at *
        generalize (bodyB (evenP st k)).length = bl at *
        have z1 : (ee.size : Int) ≤ 20 + 3 * (k : Int) := by omega
        have z2 : (9 : Int) ≤ (ee.size : Int) := by omega
        have z3 : (ee.size : Int) ≤ 1000 := by have := HNN.out; omega
        have z4 : ((ee.size : Int) - 1).toNat = ee.size - 1 := by omega
        have z5 : ¬ ee.toList = [] := fun h0 => by
          have := congrArg List.length h0
          rw [Lib.toList_data] at this
          have h2 : ee.data.size = 0 := by rw [← Array.length_toList]; exact this
          have h3 : ee.size = 0 := h2
          omega
        have z6 : (ee.toList == ([] : List UInt8)) = false := by rw [beq_eq_false_iff_ne]; exact z5
        have z7 : (ee.toList == (ByteArray.mk #[]).toList) = false := by rw [beq_eq_false_iff_ne, Lib.toList_data (ByteArray.mk #[])]; exact z5
        have z8 : ee.toList.isEmpty = false := by cases hh : ee.toList with | nil => exact absurd hh z5 | cons _ _ => rfl
        have cR4 := cR (ee.extract 0 (ee.size - 1)) (by rw [ByteArray.size_extract]; omega)
        have dlt : decide ((k : Int) < (k : Int)) = false := decide_eq_false (by omega)
        have dlt2 : decide ((k : Int) < 2 + (b1 : Int) % 50) = false := decide_eq_false (by omega)
        clear hsh hlen hpos hsz
        go_wp2_with fail
        refine cA1r.mono ?_
        rintro e w' ⟨rfl, rfl⟩
        go_wp2_with fail
        refine cS3.mono ?_
        rintro e w10 ⟨rfl, hb⟩
        have B10 : Hid (Below w.heap.size w w10) := BW.out.trans (hb.mono BW.out.size)
        clear hb cS3
        go_wp2_with fail
        refine (cR4 w10 B10.out).mono ?_
        rintro e w11 ⟨⟨up, p, part, hA, rfl, _⟩, hb⟩
        have B11 : Hid (Below w.heap.size w w11) := B10.out.trans (hb.mono B10.out.size)
        obtain rfl : part = false := by
          rcases hA with ⟨_, h2⟩ | ⟨h1, _⟩
          · exact absurd h2 (HCUT.out p)
          · exact h1
        clear hA hb
        go_wp2_with fail
        go_ret
        exact ⟨rfl, B11.out⟩
  | true =>
    have HG : Hid (Good t y) := by
      rcases HY.out with ⟨_, h2⟩ | ⟨h1, _⟩
      · exact h2
      · cases h1
    have LY : Hid (y.length ≤ 1048576) := by unfold Hid; have := HG.out.2.1.1; omega
    have cS2 := implShowBlock y uy w6 w6.heap.size Y6.out.lies LY.out (Nat.le_refl _) (ST.out.on B6.out)
    rw [HG.out.2.2] at cS2
    go_wp2_with fail
    refine cS2.mono ?_
    rintro e w7 ⟨rfl, hb⟩
    have Y7 : Hid (Owns w7 w5.heap.size 40 2 uy (ptR y)) := Y6.out.on hb
    have B7 : Hid (Below w.heap.size w w7) := B6.out.trans (hb.mono B6.out.size)
    clear hb cS2 Y6
    have cP2 := implPointsOk y uy w7 w7.heap.size Y7.out.lies LY.out (Nat.le_refl _)
    rw [decide_eq_true HG.out.2.1] at cP2
    go_wp2_with fail
    refine cP2.mono ?_
    rintro e w8 ⟨rfl, hb⟩
    have B8 : Hid (Below w.heap.size w w8) := B7.out.trans (hb.mono B7.out.size)
    clear hb cP2
    have hcode := atV_lt HC.out 0
    have hcode1 := atV_lt HC.out 1
    have cA0 := fun wx (hx : Below w.heap.size w wx) => at_any wx ao len cap cs 0 hl2 (by omega) (HC.out.on hx)
    have cA1 := fun wx (hx : Below w.heap.size w wx) => at_any wx ao len cap cs 1 hl2 (by omega) (HC.out.on hx)
    have BE : Hid (Below w.heap.size w (w8.alloc (.cells #[] 40))) := B8.out.alloc B8.out.size _
    have OE : Hid (Owns (w8.alloc (.cells #[] 40)) w8.heap.size 40 2 (.slice (some ⟨w8.heap.size, 0, none⟩) 0 0) []) := Owns.empty w8 _ _ _ (Nat.le_refl _)
    have WE : Hid (Below w8.heap.size w8 (w8.alloc (.cells #[] 40))) := (Below.refl _ _).alloc (Nat.le_refl _) _
    generalize atV len cs 0 = b0 at *
    generalize atV len cs 1 = b1 at *
    obtain ⟨st, hst⟩ : ∃ st : Int, st = 1 + (b0 : Int) := ⟨_, rfl⟩
    have HST : Hid (1 ≤ st ∧ st ≤ 256) := by unfold Hid; omega
    obtain ⟨N, hN⟩ : ∃ N : Nat, N = 2 + b1 % 50 := ⟨_, rfl⟩
    have HNN : Hid (2 ≤ N ∧ N ≤ 51) := by unfold Hid; omega
    have hN2 : (2 : Int) + (b1 : Int) % 50 = (N : Int) := by omega
    have qb1 : (b1 : Int) ≤ 255 := by omega
    have qb0 : (b0 : Int) ≤ 255 := by omega
    go_wp2_with fail
    generalize w8.alloc (.cells #[] 40) = wE at *
    refine (cA0 wE BE.out).mono ?_
    rintro e w' ⟨rfl, rfl⟩
    go_wp2_with fail
    rw [← hst]
    clear hst qb0 hcode hcode1 hN
    go_loopw [10, 12] (fun v10 v12 wr => ∃ k : Nat, k ≤ N ∧ v12 = .int .i64 (k : Int) ∧ Owns wr w8.heap.size 40 2 v10 (ptR (evenP st k)) ∧ Below w8.heap.size w8 wr) (fun _ i _ => N - (intOf i).toNat)
    case atStart => exact ⟨0, by omega, rfl, OE.out, WE.out⟩
    case round =>
      obtain ⟨k, hk, rfl, hO, hb⟩ := hrel
      have HO : Hid (Owns wr w8.heap.size 40 2 u10 (ptR (evenP st k))) := hO
      have HB1 : Hid (Below w8.heap.size w8 wr) := hb
      have BW : Hid (Below w.heap.size w wr) := B8.out.trans (hb.mono B8.out.size)
      obtain ⟨A5, c5, rfl, _⟩ := pt_look hO.lies
      rw [evenP_length] at HO ⊢
      have q51 : (N : Int) ≤ 51 := by have := HNN.out; omega
      have cA1r := cA1 wr BW.out
      clear hO hb
      by_cases hlt : k < N
      · have q2 : (k : Int) < (N : Int) := by omega
        have q2n : (k : Int) < 2 + (b1 : Int) % 50 := by omega
        have hms := mul_step st k HST.out.1 HST.out.2 (by have := HNN.out; omega)
        have m0 : 0 ≤ (k : Int) * st := hms.1
        have m1 : (k : Int) * st ≤ 15360 := hms.2
        have Z1 : w8.heap.size ≤ wr.heap.size := HB1.out.size
        have L1 : Hid ((ptR (evenP st k)).length ≤ 2097152) := by unfold Hid; rw [ptR_length, evenP_length]; omega
        clear hms
        go_wp2_with fail
        refine cA1r.mono ?_
        rintro e w' ⟨rfl, rfl⟩
        go_wp2_with (at_builtin; refine wpList_append_row (w := wr) rfl (.tmp 76) (.tmp 84) 25 40 (.agg #[.int .i64 0, .int .i64 0]) 2 16 rfl Tryd.underlying25 Tryd.infoPt rfl (by omega) w8.heap.size (.slice A5 k c5) (ptR (evenP st k)) rfl HO.out [.int .i64 (1000 + (k : Int) * st), .int .i64 (5 + (k : Int))] rfl (pt_cells _ _) rfl L1.out (by omega) Z1 ?_; intro u' w9 hO9 hb9 _ _)
        have O9 : Hid (Owns w9 w8.heap.size 40 2 u' (ptR (evenP st (k + 1)))) := by unfold Hid; rw [evenP_snoc, ptR_snoc']; exact hO9
        have B9 : Hid (Below w8.heap.size w8 w9) := HB1.out.trans hb9
        clear hO9 hb9
        go_wp2_with fail
        go_roundw
        case rel => exact ⟨k + 1, by omega, by go_num, O9.out, B9.out⟩
        case measure => simp [intOf]; omega
      · obtain rfl : k = N := by omega
        obtain ⟨hsh, hlen, hpos⟩ := even_show st k HST.out.1 HST.out.2 (by have := HNN.out; omega) (by have := HNN.out; omega)
        have cS3 := implShowBlock (evenP st k) (.slice A5 k c5) wr wr.heap.size HO.out.lies (by rw [evenP_length]; have := HNN.out; omega) (Nat.le_refl _) (ST.out.on BW.out)
        rw [hsh] at cS3
        have hsz : (frameOf (txt (bodyB (evenP st k)))).size = 8 + (bodyB (evenP st k)).length := by rw [frameOf_size, txt_size]
        have HCUT : Hid (∀ m, ¬ Good ((frameOf (txt (bodyB (evenP st k)))).extract 0 ((frameOf (txt (bodyB (evenP st k)))).size - 1)) m) := even_cut _ (by have := HNN.out; omega) _ (by omega)
        generalize frameOf (txt (bodyB (evenP st k))) = ee at *
        generalize (bodyB (evenP st k)).length = bl at *
        have z1 : (ee.size : Int) ≤ 20 + 3 * (k : Int) := by omega
        have z2 : (9 : Int) ≤ (ee.size : Int) := by omega
        have z3 : (ee.size : Int) ≤ 1000 := by have := HNN.out; omega
        have z4 : ((ee.size : Int) - 1).toNat = ee.size - 1 := by omega
        have z5 : ¬ ee.toList = [] := fun h0 => by
          have := congrArg List.length h0
          rw [Lib.toList_data] at this
          have h2 : ee.data.size = 0 := by rw [← Array.length_toList]; exact this
          have h3 : ee.size = 0 := h2
          omega
        have z6 : (ee.toList == ([] : List UInt8)) = false := by rw [beq_eq_false_iff_ne]; exact z5
        have z7 : (ee.toList == (ByteArray.mk #[]).toList) = false := by rw [beq_eq_false_iff_ne, Lib.toList_data (ByteArray.mk #[])]; exact z5
        have z8 : ee.toList.isEmpty = false := by cases hh : ee.toList with | nil => exact absurd hh z5 | cons _ _ => rfl
        have cR4 := cR (ee.extract 0 (ee.size - 1)) (by rw [ByteArray.size_extract]; omega)
        have dlt : decide ((k : Int) < (k : Int)) = false := decide_eq_false (by omega)
        have dlt2 : decide ((k : Int) < 2 + (b1 : Int) % 50) = false := decide_eq_false (by omega)
        clear hsh hlen hpos hsz
        go_wp2_with fail
        refine cA1r.mono ?_
        rintro e w' ⟨rfl, rfl⟩
        go_wp2_with fail
        refine cS3.mono ?_
        rintro e w10 ⟨rfl, hb⟩
        have B10 : Hid (Below w.heap.size w w10) := BW.out.trans (hb.mono BW.out.size)
        clear hb cS3
        go_wp2_with fail
        refine (cR4 w10 B10.out).mono ?_
        rintro e w11 ⟨⟨up, p, part, hA, rfl, _⟩, hb⟩
        have B11 : Hid (Below w.heap.size w w11) := B10.out.trans (hb.mono B10.out.size)
        obtain rfl : part = false := by
          rcases hA with ⟨_, h2⟩ | ⟨h1, _⟩
          · exact absurd h2 (HCUT.out p)
          · exact h1
        clear hA hb
        go_wp2_with fail
        go_ret
        exact ⟨rfl, B11.out⟩
end Go.Proofs.YtlknemfnacnleaaDoor
