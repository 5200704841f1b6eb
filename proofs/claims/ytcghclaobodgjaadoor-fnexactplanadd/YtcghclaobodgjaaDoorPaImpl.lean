/-
  Contract of impl.PlanAdd.
-/
import Derived.Test.YtcghclaobodgjaaDoorRows
import Derived.Test.YtcghclaobodgjaaDoorPaDef
import Derived.Test.YtcghclaobodgjaaDoorChImpl
namespace Go.Proofs.YtcghclaobodgjaaDoor
open Go.ChangeShapes Go.WideShapes Go.ChangeAt Go.RowKit Go.PlainAid
set_option linter.unusedVariables false

set_option maxRecDepth 20000 in
set_option maxHeartbeats 8000000 in
theorem implPlanAdd (a b : Wl) (v v1 : Value) (w : World) (B : Nat) (hv : WalV w B v a) (hv1 : WalV w B v1 b) (hf : FitsW a) (hf1 : FitsW b) (hB : B ≤ w.heap.size) (ht : SumTab w) :
    Calls Tryd.prog 7 #[v, v1] w fun e w' => ∃ l ok u, ChAns a b l ok ∧ e = .returned u ∧ Owns w' w.heap.size 46 4 u (stpR (planOf l)) ∧ Below w.heap.size w w' := by
  have HV : Hid (WalV w B v a) := hv
  have HV1 : Hid (WalV w B v1 b) := hv1
  have HB : Hid (B ≤ w.heap.size) := hB
  have HT : Hid (SumTab w) := ht
  clear ht
  have cC := fun wx hx hx1 hb => implChanges a b v v1 wx B hx hx1 hf hf1 hb
  obtain ⟨u, rfl, _⟩ := hv
  obtain ⟨u1, rfl, _⟩ := hv1
  clear hf hf1 hB
  have b0 : Below w.heap.size w ((w.alloc (.cells #[.int .i64 a.term, .int .i64 a.vote, .int .i64 a.base, .int .i64 a.bterm, u] 30)).alloc (.cells #[.int .i64 b.term, .int .i64 b.vote, .int .i64 b.base, .int .i64 b.bterm, u1] 30)) := ((Below.refl _ w).alloc (Nat.le_refl _) _).alloc (by simp) _
  go_enter Tryd.func7, Tryd.ntmps7
  go_wp2_with fail
  generalize ((w.alloc (.cells #[.int .i64 a.term, .int .i64 a.vote, .int .i64 a.base, .int .i64 a.bterm, u] 30)).alloc (.cells #[.int .i64 b.term, .int .i64 b.vote, .int .i64 b.base, .int .i64 b.bterm, u1] 30)) = W at *
  refine (cC W (HV.out.on (b0.mono HB.out)) (HV1.out.on (b0.mono HB.out)) (Nat.le_trans HB.out b0.size)).mono ?_
  rintro e w1 ⟨l, ok, uR, hA, rfl, hO, hb1⟩
  have B1 : Hid (Below w.heap.size w w1) := b0.trans (hb1.mono b0.size)
  have HA : Hid (ChAns a b l ok) := hA
  have HD : Hid (∀ r ∈ l, r.data.size ≤ 900) := ch_data hA
  have HN : Hid (l.length ≤ 62) := ch_len hA
  obtain ⟨A, cap, rfl, hlk⟩ := rcd_look hO.lies
  have HL : Hid (∀ j, j < l.length → ∃ g off, A = some ⟨g, off, none⟩ ∧ g < w1.heap.size ∧ _) := hlk
  clear hb1 cC hO hlk b0 hA
  generalize hn : l.length = n at *
  have qn : (n : Int) ≤ 62 := by have := HN.out; omega
  by_cases h0 : n = 0
  · subst h0
    go_wp2_with fail
    go_ret
    exact ⟨l, ok, _, HA.out, rfl, by rw [show planOf l = [] by unfold planOf; rw [if_pos (by omega)]]; exact Owns.nil _ _ _ _, B1.out⟩
  have q0 : ((n : Int) == 0) = false := by simpa using h0
  have P2 := Blk.new w1 #[.pointer none, .slice none 0 0] 51
  have b2 : Below w1.heap.size w1 (w1.alloc (.cells #[.pointer none, .slice none 0 0] 51)) := (Below.refl _ _).alloc (Nat.le_refl _) _
  have Z2 : w1.heap.size ≤ (w1.alloc (.cells #[.pointer none, .slice none 0 0] 51)).heap.size := b2.size
  go_wp2_with fail
  generalize w1.alloc (.cells #[.pointer none, .slice none 0 0] 51) = w2 at *
  have st : Below w1.heap.size w1 w2 ∧ Lib.IsBuilderF 51 5 w1.heap.size w1.heap.size (Lib.strCells (catF (l.take 0))) w2 := ⟨b2, bld_new P2⟩
  clear P2 b2 Z2
  go_loopw [21] (fun v21 wr => ∃ k : Nat, k ≤ n ∧ v21 = .int .i64 (k : Int) ∧ Below w1.heap.size w1 wr ∧ Lib.IsBuilderF 51 5 w1.heap.size w1.heap.size (Lib.strCells (catF (l.take k))) wr) (fun i _ => n - (intOf i).toNat)
  case atStart => exact ⟨0, by omega, rfl, st⟩
  case round =>
    obtain ⟨k, hk, rfl, hC, hBL⟩ := hrel
    have CR : Hid (Below w1.heap.size w1 wr) := hC
    have BL : Hid (Lib.IsBuilderF 51 5 w1.heap.size w1.heap.size (Lib.strCells (catF (l.take k))) wr) := hBL
    clear hC hBL st
    by_cases hlt : k < n
    · have q4 : (k : Int) < (n : Int) := by omega
      obtain ⟨g, off, rfl, hg, hc0, hc1, hc2, hc3, hc4⟩ := HL.out k (by omega)
      rw [← CR.out.cell (p := ⟨_, _, none⟩) hg] at hc0 hc1 hc2 hc3 hc4
      have hrd := HD.out (l.getD k default) (getD_mem l k (by omega))
      have HC : Hid (catF (l.take (k + 1)) = catF (l.take k) ++ frame (showR (l.getD k default))) := by
        unfold Hid
        rw [take_snoc _ _ (by omega), catF_snoc]
      have hcs := catF_size (l.take k)
      have htl : (l.take k).length ≤ 62 := by rw [List.length_take]; have := HN.out; omega
      generalize l.getD k default = r at *
      obtain ⟨rk, rt, ri, rv, rd⟩ := r
      simp only at hc0 hc1 hc2 hc3 hc4 hrd
      have hss := showR_size ⟨rk, rt, ri, rv, rd⟩ hrd
      have hfs := frame_size (showR ⟨rk, rt, ri, rv, rd⟩)
      have cSh := fun wx => implShowRec ⟨rk, rt, ri, rv, rd⟩ wx (show rd.size ≤ 1048576 by omega)
      have HSZ : Hid ((showR ⟨rk, rt, ri, rv, rd⟩).size ≤ 1048576) := by unfold Hid; omega
      have HLW : Hid ((Lib.strCells (catF (l.take k))).length + (frame (showR ⟨rk, rt, ri, rv, rd⟩)).size ≤ 140737488355328) := by
        unfold Hid
        rw [Lib.strCells_length]
        omega
      unfold vRcd at cSh
      simp only at cSh
      generalize showR ⟨rk, rt, ri, rv, rd⟩ = sr at *
      clear htl hcs hss hfs hrd
      have KR := Blk.new wr #[.int .i64 rk, .int .i64 rt, .int .i64 ri, .int .i64 rv, .string rd] 44
      have bR : Below wr.heap.size wr (wr.alloc (.cells #[.int .i64 rk, .int .i64 rt, .int .i64 ri, .int .i64 rv, .string rd] 44)) := (Below.refl _ _).alloc (Nat.le_refl _) _
      have r0 := KR.cell 0 (.int .i64 rk) rfl
      have r1 := KR.cell 1 (.int .i64 rt) rfl
      have r2 := KR.cell 2 (.int .i64 ri) rfl
      have r3 := KR.cell 3 (.int .i64 rv) rfl
      have r4 := KR.cell 4 (.string rd) rfl
      go_wp2_with fail
      generalize wr.alloc (.cells #[.int .i64 rk, .int .i64 rt, .int .i64 ri, .int .i64 rv, .string rd] 44) = w5 at *
      have C5 : Hid (Below w1.heap.size w1 w5) := CR.out.trans (bR.mono CR.out.size)
      have L5 : Hid (Lib.IsBuilderF 51 5 w1.heap.size w1.heap.size (Lib.strCells (catF (l.take k))) w5) := bld_on BL.out bR
      clear bR KR r0 r1 r2 r3 r4
      refine (cSh w5).mono ?_
      rintro e w6 ⟨rfl, hb6⟩
      have C6 : Hid (Below w1.heap.size w1 w6) := C5.out.trans (hb6.mono C5.out.size)
      have L6 : Hid (Lib.IsBuilderF 51 5 w1.heap.size w1.heap.size _ w6) := bld_on L5.out hb6
      clear hb6 cSh
      go_wp2_with fail
      refine (impl_frame sr w6 HSZ.out (HT.out.on (B1.out.trans (C6.out.mono B1.out.size)))).mono ?_
      rintro e w7 ⟨rfl, hb7⟩
      have C7 : Hid (Below w1.heap.size w1 w7) := C6.out.trans (hb7.mono C6.out.size)
      have L7 : Hid (Lib.IsBuilderF 51 5 w1.heap.size w1.heap.size _ w7) := bld_on L6.out hb7
      clear hb7
      go_wp2_with fail
      refine (bldWrite w1.heap.size w1.heap.size _ (frame sr) w7 L7.out HLW.out C7.out.size).mono ?_
      rintro e w8 ⟨rfl, hB8, hb8, _⟩
      have C8 : Hid (Below w1.heap.size w1 w8) := C7.out.trans hb8
      have L8 : Hid (Lib.IsBuilderF 51 5 w1.heap.size w1.heap.size (Lib.strCells (catF (l.take (k + 1)))) w8) := by
        unfold Hid
        rw [HC.out, strCells_append]
        exact .inr hB8
      clear hb8 hB8
      go_wp2_with fail
      go_roundw
      case rel => exact ⟨k + 1, by omega, by go_num, C8.out, L8.out⟩
      case measure => simp [intOf]; omega
    · obtain rfl : k = n := by omega
      have HS : Hid (catF (l.take k) = catF l) := by unfold Hid; rw [List.take_of_length_le (by omega)]
      rw [HS.out] at BL
      have cT := bldString w1.heap.size w1.heap.size (catF l).data.toList wr BL.out CR.out.size
      have BR : Hid (Below w.heap.size w wr) := B1.out.trans (CR.out.mono B1.out.size)
      go_wp2_with fail
      refine cT.mono ?_
      rintro e w9 ⟨rfl, _, hb9, _⟩
      have B9 : Hid (Below w.heap.size w w9) := BR.out.trans (hb9.mono B1.out.size)
      clear hb9
      go_wp2_with fail
      go_ret
      exact ⟨l, ok, _, HA.out, rfl, (Owns.steps w9 l (by omega)).mono B9.out.size, B9.out.alloc B9.out.size _⟩
end Go.Proofs.YtcghclaobodgjaaDoor
