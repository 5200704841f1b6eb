/-
  Contract of spec.PlanAdd.
-/
import Derived.Test.YtcghclaobodgjaaDoorRows
import Derived.Test.YtcghclaobodgjaaDoorPaDef
import Derived.Test.YtcghclaobodgjaaDoorChSpec
import Derived.Test.YtcghclaobodgjaaDoorShowRecD
namespace Go.Proofs.YtcghclaobodgjaaDoor
open Go.ChangeShapes Go.WideShapes Go.ChangeAt Go.RowKit Go.PlainAid
set_option linter.unusedVariables false

set_option maxRecDepth 20000 in
set_option maxHeartbeats 8000000 in
theorem specPlanAdd (a b : Wl) (v v1 : Value) (w : World) (B : Nat) (hv : WalV w B v a) (hv1 : WalV w B v1 b) (hf : FitsW a) (hf1 : FitsW b) (hB : B ≤ w.heap.size) :
    Calls Tryd.prog 5 #[v, v1] w fun e w' => ∃ l ok u, ChAns a b l ok ∧ e = .returned u ∧ Owns w' w.heap.size 46 4 u (stpR (planOf l)) ∧ Below w.heap.size w w' := by
  have HV : Hid (WalV w B v a) := hv
  have HV1 : Hid (WalV w B v1 b) := hv1
  have HB : Hid (B ≤ w.heap.size) := hB
  have cC := fun wx hx hx1 hb => specChanges a b v v1 wx B hx hx1 hf hf1 hb
  obtain ⟨u, rfl, _⟩ := hv
  obtain ⟨u1, rfl, _⟩ := hv1
  clear hf hf1 hB
  have b0 : Below w.heap.size w ((w.alloc (.cells #[.int .i64 a.term, .int .i64 a.vote, .int .i64 a.base, .int .i64 a.bterm, u] 30)).alloc (.cells #[.int .i64 b.term, .int .i64 b.vote, .int .i64 b.base, .int .i64 b.bterm, u1] 30)) := ((Below.refl _ w).alloc (Nat.le_refl _) _).alloc (by simp) _
  go_enter Tryd.func5, Tryd.ntmps5
  go_wp2_with fail
  generalize ((w.alloc (.cells #[.int .i64 a.term, .int .i64 a.vote, .int .i64 a.base, .int .i64 a.bterm, u] 30)).alloc (.cells #[.int .i64 b.term, .int .i64 b.vote, .int .i64 b.base, .int .i64 b.bterm, u1] 30)) = W at *
  refine (cC W (HV.out.on (b0.mono HB.out)) (HV1.out.on (b0.mono HB.out)) (Nat.le_trans HB.out b0.size)).mono ?_
  rintro e w1 ⟨l, ok, uR, hA, rfl, hO, hb1⟩
  have B1 : Hid (Below w.heap.size w w1) := b0.trans (hb1.mono b0.size)
  have HA : Hid (ChAns a b l ok) := hA
  have HD : Hid (∀ r ∈ l, r.data.size ≤ 900) := ch_data hA
  have HN : Hid (l.length ≤ 62) := ch_len hA
  obtain ⟨A, cap, rfl, hlk⟩ := rcd_look hO.lies
  have HL : Hid (∀ j, j < l.length → ∃ g off, A = some ⟨g, off, none⟩ ∧ g < w1.heap.size ∧ _) := hlk
  clear hb1 cC hO hlk b0 hA
  generalize hn : l.length = n at *
  have qn : (n : Int) ≤ 62 := by have := HN.out; omega
  cases ok
  · have hl0 : l.length = 0 := by rw [ch_no HA.out]; rfl
    obtain rfl : n = 0 := by omega
    go_wp2_with fail
    go_ret
    exact ⟨l, false, _, HA.out, rfl, by rw [show planOf l = [] by unfold planOf; rw [if_pos (by omega)]]; exact Owns.empty _ _ _ _ B1.out.size, B1.out.alloc B1.out.size _⟩
  by_cases h0 : n = 0
  · subst h0
    go_wp2_with fail
    go_ret
    exact ⟨l, true, _, HA.out, rfl, by rw [show planOf l = [] by unfold planOf; rw [if_pos (by omega)]]; exact Owns.empty _ _ _ _ B1.out.size, B1.out.alloc B1.out.size _⟩
  have q0 : ((n : Int) == 0) = false := by simpa using h0
  go_wp2_with fail
  go_loopw [7, 8] (fun v7 v8 wr => ∃ k : Nat, k ≤ n ∧ v8 = .int .i64 (k : Int) ∧ v7 = .string (catF (l.take k)) ∧ Below w1.heap.size w1 wr) (fun _ i _ => n - (intOf i).toNat)
  case atStart => exact ⟨0, by omega, rfl, rfl, Below.refl _ _⟩
  case round =>
    obtain ⟨k, hk, rfl, rfl, hC⟩ := hrel
    have CR : Hid (Below w1.heap.size w1 wr) := hC
    clear hC
    by_cases hlt : k < n
    · have q4 : (k : Int) < (n : Int) := by omega
      obtain ⟨g, off, rfl, hg, hc0, hc1, hc2, hc3, hc4⟩ := HL.out k (by omega)
      rw [← CR.out.cell (p := ⟨_, _, none⟩) hg] at hc0 hc1 hc2 hc3 hc4
      have hrd := HD.out (l.getD k default) (getD_mem l k (by omega))
      have HC : Hid (catF (l.take (k + 1)) = catF (l.take k) ++ frame (showR (l.getD k default))) := by
        unfold Hid
        rw [take_snoc _ _ (by omega), catF_snoc]
      have hcs := catF_size (l.take k)
      have htl : (l.take k).length ≤ 62 := by rw [List.length_take]; have := HN.out; omega
      generalize l.getD k default = r at *
      obtain ⟨rk, rt, ri, rv, rd⟩ := r
      simp only at hc0 hc1 hc2 hc3 hc4 hrd
      have hss := showR_size ⟨rk, rt, ri, rv, rd⟩ hrd
      have hfs := frame_size (showR ⟨rk, rt, ri, rv, rd⟩)
      have cSh := fun wx => specShowRec ⟨rk, rt, ri, rv, rd⟩ wx (show rd.size ≤ 1048576 by omega)
      have cFr := fun wx => spec_frame (showR ⟨rk, rt, ri, rv, rd⟩) wx (by omega)
      unfold vRcd at cSh
      simp only at cSh
      generalize showR ⟨rk, rt, ri, rv, rd⟩ = sr at *
      generalize frame sr = fr at *
      generalize hsc : catF (l.take k) = sc at *
      have g2 : ¬ 9223372036854775807 < sc.size + fr.size := by omega
      clear htl hcs hss hfs hrd
      go_wp2_with fail
      refine (cSh wr).mono ?_
      rintro e w6 ⟨rfl, hb6⟩
      have C6 : Hid (Below w1.heap.size w1 w6) := CR.out.trans (hb6.mono CR.out.size)
      clear hb6 cSh
      go_wp2_with fail
      refine (cFr w6).mono ?_
      rintro e w7 ⟨rfl, hb7⟩
      have C7 : Hid (Below w1.heap.size w1 w7) := C6.out.trans (hb7.mono C6.out.size)
      clear hb7 cFr
      go_wp2_with fail
      go_roundw
      case rel => exact ⟨k + 1, by omega, by go_num, by rw [HC.out], C7.out⟩
      case measure => simp [intOf]; omega
    · obtain rfl : k = n := by omega
      have HS : Hid (catF (l.take k) = catF l) := by unfold Hid; rw [List.take_of_length_le (by omega)]
      rw [HS.out]
      have BR : Hid (Below w.heap.size w wr) := B1.out.trans (CR.out.mono B1.out.size)
      go_wp2_with fail
      go_ret
      exact ⟨l, true, _, HA.out, rfl, (Owns.steps wr l (by omega)).mono BR.out.size, BR.out.alloc BR.out.size _⟩
end Go.Proofs.YtcghclaobodgjaaDoor
