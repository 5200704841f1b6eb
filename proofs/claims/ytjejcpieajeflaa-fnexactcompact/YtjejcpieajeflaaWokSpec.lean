/-
  The contract of spec.WalOk: is the log right?
-/
import Derived.Test.YtjejcpieajeflaaRows
import Derived.Test.YtjejcpieajeflaaRcSpec
import Derived.Test.YtjejcpieajeflaaWkBlk
namespace Go.Proofs.Ytjejcpieajeflaa
open Go.ChangeShapes Go.WideShapes Go.ChangeAt Go.RowKit Go.PlainAid
set_option linter.unusedVariables false

theorem based_in (i t : Int) (h : based i t = true) : (0 ≤ i ∧ i ≤ 100000) ∧ 0 ≤ t ∧ t ≤ 100000 := by
  unfold based inIt at h
  split at h
  · have := of_decide_eq_true h
    omega
  · simp at h
    omega
theorem inIt_in (x lo hi : Int) (h : inIt x lo hi = true) : lo ≤ x ∧ x ≤ hi := by
  unfold inIt at h
  simpa using h
/-- The term behind which the next one stands. -/
def lastAt (bt : Int) (l : List Ent) (k : Nat) : Int := if k = 0 then bt else (l.getD (k - 1) default).term
theorem ents_step (top last : Int) (l : List Ent) (k : Nat) (h : k < l.length) :
    entsOk top last (l.drop k) = (decide (1 ≤ (l.getD k default).term) && decide (last ≤ (l.getD k default).term) && decide ((l.getD k default).term ≤ top) && decide ((l.getD k default).data.size ≤ 900) && entsOk top (l.getD k default).term (l.drop (k + 1))) := by
  rw [List.drop_eq_getElem_cons h, ← getD_at l k h]
  rfl
theorem lastAt_succ (bt : Int) (l : List Ent) (k : Nat) : lastAt bt l (k + 1) = (l.getD k default).term := rfl

set_option maxHeartbeats 2000000 in
theorem specWalOk (x : Wl) (v : Value) (w : World) (B : Nat) (hv : WalV w B v x) (hf : FitsW x) (hB : B ≤ w.heap.size) : Calls Try.prog 40 #[v] w fun e w' => e = .returned (.bool (walOk x)) ∧ Below w.heap.size w w' := by
  obtain ⟨u, rfl, hl⟩ := hv
  obtain ⟨A, cap, rfl, hlk⟩ := ent_look hl
  have HL : Hid (∀ j, j < x.ents.length → ∃ g off, A = some ⟨g, off, none⟩ ∧ g < B ∧ _) := hlk
  have HB : Hid (B ≤ w.heap.size) := hB
  have hn0 := hf.n
  have HF : Hid (∀ e ∈ x.ents, e.data.size ≤ maxLen) := hf.d
  unfold maxLen at hn0
  have q1 : (x.ents.length : Int) ≤ 9223372036854775807 := by omega
  have HE : Hid (walOk x = (inIt x.term 0 100000 && inIt x.vote (-1) 4 && based x.base x.bterm && decide (x.bterm ≤ x.term) && decide (x.ents.length ≤ 60) && decide (x.base + x.ents.length ≤ 100000) && entsOk x.term x.bterm x.ents)) := rfl
  clear hl hlk hB hf hn0
  generalize hN : x.ents.length = n at *
  have B0 : Hid (Below w.heap.size w (w.alloc (.cells #[.int .i64 x.term, .int .i64 x.vote, .int .i64 x.base, .int .i64 x.bterm, .slice A n cap] 35))) := (Below.refl _ _).alloc (Nat.le_refl _) _
  have K0 : Hid (Blk (w.alloc (.cells #[.int .i64 x.term, .int .i64 x.vote, .int .i64 x.base, .int .i64 x.bterm, .slice A n cap] 35)) w.heap.size #[.int .i64 x.term, .int .i64 x.vote, .int .i64 x.base, .int .i64 x.bterm, .slice A n cap] 35) := Blk.new _ _ _
  have a1 := inB x.term 0 100000
  have a2 := inB x.vote (-1) 4
  have a3 := basedV x.base x.bterm
  cases h1 : inIt x.term 0 100000 <;> rw [h1] at a1 HE
  · clear h1
    go_enter Try.func40, Try.ntmps40
    go_wp2_with fail
    refine (a1 _).mono ?_
    rintro e w' ⟨rfl, rfl⟩
    go_wp2_with fail
    go_ret
    exact ⟨by rw [HE.out]; rfl, B0.out⟩
  cases h2 : inIt x.vote (-1) 4 <;> rw [h2] at a2 HE
  · clear h1 h2
    go_enter Try.func40, Try.ntmps40
    go_wp2_with fail
    refine (a1 _).mono ?_
    rintro e w' ⟨rfl, rfl⟩
    go_wp2_with fail
    refine (a2 _).mono ?_
    rintro e w' ⟨rfl, rfl⟩
    go_wp2_with fail
    go_ret
    exact ⟨by rw [HE.out]; rfl, B0.out⟩
  cases h3 : based x.base x.bterm <;> rw [h3] at a3 HE
  · clear h1 h2 h3
    go_enter Try.func40, Try.ntmps40
    go_wp2_with fail
    refine (a1 _).mono ?_
    rintro e w' ⟨rfl, rfl⟩
    go_wp2_with fail
    refine (a2 _).mono ?_
    rintro e w' ⟨rfl, rfl⟩
    go_wp2_with fail
    refine (a3 _).mono ?_
    rintro e w' ⟨rfl, rfl⟩
    go_wp2_with fail
    go_ret
    exact ⟨by rw [HE.out]; rfl, B0.out⟩
  obtain ⟨b1, b2⟩ := based_in _ _ h3
  obtain ⟨p1, p2⟩ := inIt_in _ _ _ h1
  clear h1 h2 h3
  by_cases h4 : x.bterm ≤ x.term
  rotate_left
  · rw [decide_eq_false h4] at HE
    have h4' : x.term < x.bterm := by omega
    clear h4
    go_enter Try.func40, Try.ntmps40
    go_wp2_with fail
    refine (a1 _).mono ?_
    rintro e w' ⟨rfl, rfl⟩
    go_wp2_with fail
    refine (a2 _).mono ?_
    rintro e w' ⟨rfl, rfl⟩
    go_wp2_with fail
    refine (a3 _).mono ?_
    rintro e w' ⟨rfl, rfl⟩
    go_wp2_with fail
    go_ret
    exact ⟨by rw [HE.out]; rfl, B0.out⟩
  rw [decide_eq_true h4] at HE
  by_cases h5 : n ≤ 60
  rotate_left
  · rw [decide_eq_false h5] at HE
    have h5' : (60 : Int) < (n : Int) := by omega
    go_enter Try.func40, Try.ntmps40
    go_wp2_with fail
    refine (a1 _).mono ?_
    rintro e w' ⟨rfl, rfl⟩
    go_wp2_with fail
    refine (a2 _).mono ?_
    rintro e w' ⟨rfl, rfl⟩
    go_wp2_with fail
    refine (a3 _).mono ?_
    rintro e w' ⟨rfl, rfl⟩
    go_wp2_with fail
    go_ret
    exact ⟨by rw [HE.out]; rfl, B0.out⟩
  rw [decide_eq_true h5] at HE
  have h5' : (n : Int) ≤ 60 := by omega
  have hw1 : IntKind.i64.wrap (x.base + (n : Int)) = x.base + (n : Int) := by rw [IntKind.wrap_i64]; omega
  by_cases h6 : x.base + (n : Int) ≤ 100000
  rotate_left
  · rw [decide_eq_false h6] at HE
    have h6' : (100000 : Int) < x.base + (n : Int) := by omega
    go_enter Try.func40, Try.ntmps40
    go_wp2_with fail
    refine (a1 _).mono ?_
    rintro e w' ⟨rfl, rfl⟩
    go_wp2_with fail
    refine (a2 _).mono ?_
    rintro e w' ⟨rfl, rfl⟩
    go_wp2_with fail
    refine (a3 _).mono ?_
    rintro e w' ⟨rfl, rfl⟩
    go_wp2_with fail
    go_ret
    exact ⟨by rw [HE.out]; rfl, B0.out⟩
  rw [decide_eq_true h6] at HE
  have HE : Hid (walOk x = entsOk x.term x.bterm x.ents) := by unfold Hid; rw [HE.out]; simp
  go_enter Try.func40, Try.ntmps40
  go_wp2_with fail
  refine (a1 _).mono ?_
  rintro e w' ⟨rfl, rfl⟩
  go_wp2_with fail
  refine (a2 _).mono ?_
  rintro e w' ⟨rfl, rfl⟩
  go_wp2_with fail
  refine (a3 _).mono ?_
  rintro e w' ⟨rfl, rfl⟩
  go_wp2_with fail
  generalize w.alloc (.cells #[.int .i64 x.term, .int .i64 x.vote, .int .i64 x.base, .int .i64 x.bterm, .slice A n cap] 35) = W at *
  clear a1 a2 a3 b1 b2 hw1 h6
  go_loopw [3, 4] (fun v3 v4 wr => ∃ k : Nat, k ≤ n ∧ v4 = .int .i64 (k : Int) ∧ v3 = .int .i64 (lastAt x.bterm x.ents k) ∧ Hid (walOk x = entsOk x.term (lastAt x.bterm x.ents k) (x.ents.drop k)) ∧ Below W.heap.size W wr) (fun _ i _ => n - (intOf i).toNat)
  case atStart => exact ⟨0, by omega, rfl, rfl, HE, Below.refl _ _⟩
  case round =>
    obtain ⟨k, hk, rfl, rfl, HR, hb⟩ := hrel
    have HB1 : Hid (Below W.heap.size W wr) := hb
    have hlt0 := K0.out.lt
    have c4 := (hb.cell (p := ⟨w.heap.size, 4, none⟩) hlt0).trans (K0.out.cell 4 (.slice A n cap) rfl)
    have c0 := (hb.cell (p := ⟨w.heap.size, 0, none⟩) hlt0).trans (K0.out.cell 0 (.int .i64 x.term) rfl)
    have hsz := hb.size
    clear hb hlt0
    by_cases hlt : k < n
    · have q4 : (k : Int) < (n : Int) := by omega
      obtain ⟨g, off, rfl, hg, hc0, hc1⟩ := HL.out k (by omega)
      have hgw : g < W.heap.size := Nat.lt_of_lt_of_le hg (Nat.le_trans HB.out B0.out.size)
      have hgB : g < B := hg
      rw [← B0.out.cell (p := ⟨_, _, none⟩) (Nat.lt_of_lt_of_le hg HB.out), ← HB1.out.cell (p := ⟨_, _, none⟩) hgw] at hc0 hc1
      have HX := ents_step x.term (lastAt x.bterm x.ents k) x.ents k (by omega)
      have HX1 := lastAt_succ x.bterm x.ents k
      have hds := HF.out _ (getD_mem x.ents k (by omega))
      unfold maxLen at hds
      have hdi : ((x.ents.getD k default).data.size : Int) ≤ 9223372036854775807 := by omega
      have HXX : Hid (walOk x = (decide (1 ≤ (x.ents.getD k default).term) && decide (lastAt x.bterm x.ents k ≤ (x.ents.getD k default).term) && decide ((x.ents.getD k default).term ≤ x.term) && decide ((x.ents.getD k default).data.size ≤ 900) && entsOk x.term (x.ents.getD k default).term (x.ents.drop (k + 1)))) := HR.out.trans HX
      have HXS : Hid (lastAt x.bterm x.ents (k + 1) = (x.ents.getD k default).term) := HX1
      have HBF : Hid (Below w.heap.size w (wr.alloc (.cells #[.int .i64 (x.ents.getD k default).term, .string (x.ents.getD k default).data] 88))) := (B0.out.trans (HB1.out.mono B0.out.size)).alloc (Nat.le_trans B0.out.size HB1.out.size) _
      have HBG : Hid (Below W.heap.size W (wr.alloc (.cells #[.int .i64 (x.ents.getD k default).term, .string (x.ents.getD k default).data] 88))) := HB1.out.alloc HB1.out.size _
      clear HX HX1 HR hds
      generalize lastAt x.bterm x.ents k = la at *
      generalize x.ents.getD k default = y at *
      obtain ⟨yt, yd⟩ := y
      simp only at hc0 hc1 HXX HXS HBF HBG hdi
      have hw0 : w.heap.size < wr.heap.size := Nat.lt_of_lt_of_le K0.out.lt hsz
      have hgr : g < wr.heap.size := Nat.lt_of_lt_of_le hgw hsz
      by_cases h7 : 1 ≤ yt
      rotate_left
      · rw [decide_eq_false h7] at HXX
        have h7' : yt < 1 := by omega
        clear h7
        have HXX : Hid (walOk x = false) := by unfold Hid; rw [HXX.out]; simp
        go_wp2_with fail
        go_ret
        exact ⟨by rw [HXX.out]; rfl, HBF.out⟩
      rw [decide_eq_true h7] at HXX
      by_cases h8 : la ≤ yt
      rotate_left
      · rw [decide_eq_false h8] at HXX
        have h8' : yt < la := by omega
        clear h8
        have HXX : Hid (walOk x = false) := by unfold Hid; rw [HXX.out]; simp
        go_wp2_with fail
        go_ret
        exact ⟨by rw [HXX.out]; rfl, HBF.out⟩
      rw [decide_eq_true h8] at HXX
      by_cases h9 : yt ≤ x.term
      rotate_left
      · rw [decide_eq_false h9] at HXX
        have h9' : x.term < yt := by omega
        clear h9
        have HXX : Hid (walOk x = false) := by unfold Hid; rw [HXX.out]; simp
        go_wp2_with fail
        go_ret
        exact ⟨by rw [HXX.out]; rfl, HBF.out⟩
      rw [decide_eq_true h9] at HXX
      by_cases hz : (yd.size : Int) ≤ 900
      rotate_left
      · rw [decide_eq_false (show ¬ yd.size ≤ 900 by omega)] at HXX
        have hz' : 900 < (yd.size : Int) := by omega
        clear hz
        have HXX : Hid (walOk x = false) := by unfold Hid; rw [HXX.out]; simp
        go_wp2_with fail
        go_ret
        exact ⟨by rw [HXX.out]; rfl, HBF.out⟩
      rw [decide_eq_true (show yd.size ≤ 900 by omega)] at HXX
      have HXX : Hid (walOk x = entsOk x.term yt (x.ents.drop (k + 1))) := by unfold Hid; rw [HXX.out]; simp
      go_wp2_with fail
      go_roundw
      case rel => exact ⟨k + 1, by omega, by go_num, by rw [HXS.out], by rw [HXS.out]; exact HXX, HBG.out⟩
      case measure => simp [intOf]; omega
    · obtain rfl : k = n := by omega
      have HXX : Hid (walOk x = true) := by
        unfold Hid
        rw [HR.out, ← hN, List.drop_length]
        rfl
      clear HR
      generalize lastAt x.bterm x.ents k = la at *
      go_wp2_with fail
      go_ret
      exact ⟨by rw [HXX.out]; rfl, B0.out.trans (HB1.out.mono B0.out.size)⟩
end Go.Proofs.Ytjejcpieajeflaa
