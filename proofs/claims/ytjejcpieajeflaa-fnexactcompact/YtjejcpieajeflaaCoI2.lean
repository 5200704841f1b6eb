/-
  Contracts of (impl.Core).yesOk and (impl.Core).reachOk.
-/
import Derived.Test.YtjejcpieajeflaaRows
import Derived.Test.YtjejcpieajeflaaCoI1
import Derived.Deep.Cut
import Derived.Handy
namespace Go.Proofs.Ytjejcpieajeflaa
open Go.ChangeShapes Go.WideShapes Go.ChangeAt Go.RowKit Go.PlainAid
set_option linter.unusedVariables false

set_option maxHeartbeats 4000000 in
theorem yesI (ci cp ct cv cr cd cb cbt : Int) (lg : List Ent) (cc : Int) (ys ns ms : List Int) (A0 : Option Addr) (n0 c0 : Nat) (u1 u2 u3 : Value) (w : World) (B : Nat) (hv : NumsV w B u1 ys) (hn : ys.length ≤ 1048576) (hp0 : 1 ≤ cp) (hp1 : cp ≤ 5) (hB : B ≤ w.heap.size) : Calls Try.prog 80 #[.agg #[.int .i64 ci, .int .i64 cp, .int .i64 ct, .int .i64 cv, .int .i64 cr, .int .i64 cd, .int .i64 cb, .int .i64 cbt, .slice A0 n0 c0, .int .i64 cc, u1, u2, u3]] w fun e w' => e = .returned (.bool (seekB ⟨ci, cp, ct, cv, cr, cd, cb, cbt, lg, cc, ys, ns, ms⟩)) ∧ Below w.heap.size w w' := by
  have cH := hasI ys u1 ci
  have HV : Hid (NumsV w B u1 ys) := hv
  have HBB : Hid (B ≤ w.heap.size) := hB
  obtain ⟨A1, c1, rfl, _, _, hc⟩ := hv
  have HC : Hid (∀ j, j < ys.length → ∃ g off, A1 = some ⟨g, off, none⟩ ∧ g < B ∧ w.cell? ⟨g, off + j, none⟩ = some (.int .i64 (ys.getD j 0))) := hc
  have cM := majI ci cp ct cv cr cd cb cbt cc (ys.length : Int) (.slice A0 n0 c0) (.slice A1 ys.length c1) u2 u3
  have HNo : Hid (∀ j, j < ys.length → ¬ ((if j = 0 then 0 else ys.getD (j - 1) 0 + 1) ≤ ys.getD j 0 ∧ ys.getD j 0 ≤ cp - 1) → (∀ k, k < j → 0 ≤ ys.getD k 0) → seekB ⟨ci, cp, ct, cv, cr, cd, cb, cbt, lg, cc, ys, ns, ms⟩ = false) := fun j hj hno hk => by
    refine seekB_no fun h => hno ⟨?_, (h.1 j hj).2⟩
    split
    · exact (h.1 j hj).1
    · have := h.2.1 (j - 1) (by show j - 1 + 1 < ys.length; omega)
      rw [show j - 1 + 1 = j by omega] at this
      exact this
  have HAl : Hid ((∀ j, j < ys.length → (if j = 0 then 0 else ys.getD (j - 1) 0 + 1) ≤ ys.getD j 0 ∧ ys.getD j 0 ≤ cp - 1) → (seekB ⟨ci, cp, ct, cv, cr, cd, cb, cbt, lg, cc, ys, ns, ms⟩ = (decide (ci ∈ ys) && !decide (cp < 2 * (ys.length : Int))))) := fun h => by
    have h0 : ∀ j, j < ys.length → 0 ≤ ys.getD j 0 := by
      intro j
      induction j with
      | zero => intro hj; have := (h 0 hj).1; simpa using this
      | succ j ih =>
        intro hj
        have h1 := (h (j + 1) hj).1
        have h2 := ih (by omega)
        rw [if_neg (by omega), show j + 1 - 1 = j by omega] at h1
        omega
    by_cases hm : ci ∈ ys
    · by_cases hg : cp < 2 * (ys.length : Int)
      · rw [decide_eq_true hm, decide_eq_true hg]
        exact seekB_no fun q => by have := q.2.2.2; simp only at this; omega
      · rw [decide_eq_true hm, decide_eq_false hg]
        refine seekB_yes (fun j hj => ⟨h0 j hj, (h j hj).2⟩) (fun j hj => ?_) hm (by simp only; omega)
        have := (h (j + 1) hj).1
        rw [if_neg (by omega), show j + 1 - 1 = j by omega] at this
        simp only
        omega
    · rw [decide_eq_false hm]
      exact seekB_no fun q => hm q.2.2.1
  have q1 : (ys.length : Int) ≤ 1048576 := by omega
  have HN1 : Hid (ys.length ≤ 1048576) := hn
  clear hc hB hn
  obtain ⟨X0, hX0⟩ : ∃ X0, X0 = w.alloc (.cells #[.int .i64 ci, .int .i64 cp, .int .i64 ct, .int .i64 cv, .int .i64 cr, .int .i64 cd, .int .i64 cb, .int .i64 cbt, .slice A0 n0 c0, .int .i64 cc, .slice A1 ys.length c1, u2, u3] 30) := ⟨_, rfl⟩
  have B0 : Hid (Below w.heap.size w X0) := by unfold Hid; rw [hX0]; exact (Below.refl _ _).alloc (Nat.le_refl _) _
  have K0 : Hid (Blk X0 w.heap.size #[.int .i64 ci, .int .i64 cp, .int .i64 ct, .int .i64 cv, .int .i64 cr, .int .i64 cd, .int .i64 cb, .int .i64 cbt, .slice A0 n0 c0, .int .i64 cc, .slice A1 ys.length c1, u2, u3] 30) := by unfold Hid; rw [hX0]; exact Blk.new w _ _
  have w1 : IntKind.i64.wrap (cp - 1) = cp - 1 := by rw [IntKind.wrap_i64]; omega
  generalize hN : ys.length = n at *
  clear hN
  go_enter Try.func80, Try.ntmps80
  go_wp2_with fail
  rw [← hX0]
  clear hX0
  go_loopw [3, 9] (fun v3 v9 wr => ∃ k : Nat, k ≤ n ∧ v9 = .int .i64 (k : Int) ∧ v3 = .int .i64 (if k = 0 then 0 else ys.getD (k - 1) 0 + 1) ∧ X0 = wr ∧ Hid (∀ j, j < k → (if j = 0 then 0 else ys.getD (j - 1) 0 + 1) ≤ ys.getD j 0 ∧ ys.getD j 0 ≤ cp - 1) ∧ Hid (∀ j, j < k → 0 ≤ ys.getD j 0)) (fun _ v _ => n - (intOf v).toNat)
  case atStart => exact ⟨0, by omega, rfl, rfl, rfl, fun j hj => by omega, fun j hj => by omega⟩
  case round =>
    obtain ⟨k, hk, rfl, rfl, rfl, HR, HR0⟩ := hrel
    have k1 := K0.out.cell 1 _ rfl
    by_cases hlt : k < n
    · have q2 : (k : Int) < (n : Int) := by omega
      obtain ⟨g, off, rfl, hg, d0⟩ := HC.out k hlt
      rw [← B0.out.cell (p := ⟨_, _, none⟩) (Nat.lt_of_lt_of_le hg HBB.out)] at d0
      have HNk := Hid.mk (HNo.out k hlt)
      have HSt : Hid ((if k + 1 = 0 then 0 else ys.getD (k + 1 - 1) 0 + 1) = ys.getD k 0 + 1) := by unfold Hid; rw [if_neg (by omega), show k + 1 - 1 = k by omega]
      have HLe : Hid (0 ≤ (if k = 0 then 0 else ys.getD (k - 1) 0 + 1)) := by
        unfold Hid
        split
        · omega
        · have := HR0.out (k - 1) (by omega)
          omega
      generalize hle : (if k = 0 then 0 else ys.getD (k - 1) 0 + 1) = le at *
      have HLE : Hid ((if k = 0 then 0 else ys.getD (k - 1) 0 + 1) = le) := hle
      have HYk : Hid (∀ y, ys.getD k 0 = y → le ≤ y ∧ y ≤ cp - 1 → ∀ j, j < k + 1 → (if j = 0 then 0 else ys.getD (j - 1) 0 + 1) ≤ ys.getD j 0 ∧ ys.getD j 0 ≤ cp - 1) := fun y hy h j hj => by
        by_cases e : j = k
        · subst e; rw [HLE.out, hy]; exact h
        · exact HR.out j (by omega)
      have HZk : Hid (∀ y, ys.getD k 0 = y → 0 ≤ y → ∀ j, j < k + 1 → 0 ≤ ys.getD j 0) := fun y hy h j hj => by
        by_cases e : j = k
        · subst e; rw [hy]; exact h
        · exact HR0.out j (by omega)
      generalize hy : ys.getD k 0 = y at *
      have HY : Hid (ys.getD k 0 = y) := hy
      clear hy hle
      have a1 := inW y le (cp - 1)
      cases h1 : inIt y le (cp - 1) <;> rw [h1] at a1
      · have HF : Hid (seekB ⟨ci, cp, ct, cv, cr, cd, cb, cbt, lg, cc, ys, ns, ms⟩ = false) := HNk.out (fun h => by unfold inIt at h1; simp [h.1, h.2] at h1) HR0.out
        clear h1
        go_wp2_with fail
        refine (a1 _).mono ?_
        rintro e w' ⟨rfl, rfl⟩
        go_wp2_with fail
        go_ret
        exact ⟨by rw [HF.out]; rfl, B0.out⟩
      · obtain ⟨b1, b2⟩ := inIt_in _ _ _ h1
        have HB1 : Hid (le ≤ y ∧ y ≤ cp - 1) := ⟨b1, b2⟩
        have w2 : IntKind.i64.wrap (y + 1) = y + 1 := by have := HLe.out; rw [IntKind.wrap_i64]; omega
        have HY0 : Hid (0 ≤ y) := Int.le_trans HLe.out b1
        clear h1 b1 b2
        go_wp2_with fail
        refine (a1 _).mono ?_
        rintro e w' ⟨rfl, rfl⟩
        go_wp2_with fail
        go_roundw
        case rel => exact ⟨k + 1, by omega, by go_num, by rw [HSt.out], by trivial, HYk.out y rfl HB1.out, HZk.out y rfl HY0.out⟩
        case measure => simp [intOf]; omega
    · obtain rfl : k = n := by omega
      have HE := Hid.mk (HAl.out HR.out)
      generalize (if k = 0 then 0 else ys.getD (k - 1) 0 + 1) = le at *
      have k0 := K0.out.cell 0 _ rfl
      have k10 := K0.out.cell 10 _ rfl
      have cH1 := cH X0 B (HV.out.on (B0.out.mono HBB.out)) HN1.out
      have cM1 := cM X0 (by omega) (by omega)
      clear cH cM
      cases hm : decide (ci ∈ ys) <;> rw [hm] at cH1 HE
      · go_wp2_with fail
        refine cH1.mono ?_
        rintro e w' ⟨rfl, rfl⟩
        go_wp2_with fail
        go_ret
        exact ⟨by rw [HE.out]; rfl, B0.out⟩
      · cases hg : decide (cp < 2 * (k : Int)) <;> rw [hg] at cM1 HE
        all_goals
          have kk := cellsC13 K0.out
          clear hm hg
          go_wp2_with fail
          refine cH1.mono ?_
          rintro e w' ⟨rfl, rfl⟩
          go_wp2_with fail
          refine cM1.mono ?_
          rintro e w' ⟨rfl, hb⟩
          have B1 := Hid.mk (B0.out.trans (hb.mono B0.out.size))
          clear hb
          go_wp2_with fail
          go_ret
          exact ⟨by rw [HE.out]; rfl, B1.out⟩
end Go.Proofs.Ytjejcpieajeflaa
