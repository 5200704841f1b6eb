/-
  Contracts of impl.PointsOk.
-/
import Derived.Test.YtfkgaoegdnkfcaaRows
import Derived.Test.YtfkgaoegdnkfcaaPtLaw
import Derived.Test.YtfkgaoegdnkfcaaPtAid
import Derived.Test.YtfkgaoegdnkfcaaLikeAid
import Derived.Test.YtfkgaoegdnkfcaaNum1In
namespace Go.Proofs.Ytfkgaoegdnkfcaa
open Go.ChangeShapes Go.WideShapes Go.ChangeAt Go.RowKit Go.PlainAid
set_option linter.unusedVariables false

theorem dec_of {p : Prop} [Decidable p] (b : Bool) (h : b = true ↔ p) : decide p = b := by
  cases b
  · exact decide_eq_false fun hp => by simp [hp] at h
  · exact decide_eq_true (h.1 rfl)

set_option maxHeartbeats 1000000 in
theorem implPointsOk (l : List Pnt) (v : Value) (w : World) (B : Nat) (hv : Lies w B 2 v (ptR l)) (hn : l.length ≤ 1048576) (hB : B ≤ w.heap.size) : Calls Try.prog 31 #[v] w fun e w' => e = .returned (.bool (decide (POk l))) ∧ Below w.heap.size w w' := by
  obtain ⟨A, cap, rfl, hl⟩ := pt_look hv
  have HL : Hid (∀ j, j < l.length → ∃ g off, A = some ⟨g, off, none⟩ ∧ g < B ∧ w.cell? ⟨g, off + j * 2, none⟩ = some (.int .i64 (tAt l j)) ∧ w.cell? ⟨g, off + j * 2 + 1, none⟩ = some (.int .i64 (vAt l j))) := hl
  have HB : Hid (B ≤ w.heap.size) := hB
  have HD : Hid (∀ b, (b = true ↔ POk l) → decide (POk l) = b) := fun b hb => dec_of b hb
  have HV : Hid (POk l ↔ l.length ≤ 60 ∧ ∀ j, j < l.length → ((0 ≤ tAt l j ∧ tAt l j ≤ 1099511627776) ∧ (-1099511627776 ≤ vAt l j ∧ vAt l j ≤ 1099511627776)) ∧ (0 < j → tAt l (j - 1) < tAt l j)) := Iff.rfl
  have q0 : (l.length : Int) ≤ 1048576 := by omega
  clear hl hn hv hB
  generalize hN : l.length = n at *
  clear hN
  by_cases h2 : (60 : Int) < (n : Int)
  · go_enter Try.func31, Try.ntmps31
    go_wp2
    go_ret
    refine ⟨?_, Below.refl _ _⟩
    rw [HD.out false]
    · rfl
    rw [HV.out]
    exact ⟨fun h => (by cases h), fun h => by omega⟩
  have q1 : (n : Int) ≤ 60 := by omega
  clear h2
  go_enter Try.func31, Try.ntmps31
  go_wp2
  go_loopw [3, 11] (fun v3 v11 wr => ∃ (k : Nat) (m : Int), k ≤ n ∧ v11 = .int .i64 (k : Int) ∧ v3 = .int .i64 m ∧ 0 ≤ m ∧ m ≤ 1099511627777 ∧ Hid ((k = 0 → m = 0) ∧ (0 < k → m = tAt l (k - 1) + 1)) ∧ Below w.heap.size w wr ∧ Hid (∀ j, j < k → ((0 ≤ tAt l j ∧ tAt l j ≤ 1099511627776) ∧ (-1099511627776 ≤ vAt l j ∧ vAt l j ≤ 1099511627776)) ∧ (0 < j → tAt l (j - 1) < tAt l j))) (fun _ i _ => n - (intOf i).toNat)
  case atStart => exact ⟨0, 0, by omega, rfl, rfl, by omega, by omega, ⟨fun _ => rfl, fun h => by omega⟩, Below.refl _ _, fun j hj => by omega⟩
  case round =>
    obtain ⟨k, m, hk, rfl, rfl, hm0, hm1, HM, hb, HJ⟩ := hrel
    have HB1 : Hid (Below w.heap.size w wr) := hb
    clear hb
    by_cases hlt : k < n
    · have q2 : (k : Int) < (n : Int) := by omega
      obtain ⟨g, off, rfl, hg, e1, e2⟩ := HL.out k hlt
      have hgw : g < w.heap.size := Nat.lt_of_lt_of_le hg HB.out
      rw [← HB1.out.cell (p := ⟨_, _, none⟩) hgw] at e1
      rw [← HB1.out.cell (p := ⟨_, _, none⟩) hgw] at e2
      have HBa : Hid (∀ cs cs' : Array Value, Below w.heap.size w ((wr.alloc (.cells cs 33)))) := fun cs _ => HB1.out.alloc HB1.out.size _
      generalize hx : tAt l k = x at *
      have HX : Hid (tAt l k = x) := hx
      clear hx
      generalize hy : vAt l k = y at *
      have HY : Hid (vAt l k = y) := hy
      clear hy hgw hg
      have HNo : Hid ((x < m ∨ 1099511627776 < x ∨ y < -1099511627776 ∨ 1099511627776 < y) → decide (POk l) = false) := fun h => by
        apply HD.out
        rw [HV.out]
        refine ⟨fun h => (by cases h), fun h2 => ?_⟩
        have h3 := h2.2 k hlt
        rw [HX.out, HY.out] at h3
        have h4 := HM.out
        by_cases h0 : k = 0
        · have := h4.1 h0; omega
        · have := h4.2 (by omega); have := h3.2 (by omega); omega
      by_cases c1 : x < m
      · skip
        go_wp2
        go_ret
        exact ⟨by rw [HNo.out (.inl c1)]; rfl, HBa.out _ #[]⟩
      by_cases c2 : 1099511627776 < x
      · skip
        go_wp2
        go_ret
        exact ⟨by rw [HNo.out (.inr (.inl c2))]; rfl, HBa.out _ #[]⟩
      by_cases c3 : y < -1099511627776
      · skip
        go_wp2
        go_ret
        exact ⟨by rw [HNo.out (.inr (.inr (.inl c3)))]; rfl, HBa.out _ #[]⟩
      by_cases c4 : 1099511627776 < y
      · skip
        go_wp2
        go_ret
        exact ⟨by rw [HNo.out (.inr (.inr (.inr c4)))]; rfl, HBa.out _ #[]⟩
      go_wp2
      go_roundw
      case rel =>
        refine ⟨k + 1, x + 1, by omega, by go_num, by go_num, by omega, by omega, ⟨fun h => by omega, fun _ => by rw [Nat.add_sub_cancel, HX.out]⟩, HBa.out _ #[], fun j hj => ?_⟩
        by_cases e : j = k
        · subst e
          rw [HX.out, HY.out]
          have h4 := HM.out
          refine ⟨⟨⟨by omega, by omega⟩, by omega, by omega⟩, fun h => ?_⟩
          have := h4.2 h
          omega
        · exact HJ.out j (by omega)
      case measure => simp [intOf]; omega
    · have hkk : k = n := by omega
      subst hkk
      go_wp2
      go_ret
      refine ⟨?_, HB1.out⟩
      rw [HD.out true]
      · rfl
      rw [HV.out]
      exact ⟨fun _ => ⟨by omega, HJ.out⟩, fun _ => rfl⟩

end Go.Proofs.Ytfkgaoegdnkfcaa
