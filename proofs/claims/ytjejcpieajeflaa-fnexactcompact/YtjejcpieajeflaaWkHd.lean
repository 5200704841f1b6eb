/-
  Contracts of the laws' own look at marks that are held: heldEntryS, markWal, heldWal.
-/
import Derived.Test.YtjejcpieajeflaaRows
import Derived.Test.YtjejcpieajeflaaWkMk
namespace Go.Proofs.Ytjejcpieajeflaa
open Go.ChangeShapes Go.WideShapes Go.ChangeAt Go.RowKit Go.PlainAid
set_option linter.unusedVariables false

theorem newR_szEnt (k n : Nat) : ∀ r ∈ newR (mkEnt k) n, r.length = 2 := by
  intro r hr
  obtain ⟨j, _, rfl⟩ := List.mem_map.1 hr
  rfl
theorem mkEnt_look {w : World} {B k n : Nat} {v : Value} (h : Lies w B 2 v (newR (mkEnt k) n)) : ∃ A cap, v = .slice A n cap ∧ ∀ j, j < n → ∃ g off, A = some ⟨g, off, none⟩ ∧ g < B ∧ w.cell? ⟨g, off + j * 2, none⟩ = some (.int .i64 (((k + 2 * j : Nat) : Int))) ∧ w.cell? ⟨g, off + j * 2 + 1, none⟩ = some (.string (mark (k + 2 * j + 1))) := by
  obtain ⟨A, cap, e, h⟩ := h.look
  rw [newR_length] at e
  refine ⟨A, cap, e, fun j hj => ?_⟩
  obtain ⟨g, off, e, hg, hc⟩ := h j (by rw [newR_length]; exact hj)
  have hr : (newR (mkEnt k) n)[j]'(by rw [newR_length]; exact hj) = mkEnt k j := by simp [newR]
  rw [hr] at hc
  refine ⟨g, off, e, hg, ?_, ?_⟩
  · have := hc 0 _ (by omega) rfl; simpa [Nat.add_assoc] using this
  · have := hc 1 _ (by omega) rfl; simpa [Nat.add_assoc] using this

set_option maxHeartbeats 2000000 in
theorem heldEntryS (k n : Nat) (v : Value) (w : World) (B : Nat) (hv : Lies w B 2 v (newR (mkEnt k) n)) (hl : n ≤ 1048576) (h1 : 1 ≤ k) (h2 : k ≤ 10000000) (hB : B ≤ w.heap.size) :
    Calls Try.prog 56 #[v, .int .i64 (k : Int)] w fun e w' => e = .returned (.int .i64 ((k + 2 * n : Nat) : Int)) ∧ Below w.heap.size w w' := by
  obtain ⟨A, ca, rfl, hl'⟩ := mkEnt_look hv
  have HL : Hid (∀ j, j < n → ∃ g off, A = some ⟨g, off, none⟩ ∧ g < B ∧ _) := hl'
  have HB : Hid (B ≤ w.heap.size) := hB
  have q1 : (n : Int) ≤ 1048576 := by omega
  have q3 : (k : Int) ≤ 10000000 := by omega
  clear hv hl hl' hB
  go_enter Try.func56, Try.ntmps56
  go_wp2_with fail
  go_loopw [1, 5] (fun v1 v5 wr => ∃ j : Nat, j ≤ n ∧ v5 = .int .i64 (j : Int) ∧ v1 = .int .i64 ((k + 2 * j : Nat) : Int) ∧ Below w.heap.size w wr) (fun _ i _ => n - (intOf i).toNat)
  case atStart => exact ⟨0, by omega, rfl, by simp, Below.refl _ _⟩
  case round =>
    obtain ⟨j, hj, rfl, rfl, hb⟩ := hrel
    have HB1 : Hid (Below w.heap.size w wr) := hb
    clear hb
    by_cases hlt : j < n
    · have q2 : (j : Int) < (n : Int) := by omega
      obtain ⟨g, off, rfl, hg, d0, d1⟩ := HL.out j hlt
      have hgw : g < w.heap.size := Nat.lt_of_lt_of_le hg HB.out
      rw [← HB1.out.cell (p := ⟨_, _, none⟩) hgw] at d0
      rw [← HB1.out.cell (p := ⟨_, _, none⟩) hgw] at d1
      have HM : Hid (((k + 2 * (j + 1) : Nat) : Int) = ((k + 2 * j : Nat) : Int) + 2) := by unfold Hid; omega
      have q4 : ((k + 2 * j : Nat) : Int) ≤ 20000000 := by omega
      have HM1 : Hid (1 ≤ k + 2 * j) := by unfold Hid; omega
      have HM2 : Hid (k + 2 * j ≤ 20000000) := by unfold Hid; omega
      generalize k + 2 * j = m at *
      have hsz := HB1.out.size
      have hgl : Hid (g < wr.heap.size) := Nat.lt_of_lt_of_le hgw hsz
      have c1 : ∀ wx : World, Calls Try.prog 68 #[.int .i64 ((m : Int) + 1)] wx fun e w' => e = .returned (.string (mark (m + 1))) ∧ Below wx.heap.size wx w' := fun wx => by
        have h := markText (m + 1) wx (by have := HM1.out; omega) (by have := HM2.out; omega)
        rw [show ((m + 1 : Nat) : Int) = (m : Int) + 1 by omega] at h
        exact h
      clear hgw HL
      go_wp2_with fail
      (go_region_with (go_at_call 68; refine (c1 _).mono ?_; rintro e x0 ⟨rfl, hx0⟩; have a1 := (hx0.cell (p := ⟨g, off + j * 2 + 1, none⟩) hgl.out).trans d1; have hg0 : Hid (g < x0.heap.size) := Nat.lt_of_lt_of_le hgl.out hx0.size))
      all_goals go_wp2_with fail
      all_goals exact ⟨⟨j + 1, by omega, by go_num, by rw [HM.out]; go_num, (HB1.out).trans (((Below.refl _ wr).drew.trans hx0).mono hsz)⟩, by simp [intOf]; omega⟩
    · obtain rfl : j = n := by omega
      go_wp2_with fail
      go_ret
      exact ⟨rfl, HB1.out⟩

set_option maxHeartbeats 1000000 in
theorem markWal (k base : Nat) (a b c t : Int) (u : Value) (R : List (List Value)) (w : World) (hv : Owns w base 88 2 u R) (hl : R.length ≤ 1048576) (h1 : 1 ≤ k) (h2 : k ≤ 10000000) (hbase : base ≤ w.heap.size) :
    Calls Try.prog 19 #[.agg #[.int .i64 a, .int .i64 b, .int .i64 c, .int .i64 t, u], .int .i64 (k : Int)] w fun e w' => e = .returned (.int .i64 ((k + 2 * R.length : Nat) : Int)) ∧ Owns w' base 88 2 u (newR (mkEnt k) R.length) ∧ Below base w w' ∧ (∀ g, g < w.heap.size → u.ownBlock ≠ some g → w'.heap[g]? = w.heap[g]?) := by
  have HV : Hid (Owns w base 88 2 u R) := hv
  have HB : Hid (base ≤ w.heap.size) := hbase
  have HL : Hid (R.length ≤ 1048576) := hl
  clear hv hbase hl
  go_enter Try.func19, Try.ntmps19
  go_wp2_with fail
  have hb0 : Below w.heap.size w (w.alloc (.cells #[.int .i64 a, .int .i64 b, .int .i64 c, .int .i64 t, u] 35)) := (Below.refl _ _).alloc (Nat.le_refl _) _
  generalize w.alloc (.cells #[.int .i64 a, .int .i64 b, .int .i64 c, .int .i64 t, u] 35) = W at *
  have B0 : Hid (Below w.heap.size w W) := hb0
  clear hb0
  refine (markEntryS k base u R W (HV.out.on B0.out) HL.out h1 h2 (Nat.le_trans HB.out B0.out.size)).mono ?_
  rintro e w2 ⟨rfl, hO, hB, hK⟩
  have O2 : Hid (Owns w2 base 88 2 u (newR (mkEnt k) R.length)) := hO
  have B2 : Hid (Below base W w2) := hB
  have K2 : Hid (∀ g, g < W.heap.size → u.ownBlock ≠ some g → w2.heap[g]? = W.heap[g]?) := hK
  clear hO hB hK
  go_wp2_with fail
  go_ret
  exact ⟨rfl, O2.out, (B0.out.mono HB.out).trans B2.out, fun g hg hne => (K2.out g (Nat.lt_of_lt_of_le hg B0.out.size) hne).trans (B0.out.block g hg)⟩

set_option maxHeartbeats 1000000 in
theorem heldWal (k n : Nat) (a b c t : Int) (u : Value) (w : World) (B : Nat) (hv : Lies w B 2 u (newR (mkEnt k) n)) (hl : n ≤ 1048576) (h1 : 1 ≤ k) (h2 : k ≤ 10000000) (hB : B ≤ w.heap.size) :
    Calls Try.prog 20 #[.agg #[.int .i64 a, .int .i64 b, .int .i64 c, .int .i64 t, u], .int .i64 (k : Int)] w fun e w' => e = .returned (.int .i64 ((k + 2 * n : Nat) : Int)) ∧ Below w.heap.size w w' := by
  have HV : Hid (Lies w B 2 u (newR (mkEnt k) n)) := hv
  have HB : Hid (B ≤ w.heap.size) := hB
  have q0 : decide (((k + 2 * n : Nat) : Int) < 0) = false := decide_eq_false (by omega)
  clear hv hB
  go_enter Try.func20, Try.ntmps20
  go_wp2_with fail
  have hb0 : Below w.heap.size w (w.alloc (.cells #[.int .i64 a, .int .i64 b, .int .i64 c, .int .i64 t, u] 35)) := (Below.refl _ _).alloc (Nat.le_refl _) _
  generalize w.alloc (.cells #[.int .i64 a, .int .i64 b, .int .i64 c, .int .i64 t, u] 35) = W at *
  have B0 : Hid (Below w.heap.size w W) := hb0
  clear hb0
  refine (heldEntryS k n u W B (HV.out.on (B0.out.mono HB.out)) hl h1 h2 (Nat.le_trans HB.out B0.out.size)).mono ?_
  rintro e w2 ⟨rfl, hb2⟩
  have B2 : Hid (Below w.heap.size w w2) := B0.out.trans (hb2.mono B0.out.size)
  clear hb2
  generalize hr : ((k + 2 * n : Nat) : Int) = r at *
  go_wp2_with fail
  go_ret
  exact ⟨by rw [hr]; rfl, B2.out⟩
end Go.Proofs.Ytjejcpieajeflaa
