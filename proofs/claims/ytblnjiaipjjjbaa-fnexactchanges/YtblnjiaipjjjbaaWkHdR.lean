/-
  Contracts of the laws' own look at marks that are held: heldRecS.
-/
import Derived.Test.YtblnjiaipjjjbaaRows
import Derived.Test.YtblnjiaipjjjbaaWkMkR
namespace Go.Proofs.Ytblnjiaipjjjbaa
open Go.ChangeShapes Go.WideShapes Go.ChangeAt Go.RowKit Go.PlainAid
set_option linter.unusedVariables false

theorem newR_szRcd (k n : Nat) : ∀ r ∈ newR (mkRcd k) n, r.length = 5 := by
  intro r hr
  obtain ⟨j, _, rfl⟩ := List.mem_map.1 hr
  rfl
theorem mkRcd_look {w : World} {B k n : Nat} {v : Value} (h : Lies w B 5 v (newR (mkRcd k) n)) : ∃ A cap, v = .slice A n cap ∧ ∀ j, j < n → ∃ g off, A = some ⟨g, off, none⟩ ∧ g < B ∧ w.cell? ⟨g, off + j * 5, none⟩ = some (.int .i64 (((k + 5 * j : Nat) : Int))) ∧ w.cell? ⟨g, off + j * 5 + 1, none⟩ = some (.int .i64 (((k + 5 * j : Nat) : Int) + 1)) ∧ w.cell? ⟨g, off + j * 5 + 2, none⟩ = some (.int .i64 (((k + 5 * j : Nat) : Int) + 1 + 1)) ∧ w.cell? ⟨g, off + j * 5 + 3, none⟩ = some (.int .i64 (((k + 5 * j : Nat) : Int) + 1 + 1 + 1)) ∧ w.cell? ⟨g, off + j * 5 + 4, none⟩ = some (.string (mark (k + 5 * j + 4))) := by
  obtain ⟨A, cap, e, h⟩ := h.look
  rw [newR_length] at e
  refine ⟨A, cap, e, fun j hj => ?_⟩
  obtain ⟨g, off, e, hg, hc⟩ := h j (by rw [newR_length]; exact hj)
  have hr : (newR (mkRcd k) n)[j]'(by rw [newR_length]; exact hj) = mkRcd k j := by simp [newR]
  rw [hr] at hc
  refine ⟨g, off, e, hg, ?_, ?_, ?_, ?_, ?_⟩
  · have := hc 0 _ (by omega) rfl; simpa [Nat.add_assoc] using this
  · have := hc 1 _ (by omega) rfl; simpa [Nat.add_assoc] using this
  · have := hc 2 _ (by omega) rfl; simpa [Nat.add_assoc] using this
  · have := hc 3 _ (by omega) rfl; simpa [Nat.add_assoc] using this
  · have := hc 4 _ (by omega) rfl; simpa [Nat.add_assoc] using this

set_option maxHeartbeats 2000000 in
theorem heldRecS (k n : Nat) (v : Value) (w : World) (B : Nat) (hv : Lies w B 5 v (newR (mkRcd k) n)) (hl : n ≤ 1048576) (h1 : 1 ≤ k) (h2 : k ≤ 10000000) (hB : B ≤ w.heap.size) :
    Calls Try.prog 12 #[v, .int .i64 (k : Int)] w fun e w' => e = .returned (.int .i64 ((k + 5 * n : Nat) : Int)) ∧ Below w.heap.size w w' := by
  obtain ⟨A, ca, rfl, hl'⟩ := mkRcd_look hv
  have HL : Hid (∀ j, j < n → ∃ g off, A = some ⟨g, off, none⟩ ∧ g < B ∧ _) := hl'
  have HB : Hid (B ≤ w.heap.size) := hB
  have q1 : (n : Int) ≤ 1048576 := by omega
  have q3 : (k : Int) ≤ 10000000 := by omega
  clear hv hl hl' hB
  go_enter Try.func12, Try.ntmps12
  go_wp2_with fail
  go_loopw [1, 5] (fun v1 v5 wr => ∃ j : Nat, j ≤ n ∧ v5 = .int .i64 (j : Int) ∧ v1 = .int .i64 ((k + 5 * j : Nat) : Int) ∧ Below w.heap.size w wr) (fun _ i _ => n - (intOf i).toNat)
  case atStart => exact ⟨0, by omega, rfl, by simp, Below.refl _ _⟩
  case round =>
    obtain ⟨j, hj, rfl, rfl, hb⟩ := hrel
    have HB1 : Hid (Below w.heap.size w wr) := hb
    clear hb
    by_cases hlt : j < n
    · have q2 : (j : Int) < (n : Int) := by omega
      obtain ⟨g, off, rfl, hg, d0, d1, d2, d3, d4⟩ := HL.out j hlt
      have hgw : g < w.heap.size := Nat.lt_of_lt_of_le hg HB.out
      rw [← HB1.out.cell (p := ⟨_, _, none⟩) hgw] at d0
      rw [← HB1.out.cell (p := ⟨_, _, none⟩) hgw] at d1
      rw [← HB1.out.cell (p := ⟨_, _, none⟩) hgw] at d2
      rw [← HB1.out.cell (p := ⟨_, _, none⟩) hgw] at d3
      rw [← HB1.out.cell (p := ⟨_, _, none⟩) hgw] at d4
      have HM : Hid (((k + 5 * (j + 1) : Nat) : Int) = ((k + 5 * j : Nat) : Int) + 5) := by unfold Hid; omega
      have q4 : ((k + 5 * j : Nat) : Int) ≤ 20000000 := by omega
      have HM1 : Hid (1 ≤ k + 5 * j) := by unfold Hid; omega
      have HM2 : Hid (k + 5 * j ≤ 20000000) := by unfold Hid; omega
      generalize k + 5 * j = m at *
      have hsz := HB1.out.size
      have hgl : Hid (g < wr.heap.size) := Nat.lt_of_lt_of_le hgw hsz
      have c4 : ∀ wx : World, Calls Try.prog 25 #[.int .i64 ((m : Int) + 1 + 1 + 1 + 1)] wx fun e w' => e = .returned (.string (mark (m + 4))) ∧ Below wx.heap.size wx w' := fun wx => by
        have h := markText (m + 4) wx (by have := HM1.out; omega) (by have := HM2.out; omega)
        rw [show ((m + 4 : Nat) : Int) = (m : Int) + 1 + 1 + 1 + 1 by omega] at h
        exact h
      clear hgw HL
      go_wp2_with fail
      (go_region_with (go_at_call 25; refine (c4 _).mono ?_; rintro e x0 ⟨rfl, hx0⟩; have a4 := (hx0.cell (p := ⟨g, off + j * 5 + 4, none⟩) hgl.out).trans d4; have hg0 : Hid (g < x0.heap.size) := Nat.lt_of_lt_of_le hgl.out hx0.size))
      all_goals go_wp2_with fail
      all_goals exact ⟨⟨j + 1, by omega, by go_num, by rw [HM.out]; go_num, (HB1.out).trans (((Below.refl _ wr).drew.trans hx0).mono hsz)⟩, by simp [intOf]; omega⟩
    · obtain rfl : j = n := by omega
      go_wp2_with fail
      go_ret
      exact ⟨rfl, HB1.out⟩
end Go.Proofs.Ytblnjiaipjjjbaa
