/-
  Contracts of the laws' own look at marks in disks: heldInodeS, heldLinkS, heldMoveS where the marks are held; markDisk and heldDisk.
-/
import Derived.Test.YtnnfnhpehacelaaGreatRows
import Derived.Test.YtnnfnhpehacelaaGreatDkMk
namespace Go.Proofs.YtnnfnhpehacelaaGreat
open Go.ChangeShapes Go.WideShapes Go.ChangeAt Go.RowKit Go.PlainAid
set_option linter.unusedVariables false

theorem newR_szNod (k n : Nat) : ∀ r ∈ newR (mkNod k) n, r.length = 3 := by
  intro r hr
  obtain ⟨j, _, rfl⟩ := List.mem_map.1 hr
  rfl
theorem mkNod_look {w : World} {B k n : Nat} {v : Value} (h : Lies w B 3 v (newR (mkNod k) n)) : ∃ A cap, v = .slice A n cap ∧ ∀ j, j < n → ∃ g off, A = some ⟨g, off, none⟩ ∧ g < B ∧ w.cell? ⟨g, off + j * 3, none⟩ = some (.int .i64 (((k + 3 * j : Nat) : Int))) ∧ w.cell? ⟨g, off + j * 3 + 1, none⟩ = some (.string (mark (k + 3 * j + 1))) ∧ w.cell? ⟨g, off + j * 3 + 2, none⟩ = some (.int .i64 (((k + 3 * j : Nat) : Int) + 1 + 1)) := by
  obtain ⟨A, cap, e, h⟩ := h.look
  rw [newR_length] at e
  refine ⟨A, cap, e, fun j hj => ?_⟩
  obtain ⟨g, off, e, hg, hc⟩ := h j (by rw [newR_length]; exact hj)
  have hr : (newR (mkNod k) n)[j]'(by rw [newR_length]; exact hj) = mkNod k j := by simp [newR]
  rw [hr] at hc
  refine ⟨g, off, e, hg, ?_, ?_, ?_⟩
  · have := hc 0 _ (by omega) rfl; simpa [Nat.add_assoc] using this
  · have := hc 1 _ (by omega) rfl; simpa [Nat.add_assoc] using this
  · have := hc 2 _ (by omega) rfl; simpa [Nat.add_assoc] using this

set_option maxHeartbeats 2000000 in
theorem heldInodeS (k n : Nat) (v : Value) (w : World) (B : Nat) (hv : Lies w B 3 v (newR (mkNod k) n)) (hl : n ≤ 1048576) (h1 : 1 ≤ k) (h2 : k ≤ 10000000) (hB : B ≤ w.heap.size) :
    Calls Tryz.prog 35 #[v, .int .i64 (k : Int)] w fun e w' => e = .returned (.int .i64 ((k + 3 * n : Nat) : Int)) ∧ Below w.heap.size w w' := by
  obtain ⟨A, ca, rfl, hl'⟩ := mkNod_look hv
  have HL : Hid (∀ j, j < n → ∃ g off, A = some ⟨g, off, none⟩ ∧ g < B ∧ _) := hl'
  have HB : Hid (B ≤ w.heap.size) := hB
  have q1 : (n : Int) ≤ 1048576 := by omega
  have q3 : (k : Int) ≤ 10000000 := by omega
  clear hv hl hl' hB
  go_enter Tryz.func35, Tryz.ntmps35
  go_wp2_with fail
  go_loopw [1, 5] (fun v1 v5 wr => ∃ j : Nat, j ≤ n ∧ v5 = .int .i64 (j : Int) ∧ v1 = .int .i64 ((k + 3 * j : Nat) : Int) ∧ Below w.heap.size w wr) (fun _ i _ => n - (intOf i).toNat)
  case atStart => exact ⟨0, by omega, rfl, by simp, Below.refl _ _⟩
  case round =>
    obtain ⟨j, hj, rfl, rfl, hb⟩ := hrel
    have HB1 : Hid (Below w.heap.size w wr) := hb
    clear hb
    by_cases hlt : j < n
    · have q2 : (j : Int) < (n : Int) := by omega
      obtain ⟨g, off, rfl, hg, d0, d1, d2⟩ := HL.out j hlt
      have hgw : g < w.heap.size := Nat.lt_of_lt_of_le hg HB.out
      rw [← HB1.out.cell (p := ⟨_, _, none⟩) hgw] at d0
      rw [← HB1.out.cell (p := ⟨_, _, none⟩) hgw] at d1
      rw [← HB1.out.cell (p := ⟨_, _, none⟩) hgw] at d2
      have HM : Hid (((k + 3 * (j + 1) : Nat) : Int) = ((k + 3 * j : Nat) : Int) + 3) := by unfold Hid; omega
      have q4 : ((k + 3 * j : Nat) : Int) ≤ 20000000 := by omega
      have HM1 : Hid (1 ≤ k + 3 * j) := by unfold Hid; omega
      have HM2 : Hid (k + 3 * j ≤ 20000000) := by unfold Hid; omega
      generalize k + 3 * j = m at *
      have hsz := HB1.out.size
      have hgl : Hid (g < wr.heap.size) := Nat.lt_of_lt_of_le hgw hsz
      have c1 : ∀ wx : World, Calls Tryz.prog 74 #[.int .i64 ((m : Int) + 1)] wx fun e w' => e = .returned (.string (mark (m + 1))) ∧ Below wx.heap.size wx w' := fun wx => by
        have h := markText (m + 1) wx (by have := HM1.out; omega) (by have := HM2.out; omega)
        rw [show ((m + 1 : Nat) : Int) = (m : Int) + 1 by omega] at h
        exact h
      clear hgw HL
      go_wp2_with fail
      (go_region_with (go_at_call 74; refine (c1 _).mono ?_; rintro e x0 ⟨rfl, hx0⟩; have a1 := (hx0.cell (p := ⟨g, off + j * 3 + 1, none⟩) hgl.out).trans d1; have a2 := (hx0.cell (p := ⟨g, off + j * 3 + 2, none⟩) hgl.out).trans d2; have hg0 : Hid (g < x0.heap.size) := Nat.lt_of_lt_of_le hgl.out hx0.size))
      all_goals go_wp2_with fail
      all_goals exact ⟨⟨j + 1, by omega, by go_num, by rw [HM.out]; go_num, (HB1.out).trans (((Below.refl _ wr).drew.trans hx0).mono hsz)⟩, by simp [intOf]; omega⟩
    · obtain rfl : j = n := by omega
      go_wp2_with fail
      go_ret
      exact ⟨rfl, HB1.out⟩
theorem newR_szLnk (k n : Nat) : ∀ r ∈ newR (mkLnk k) n, r.length = 2 := by
  intro r hr
  obtain ⟨j, _, rfl⟩ := List.mem_map.1 hr
  rfl
theorem mkLnk_look {w : World} {B k n : Nat} {v : Value} (h : Lies w B 2 v (newR (mkLnk k) n)) : ∃ A cap, v = .slice A n cap ∧ ∀ j, j < n → ∃ g off, A = some ⟨g, off, none⟩ ∧ g < B ∧ w.cell? ⟨g, off + j * 2, none⟩ = some (.string (mark (k + 2 * j))) ∧ w.cell? ⟨g, off + j * 2 + 1, none⟩ = some (.int .i64 (((k + 2 * j : Nat) : Int) + 1)) := by
  obtain ⟨A, cap, e, h⟩ := h.look
  rw [newR_length] at e
  refine ⟨A, cap, e, fun j hj => ?_⟩
  obtain ⟨g, off, e, hg, hc⟩ := h j (by rw [newR_length]; exact hj)
  have hr : (newR (mkLnk k) n)[j]'(by rw [newR_length]; exact hj) = mkLnk k j := by simp [newR]
  rw [hr] at hc
  refine ⟨g, off, e, hg, ?_, ?_⟩
  · have := hc 0 _ (by omega) rfl; simpa [Nat.add_assoc] using this
  · have := hc 1 _ (by omega) rfl; simpa [Nat.add_assoc] using this

set_option maxHeartbeats 2000000 in
theorem heldLinkS (k n : Nat) (v : Value) (w : World) (B : Nat) (hv : Lies w B 2 v (newR (mkLnk k) n)) (hl : n ≤ 1048576) (h1 : 1 ≤ k) (h2 : k ≤ 10000000) (hB : B ≤ w.heap.size) :
    Calls Tryz.prog 36 #[v, .int .i64 (k : Int)] w fun e w' => e = .returned (.int .i64 ((k + 2 * n : Nat) : Int)) ∧ Below w.heap.size w w' := by
  obtain ⟨A, ca, rfl, hl'⟩ := mkLnk_look hv
  have HL : Hid (∀ j, j < n → ∃ g off, A = some ⟨g, off, none⟩ ∧ g < B ∧ _) := hl'
  have HB : Hid (B ≤ w.heap.size) := hB
  have q1 : (n : Int) ≤ 1048576 := by omega
  have q3 : (k : Int) ≤ 10000000 := by omega
  clear hv hl hl' hB
  go_enter Tryz.func36, Tryz.ntmps36
  go_wp2_with fail
  go_loopw [1, 5] (fun v1 v5 wr => ∃ j : Nat, j ≤ n ∧ v5 = .int .i64 (j : Int) ∧ v1 = .int .i64 ((k + 2 * j : Nat) : Int) ∧ Below w.heap.size w wr) (fun _ i _ => n - (intOf i).toNat)
  case atStart => exact ⟨0, by omega, rfl, by simp, Below.refl _ _⟩
  case round =>
    obtain ⟨j, hj, rfl, rfl, hb⟩ := hrel
    have HB1 : Hid (Below w.heap.size w wr) := hb
    clear hb
    by_cases hlt : j < n
    · have q2 : (j : Int) < (n : Int) := by omega
      obtain ⟨g, off, rfl, hg, d0, d1⟩ := HL.out j hlt
      have hgw : g < w.heap.size := Nat.lt_of_lt_of_le hg HB.out
      rw [← HB1.out.cell (p := ⟨_, _, none⟩) hgw] at d0
      rw [← HB1.out.cell (p := ⟨_, _, none⟩) hgw] at d1
      have HM : Hid (((k + 2 * (j + 1) : Nat) : Int) = ((k + 2 * j : Nat) : Int) + 2) := by unfold Hid; omega
      have q4 : ((k + 2 * j : Nat) : Int) ≤ 20000000 := by omega
      have HM1 : Hid (1 ≤ k + 2 * j) := by unfold Hid; omega
      have HM2 : Hid (k + 2 * j ≤ 20000000) := by unfold Hid; omega
      generalize k + 2 * j = m at *
      have hsz := HB1.out.size
      have hgl : Hid (g < wr.heap.size) := Nat.lt_of_lt_of_le hgw hsz
      have c0 : ∀ wx : World, Calls Tryz.prog 74 #[.int .i64 ((m : Int))] wx fun e w' => e = .returned (.string (mark (m))) ∧ Below wx.heap.size wx w' := fun wx => by
        have h := markText (m) wx (by have := HM1.out; omega) (by have := HM2.out; omega)
        exact h
      clear hgw HL
      go_wp2_with fail
      (go_region_with (go_at_call 74; refine (c0 _).mono ?_; rintro e x0 ⟨rfl, hx0⟩; have a0 := (hx0.cell (p := ⟨g, off + j * 2, none⟩) hgl.out).trans d0; have a1 := (hx0.cell (p := ⟨g, off + j * 2 + 1, none⟩) hgl.out).trans d1; have hg0 : Hid (g < x0.heap.size) := Nat.lt_of_lt_of_le hgl.out hx0.size))
      all_goals go_wp2_with fail
      all_goals exact ⟨⟨j + 1, by omega, by go_num, by rw [HM.out]; go_num, (HB1.out).trans (((Below.refl _ wr).drew.trans hx0).mono hsz)⟩, by simp [intOf]; omega⟩
    · obtain rfl : j = n := by omega
      go_wp2_with fail
      go_ret
      exact ⟨rfl, HB1.out⟩
theorem newR_szMov (k n : Nat) : ∀ r ∈ newR (mkMov k) n, r.length = 4 := by
  intro r hr
  obtain ⟨j, _, rfl⟩ := List.mem_map.1 hr
  rfl
theorem mkMov_look {w : World} {B k n : Nat} {v : Value} (h : Lies w B 4 v (newR (mkMov k) n)) : ∃ A cap, v = .slice A n cap ∧ ∀ j, j < n → ∃ g off, A = some ⟨g, off, none⟩ ∧ g < B ∧ w.cell? ⟨g, off + j * 4, none⟩ = some (.int .i64 (((k + 4 * j : Nat) : Int))) ∧ w.cell? ⟨g, off + j * 4 + 1, none⟩ = some (.string (mark (k + 4 * j + 1))) ∧ w.cell? ⟨g, off + j * 4 + 2, none⟩ = some (.string (mark (k + 4 * j + 2))) ∧ w.cell? ⟨g, off + j * 4 + 3, none⟩ = some (.int .i64 (((k + 4 * j : Nat) : Int) + 1 + 1 + 1)) := by
  obtain ⟨A, cap, e, h⟩ := h.look
  rw [newR_length] at e
  refine ⟨A, cap, e, fun j hj => ?_⟩
  obtain ⟨g, off, e, hg, hc⟩ := h j (by rw [newR_length]; exact hj)
  have hr : (newR (mkMov k) n)[j]'(by rw [newR_length]; exact hj) = mkMov k j := by simp [newR]
  rw [hr] at hc
  refine ⟨g, off, e, hg, ?_, ?_, ?_, ?_⟩
  · have := hc 0 _ (by omega) rfl; simpa [Nat.add_assoc] using this
  · have := hc 1 _ (by omega) rfl; simpa [Nat.add_assoc] using this
  · have := hc 2 _ (by omega) rfl; simpa [Nat.add_assoc] using this
  · have := hc 3 _ (by omega) rfl; simpa [Nat.add_assoc] using this

set_option maxHeartbeats 2000000 in
theorem heldMoveS (k n : Nat) (v : Value) (w : World) (B : Nat) (hv : Lies w B 4 v (newR (mkMov k) n)) (hl : n ≤ 1048576) (h1 : 1 ≤ k) (h2 : k ≤ 10000000) (hB : B ≤ w.heap.size) :
    Calls Tryz.prog 37 #[v, .int .i64 (k : Int)] w fun e w' => e = .returned (.int .i64 ((k + 4 * n : Nat) : Int)) ∧ Below w.heap.size w w' := by
  obtain ⟨A, ca, rfl, hl'⟩ := mkMov_look hv
  have HL : Hid (∀ j, j < n → ∃ g off, A = some ⟨g, off, none⟩ ∧ g < B ∧ _) := hl'
  have HB : Hid (B ≤ w.heap.size) := hB
  have q1 : (n : Int) ≤ 1048576 := by omega
  have q3 : (k : Int) ≤ 10000000 := by omega
  clear hv hl hl' hB
  go_enter Tryz.func37, Tryz.ntmps37
  go_wp2_with fail
  go_loopw [1, 5] (fun v1 v5 wr => ∃ j : Nat, j ≤ n ∧ v5 = .int .i64 (j : Int) ∧ v1 = .int .i64 ((k + 4 * j : Nat) : Int) ∧ Below w.heap.size w wr) (fun _ i _ => n - (intOf i).toNat)
  case atStart => exact ⟨0, by omega, rfl, by simp, Below.refl _ _⟩
  case round =>
    obtain ⟨j, hj, rfl, rfl, hb⟩ := hrel
    have HB1 : Hid (Below w.heap.size w wr) := hb
    clear hb
    by_cases hlt : j < n
    · have q2 : (j : Int) < (n : Int) := by omega
      obtain ⟨g, off, rfl, hg, d0, d1, d2, d3⟩ := HL.out j hlt
      have hgw : g < w.heap.size := Nat.lt_of_lt_of_le hg HB.out
      rw [← HB1.out.cell (p := ⟨_, _, none⟩) hgw] at d0
      rw [← HB1.out.cell (p := ⟨_, _, none⟩) hgw] at d1
      rw [← HB1.out.cell (p := ⟨_, _, none⟩) hgw] at d2
      rw [← HB1.out.cell (p := ⟨_, _, none⟩) hgw] at d3
      have HM : Hid (((k + 4 * (j + 1) : Nat) : Int) = ((k + 4 * j : Nat) : Int) + 4) := by unfold Hid; omega
      have q4 : ((k + 4 * j : Nat) : Int) ≤ 20000000 := by omega
      have HM1 : Hid (1 ≤ k + 4 * j) := by unfold Hid; omega
      have HM2 : Hid (k + 4 * j ≤ 20000000) := by unfold Hid; omega
      generalize k + 4 * j = m at *
      have hsz := HB1.out.size
      have hgl : Hid (g < wr.heap.size) := Nat.lt_of_lt_of_le hgw hsz
      have c1 : ∀ wx : World, Calls Tryz.prog 74 #[.int .i64 ((m : Int) + 1)] wx fun e w' => e = .returned (.string (mark (m + 1))) ∧ Below wx.heap.size wx w' := fun wx => by
        have h := markText (m + 1) wx (by have := HM1.out; omega) (by have := HM2.out; omega)
        rw [show ((m + 1 : Nat) : Int) = (m : Int) + 1 by omega] at h
        exact h
      have c2 : ∀ wx : World, Calls Tryz.prog 74 #[.int .i64 ((m : Int) + 1 + 1)] wx fun e w' => e = .returned (.string (mark (m + 2))) ∧ Below wx.heap.size wx w' := fun wx => by
        have h := markText (m + 2) wx (by have := HM1.out; omega) (by have := HM2.out; omega)
        rw [show ((m + 2 : Nat) : Int) = (m : Int) + 1 + 1 by omega] at h
        exact h
      clear hgw HL
      go_wp2_with fail
      (go_region_with (go_at_call 74; refine (c1 _).mono ?_; rintro e x0 ⟨rfl, hx0⟩; have a1 := (hx0.cell (p := ⟨g, off + j * 4 + 1, none⟩) hgl.out).trans d1; have a2 := (hx0.cell (p := ⟨g, off + j * 4 + 2, none⟩) hgl.out).trans d2; have a3 := (hx0.cell (p := ⟨g, off + j * 4 + 3, none⟩) hgl.out).trans d3; have hg0 : Hid (g < x0.heap.size) := Nat.lt_of_lt_of_le hgl.out hx0.size))
      all_goals go_wp2_with fail
      all_goals (go_region_with (go_at_call 74; refine (c2 _).mono ?_; rintro e x1 ⟨rfl, hx1⟩; have b2 := (hx1.cell (p := ⟨g, off + j * 4 + 2, none⟩) hg0.out).trans a2; have b3 := (hx1.cell (p := ⟨g, off + j * 4 + 3, none⟩) hg0.out).trans a3; have hg1 : Hid (g < x1.heap.size) := Nat.lt_of_lt_of_le hg0.out hx1.size))
      all_goals go_wp2_with fail
      all_goals exact ⟨⟨j + 1, by omega, by go_num, by rw [HM.out]; go_num, ((HB1.out).trans (((Below.refl _ wr).drew.trans hx0).mono hsz)).trans (((Below.refl _ x0).drew.trans hx1).mono (Nat.le_trans hsz hx0.size))⟩, by simp [intOf]; omega⟩
    · obtain rfl : j = n := by omega
      go_wp2_with fail
      go_ret
      exact ⟨rfl, HB1.out⟩
end Go.Proofs.YtnnfnhpehacelaaGreat
