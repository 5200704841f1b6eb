/-
  The contracts of spec.l4Name and spec.l4Bytes.
-/
import Derived.Test.YtnnfnhpehacelaaGreatRows
import Derived.Test.YtnnfnhpehacelaaGreatDkRead
namespace Go.Proofs.YtnnfnhpehacelaaGreat
open Go.ChangeShapes Go.WideShapes Go.ChangeAt Go.RowKit Go.PlainAid
set_option linter.unusedVariables false

theorem name_yes (s : ByteArray) (h1 : 1 ≤ s.size) (h2 : s.size ≤ 12) (h : ∀ j, j < s.size → nameB (bn s j) = true) : nameOk s = true := by
  unfold nameOk
  rw [decide_eq_true h1, decide_eq_true h2]
  simp only [Bool.true_and, List.all_eq_true, List.mem_range]
  exact h
theorem name_no (s : ByteArray) (k : Nat) (hk : k < s.size) (h : nameB (bn s k) = false) : nameOk s = false := by
  unfold nameOk
  have : ((List.range s.size).all fun j => nameB (bn s j)) = false := by
    rw [List.all_eq_false]
    exact ⟨k, List.mem_range.2 hk, by rw [h]; exact Bool.false_ne_true⟩
  rw [this, Bool.and_false]
theorem name_out (s : ByteArray) (h : s.size < 1 ∨ 12 < s.size) : nameOk s = false := by
  unfold nameOk
  rcases h with h | h
  · rw [decide_eq_false (show ¬ 1 ≤ s.size by omega)]; rfl
  · rw [decide_eq_false (show ¬ s.size ≤ 12 by omega), Bool.and_false]; rfl

set_option maxHeartbeats 1000000 in
theorem nameV (s : ByteArray) (w : World) (hs : s.size ≤ 9223372036854775807) :
    Calls Tryz.prog 45 #[.string s] w fun e w' => e = .returned (.bool (nameOk s)) ∧ w = w' := by
  have hbt := get_bn s
  have c1 := inB (s.size : Int) 1 12 w
  by_cases h : s.size < 1 ∨ 12 < s.size
  · have HY : Hid (nameOk s = false) := name_out s h
    have hz : (decide ((1 : Int) ≤ (s.size : Int)) && decide ((s.size : Int) ≤ 12)) = false := by
      rcases h with h | h
      · rw [decide_eq_false (by omega)]; rfl
      · rw [decide_eq_false (show ¬ (s.size : Int) ≤ 12 by omega), Bool.and_false]
    rw [hz] at c1
    clear h hz
    go_enter Tryz.func45, Tryz.ntmps45
    go_wp2_with fail
    refine c1.mono ?_
    rintro e w1 ⟨rfl, rfl⟩
    go_wp2_with fail
    go_ret
    exact ⟨by rw [HY.out]; rfl, rfl⟩
  · have hz : (decide ((1 : Int) ≤ (s.size : Int)) && decide ((s.size : Int) ≤ 12)) = true := by rw [decide_eq_true (by omega), decide_eq_true (by omega)]; rfl
    rw [hz] at c1
    have q1 : (s.size : Int) ≤ 12 := by omega
    have HS1 : Hid (1 ≤ s.size) := by unfold Hid; omega
    have HS2 : Hid (s.size ≤ 12) := by unfold Hid; omega
    clear h hz hs
    go_enter Tryz.func45, Tryz.ntmps45
    go_wp2_with fail
    refine c1.mono ?_
    rintro e w1 ⟨rfl, rfl⟩
    go_wp2_with fail
    go_loop [3] (fun v3 => ∃ k : Nat, k ≤ s.size ∧ v3 = .int .i64 (k : Int) ∧ ∀ j, j < k → nameB (bn s j) = true) (fun i => s.size - (intOf i).toNat)
    case atStart => exact ⟨0, by omega, rfl, fun j hj => by omega⟩
    case round =>
      obtain ⟨k, hk, rfl, hno⟩ := hrel
      have HN : Hid (∀ j, j < k → nameB (bn s j) = true) := hno
      clear hno
      by_cases hlt : k < s.size
      · have q4 : (k : Int) < (s.size : Int) := by omega
        have hb := bn_lt s k
        have hbk := hbt k hlt
        clear hbt
        by_cases hok : nameB (bn s k) = true
        · have HE : Hid (∀ j, j < k + 1 → nameB (bn s j) = true) := less_succ HN.out hok
          generalize bn s k = b at *
          have hc : (97 ≤ b ∧ b ≤ 122) ∨ (48 ≤ b ∧ b ≤ 57) ∨ b = 46 := by
            unfold nameB at hok
            simp at hok
            omega
          clear hok
          rcases hc with hc | hc | hc
          · have z1 : decide ((97 : Int) ≤ (b : Int)) = true := decide_eq_true (by omega)
            have z2 : decide ((b : Int) ≤ 122) = true := decide_eq_true (by omega)
            have y1 : (97 : Int) ≤ (b : Int) := by omega
            have y2 : (b : Int) ≤ 122 := by omega
            clear hc
            go_wp2_with fail
            go_round
            case rel => exact ⟨k + 1, by omega, by go_num, HE.out⟩
            case measure => simp [intOf]; omega
          · have z1 : decide ((97 : Int) ≤ (b : Int)) = false := decide_eq_false (by omega)
            have z3 : decide ((48 : Int) ≤ (b : Int)) = true := decide_eq_true (by omega)
            have z4 : decide ((b : Int) ≤ 57) = true := decide_eq_true (by omega)
            have y1 : (b : Int) < 97 := by omega
            have y2 : (48 : Int) ≤ (b : Int) := by omega
            have y3 : (b : Int) ≤ 57 := by omega
            clear hc
            go_wp2_with fail
            go_round
            case rel => exact ⟨k + 1, by omega, by go_num, HE.out⟩
            case measure => simp [intOf]; omega
          · subst hc
            go_wp2_with fail
            go_round
            case rel => exact ⟨k + 1, by omega, by go_num, HE.out⟩
            case measure => simp [intOf]; omega
        · have hok2 : nameB (bn s k) = false := by simpa using hok
          have HY : Hid (nameOk s = false) := name_no s k hlt hok2
          generalize bn s k = b at *
          have hc : 122 < b ∨ (b < 97 ∧ 57 < b) ∨ (b < 48 ∧ b ≠ 46) := by
            unfold nameB at hok2
            simp at hok2
            omega
          clear hok hok2
          rcases hc with hc | hc | hc
          · have z1 : decide ((97 : Int) ≤ (b : Int)) = true := decide_eq_true (by omega)
            have z2 : decide ((b : Int) ≤ 122) = false := decide_eq_false (by omega)
            have z3 : decide ((48 : Int) ≤ (b : Int)) = true := decide_eq_true (by omega)
            have z4 : decide ((b : Int) ≤ 57) = false := decide_eq_false (by omega)
            have z5 : ((b : Int) == 46) = false := by simp only [beq_eq_false_iff_ne, ne_eq]; omega
            have y1 : (122 : Int) < (b : Int) := by omega
            clear hc
            go_wp2_with fail
            go_ret
            exact ⟨by rw [HY.out]; rfl, rfl⟩
          · have z1 : decide ((97 : Int) ≤ (b : Int)) = false := decide_eq_false (by omega)
            have z3 : decide ((48 : Int) ≤ (b : Int)) = true := decide_eq_true (by omega)
            have z4 : decide ((b : Int) ≤ 57) = false := decide_eq_false (by omega)
            have z5 : ((b : Int) == 46) = false := by simp only [beq_eq_false_iff_ne, ne_eq]; omega
            have y1 : (b : Int) < 97 := by omega
            have y2 : (57 : Int) < (b : Int) := by omega
            clear hc
            go_wp2_with fail
            go_ret
            exact ⟨by rw [HY.out]; rfl, rfl⟩
          · have z1 : decide ((97 : Int) ≤ (b : Int)) = false := decide_eq_false (by omega)
            have z3 : decide ((48 : Int) ≤ (b : Int)) = false := decide_eq_false (by omega)
            have z5 : ((b : Int) == 46) = false := by simp only [beq_eq_false_iff_ne, ne_eq]; omega
            have y1 : (b : Int) < 48 := by omega
            have y2 : ¬ (b : Int) = 46 := by omega
            clear hc
            go_wp2_with fail
            go_ret
            exact ⟨by rw [HY.out]; rfl, rfl⟩
      · obtain rfl : k = s.size := by omega
        have HY : Hid (nameOk s = true) := name_yes s HS1.out HS2.out HN.out
        go_wp2_with fail
        go_ret
        exact ⟨by rw [HY.out]; rfl, rfl⟩

theorem bytesOf_snoc (l : List Nod) (k : Nat) (h : k < l.length) : bytesOf (l.take (k + 1)) = bytesOf (l.take k) + (l.getD k default).data.size := by
  rw [← getD_at l k h]
  induction l generalizing k with
  | nil => simp at h
  | cons x r ih =>
    cases k with
    | zero => simp [bytesOf]
    | succ k => simp only [List.take_succ_cons, bytesOf, List.getElem_cons_succ]; rw [ih k (by simpa using h)]; omega
theorem bytesOf_le (l : List Nod) (k : Nat) : bytesOf (l.take k) ≤ bytesOf l := by
  induction l generalizing k with
  | nil => simp [bytesOf]
  | cons x r ih =>
    cases k with
    | zero => simp [bytesOf]
    | succ k => simp only [List.take_succ_cons, bytesOf]; have := ih k; omega

set_option maxHeartbeats 1000000 in
theorem bytesV (d : Dsk) (v : Value) (w : World) (B : Nat) (hv : DiskV w B v d) (hn : d.nods.length ≤ 1048576) (hs : bytesOf d.nods ≤ 4194304) (hB : B ≤ w.heap.size) :
    Calls Tryz.prog 42 #[v] w fun e w' => e = .returned (.int .i64 (bytesOf d.nods : Int)) ∧ Below w.heap.size w w' := by
  obtain ⟨v1, v2, v3, rfl, h1, h2, h3⟩ := hv
  obtain ⟨A, cap, rfl, hl⟩ := nod_look h1
  have HL : Hid (∀ j, j < d.nods.length → ∃ g off, A = some ⟨g, off, none⟩ ∧ g < B ∧ _) := hl
  have HB : Hid (B ≤ w.heap.size) := hB
  have HS : Hid (bytesOf d.nods ≤ 4194304) := hs
  clear hl h1 h2 h3 hB hs
  have q1 : (d.nods.length : Int) ≤ 1048576 := by omega
  generalize hll : d.nods = l at *
  generalize hN : l.length = n at *
  go_enter Tryz.func42, Tryz.ntmps42
  go_wp2
  have hb0 : Below w.heap.size w (w.alloc (.cells #[.int .i64 d.room, .int .i64 d.next, .slice A n cap, v2, v3] 35)) := (Below.refl _ _).alloc (Nat.le_refl _) _
  have e0 := (Blk.new w #[.int .i64 d.room, .int .i64 d.next, .slice A n cap, v2, v3] 35).cell 2 _ rfl
  generalize w.alloc (.cells #[.int .i64 d.room, .int .i64 d.next, .slice A n cap, v2, v3] 35) = W at *
  have B0 : Hid (Below w.heap.size w W) := hb0
  clear hb0
  have e1 : W.cell? ⟨w.heap.size, 2, none⟩ = some (.slice A n cap) := e0
  clear e0
  go_loop [3, 4] (fun v3 v4 => ∃ k : Nat, k ≤ n ∧ v4 = .int .i64 (k : Int) ∧ v3 = .int .i64 (bytesOf (l.take k) : Int)) (fun _ i => n - (intOf i).toNat)
  case atStart => exact ⟨0, by omega, rfl, rfl⟩
  case round =>
    obtain ⟨k, hk, rfl, rfl⟩ := hrel
    have q5 : (bytesOf (l.take k) : Int) ≤ 4194304 := by have := bytesOf_le l k; have := HS.out; omega
    by_cases hlt : k < n
    · have q4 : (k : Int) < (n : Int) := by omega
      obtain ⟨g, off, rfl, hg, hc0, hc1, hc2⟩ := HL.out k hlt
      have hgw : g < w.heap.size := Nat.lt_of_lt_of_le hg HB.out
      rw [← B0.out.cell (p := ⟨_, _, none⟩) hgw] at hc1
      have EB := bytesOf_snoc l k (by omega)
      have q6 : ((l.getD k default).data.size : Int) ≤ 4194304 := by have := bytesOf_le l (k + 1); have := HS.out; omega
      have EI : Hid ((bytesOf (l.take (k + 1)) : Int) = (bytesOf (l.take k) : Int) + ((l.getD k default).data.size : Int)) := by unfold Hid; rw [EB]; omega
      clear hc0 hc2 EB
      generalize (l.getD k default).data = x at *
      generalize bytesOf (l.take k) = y at *
      go_wp2
      go_round
      case rel => exact ⟨k + 1, by omega, by go_num, by rw [EI.out]⟩
      case measure => simp [intOf]; omega
    · obtain rfl : k = n := by omega
      go_wp2
      go_ret
      exact ⟨by rw [← hN, List.take_length]; rfl, B0.out⟩
end Go.Proofs.YtnnfnhpehacelaaGreat
