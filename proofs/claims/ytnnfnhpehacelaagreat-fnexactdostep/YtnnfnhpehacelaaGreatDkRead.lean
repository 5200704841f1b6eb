/-
  Contracts of the specification's own looks at disks: l1In, l4Name, l4At, l4Linked, l4Made, l4Inode, l4Bytes.
-/
import Derived.Test.YtnnfnhpehacelaaGreatRows
import Derived.Test.YtnnfnhpehacelaaGreatDkBlk
import Derived.WalkKit
import Derived.ProofKit
import Derived.OpenShut
import Derived.Below
import Derived.WalkSmall
import Derived.WalkLawsBesides
import Derived.Outline
import Derived.BigQuiet
import Derived.Deep.QuietTactic
namespace Go.Proofs.YtnnfnhpehacelaaGreat
open Go.ChangeShapes Go.WideShapes Go.ChangeAt Go.RowKit Go.PlainAid
set_option linter.unusedVariables false

/-! ### Finding -/
theorem find_some {α : Type} [Inhabited α] (p : α → Bool) (l : List α) (k : Nat) (hk : k < l.length) (h : ∀ j, j < k → p (l.getD j default) = false) (hp : p (l.getD k default) = true) : l.findIdx? p = some k := by
  rw [List.findIdx?_eq_some_iff_getElem]
  refine ⟨hk, by rw [getD_at l k hk]; exact hp, fun j hj => ?_⟩
  rw [getD_at l j (by omega), h j hj]
  exact Bool.false_ne_true
theorem find_none {α : Type} [Inhabited α] (p : α → Bool) (l : List α) (h : ∀ j, j < l.length → p (l.getD j default) = false) : l.findIdx? p = none := by
  rw [List.findIdx?_eq_none_iff]
  intro x hx
  obtain ⟨j, hj, rfl⟩ := List.getElem_of_mem hx
  rw [getD_at l j hj]
  exact h j hj
theorem any_yes {α : Type} [Inhabited α] (p : α → Bool) (l : List α) (k : Nat) (hk : k < l.length) (hp : p (l.getD k default) = true) : l.any p = true := List.any_eq_true.2 ⟨_, getD_mem l k hk, hp⟩
theorem any_no {α : Type} [Inhabited α] (p : α → Bool) (l : List α) (h : ∀ j, j < l.length → p (l.getD j default) = false) : l.any p = false := by
  rw [List.any_eq_false]
  intro x hx
  obtain ⟨j, hj, rfl⟩ := List.getElem_of_mem hx
  rw [getD_at l j hj, h j hj]
  exact Bool.false_ne_true
theorem toList_beq (a b : ByteArray) : (a.toList == b.toList) = decide (a = b) := by
  rw [Lib.toList_data, Lib.toList_data]
  by_cases h : a = b
  · subst h
    simp
  · rw [decide_eq_false h, beq_eq_false_iff_ne]
    intro e
    exact h (ByteArray.ext (Array.toList_inj.1 e))
theorem less_succ {p : Nat → Prop} {k : Nat} (h : ∀ j, j < k → p j) (hk : p k) : ∀ j, j < k + 1 → p j := fun j hj => by
  rcases Nat.lt_succ_iff_lt_or_eq.1 hj with h' | rfl
  · exact h j h'
  · exact hk
/-- A place, or -1. -/
def idxV : Option Nat → Int
  | some i => (i : Int)
  | none => -1

set_option maxHeartbeats 400000 in
theorem inB (x lo hi : Int) (w : World) : Calls Tryz.prog 41 #[.int .i64 x, .int .i64 lo, .int .i64 hi] w fun e w' => e = .returned (.bool (decide (lo ≤ x) && decide (x ≤ hi))) ∧ w = w' := by
  by_cases h1 : lo ≤ x
  · go_enter Tryz.func41, Tryz.ntmps41
    go_wp2
    go_ret
    exact ⟨by simp [h1], rfl⟩
  · have z : decide (lo ≤ x) = false := decide_eq_false h1
    have z2 : x < lo := by omega
    go_enter Tryz.func41, Tryz.ntmps41
    go_wp2
    go_ret
    exact ⟨rfl, rfl⟩

set_option maxHeartbeats 400000 in
theorem linkedV (l : List Lnk) (v : Value) (id : Int) (w : World) (B : Nat) (hv : Lies w B 2 v (lnkR l)) (hn : l.length ≤ 1048576) :
    Calls Tryz.prog 43 #[v, .int .i64 id] w fun e w' => e = .returned (.bool (linked l id)) ∧ w = w' := by
  obtain ⟨A, cap, rfl, hl⟩ := lnk_look hv
  have HL : Hid (∀ j, j < l.length → ∃ g off, A = some ⟨g, off, none⟩ ∧ g < B ∧ _) := hl
  clear hl hv
  have q1 : (l.length : Int) ≤ 1048576 := by omega
  generalize hN : l.length = n at *
  go_enter Tryz.func43, Tryz.ntmps43
  go_wp2
  go_loop [5] (fun v5 => ∃ k : Nat, k ≤ n ∧ v5 = .int .i64 (k : Int) ∧ ∀ j, j < k → ¬ (l.getD j default).id = id) (fun i => n - (intOf i).toNat)
  case atStart => exact ⟨0, by omega, rfl, fun j hj => by omega⟩
  case round =>
    obtain ⟨k, hk, rfl, hno⟩ := hrel
    have HN : Hid (∀ j, j < k → ¬ (l.getD j default).id = id) := hno
    clear hno
    by_cases hlt : k < n
    · have q4 : (k : Int) < (n : Int) := by omega
      obtain ⟨g, off, rfl, hg, hc0, hc1⟩ := HL.out k hlt
      by_cases he : (l.getD k default).id = id
      · have HY : Hid (linked l id = true) := any_yes _ _ k (by omega) (decide_eq_true he)
        rw [he] at hc1
        go_wp2
        go_ret
        exact ⟨by rw [HY.out]; rfl, rfl⟩
      · have z : ((l.getD k default).id == id) = false := by simpa using he
        have HE : Hid (∀ j, j < k + 1 → ¬ (l.getD j default).id = id) := less_succ HN.out he
        clear he
        generalize (l.getD k default).id = x at *
        go_wp2
        go_round
        case rel => exact ⟨k + 1, by omega, by go_num, HE.out⟩
        case measure => simp [intOf]; omega
    · obtain rfl : k = n := by omega
      have HY : Hid (linked l id = false) := any_no _ _ fun j hj => decide_eq_false (HN.out j (by omega))
      go_wp2
      go_ret
      exact ⟨by rw [HY.out]; rfl, rfl⟩

set_option maxHeartbeats 400000 in
theorem madeV (l : List Mov) (v : Value) (id : Int) (w : World) (B : Nat) (hv : Lies w B 4 v (movR l)) (hn : l.length ≤ 1048576) :
    Calls Tryz.prog 44 #[v, .int .i64 id] w fun e w' => e = .returned (.bool (made l id)) ∧ w = w' := by
  obtain ⟨A, cap, rfl, hl⟩ := mov_look hv
  have HL : Hid (∀ j, j < l.length → ∃ g off, A = some ⟨g, off, none⟩ ∧ g < B ∧ _) := hl
  clear hl hv
  have q1 : (l.length : Int) ≤ 1048576 := by omega
  generalize hN : l.length = n at *
  go_enter Tryz.func44, Tryz.ntmps44
  go_wp2
  go_loop [5] (fun v5 => ∃ k : Nat, k ≤ n ∧ v5 = .int .i64 (k : Int) ∧ ∀ j, j < k → ¬ ((l.getD j default).kind = 1 ∧ (l.getD j default).id = id)) (fun i => n - (intOf i).toNat)
  case atStart => exact ⟨0, by omega, rfl, fun j hj => by omega⟩
  case round =>
    obtain ⟨k, hk, rfl, hno⟩ := hrel
    have HN : Hid (∀ j, j < k → ¬ ((l.getD j default).kind = 1 ∧ (l.getD j default).id = id)) := hno
    clear hno
    by_cases hlt : k < n
    · have q4 : (k : Int) < (n : Int) := by omega
      obtain ⟨g, off, rfl, hg, hc0, hc1, hc2, hc3⟩ := HL.out k hlt
      by_cases h1 : (l.getD k default).kind = 1
      · by_cases he : (l.getD k default).id = id
        · have HY : Hid (made l id = true) := any_yes _ _ k (by omega) (by rw [decide_eq_true h1, decide_eq_true he]; rfl)
          rw [he] at hc3
          rw [h1] at hc0
          go_wp2
          go_ret
          exact ⟨by rw [HY.out]; rfl, rfl⟩
        · have z : ((l.getD k default).id == id) = false := by simpa using he
          have HE : Hid (∀ j, j < k + 1 → ¬ ((l.getD j default).kind = 1 ∧ (l.getD j default).id = id)) := less_succ HN.out fun h => he h.2
          rw [h1] at hc0
          clear he h1
          generalize (l.getD k default).id = x at *
          go_wp2
          go_round
          case rel => exact ⟨k + 1, by omega, by go_num, HE.out⟩
          case measure => simp [intOf]; omega
      · have z : ((l.getD k default).kind == 1) = false := by simpa using h1
        have HE : Hid (∀ j, j < k + 1 → ¬ ((l.getD j default).kind = 1 ∧ (l.getD j default).id = id)) := less_succ HN.out fun h => h1 h.1
        clear h1
        generalize (l.getD k default).kind = y at *
        generalize (l.getD k default).id = x at *
        go_wp2
        go_round
        case rel => exact ⟨k + 1, by omega, by go_num, HE.out⟩
        case measure => simp [intOf]; omega
    · obtain rfl : k = n := by omega
      have HY : Hid (made l id = false) := any_no _ _ fun j hj => by
        have := HN.out j (by omega)
        by_cases h1 : (l.getD j default).kind = 1
        · rw [decide_eq_true h1, decide_eq_false (fun h => this ⟨h1, h⟩)]; rfl
        · rw [decide_eq_false h1]; rfl
      go_wp2
      go_ret
      exact ⟨by rw [HY.out]; rfl, rfl⟩

set_option maxHeartbeats 400000 in
theorem atV4 (l : List Lnk) (v : Value) (name : ByteArray) (w : World) (B : Nat) (hv : Lies w B 2 v (lnkR l)) (hn : l.length ≤ 1048576) :
    Calls Tryz.prog 75 #[v, .string name] w fun e w' => e = .returned (.int .i64 (idxV (linkAt l name))) ∧ w = w' := by
  obtain ⟨A, cap, rfl, hl⟩ := lnk_look hv
  have HL : Hid (∀ j, j < l.length → ∃ g off, A = some ⟨g, off, none⟩ ∧ g < B ∧ _) := hl
  clear hl hv
  have q1 : (l.length : Int) ≤ 1048576 := by omega
  generalize hN : l.length = n at *
  go_enter Tryz.func75, Tryz.ntmps75
  go_wp2
  go_loop [5] (fun v5 => ∃ k : Nat, k ≤ n ∧ v5 = .int .i64 (k : Int) ∧ ∀ j, j < k → ¬ (l.getD j default).name = name) (fun i => n - (intOf i).toNat)
  case atStart => exact ⟨0, by omega, rfl, fun j hj => by omega⟩
  case round =>
    obtain ⟨k, hk, rfl, hno⟩ := hrel
    have HN : Hid (∀ j, j < k → ¬ (l.getD j default).name = name) := hno
    clear hno
    by_cases hlt : k < n
    · have q4 : (k : Int) < (n : Int) := by omega
      obtain ⟨g, off, rfl, hg, hc0, hc1⟩ := HL.out k hlt
      have hb := toList_beq (l.getD k default).name name
      by_cases he : (l.getD k default).name = name
      · have HY : Hid (linkAt l name = some k) := find_some _ _ k (by omega) (fun j hj => decide_eq_false (HN.out j hj)) (decide_eq_true he)
        rw [decide_eq_true he] at hb
        clear he
        generalize (l.getD k default).name = x at *
        go_wp2
        go_ret
        exact ⟨by rw [HY.out]; rfl, rfl⟩
      · rw [decide_eq_false he] at hb
        have HE : Hid (∀ j, j < k + 1 → ¬ (l.getD j default).name = name) := less_succ HN.out he
        clear he
        generalize (l.getD k default).name = x at *
        go_wp2
        go_round
        case rel => exact ⟨k + 1, by omega, by go_num, HE.out⟩
        case measure => simp [intOf]; omega
    · obtain rfl : k = n := by omega
      have HY : Hid (linkAt l name = none) := find_none _ _ fun j hj => decide_eq_false (HN.out j (by omega))
      go_wp2
      go_ret
      exact ⟨by rw [HY.out]; rfl, rfl⟩

set_option maxHeartbeats 1000000 in
theorem inodeV (d : Dsk) (v : Value) (id : Int) (w : World) (B : Nat) (hv : DiskV w B v d) (hn : d.nods.length ≤ 1048576) (hB : B ≤ w.heap.size) :
    Calls Tryz.prog 46 #[v, .int .i64 id] w fun e w' => e = .returned (.int .i64 (idxV (nodAt d.nods id))) ∧ Below w.heap.size w w' := by
  obtain ⟨v1, v2, v3, rfl, h1, h2, h3⟩ := hv
  obtain ⟨A, cap, rfl, hl⟩ := nod_look h1
  have HL : Hid (∀ j, j < d.nods.length → ∃ g off, A = some ⟨g, off, none⟩ ∧ g < B ∧ _) := hl
  have HB : Hid (B ≤ w.heap.size) := hB
  clear hl h1 h2 h3 hB
  have q1 : (d.nods.length : Int) ≤ 1048576 := by omega
  generalize hll : d.nods = l at *
  generalize hN : l.length = n at *
  go_enter Tryz.func46, Tryz.ntmps46
  go_wp2
  have hb0 : Below w.heap.size w (w.alloc (.cells #[.int .i64 d.room, .int .i64 d.next, .slice A n cap, v2, v3] 35)) := (Below.refl _ _).alloc (Nat.le_refl _) _
  have e0 := (Blk.new w #[.int .i64 d.room, .int .i64 d.next, .slice A n cap, v2, v3] 35).cell 2 _ rfl
  generalize w.alloc (.cells #[.int .i64 d.room, .int .i64 d.next, .slice A n cap, v2, v3] 35) = W at *
  have B0 : Hid (Below w.heap.size w W) := hb0
  clear hb0
  have e1 : W.cell? ⟨w.heap.size, 2, none⟩ = some (.slice A n cap) := e0
  clear e0
  go_loop [5] (fun v5 => ∃ k : Nat, k ≤ n ∧ v5 = .int .i64 (k : Int) ∧ ∀ j, j < k → ¬ (l.getD j default).id = id) (fun i => n - (intOf i).toNat)
  case atStart => exact ⟨0, by omega, rfl, fun j hj => by omega⟩
  case round =>
    obtain ⟨k, hk, rfl, hno⟩ := hrel
    have HN : Hid (∀ j, j < k → ¬ (l.getD j default).id = id) := hno
    clear hno
    by_cases hlt : k < n
    · have q4 : (k : Int) < (n : Int) := by omega
      obtain ⟨g, off, rfl, hg, hc0, hc1, hc2⟩ := HL.out k hlt
      have hgw : g < w.heap.size := Nat.lt_of_lt_of_le hg HB.out
      rw [← B0.out.cell (p := ⟨_, _, none⟩) hgw] at hc0
      clear hc1 hc2
      by_cases he : (l.getD k default).id = id
      · have HY : Hid (nodAt l id = some k) := find_some _ _ k (by omega) (fun j hj => decide_eq_false (HN.out j hj)) (decide_eq_true he)
        rw [he] at hc0
        go_wp2
        go_ret
        exact ⟨by rw [HY.out]; rfl, B0.out⟩
      · have z : ((l.getD k default).id == id) = false := by simpa using he
        have HE : Hid (∀ j, j < k + 1 → ¬ (l.getD j default).id = id) := less_succ HN.out he
        clear he
        generalize (l.getD k default).id = x at *
        go_wp2
        go_round
        case rel => exact ⟨k + 1, by omega, by go_num, HE.out⟩
        case measure => simp [intOf]; omega
    · obtain rfl : k = n := by omega
      have HY : Hid (nodAt l id = none) := find_none _ _ fun j hj => decide_eq_false (HN.out j (by omega))
      go_wp2
      go_ret
      exact ⟨by rw [HY.out]; rfl, B0.out⟩
end Go.Proofs.YtnnfnhpehacelaaGreat
