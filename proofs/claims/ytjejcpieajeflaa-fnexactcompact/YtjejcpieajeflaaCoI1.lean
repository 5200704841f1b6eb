/-
  Contracts of impl's small functions on cores: isWithin, lastNumber, wal, isMajority, slices.Contains.
-/
import Derived.Test.YtjejcpieajeflaaRows
import Derived.Test.YtjejcpieajeflaaCoRes
import Derived.Test.YtjejcpieajeflaaWokImpl
import Derived.Test.YtjejcpieajeflaaUntilF
import Derived.Deep.Cut
import Derived.Handy
namespace Go.Proofs.Ytjejcpieajeflaa
open Go.ChangeShapes Go.WideShapes Go.ChangeAt Go.RowKit Go.PlainAid
set_option linter.unusedVariables false

theorem cellsC13 {w : World} {g : Nat} {a0 a1 a2 a3 a4 a5 a6 a7 a8 a9 a10 a11 a12 : Value} {t : TypeId} (h : Blk w g #[a0, a1, a2, a3, a4, a5, a6, a7, a8, a9, a10, a11, a12] t) : w.cell? ⟨g, 0, none⟩ = some a0 ∧ w.cell? ⟨g, 1, none⟩ = some a1 ∧ w.cell? ⟨g, 2, none⟩ = some a2 ∧ w.cell? ⟨g, 3, none⟩ = some a3 ∧ w.cell? ⟨g, 4, none⟩ = some a4 ∧ w.cell? ⟨g, 5, none⟩ = some a5 ∧ w.cell? ⟨g, 6, none⟩ = some a6 ∧ w.cell? ⟨g, 7, none⟩ = some a7 ∧ w.cell? ⟨g, 8, none⟩ = some a8 ∧ w.cell? ⟨g, 9, none⟩ = some a9 ∧ w.cell? ⟨g, 10, none⟩ = some a10 ∧ w.cell? ⟨g, 11, none⟩ = some a11 ∧ w.cell? ⟨g, 12, none⟩ = some a12 := ⟨h.cell 0 _ rfl, h.cell 1 _ rfl, h.cell 2 _ rfl, h.cell 3 _ rfl, h.cell 4 _ rfl, h.cell 5 _ rfl, h.cell 6 _ rfl, h.cell 7 _ rfl, h.cell 8 _ rfl, h.cell 9 _ rfl, h.cell 10 _ rfl, h.cell 11 _ rfl, h.cell 12 _ rfl⟩
set_option maxHeartbeats 400000 in
theorem inW (x lo hi : Int) (w : World) : Calls Try.prog 46 #[.int .i64 x, .int .i64 lo, .int .i64 hi] w fun e w' => e = .returned (.bool (inIt x lo hi)) ∧ w = w' := by
  by_cases h1 : lo ≤ x
  · go_enter Try.func46, Try.ntmps46
    go_wp2
    go_ret
    exact ⟨by simp [inIt, h1], rfl⟩
  · have z : decide (lo ≤ x) = false := decide_eq_false h1
    have z2 : x < lo := by omega
    go_enter Try.func46, Try.ntmps46
    go_wp2
    go_ret
    exact ⟨by unfold inIt; rw [z]; rfl, rfl⟩
set_option maxHeartbeats 1000000 in
theorem lastI (ci cp ct cv cr cd cb cbt : Int) (cc : Int) (A0 : Option Addr) (n0 c0 : Nat) (u1 u2 u3 : Value) (w : World) (h0 : 0 ≤ cb) (h1 : cb ≤ 200000) (hn : n0 ≤ 1048576) : Calls Try.prog 49 #[.agg #[.int .i64 ci, .int .i64 cp, .int .i64 ct, .int .i64 cv, .int .i64 cr, .int .i64 cd, .int .i64 cb, .int .i64 cbt, .slice A0 n0 c0, .int .i64 cc, u1, u2, u3]] w fun e w' => e = .returned (.int .i64 (cb + (n0 : Int))) ∧ Below w.heap.size w w' := by
  have w1 : IntKind.i64.wrap (cb + (n0 : Int)) = cb + (n0 : Int) := by rw [IntKind.wrap_i64]; omega
  have q : (n0 : Int) ≤ 1048576 := by omega
  go_enter Try.func49, Try.ntmps49
  go_wp2
  go_ret
  exact ⟨rfl, (Below.refl _ _).alloc (Nat.le_refl _) _⟩
set_option maxHeartbeats 1000000 in
theorem walI (ci cp ct cv cr cd cb cbt : Int) (cc : Int) (A0 : Option Addr) (n0 c0 : Nat) (u1 u2 u3 : Value) (w : World) : Calls Try.prog 48 #[.agg #[.int .i64 ci, .int .i64 cp, .int .i64 ct, .int .i64 cv, .int .i64 cr, .int .i64 cd, .int .i64 cb, .int .i64 cbt, .slice A0 n0 c0, .int .i64 cc, u1, u2, u3]] w fun e w' => e = .returned (.agg #[.int .i64 ct, .int .i64 cv, .int .i64 cb, .int .i64 cbt, .slice A0 n0 c0]) ∧ Below w.heap.size w w' := by
  have HB : ∀ a b, Hid (Below w.heap.size w ((w.alloc a).alloc b)) := fun a b => ((Below.refl _ _).alloc (Nat.le_refl _) _).alloc (by simp) _
  go_enter Try.func48, Try.ntmps48
  go_wp2_with fail
  exact bodyPost_ret (v := .agg #[.int .i64 ct, .int .i64 cv, .int .i64 cb, .int .i64 cbt, .slice A0 n0 c0]) (by simp [results, go_sem]) rfl ⟨rfl, (HB _ _).out⟩
set_option maxHeartbeats 1000000 in
theorem majI (ci cp ct cv cr cd cb cbt : Int) (cc : Int) (m : Int) (u0 u1 u2 u3 : Value) (w : World) (h0 : 0 ≤ m) (h1 : m ≤ 1048576) : Calls Try.prog 88 #[.agg #[.int .i64 ci, .int .i64 cp, .int .i64 ct, .int .i64 cv, .int .i64 cr, .int .i64 cd, .int .i64 cb, .int .i64 cbt, u0, .int .i64 cc, u1, u2, u3], .int .i64 m] w fun e w' => e = .returned (.bool (decide (cp < 2 * m))) ∧ Below w.heap.size w w' := by
  have w1 : IntKind.i64.wrap (2 * m) = 2 * m := by rw [IntKind.wrap_i64]; omega
  go_enter Try.func88, Try.ntmps88
  go_wp2
  go_ret
  exact ⟨rfl, (Below.refl _ _).alloc (Nat.le_refl _) _⟩
set_option maxHeartbeats 2000000 in
theorem indexI (l : List Int) (v : Value) (x : Int) (w : World) (B : Nat) (hv : NumsV w B v l) (hn : l.length ≤ 1048576) : Calls Try.prog 107 #[v, .int .i64 x] w fun e w' => (∃ r : Int, e = .returned (.int .i64 r) ∧ Hid ((0 ≤ r ∧ x ∈ l) ∨ (r = -1 ∧ x ∉ l))) ∧ w = w' := by
  obtain ⟨A, cap, rfl, _, _, hc⟩ := hv
  have HC : Hid (∀ j, j < l.length → ∃ g off, A = some ⟨g, off, none⟩ ∧ g < B ∧ w.cell? ⟨g, off + j, none⟩ = some (.int .i64 (l.getD j 0))) := hc
  have HMem : Hid (∀ j, j < l.length → l.getD j 0 ∈ l) := fun j hj => by rw [List.getD_eq_getElem?_getD, List.getElem?_eq_getElem hj]; exact List.getElem_mem hj
  have HAll : Hid ((∀ j, j < l.length → l.getD j 0 ≠ x) → x ∉ l) := fun h hm => by
    obtain ⟨j, hj, e⟩ := List.getElem_of_mem hm
    exact h j hj (by rw [List.getD_eq_getElem?_getD, List.getElem?_eq_getElem hj]; exact e)
  have q1 : (l.length : Int) ≤ 1048576 := by omega
  clear hc
  generalize hN : l.length = n at *
  clear hN
  go_enter Try.func107, Try.ntmps107
  go_wp2_with fail
  go_loopw [5, 8] (fun v5 v8 wr => ∃ k : Nat, k ≤ n ∧ v8 = .int .i64 (k : Int) ∧ w = wr ∧ Hid (∀ j, j < k → l.getD j 0 ≠ x)) (fun _ v _ => n - (intOf v).toNat)
  case atStart => exact ⟨0, by omega, rfl, rfl, fun j hj => by omega⟩
  case round =>
    obtain ⟨k, hk, rfl, rfl, HR⟩ := hrel
    by_cases hlt : k < n
    · have q2 : (k : Int) < (n : Int) := by omega
      obtain ⟨g, off, rfl, hg, d0⟩ := HC.out k hlt
      have HM : Hid (l.getD k 0 ∈ l) := HMem.out k hlt
      have HNx : Hid (∀ j, j < k + 1 → j = k ∨ l.getD j 0 ≠ x) := fun j hj => by
        by_cases h : j = k
        · exact .inl h
        · exact .inr (HR.out j (by omega))
      have HGk : Hid (∀ y : Int, l.getD k 0 = y → y ≠ x → l.getD k 0 ≠ x) := fun y h1 h2 => by rw [h1]; exact h2
      generalize hy : l.getD k 0 = y at *
      by_cases he : x = y
      · subst he
        go_wp2_with fail
        go_ret
        exact ⟨⟨_, rfl, .inl ⟨by omega, HM.out⟩⟩, rfl⟩
      · have e1 : (x == y) = false := beq_eq_false_iff_ne.2 he
        have HNy : Hid (¬ y = x) := fun h => he h.symm
        have HY : Hid (l.getD k 0 = y) := hy
        clear hy he
        go_wp2_with fail
        go_roundw
        case rel => exact ⟨k + 1, by omega, by go_num, by trivial, fun j hj => (HNx.out j hj).elim (fun h => by rw [h, HY.out]; exact HNy.out) id⟩
        case measure => simp [intOf]; omega
    · obtain rfl : k = n := by omega
      have HF : Hid (x ∉ l) := HAll.out HR.out
      go_wp2_with fail
      go_ret
      exact ⟨⟨_, rfl, .inr ⟨rfl, HF.out⟩⟩, rfl⟩
set_option maxHeartbeats 1000000 in
theorem hasI (l : List Int) (v : Value) (x : Int) (w : World) (B : Nat) (hv : NumsV w B v l) (hn : l.length ≤ 1048576) : Calls Try.prog 98 #[v, .int .i64 x] w fun e w' => e = .returned (.bool (decide (x ∈ l))) ∧ w = w' := by
  have c := indexI l v x w B hv hn
  obtain ⟨A, cap, rfl, _⟩ := hv
  go_enter Try.func98, Try.ntmps98
  go_wp2_with fail
  refine c.mono ?_
  rintro e w' ⟨⟨r, rfl, HR⟩, rfl⟩
  rcases HR.out with ⟨h1, h2⟩ | ⟨rfl, h2⟩
  · have e1 : decide (0 ≤ r) = true := decide_eq_true h1
    have HM : Hid (x ∈ l) := h2
    clear h2
    go_wp2_with fail
    go_ret
    exact ⟨by rw [decide_eq_true HM.out]; rfl, rfl⟩
  · have HM : Hid (x ∉ l) := h2
    clear h2
    go_wp2_with fail
    go_ret
    exact ⟨by rw [decide_eq_false HM.out]; rfl, rfl⟩
end Go.Proofs.Ytjejcpieajeflaa
