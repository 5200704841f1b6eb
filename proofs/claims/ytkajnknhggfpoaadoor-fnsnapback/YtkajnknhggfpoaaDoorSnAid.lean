/-
  Snapshots as plain data, and what the document's words on them come to; contracts of the laws' copies, sizes and comparison of them.
-/
import Derived.Test.YtkajnknhggfpoaaDoorRows
import Derived.Test.YtkajnknhggfpoaaDoorAid
import Derived.WalkKit
import Derived.ProofKit
import Derived.OpenShut
import Derived.Below
import Derived.WalkSmall
import Derived.WalkLawsBesides
import Derived.Outline
import Derived.BigQuiet
import Derived.Deep.QuietTactic
import Derived.Handy
namespace Go.Proofs.YtkajnknhggfpoaaDoor
open Go.ChangeShapes Go.WideShapes Go.ChangeAt Go.RowKit Go.PlainAid
set_option linter.unusedVariables false

structure Snp where
  index : Int
  term : Int
  data : ByteArray
/-- Is the number in these bounds? -/
def inIt (x lo hi : Int) : Bool := decide (lo ≤ x) && decide (x ≤ hi)
/-- A right snapshot, or the zero one. -/
def snapOk (x : Snp) : Bool := if x.index = 0 then decide (x.term = 0) && decide (x.data = ByteArray.empty) else inIt x.index 1 100000 && inIt x.term 1 100000 && decide (x.data.size ≤ 30000)
def vSnp (x : Snp) : Value := .agg #[.int .i64 x.index, .int .i64 x.term, .string x.data]
/-- Block g holds these cells. -/
def Cell3 (w : World) (g : Nat) (x : Snp) : Prop := w.cell? ⟨g, 0, none⟩ = some (.int .i64 x.index) ∧ w.cell? ⟨g, 1, none⟩ = some (.int .i64 x.term) ∧ w.cell? ⟨g, 2, none⟩ = some (.string x.data) ∧ g < w.heap.size
theorem Cell3.on {w w' : World} {B g : Nat} {x : Snp} (h : Cell3 w g x) (hb : Below B w w') (hg : g < B) (hs : B ≤ w.heap.size) : Cell3 w' g x := by
  obtain ⟨a, b, c, d⟩ := h
  refine ⟨?_, ?_, ?_, Nat.lt_of_lt_of_le d ?_⟩
  · rw [hb.cell (p := ⟨_, _, none⟩) hg]; exact a
  · rw [hb.cell (p := ⟨_, _, none⟩) hg]; exact b
  · rw [hb.cell (p := ⟨_, _, none⟩) hg]; exact c
  · exact hb.size
theorem Cell3.new (w : World) (x : Snp) (t : TypeId) : Cell3 (w.alloc (.cells #[.int .i64 x.index, .int .i64 x.term, .string x.data] t)) w.heap.size x := by
  have h : (w.alloc (.cells #[.int .i64 x.index, .int .i64 x.term, .string x.data] t)).heap[w.heap.size]? = some (.cells #[.int .i64 x.index, .int .i64 x.term, .string x.data] t (0, 0)) := heap_alloc_new w _
  refine ⟨?_, ?_, ?_, by simp⟩
  · rw [cell_of_row _ _ 0 _ t (0, 0) h]; rfl
  · rw [cell_of_row _ _ 1 _ t (0, 0) h]; rfl
  · rw [cell_of_row _ _ 2 _ t (0, 0) h]; rfl
theorem below_one (w : World) (a : Obj) : Below w.heap.size w (w.alloc a) := (Below.refl _ w).alloc (Nat.le_refl _) a
theorem below_two (w : World) (a b : Obj) : Below w.heap.size w ((w.alloc a).alloc b) := ((Below.refl _ w).alloc (Nat.le_refl _) a).alloc (by simp) b
theorem below_three (w : World) (a b c : Obj) : Below w.heap.size w (((w.alloc a).alloc b).alloc c) := (((Below.refl _ w).alloc (Nat.le_refl _) a).alloc (by simp) b).alloc (by simp; omega) c

set_option maxHeartbeats 400000 in
theorem szSnap (x : Snp) (left : Int) (w : World) (h0 : 0 ≤ left) (h1 : left ≤ 1048576) (hx : x.data.size ≤ maxLen) :
    Calls Tryd.prog 12 #[vSnp x, .int .i64 left] w fun e w' => (∃ r, e = .returned (.int .i64 r) ∧ Hid (r = -1 ∨ 0 ≤ r ∧ r + (x.data.size : Int) = left)) ∧ Below w.heap.size w w' := by
  unfold maxLen at hx
  unfold vSnp
  obtain ⟨xindex, xterm, xdata⟩ := x
  simp only at hx ⊢
  generalize hn : xdata.size = n at *
  have q1 : (n : Int) ≤ 9223372036854775807 := by omega
  have w2 : wrap64 (left - (n : Int)) = left - (n : Int) := by unfold wrap64; omega
  by_cases hl : left < (n : Int)
  · have HL : Hid (left < (n : Int)) := hl
    have q2 : left - (n : Int) < 0 := by omega
    go_enter Tryd.func12, Tryd.ntmps12
    go_wp2
    go_ret
    exact ⟨⟨_, rfl, .inl rfl⟩, (Below.refl _ _).alloc (Nat.le_refl _) _⟩
  · have HL : Hid ((n : Int) ≤ left) := by unfold Hid; omega
    have q2 : 0 ≤ left - (n : Int) := by omega
    have q3 : decide (left - (n : Int) < 0) = false := decide_eq_false (by omega)
    go_enter Tryd.func12, Tryd.ntmps12
    go_wp2
    go_ret
    exact ⟨⟨_, rfl, .inr ⟨by have := HL.out; omega, by omega⟩⟩, (Below.refl _ _).alloc (Nat.le_refl _) _⟩
set_option maxHeartbeats 400000 in
theorem toSnap (x : Snp) (w : World) : Calls Tryd.prog 14 #[vSnp x] w fun e w' => e = .returned (vSnp x) ∧ Below w.heap.size w w' := by
  unfold vSnp
  go_enter Tryd.func14, Tryd.ntmps14
  go_wp2
  exact bodyPost_ret (v := .agg #[.int .i64 x.index, .int .i64 x.term, .string x.data]) (by simp [results, go_sem]) rfl ⟨rfl, below_three _ _ _ _⟩
theorem toList_beq (a b : ByteArray) : (a.toList == b.toList) = decide (a = b) := by
  rw [Lib.toList_data, Lib.toList_data]
  by_cases h : a = b
  · subst h
    simp
  · rw [decide_eq_false h, beq_eq_false_iff_ne]
    intro e
    exact h (ByteArray.ext (Array.toList_inj.1 e))
theorem empty_beq (d : ByteArray) : d.toList.isEmpty = decide (d = ByteArray.empty) := by
  have h := toList_beq d ByteArray.empty
  rw [← h]
  have : ByteArray.empty.toList = [] := by rw [Lib.toList_data]; rfl
  rw [this]
  cases d.toList <;> rfl
set_option maxHeartbeats 400000 in
theorem inB (x lo hi : Int) (w : World) : Calls Tryd.prog 35 #[.int .i64 x, .int .i64 lo, .int .i64 hi] w fun e w' => e = .returned (.bool (inIt x lo hi)) ∧ w = w' := by
  by_cases h1 : lo ≤ x
  · go_enter Tryd.func35, Tryd.ntmps35
    go_wp2
    go_ret
    exact ⟨by simp [inIt, h1], rfl⟩
  · have z : decide (lo ≤ x) = false := decide_eq_false h1
    have z2 : x < lo := by omega
    go_enter Tryd.func35, Tryd.ntmps35
    go_wp2
    go_ret
    exact ⟨by unfold inIt; rw [z]; rfl, rfl⟩

set_option maxHeartbeats 2000000 in
theorem specSnapOk (x : Snp) (w : World) (hd : x.data.size ≤ maxLen) : Calls Tryd.prog 11 #[vSnp x] w fun e w' => e = .returned (.bool (snapOk x)) ∧ Below w.heap.size w w' := by
  obtain ⟨i, t, d⟩ := x
  unfold vSnp
  simp only at hd ⊢
  have HB : Hid (Below w.heap.size w (w.alloc (.cells #[.int .i64 i, .int .i64 t, .string d] 25))) := below_one _ _
  have HE : Hid (snapOk ⟨i, t, d⟩ = if i = 0 then decide (t = 0) && decide (d = ByteArray.empty) else inIt i 1 100000 && inIt t 1 100000 && decide (d.size ≤ 30000)) := rfl
  by_cases h1 : i = 0
  · subst h1
    rw [if_pos rfl] at HE
    by_cases h2 : t = 0
    · subst h2
      rw [decide_eq_true rfl] at HE
      have hb := empty_beq d
      cases h3 : decide (d = ByteArray.empty) <;> rw [h3] at hb HE <;> clear h3
      · go_enter Tryd.func11, Tryd.ntmps11
        go_wp2_with fail
        go_ret
        exact ⟨by rw [HE.out]; rfl, HB.out⟩
      · go_enter Tryd.func11, Tryd.ntmps11
        go_wp2_with fail
        go_ret
        exact ⟨by rw [HE.out]; rfl, HB.out⟩
    · rw [decide_eq_false h2] at HE
      have z : (t == 0) = false := by simpa using h2
      go_enter Tryd.func11, Tryd.ntmps11
      go_wp2_with fail
      go_ret
      exact ⟨by rw [HE.out]; rfl, HB.out⟩
  · rw [if_neg h1] at HE
    have z : (i == 0) = false := by simpa using h1
    have a1 := inB i 1 100000
    have a2 := inB t 1 100000
    cases h2 : inIt i 1 100000 <;> rw [h2] at a1 HE <;> clear h2
    · clear h1
      go_enter Tryd.func11, Tryd.ntmps11
      go_wp2_with fail
      refine (a1 _).mono ?_
      rintro e w' ⟨rfl, rfl⟩
      go_wp2_with fail
      go_ret
      exact ⟨by rw [HE.out]; rfl, HB.out⟩
    cases h3 : inIt t 1 100000 <;> rw [h3] at a2 HE <;> clear h3
    · clear h1
      go_enter Tryd.func11, Tryd.ntmps11
      go_wp2_with fail
      refine (a1 _).mono ?_
      rintro e w' ⟨rfl, rfl⟩
      go_wp2_with fail
      refine (a2 _).mono ?_
      rintro e w' ⟨rfl, rfl⟩
      go_wp2_with fail
      go_ret
      exact ⟨by rw [HE.out]; rfl, HB.out⟩
    · clear h1
      have hdi : (d.size : Int) ≤ 9223372036854775807 := by unfold maxLen at hd; omega
      have hq : decide ((d.size : Int) ≤ 30000) = decide (d.size ≤ 30000) := by
        by_cases h : d.size ≤ 30000
        · rw [decide_eq_true h, decide_eq_true (by omega)]
        · rw [decide_eq_false h, decide_eq_false (by omega)]
      go_enter Tryd.func11, Tryd.ntmps11
      go_wp2_with fail
      refine (a1 _).mono ?_
      rintro e w' ⟨rfl, rfl⟩
      go_wp2_with fail
      refine (a2 _).mono ?_
      rintro e w' ⟨rfl, rfl⟩
      go_wp2_with fail
      go_ret
      exact ⟨by rw [HE.out, ← hq]; rfl, HB.out⟩
end Go.Proofs.YtkajnknhggfpoaaDoor
