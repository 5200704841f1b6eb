/-
  Answers as plain data, and what the document's words on them come to; contracts of the laws' copies and sizes, and of AnswerOk of both packages.
-/
import Derived.Test.YtaaefceknjhloaaRows
import Derived.Test.YtaaefceknjhloaaAid
import Derived.WalkKit
import Derived.ProofKit
import Derived.OpenShut
import Derived.Below
import Derived.WalkSmall
import Derived.WalkLawsBesides
import Derived.Outline
import Derived.BigQuiet
import Derived.Deep.QuietTactic
import Derived.Handy
namespace Go.Proofs.Ytaaefceknjhloaa
open Go.ChangeShapes Go.WideShapes Go.ChangeAt Go.RowKit Go.PlainAid
set_option linter.unusedVariables false

structure Ans where
  code : Int
  index : Int
  mark : Int
  data : ByteArray
instance : Inhabited Ans := ⟨⟨0, 0, 0, ByteArray.empty⟩⟩
/-- Is the number in these bounds? -/
def inRg (x lo hi : Int) : Bool := decide (lo ≤ x) && decide (x ≤ hi)
/-- A right answer. -/
def ansOk (x : Ans) : Bool := inRg x.code 0 4 && inRg x.index 0 100000 && inRg x.mark 0 1099511627776 && decide (x.data.size ≤ 900)
def ansA (x : Ans) : Array Value := #[.int .i64 x.code, .int .i64 x.index, .int .i64 x.mark, .string x.data]
def vAns (x : Ans) : Value := .agg #[.int .i64 x.code, .int .i64 x.index, .int .i64 x.mark, .string x.data]
/-- Block g holds these cells. -/
def Cell4 (w : World) (g : Nat) (x : Ans) : Prop := w.cell? ⟨g, 0, none⟩ = some (.int .i64 x.code) ∧ w.cell? ⟨g, 1, none⟩ = some (.int .i64 x.index) ∧ w.cell? ⟨g, 2, none⟩ = some (.int .i64 x.mark) ∧ w.cell? ⟨g, 3, none⟩ = some (.string x.data) ∧ g < w.heap.size
theorem Cell4.on {w w' : World} {B g : Nat} {x : Ans} (h : Cell4 w g x) (hb : Below B w w') (hg : g < B) (hs : B ≤ w.heap.size) : Cell4 w' g x := by
  obtain ⟨a, b, c, c', d⟩ := h
  refine ⟨?_, ?_, ?_, ?_, Nat.lt_of_lt_of_le d ?_⟩
  · rw [hb.cell (p := ⟨_, _, none⟩) hg]; exact a
  · rw [hb.cell (p := ⟨_, _, none⟩) hg]; exact b
  · rw [hb.cell (p := ⟨_, _, none⟩) hg]; exact c
  · rw [hb.cell (p := ⟨_, _, none⟩) hg]; exact c'
  · exact hb.size
theorem Cell4.new (w : World) (x : Ans) (t : TypeId) : Cell4 (w.alloc (.cells #[.int .i64 x.code, .int .i64 x.index, .int .i64 x.mark, .string x.data] t)) w.heap.size x := by
  have h : (w.alloc (.cells #[.int .i64 x.code, .int .i64 x.index, .int .i64 x.mark, .string x.data] t)).heap[w.heap.size]? = some (.cells #[.int .i64 x.code, .int .i64 x.index, .int .i64 x.mark, .string x.data] t (0, 0)) := heap_alloc_new w _
  refine ⟨?_, ?_, ?_, ?_, by simp⟩
  · rw [cell_of_row _ _ 0 _ t (0, 0) h]; rfl
  · rw [cell_of_row _ _ 1 _ t (0, 0) h]; rfl
  · rw [cell_of_row _ _ 2 _ t (0, 0) h]; rfl
  · rw [cell_of_row _ _ 3 _ t (0, 0) h]; rfl
theorem below_a1 (w : World) (a : Obj) : Below w.heap.size w (w.alloc a) := (Below.refl _ w).alloc (Nat.le_refl _) a
theorem below_a3 (w : World) (a b c : Obj) : Below w.heap.size w (((w.alloc a).alloc b).alloc c) := (((Below.refl _ w).alloc (Nat.le_refl _) a).alloc (by simp) b).alloc (by simp; omega) c

set_option maxHeartbeats 400000 in
theorem szAnswer (x : Ans) (left : Int) (w : World) (h0 : 0 ≤ left) (h1 : left ≤ 1048576) (hx : x.data.size ≤ maxLen) :
    Calls Try.prog 5 #[vAns x, .int .i64 left] w fun e w' => (∃ r, e = .returned (.int .i64 r) ∧ Hid (r = -1 ∨ 0 ≤ r ∧ r + (x.data.size : Int) = left)) ∧ Below w.heap.size w w' := by
  unfold maxLen at hx
  unfold vAns
  obtain ⟨xcode, xindex, xmark, xdata⟩ := x
  simp only at hx ⊢
  generalize hn : xdata.size = n at *
  have q1 : (n : Int) ≤ 9223372036854775807 := by omega
  have w2 : wrap64 (left - (n : Int)) = left - (n : Int) := by unfold wrap64; omega
  by_cases hl : left < (n : Int)
  · have HL : Hid (left < (n : Int)) := hl
    have q2 : left - (n : Int) < 0 := by omega
    go_enter Try.func5, Try.ntmps5
    go_wp2
    go_ret
    exact ⟨⟨_, rfl, .inl rfl⟩, (Below.refl _ _).alloc (Nat.le_refl _) _⟩
  · have HL : Hid ((n : Int) ≤ left) := by unfold Hid; omega
    have q2 : 0 ≤ left - (n : Int) := by omega
    have q3 : decide (left - (n : Int) < 0) = false := decide_eq_false (by omega)
    go_enter Try.func5, Try.ntmps5
    go_wp2
    go_ret
    exact ⟨⟨_, rfl, .inr ⟨by have := HL.out; omega, by omega⟩⟩, (Below.refl _ _).alloc (Nat.le_refl _) _⟩
set_option maxHeartbeats 400000 in
theorem toAnswer (x : Ans) (w : World) : Calls Try.prog 7 #[vAns x] w fun e w' => e = .returned (vAns x) ∧ Below w.heap.size w w' := by
  unfold vAns
  go_enter Try.func7, Try.ntmps7
  go_wp2
  exact bodyPost_ret (v := .agg #[.int .i64 x.code, .int .i64 x.index, .int .i64 x.mark, .string x.data]) (by simp [results, go_sem]) rfl ⟨rfl, below_a3 _ _ _ _⟩
set_option maxHeartbeats 400000 in
theorem inS (x lo hi : Int) (w : World) : Calls Try.prog 19 #[.int .i64 x, .int .i64 lo, .int .i64 hi] w fun e w' => e = .returned (.bool (inRg x lo hi)) ∧ w = w' := by
  by_cases h1 : lo ≤ x
  · go_enter Try.func19, Try.ntmps19
    go_wp2
    go_ret
    exact ⟨by simp [inRg, h1], rfl⟩
  · have z : decide (lo ≤ x) = false := decide_eq_false h1
    have z2 : x < lo := by omega
    go_enter Try.func19, Try.ntmps19
    go_wp2
    go_ret
    exact ⟨by unfold inRg; rw [z]; rfl, rfl⟩
set_option maxHeartbeats 400000 in
theorem inI (x lo hi : Int) (w : World) : Calls Try.prog 20 #[.int .i64 x, .int .i64 lo, .int .i64 hi] w fun e w' => e = .returned (.bool (inRg x lo hi)) ∧ w = w' := by
  by_cases h1 : lo ≤ x
  · go_enter Try.func20, Try.ntmps20
    go_wp2
    go_ret
    exact ⟨by simp [inRg, h1], rfl⟩
  · have z : decide (lo ≤ x) = false := decide_eq_false h1
    have z2 : x < lo := by omega
    go_enter Try.func20, Try.ntmps20
    go_wp2
    go_ret
    exact ⟨by unfold inRg; rw [z]; rfl, rfl⟩

set_option maxHeartbeats 2000000 in
theorem specAnswerOk (x : Ans) (w : World) (hd : x.data.size ≤ maxLen) : Calls Try.prog 12 #[vAns x] w fun e w' => e = .returned (.bool (ansOk x)) ∧ Below w.heap.size w w' := by
  obtain ⟨c, i, m, d⟩ := x
  unfold vAns
  simp only at hd ⊢
  have HB : Hid (Below w.heap.size w (w.alloc (.cells #[.int .i64 c, .int .i64 i, .int .i64 m, .string d] 26))) := below_a1 _ _
  have HE : Hid (ansOk ⟨c, i, m, d⟩ = (inRg c 0 4 && inRg i 0 100000 && inRg m 0 1099511627776 && decide (d.size ≤ 900))) := rfl
  have hdi : (d.size : Int) ≤ 9223372036854775807 := by unfold maxLen at hd; omega
  have hq : Hid (decide ((d.size : Int) ≤ 900) = decide (d.size ≤ 900)) := by
    unfold Hid
    by_cases h : d.size ≤ 900
    · rw [decide_eq_true h, decide_eq_true (by omega)]
    · rw [decide_eq_false h, decide_eq_false (by omega)]
  clear hd
  have a1 := inS c 0 4
  have a2 := inS i 0 100000
  have a3 := inS m 0 1099511627776
  cases h1 : inRg c 0 4 <;> rw [h1] at a1 HE <;> clear h1
  · go_enter Try.func12, Try.ntmps12
    go_wp2_with fail
    refine (a1 _).mono ?_
    rintro e w' ⟨rfl, rfl⟩
    go_wp2_with fail
    go_ret
    exact ⟨by rw [HE.out]; rfl, HB.out⟩
  cases h2 : inRg i 0 100000 <;> rw [h2] at a2 HE <;> clear h2
  · go_enter Try.func12, Try.ntmps12
    go_wp2_with fail
    refine (a1 _).mono ?_
    rintro e w' ⟨rfl, rfl⟩
    go_wp2_with fail
    refine (a2 _).mono ?_
    rintro e w' ⟨rfl, rfl⟩
    go_wp2_with fail
    go_ret
    exact ⟨by rw [HE.out]; rfl, HB.out⟩
  cases h3 : inRg m 0 1099511627776 <;> rw [h3] at a3 HE <;> clear h3
  · go_enter Try.func12, Try.ntmps12
    go_wp2_with fail
    refine (a1 _).mono ?_
    rintro e w' ⟨rfl, rfl⟩
    go_wp2_with fail
    refine (a2 _).mono ?_
    rintro e w' ⟨rfl, rfl⟩
    go_wp2_with fail
    refine (a3 _).mono ?_
    rintro e w' ⟨rfl, rfl⟩
    go_wp2_with fail
    go_ret
    exact ⟨by rw [HE.out]; rfl, HB.out⟩
  go_enter Try.func12, Try.ntmps12
  go_wp2_with fail
  refine (a1 _).mono ?_
  rintro e w' ⟨rfl, rfl⟩
  go_wp2_with fail
  refine (a2 _).mono ?_
  rintro e w' ⟨rfl, rfl⟩
  go_wp2_with fail
  refine (a3 _).mono ?_
  rintro e w' ⟨rfl, rfl⟩
  go_wp2_with fail
  go_ret
  exact ⟨by rw [HE.out, ← hq.out]; rfl, HB.out⟩
set_option maxHeartbeats 2000000 in
theorem implAnswerOk (x : Ans) (w : World) (hd : x.data.size ≤ maxLen) : Calls Try.prog 14 #[vAns x] w fun e w' => e = .returned (.bool (ansOk x)) ∧ Below w.heap.size w w' := by
  obtain ⟨c, i, m, d⟩ := x
  unfold vAns
  simp only at hd ⊢
  have HB : Hid (Below w.heap.size w (w.alloc (.cells #[.int .i64 c, .int .i64 i, .int .i64 m, .string d] 26))) := below_a1 _ _
  have HE : Hid (ansOk ⟨c, i, m, d⟩ = (inRg c 0 4 && inRg i 0 100000 && inRg m 0 1099511627776 && decide (d.size ≤ 900))) := rfl
  have hdi : (d.size : Int) ≤ 9223372036854775807 := by unfold maxLen at hd; omega
  have hq : Hid (decide ((d.size : Int) ≤ 900) = decide (d.size ≤ 900)) := by
    unfold Hid
    by_cases h : d.size ≤ 900
    · rw [decide_eq_true h, decide_eq_true (by omega)]
    · rw [decide_eq_false h, decide_eq_false (by omega)]
  clear hd
  have a1 := inI c 0 4
  have a2 := inI i 0 100000
  have a3 := inI m 0 1099511627776
  cases h1 : inRg c 0 4 <;> rw [h1] at a1 HE <;> clear h1
  · go_enter Try.func14, Try.ntmps14
    go_wp2_with fail
    refine (a1 _).mono ?_
    rintro e w' ⟨rfl, rfl⟩
    go_wp2_with fail
    go_ret
    exact ⟨by rw [HE.out]; rfl, HB.out⟩
  cases h2 : inRg i 0 100000 <;> rw [h2] at a2 HE <;> clear h2
  · go_enter Try.func14, Try.ntmps14
    go_wp2_with fail
    refine (a1 _).mono ?_
    rintro e w' ⟨rfl, rfl⟩
    go_wp2_with fail
    refine (a2 _).mono ?_
    rintro e w' ⟨rfl, rfl⟩
    go_wp2_with fail
    go_ret
    exact ⟨by rw [HE.out]; rfl, HB.out⟩
  cases h3 : inRg m 0 1099511627776 <;> rw [h3] at a3 HE <;> clear h3
  · go_enter Try.func14, Try.ntmps14
    go_wp2_with fail
    refine (a1 _).mono ?_
    rintro e w' ⟨rfl, rfl⟩
    go_wp2_with fail
    refine (a2 _).mono ?_
    rintro e w' ⟨rfl, rfl⟩
    go_wp2_with fail
    refine (a3 _).mono ?_
    rintro e w' ⟨rfl, rfl⟩
    go_wp2_with fail
    go_ret
    exact ⟨by rw [HE.out]; rfl, HB.out⟩
  go_enter Try.func14, Try.ntmps14
  go_wp2_with fail
  refine (a1 _).mono ?_
  rintro e w' ⟨rfl, rfl⟩
  go_wp2_with fail
  refine (a2 _).mono ?_
  rintro e w' ⟨rfl, rfl⟩
  go_wp2_with fail
  refine (a3 _).mono ?_
  rintro e w' ⟨rfl, rfl⟩
  go_wp2_with fail
  go_ret
  exact ⟨by rw [HE.out, ← hq.out]; rfl, HB.out⟩
end Go.Proofs.Ytaaefceknjhloaa
