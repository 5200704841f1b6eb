/-
  Contracts of the laws' own measure of a disk that came in: szInodeS, szLinkS, szMoveS, szDisk.
-/
import Derived.Test.YtnnfnhpehacelaaGreatRows
import Derived.Test.YtnnfnhpehacelaaGreatDkRow
import Derived.WalkKit
import Derived.ProofKit
import Derived.OpenShut
import Derived.Below
import Derived.WalkSmall
import Derived.WalkLawsBesides
import Derived.Outline
import Derived.BigQuiet
import Derived.Deep.QuietTactic
namespace Go.Proofs.YtnnfnhpehacelaaGreat
open Go.ChangeShapes Go.WideShapes Go.ChangeAt Go.RowKit Go.PlainAid
set_option linter.unusedVariables false

/-- How much the rows weigh. -/
def wtN1 (x : Nod) : Nat := x.data.size
def wtN : List Nod → Nat
  | [] => 0
  | x :: r => wtN1 x + wtN r
theorem wtN_snoc (l : List Nod) (k : Nat) (h : k < l.length) : wtN (l.take (k + 1)) = wtN (l.take k) + wtN1 (l.getD k default) := by
  rw [← getD_at l k h]
  induction l generalizing k with
  | nil => simp at h
  | cons x r ih =>
    cases k with
    | zero => simp [wtN]
    | succ k => simp only [List.take_succ_cons, wtN, List.getElem_cons_succ]; rw [ih k (by simpa using h)]; omega
/-- The value of one. -/
def vNod (x : Nod) : Value := .agg #[.int .i64 x.id, .string x.data, .int .i64 x.sure]

set_option maxHeartbeats 400000 in
theorem szInode (x : Nod) (left : Int) (w : World) (h0 : 0 ≤ left) (h1 : left ≤ 1048576) (hx : x.data.size ≤ maxLen) :
    Calls Tryz.prog 38 #[vNod x, .int .i64 left] w fun e w' => (∃ r, e = .returned (.int .i64 r) ∧ Hid (r = -1 ∨ 0 ≤ r ∧ r + (wtN1 x : Int) = left)) ∧ Below w.heap.size w w' := by
  unfold maxLen at hx
  unfold vNod wtN1
  obtain ⟨xid, xdata, xsure⟩ := x
  simp only at hx ⊢
  generalize hn : xdata.size = n at *
  have q1 : (n : Int) ≤ 9223372036854775807 := by omega
  have w2 : wrap64 (left - (n : Int)) = left - (n : Int) := by unfold wrap64; omega
  by_cases hl : left < (n : Int)
  · have HL : Hid (left < (n : Int)) := hl
    have q2 : left - (n : Int) < 0 := by omega
    go_enter Tryz.func38, Tryz.ntmps38
    go_wp2
    go_ret
    exact ⟨⟨_, rfl, .inl rfl⟩, (Below.refl _ _).alloc (Nat.le_refl _) _⟩
  · have HL : Hid ((n : Int) ≤ left) := by unfold Hid; omega
    have q2 : 0 ≤ left - (n : Int) := by omega
    have q3 : decide (left - (n : Int) < 0) = false := decide_eq_false (by omega)
    go_enter Tryz.func38, Tryz.ntmps38
    go_wp2
    go_ret
    exact ⟨⟨_, rfl, .inr ⟨by have := HL.out; omega, by omega⟩⟩, (Below.refl _ _).alloc (Nat.le_refl _) _⟩

set_option maxHeartbeats 1000000 in
theorem szInodeS (l : List Nod) (v : Value) (left : Int) (w : World) (B : Nat) (hv : Lies w B 3 v (nodR l)) (hd : ∀ x ∈ l, x.data.size ≤ maxLen) (hn : l.length ≤ maxLen) (h0 : 0 ≤ left) (h1 : left ≤ 1048576) (hB : B ≤ w.heap.size) :
    Calls Tryz.prog 13 #[v, .int .i64 left] w fun e w' => ∃ r : Int, e = .returned (.int .i64 r) ∧ (r = -1 ∨ 0 ≤ r ∧ r + ((l.length + wtN l : Nat) : Int) = left) ∧ Below w.heap.size w w' := by
  unfold maxLen at hn
  obtain ⟨A, cap, rfl, hl⟩ := nod_look hv
  have HL : Hid (∀ j, j < l.length → ∃ g off, A = some ⟨g, off, none⟩ ∧ g < B ∧ _) := hl
  have HD : Hid (∀ x ∈ l, x.data.size ≤ maxLen) := hd
  have HB : Hid (B ≤ w.heap.size) := hB
  clear hl hd hB hv
  have q1 : (l.length : Int) ≤ 9223372036854775807 := by omega
  have w2 : wrap64 (left - (l.length : Int)) = left - (l.length : Int) := by unfold wrap64; omega
  by_cases hs : left < (l.length : Int)
  · have q2 : left - (l.length : Int) < 0 := by omega
    go_enter Tryz.func13, Tryz.ntmps13
    go_wp2_with fail
    go_ret
    exact ⟨-1, rfl, .inl rfl, Below.refl _ _⟩
  · have q2 : 0 ≤ left - (l.length : Int) := by omega
    have q3 : decide (left - (l.length : Int) < 0) = false := decide_eq_false (by omega)
    have HQ : Hid (0 ≤ left - (l.length : Int)) := q2
    generalize hN : l.length = n at *
    go_enter Tryz.func13, Tryz.ntmps13
    go_wp2_with fail
    clear q2 q3 w2
    go_loopw [1, 5] (fun v1 v5 wr => ∃ (k : Nat) (r : Int), k ≤ n ∧ v5 = .int .i64 (k : Int) ∧ v1 = .int .i64 r ∧ 0 ≤ r ∧ r + ((n + wtN (l.take k) : Nat) : Int) = left ∧ Below w.heap.size w wr) (fun _ i _ => n - (intOf i).toNat)
    case atStart => exact ⟨0, left - (n : Int), by omega, rfl, rfl, HQ.out, by simp [wtN], Below.refl _ _⟩
    case round =>
      obtain ⟨k, r, hk, rfl, rfl, hr0, hr, hb⟩ := hrel
      have HR : Hid (r + ((n + wtN (l.take k) : Nat) : Int) = left) := hr
      have HB1 : Hid (Below w.heap.size w wr) := hb
      have q9 : r ≤ 1048576 := by omega
      clear hr hb
      by_cases hlt : k < n
      · have q4 : (k : Int) < (n : Int) := by omega
        obtain ⟨g, off, rfl, hg, hc0, hc1, hc2⟩ := HL.out k (by omega)
        have hgw : g < w.heap.size := Nat.lt_of_lt_of_le hg HB.out
        rw [← HB1.out.cell (p := ⟨_, _, none⟩) hgw] at hc0
        rw [← HB1.out.cell (p := ⟨_, _, none⟩) hgw] at hc1
        rw [← HB1.out.cell (p := ⟨_, _, none⟩) hgw] at hc2
        have c1 := fun wx => szInode (l.getD k default) r wx hr0 q9 (HD.out _ (getD_mem l k (by omega)))
        have HW : Hid (wtN (l.take (k + 1)) = wtN (l.take k) + wtN1 (l.getD k default)) := wtN_snoc l k (by omega)
        unfold vNod at c1
        generalize wtN1 (l.getD k default) = t at *
        generalize l.getD k default = x at *
        go_wp2_with fail
        refine (c1 _).mono ?_
        rintro e w2 ⟨⟨r2, rfl, hr2⟩, hb2⟩
        have HR2 : Hid (r2 = -1 ∨ 0 ≤ r2 ∧ r2 + (t : Int) = r) := hr2
        have HB2 : Hid (Below w.heap.size w w2) := HB1.out.trans (hb2.mono HB1.out.size)
        clear hr2 hb2
        rcases HR2.out with rfl | ⟨hp, hq⟩
        · go_wp2_with fail
          go_ret
          exact ⟨-1, rfl, .inl rfl, HB2.out⟩
        · have q5 : decide (r2 < 0) = false := decide_eq_false (by omega)
          have HQ2 : Hid (r2 + (t : Int) = r) := hq
          clear hq
          go_wp2_with fail
          go_roundw
          case rel => exact ⟨k + 1, r2, by omega, by go_num, rfl, hp, by have := HR.out; have := HQ2.out; rw [HW.out]; omega, HB2.out⟩
          case measure => simp [intOf]; omega
      · obtain rfl : k = n := by omega
        go_wp2_with fail
        go_ret
        exact ⟨r, rfl, .inr ⟨hr0, by have := HR.out; rw [← hN, List.take_length] at this; rw [← hN]; exact this⟩, HB1.out⟩

/-- How much the rows weigh. -/
def wtL1 (x : Lnk) : Nat := x.name.size
def wtL : List Lnk → Nat
  | [] => 0
  | x :: r => wtL1 x + wtL r
theorem wtL_snoc (l : List Lnk) (k : Nat) (h : k < l.length) : wtL (l.take (k + 1)) = wtL (l.take k) + wtL1 (l.getD k default) := by
  rw [← getD_at l k h]
  induction l generalizing k with
  | nil => simp at h
  | cons x r ih =>
    cases k with
    | zero => simp [wtL]
    | succ k => simp only [List.take_succ_cons, wtL, List.getElem_cons_succ]; rw [ih k (by simpa using h)]; omega
/-- The value of one. -/
def vLnk (x : Lnk) : Value := .agg #[.string x.name, .int .i64 x.id]

set_option maxHeartbeats 400000 in
theorem szLink (x : Lnk) (left : Int) (w : World) (h0 : 0 ≤ left) (h1 : left ≤ 1048576) (hx : x.name.size ≤ maxLen) :
    Calls Tryz.prog 39 #[vLnk x, .int .i64 left] w fun e w' => (∃ r, e = .returned (.int .i64 r) ∧ Hid (r = -1 ∨ 0 ≤ r ∧ r + (wtL1 x : Int) = left)) ∧ Below w.heap.size w w' := by
  unfold maxLen at hx
  unfold vLnk wtL1
  obtain ⟨xname, xid⟩ := x
  simp only at hx ⊢
  generalize hn : xname.size = n at *
  have q1 : (n : Int) ≤ 9223372036854775807 := by omega
  have w2 : wrap64 (left - (n : Int)) = left - (n : Int) := by unfold wrap64; omega
  by_cases hl : left < (n : Int)
  · have HL : Hid (left < (n : Int)) := hl
    have q2 : left - (n : Int) < 0 := by omega
    go_enter Tryz.func39, Tryz.ntmps39
    go_wp2
    go_ret
    exact ⟨⟨_, rfl, .inl rfl⟩, (Below.refl _ _).alloc (Nat.le_refl _) _⟩
  · have HL : Hid ((n : Int) ≤ left) := by unfold Hid; omega
    have q2 : 0 ≤ left - (n : Int) := by omega
    have q3 : decide (left - (n : Int) < 0) = false := decide_eq_false (by omega)
    go_enter Tryz.func39, Tryz.ntmps39
    go_wp2
    go_ret
    exact ⟨⟨_, rfl, .inr ⟨by have := HL.out; omega, by omega⟩⟩, (Below.refl _ _).alloc (Nat.le_refl _) _⟩

set_option maxHeartbeats 1000000 in
theorem szLinkS (l : List Lnk) (v : Value) (left : Int) (w : World) (B : Nat) (hv : Lies w B 2 v (lnkR l)) (hd : ∀ x ∈ l, x.name.size ≤ maxLen) (hn : l.length ≤ maxLen) (h0 : 0 ≤ left) (h1 : left ≤ 1048576) (hB : B ≤ w.heap.size) :
    Calls Tryz.prog 14 #[v, .int .i64 left] w fun e w' => ∃ r : Int, e = .returned (.int .i64 r) ∧ (r = -1 ∨ 0 ≤ r ∧ r + ((l.length + wtL l : Nat) : Int) = left) ∧ Below w.heap.size w w' := by
  unfold maxLen at hn
  obtain ⟨A, cap, rfl, hl⟩ := lnk_look hv
  have HL : Hid (∀ j, j < l.length → ∃ g off, A = some ⟨g, off, none⟩ ∧ g < B ∧ _) := hl
  have HD : Hid (∀ x ∈ l, x.name.size ≤ maxLen) := hd
  have HB : Hid (B ≤ w.heap.size) := hB
  clear hl hd hB hv
  have q1 : (l.length : Int) ≤ 9223372036854775807 := by omega
  have w2 : wrap64 (left - (l.length : Int)) = left - (l.length : Int) := by unfold wrap64; omega
  by_cases hs : left < (l.length : Int)
  · have q2 : left - (l.length : Int) < 0 := by omega
    go_enter Tryz.func14, Tryz.ntmps14
    go_wp2_with fail
    go_ret
    exact ⟨-1, rfl, .inl rfl, Below.refl _ _⟩
  · have q2 : 0 ≤ left - (l.length : Int) := by omega
    have q3 : decide (left - (l.length : Int) < 0) = false := decide_eq_false (by omega)
    have HQ : Hid (0 ≤ left - (l.length : Int)) := q2
    generalize hN : l.length = n at *
    go_enter Tryz.func14, Tryz.ntmps14
    go_wp2_with fail
    clear q2 q3 w2
    go_loopw [1, 5] (fun v1 v5 wr => ∃ (k : Nat) (r : Int), k ≤ n ∧ v5 = .int .i64 (k : Int) ∧ v1 = .int .i64 r ∧ 0 ≤ r ∧ r + ((n + wtL (l.take k) : Nat) : Int) = left ∧ Below w.heap.size w wr) (fun _ i _ => n - (intOf i).toNat)
    case atStart => exact ⟨0, left - (n : Int), by omega, rfl, rfl, HQ.out, by simp [wtL], Below.refl _ _⟩
    case round =>
      obtain ⟨k, r, hk, rfl, rfl, hr0, hr, hb⟩ := hrel
      have HR : Hid (r + ((n + wtL (l.take k) : Nat) : Int) = left) := hr
      have HB1 : Hid (Below w.heap.size w wr) := hb
      have q9 : r ≤ 1048576 := by omega
      clear hr hb
      by_cases hlt : k < n
      · have q4 : (k : Int) < (n : Int) := by omega
        obtain ⟨g, off, rfl, hg, hc0, hc1⟩ := HL.out k (by omega)
        have hgw : g < w.heap.size := Nat.lt_of_lt_of_le hg HB.out
        rw [← HB1.out.cell (p := ⟨_, _, none⟩) hgw] at hc0
        rw [← HB1.out.cell (p := ⟨_, _, none⟩) hgw] at hc1
        have c1 := fun wx => szLink (l.getD k default) r wx hr0 q9 (HD.out _ (getD_mem l k (by omega)))
        have HW : Hid (wtL (l.take (k + 1)) = wtL (l.take k) + wtL1 (l.getD k default)) := wtL_snoc l k (by omega)
        unfold vLnk at c1
        generalize wtL1 (l.getD k default) = t at *
        generalize l.getD k default = x at *
        go_wp2_with fail
        refine (c1 _).mono ?_
        rintro e w2 ⟨⟨r2, rfl, hr2⟩, hb2⟩
        have HR2 : Hid (r2 = -1 ∨ 0 ≤ r2 ∧ r2 + (t : Int) = r) := hr2
        have HB2 : Hid (Below w.heap.size w w2) := HB1.out.trans (hb2.mono HB1.out.size)
        clear hr2 hb2
        rcases HR2.out with rfl | ⟨hp, hq⟩
        · go_wp2_with fail
          go_ret
          exact ⟨-1, rfl, .inl rfl, HB2.out⟩
        · have q5 : decide (r2 < 0) = false := decide_eq_false (by omega)
          have HQ2 : Hid (r2 + (t : Int) = r) := hq
          clear hq
          go_wp2_with fail
          go_roundw
          case rel => exact ⟨k + 1, r2, by omega, by go_num, rfl, hp, by have := HR.out; have := HQ2.out; rw [HW.out]; omega, HB2.out⟩
          case measure => simp [intOf]; omega
      · obtain rfl : k = n := by omega
        go_wp2_with fail
        go_ret
        exact ⟨r, rfl, .inr ⟨hr0, by have := HR.out; rw [← hN, List.take_length] at this; rw [← hN]; exact this⟩, HB1.out⟩

/-- How much the rows weigh. -/
def wtM1 (x : Mov) : Nat := x.name.size + x.to.size
def wtM : List Mov → Nat
  | [] => 0
  | x :: r => wtM1 x + wtM r
theorem wtM_snoc (l : List Mov) (k : Nat) (h : k < l.length) : wtM (l.take (k + 1)) = wtM (l.take k) + wtM1 (l.getD k default) := by
  rw [← getD_at l k h]
  induction l generalizing k with
  | nil => simp at h
  | cons x r ih =>
    cases k with
    | zero => simp [wtM]
    | succ k => simp only [List.take_succ_cons, wtM, List.getElem_cons_succ]; rw [ih k (by simpa using h)]; omega
/-- The value of one. -/
def vMov (x : Mov) : Value := .agg #[.int .i64 x.kind, .string x.name, .string x.to, .int .i64 x.id]

set_option maxHeartbeats 400000 in
theorem szMove (x : Mov) (left : Int) (w : World) (h0 : 0 ≤ left) (h1 : left ≤ 1048576) (hx : x.name.size ≤ maxLen ∧ x.to.size ≤ maxLen) :
    Calls Tryz.prog 40 #[vMov x, .int .i64 left] w fun e w' => (∃ r, e = .returned (.int .i64 r) ∧ Hid (r = -1 ∨ 0 ≤ r ∧ r + (wtM1 x : Int) = left)) ∧ Below w.heap.size w w' := by
  unfold maxLen at hx
  unfold vMov wtM1
  obtain ⟨xkind, xname, xto, xid⟩ := x
  simp only at hx ⊢
  obtain ⟨hx1, hx2⟩ := hx
  generalize hn : xname.size = n at *
  generalize hm : xto.size = m at *
  have q1 : (n : Int) ≤ 9223372036854775807 := by omega
  have q4 : (m : Int) ≤ 9223372036854775807 := by omega
  have w2 : wrap64 (left - (n : Int)) = left - (n : Int) := by unfold wrap64; omega
  by_cases hl : left < (n : Int)
  · have HL : Hid (left < ((n + m : Nat) : Int)) := by unfold Hid; omega
    have q2 : left - (n : Int) < 0 := by omega
    go_enter Tryz.func40, Tryz.ntmps40
    go_wp2
    go_ret
    exact ⟨⟨_, rfl, .inl rfl⟩, (Below.refl _ _).alloc (Nat.le_refl _) _⟩
  · have q2 : 0 ≤ left - (n : Int) := by omega
    have q3 : decide (left - (n : Int) < 0) = false := decide_eq_false (by omega)
    have w3 : wrap64 (left - (n : Int) - (m : Int)) = left - (n : Int) - (m : Int) := by unfold wrap64; omega
    by_cases hl2 : left - (n : Int) < (m : Int)
    · have HL : Hid (left < ((n + m : Nat) : Int)) := by unfold Hid; omega
      have q5 : left - (n : Int) - (m : Int) < 0 := by omega
      go_enter Tryz.func40, Tryz.ntmps40
      go_wp2
      go_ret
      exact ⟨⟨_, rfl, .inl rfl⟩, (Below.refl _ _).alloc (Nat.le_refl _) _⟩
    · have HL : Hid (((n + m : Nat) : Int) ≤ left) := by unfold Hid; omega
      have HE : Hid (left - (n : Int) - (m : Int) = left - ((n + m : Nat) : Int)) := by unfold Hid; omega
      have q5 : 0 ≤ left - (n : Int) - (m : Int) := by omega
      have q6 : decide (left - (n : Int) - (m : Int) < 0) = false := decide_eq_false (by omega)
      go_enter Tryz.func40, Tryz.ntmps40
      go_wp2
      go_ret
      exact ⟨⟨_, rfl, .inr ⟨by have := HL.out; omega, by omega⟩⟩, (Below.refl _ _).alloc (Nat.le_refl _) _⟩

set_option maxHeartbeats 1000000 in
theorem szMoveS (l : List Mov) (v : Value) (left : Int) (w : World) (B : Nat) (hv : Lies w B 4 v (movR l)) (hd : ∀ x ∈ l, x.name.size ≤ maxLen ∧ x.to.size ≤ maxLen) (hn : l.length ≤ maxLen) (h0 : 0 ≤ left) (h1 : left ≤ 1048576) (hB : B ≤ w.heap.size) :
    Calls Tryz.prog 15 #[v, .int .i64 left] w fun e w' => ∃ r : Int, e = .returned (.int .i64 r) ∧ (r = -1 ∨ 0 ≤ r ∧ r + ((l.length + wtM l : Nat) : Int) = left) ∧ Below w.heap.size w w' := by
  unfold maxLen at hn
  obtain ⟨A, cap, rfl, hl⟩ := mov_look hv
  have HL : Hid (∀ j, j < l.length → ∃ g off, A = some ⟨g, off, none⟩ ∧ g < B ∧ _) := hl
  have HD : Hid (∀ x ∈ l, x.name.size ≤ maxLen ∧ x.to.size ≤ maxLen) := hd
  have HB : Hid (B ≤ w.heap.size) := hB
  clear hl hd hB hv
  have q1 : (l.length : Int) ≤ 9223372036854775807 := by omega
  have w2 : wrap64 (left - (l.length : Int)) = left - (l.length : Int) := by unfold wrap64; omega
  by_cases hs : left < (l.length : Int)
  · have q2 : left - (l.length : Int) < 0 := by omega
    go_enter Tryz.func15, Tryz.ntmps15
    go_wp2_with fail
    go_ret
    exact ⟨-1, rfl, .inl rfl, Below.refl _ _⟩
  · have q2 : 0 ≤ left - (l.length : Int) := by omega
    have q3 : decide (left - (l.length : Int) < 0) = false := decide_eq_false (by omega)
    have HQ : Hid (0 ≤ left - (l.length : Int)) := q2
    generalize hN : l.length = n at *
    go_enter Tryz.func15, Tryz.ntmps15
    go_wp2_with fail
    clear q2 q3 w2
    go_loopw [1, 5] (fun v1 v5 wr => ∃ (k : Nat) (r : Int), k ≤ n ∧ v5 = .int .i64 (k : Int) ∧ v1 = .int .i64 r ∧ 0 ≤ r ∧ r + ((n + wtM (l.take k) : Nat) : Int) = left ∧ Below w.heap.size w wr) (fun _ i _ => n - (intOf i).toNat)
    case atStart => exact ⟨0, left - (n : Int), by omega, rfl, rfl, HQ.out, by simp [wtM], Below.refl _ _⟩
    case round =>
      obtain ⟨k, r, hk, rfl, rfl, hr0, hr, hb⟩ := hrel
      have HR : Hid (r + ((n + wtM (l.take k) : Nat) : Int) = left) := hr
      have HB1 : Hid (Below w.heap.size w wr) := hb
      have q9 : r ≤ 1048576 := by omega
      clear hr hb
      by_cases hlt : k < n
      · have q4 : (k : Int) < (n : Int) := by omega
        obtain ⟨g, off, rfl, hg, hc0, hc1, hc2, hc3⟩ := HL.out k (by omega)
        have hgw : g < w.heap.size := Nat.lt_of_lt_of_le hg HB.out
        rw [← HB1.out.cell (p := ⟨_, _, none⟩) hgw] at hc0
        rw [← HB1.out.cell (p := ⟨_, _, none⟩) hgw] at hc1
        rw [← HB1.out.cell (p := ⟨_, _, none⟩) hgw] at hc2
        rw [← HB1.out.cell (p := ⟨_, _, none⟩) hgw] at hc3
        have c1 := fun wx => szMove (l.getD k default) r wx hr0 q9 (HD.out _ (getD_mem l k (by omega)))
        have HW : Hid (wtM (l.take (k + 1)) = wtM (l.take k) + wtM1 (l.getD k default)) := wtM_snoc l k (by omega)
        unfold vMov at c1
        generalize wtM1 (l.getD k default) = t at *
        generalize l.getD k default = x at *
        go_wp2_with fail
        refine (c1 _).mono ?_
        rintro e w2 ⟨⟨r2, rfl, hr2⟩, hb2⟩
        have HR2 : Hid (r2 = -1 ∨ 0 ≤ r2 ∧ r2 + (t : Int) = r) := hr2
        have HB2 : Hid (Below w.heap.size w w2) := HB1.out.trans (hb2.mono HB1.out.size)
        clear hr2 hb2
        rcases HR2.out with rfl | ⟨hp, hq⟩
        · go_wp2_with fail
          go_ret
          exact ⟨-1, rfl, .inl rfl, HB2.out⟩
        · have q5 : decide (r2 < 0) = false := decide_eq_false (by omega)
          have HQ2 : Hid (r2 + (t : Int) = r) := hq
          clear hq
          go_wp2_with fail
          go_roundw
          case rel => exact ⟨k + 1, r2, by omega, by go_num, rfl, hp, by have := HR.out; have := HQ2.out; rw [HW.out]; omega, HB2.out⟩
          case measure => simp [intOf]; omega
      · obtain rfl : k = n := by omega
        go_wp2_with fail
        go_ret
        exact ⟨r, rfl, .inr ⟨hr0, by have := HR.out; rw [← hN, List.take_length] at this; rw [← hN]; exact this⟩, HB1.out⟩

/-! ### Disks -/
/-- The texts of a disk are as long as a text may be. -/
structure Fits (d : Dsk) : Prop where
  n : d.nods.length ≤ maxLen
  l : d.dir.length ≤ maxLen
  m : d.movs.length ≤ maxLen
  nx : ∀ x ∈ d.nods, x.data.size ≤ maxLen
  lx : ∀ x ∈ d.dir, x.name.size ≤ maxLen
  mx : ∀ x ∈ d.movs, x.name.size ≤ maxLen ∧ x.to.size ≤ maxLen
/-- The value v is the disk d, its rows below B. -/
def DiskV (w : World) (B : Nat) (v : Value) (d : Dsk) : Prop := ∃ v1 v2 v3, v = .agg #[.int .i64 d.room, .int .i64 d.next, v1, v2, v3] ∧ Lies w B 3 v1 (nodR d.nods) ∧ Lies w B 2 v2 (lnkR d.dir) ∧ Lies w B 4 v3 (movR d.movs)
theorem DiskV.on {w w' : World} {B : Nat} {v : Value} {d : Dsk} (h : DiskV w B v d) (hb : Below B w w') : DiskV w' B v d := by
  obtain ⟨v1, v2, v3, e, h1, h2, h3⟩ := h
  exact ⟨v1, v2, v3, e, h1.on hb, h2.on hb, h3.on hb⟩
theorem DiskV.mono {w : World} {B C : Nat} {v : Value} {d : Dsk} (h : DiskV w B v d) (hB : B ≤ C) : DiskV w C v d := by
  obtain ⟨v1, v2, v3, e, h1, h2, h3⟩ := h
  exact ⟨v1, v2, v3, e, h1.mono hB, h2.mono hB, h3.mono hB⟩
/-- How much a disk weighs. -/
def wtD (d : Dsk) : Nat := d.nods.length + wtN d.nods + (d.dir.length + wtL d.dir) + (d.movs.length + wtM d.movs)

set_option maxHeartbeats 1000000 in
theorem szDisk (d : Dsk) (v : Value) (w : World) (B : Nat) (left : Int) (h0 : 0 ≤ left) (h1 : left ≤ 1048576) (hv : DiskV w B v d) (hf : Fits d) (hB : B ≤ w.heap.size) :
    Calls Tryz.prog 4 #[v, .int .i64 left] w fun e w' => ∃ r : Int, e = .returned (.int .i64 r) ∧ (r = -1 ∨ 0 ≤ r ∧ r + (wtD d : Int) = left) ∧ Below w.heap.size w w' := by
  obtain ⟨v1, v2, v3, rfl, hn, hl, hm⟩ := hv
  have HF : Hid (Fits d) := hf
  have HB : Hid (B ≤ w.heap.size) := hB
  have HN : Hid (Lies w B 3 v1 (nodR d.nods)) := hn
  have HL : Hid (Lies w B 2 v2 (lnkR d.dir)) := hl
  have HM : Hid (Lies w B 4 v3 (movR d.movs)) := hm
  have HW : Hid (wtD d = d.nods.length + wtN d.nods + (d.dir.length + wtL d.dir) + (d.movs.length + wtM d.movs)) := rfl
  clear hn hl hm hf hB
  go_enter Tryz.func4, Tryz.ntmps4
  go_wp2_with fail
  have B1 : Hid (Below w.heap.size w (w.alloc (.cells #[.int .i64 d.room, .int .i64 d.next, v1, v2, v3] 26))) := (Below.refl _ _).alloc (Nat.le_refl _) _
  have k1 : ∀ i x, #[Value.int .i64 d.room, .int .i64 d.next, v1, v2, v3][i]? = some x → (w.alloc (.cells #[.int .i64 d.room, .int .i64 d.next, v1, v2, v3] 26)).cell? ⟨w.heap.size, i, none⟩ = some x := fun i x hx => by rw [World.cell?_alloc_mark]; exact hx
  have K3 := k1 3 v2 rfl
  have K4 := k1 4 v3 rfl
  clear k1
  have Z1 : w.heap.size < (w.alloc (.cells #[.int .i64 d.room, .int .i64 d.next, v1, v2, v3] 26)).heap.size := by simp
  generalize hw1 : w.alloc (.cells #[.int .i64 d.room, .int .i64 d.next, v1, v2, v3] 26) = w1 at *
  have c1 := szInodeS d.nods v1 left w1 B (HN.out.on (B1.out.mono HB.out)) HF.out.nx HF.out.n h0 h1 (Nat.le_trans HB.out B1.out.size)
  have P0 : Hid (w.heap.size = w.heap.size) := rfl
  generalize hp : w.heap.size = p at *
  refine c1.mono ?_
  rintro e w2 ⟨r1, rfl, hr1, hb2⟩
  have R1 : Hid (r1 = -1 ∨ 0 ≤ r1 ∧ r1 + ((d.nods.length + wtN d.nods : Nat) : Int) = left) := hr1
  have B2 : Hid (Below p w w2) := B1.out.trans (hb2.mono (Nat.le_of_lt Z1))
  have C3 := (hb2.cell (p := ⟨p, 3, none⟩) Z1).trans K3
  have C4 := (hb2.cell (p := ⟨p, 4, none⟩) Z1).trans K4
  have Z2 : p < w2.heap.size := Nat.lt_of_lt_of_le Z1 hb2.size
  clear hr1 hb2 K3 K4 Z1 hw1
  rcases R1.out with rfl | ⟨hp1, hq1⟩
  · go_wp2_with fail
    go_ret
    exact ⟨-1, rfl, .inl rfl, by rw [hp]; exact B2.out⟩
  have q1 : decide (r1 < 0) = false := decide_eq_false (by omega)
  have HQ1 : Hid (r1 + ((d.nods.length + wtN d.nods : Nat) : Int) = left) := hq1
  have q2 : r1 ≤ 1048576 := by omega
  clear hq1
  have c2 := szLinkS d.dir v2 r1 w2 B (HL.out.on (B2.out.mono HB.out)) HF.out.lx HF.out.l hp1 q2 (Nat.le_trans HB.out (by have := B2.out.size; rw [hp] at this; exact this))
  go_wp2_with fail
  refine c2.mono ?_
  rintro e w3 ⟨r2, rfl, hr2, hb3⟩
  have R2 : Hid (r2 = -1 ∨ 0 ≤ r2 ∧ r2 + ((d.dir.length + wtL d.dir : Nat) : Int) = r1) := hr2
  have B3 : Hid (Below p w w3) := B2.out.trans (hb3.mono (Nat.le_of_lt Z2))
  have D4 := (hb3.cell (p := ⟨p, 4, none⟩) Z2).trans C4
  clear hr2 hb3 C3 C4 Z2
  rcases R2.out with rfl | ⟨hp2, hq2⟩
  · go_wp2_with fail
    go_ret
    exact ⟨-1, rfl, .inl rfl, by rw [hp]; exact B3.out⟩
  have q3 : decide (r2 < 0) = false := decide_eq_false (by omega)
  have HQ2 : Hid (r2 + ((d.dir.length + wtL d.dir : Nat) : Int) = r1) := hq2
  have q4 : r2 ≤ 1048576 := by omega
  clear hq2
  have c3 := szMoveS d.movs v3 r2 w3 B (HM.out.on (B3.out.mono HB.out)) HF.out.mx HF.out.m hp2 q4 (Nat.le_trans HB.out (by have := B3.out.size; rw [hp] at this; exact this))
  go_wp2_with fail
  refine c3.mono ?_
  rintro e w4 ⟨r3, rfl, hr3, hb4⟩
  have R3 : Hid (r3 = -1 ∨ 0 ≤ r3 ∧ r3 + ((d.movs.length + wtM d.movs : Nat) : Int) = r2) := hr3
  have B4 : Hid (Below p w w4) := B3.out.trans (hb4.mono (by have := B3.out.size; rw [hp] at this; exact this))
  clear hr3 hb4
  rcases R3.out with rfl | ⟨hp3, hq3⟩
  · go_wp2_with fail
    go_ret
    exact ⟨-1, rfl, .inl rfl, by rw [hp]; exact B4.out⟩
  have q5 : decide (r3 < 0) = false := decide_eq_false (by omega)
  have HQ3 : Hid (r3 + ((d.movs.length + wtM d.movs : Nat) : Int) = r2) := hq3
  clear hq3
  go_wp2_with fail
  go_ret
  refine ⟨r3, rfl, .inr ⟨hp3, ?_⟩, by rw [hp]; exact B4.out⟩
  have := HQ1.out
  have := HQ2.out
  have := HQ3.out
  rw [HW.out]
  omega
end Go.Proofs.YtnnfnhpehacelaaGreat
