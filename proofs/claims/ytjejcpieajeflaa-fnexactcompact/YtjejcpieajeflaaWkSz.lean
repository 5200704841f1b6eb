/-
  Contracts of the laws' own measure of a log or a record that came in: szEntry, szEntryS, szWal, szRec.
-/
import Derived.Test.YtjejcpieajeflaaRows
import Derived.Test.YtjejcpieajeflaaWkBlk
import Derived.WalkKit
import Derived.ProofKit
import Derived.OpenShut
import Derived.Below
import Derived.WalkSmall
import Derived.WalkLawsBesides
import Derived.Outline
import Derived.BigQuiet
import Derived.Deep.QuietTactic
namespace Go.Proofs.Ytjejcpieajeflaa
open Go.ChangeShapes Go.WideShapes Go.ChangeAt Go.RowKit Go.PlainAid
set_option linter.unusedVariables false

/-- How much the rows weigh. -/
def wtE1 (x : Ent) : Nat := x.data.size
def wtE : List Ent → Nat
  | [] => 0
  | x :: r => wtE1 x + wtE r
theorem wtE_snoc (l : List Ent) (k : Nat) (h : k < l.length) : wtE (l.take (k + 1)) = wtE (l.take k) + wtE1 (l.getD k default) := by
  rw [← getD_at l k h]
  induction l generalizing k with
  | nil => simp at h
  | cons x r ih =>
    cases k with
    | zero => simp [wtE]
    | succ k => simp only [List.take_succ_cons, wtE, List.getElem_cons_succ]; rw [ih k (by simpa using h)]; omega
/-- The value of one. -/
def vEnt (x : Ent) : Value := .agg #[.int .i64 x.term, .string x.data]

set_option maxHeartbeats 400000 in
theorem szEntry (x : Ent) (left : Int) (w : World) (h0 : 0 ≤ left) (h1 : left ≤ 1048576) (hx : x.data.size ≤ maxLen) :
    Calls Try.prog 75 #[vEnt x, .int .i64 left] w fun e w' => (∃ r, e = .returned (.int .i64 r) ∧ Hid (r = -1 ∨ 0 ≤ r ∧ r + (wtE1 x : Int) = left)) ∧ Below w.heap.size w w' := by
  unfold maxLen at hx
  unfold vEnt wtE1
  obtain ⟨xterm, xdata⟩ := x
  simp only at hx ⊢
  generalize hn : xdata.size = n at *
  have q1 : (n : Int) ≤ 9223372036854775807 := by omega
  have w2 : wrap64 (left - (n : Int)) = left - (n : Int) := by unfold wrap64; omega
  by_cases hl : left < (n : Int)
  · have HL : Hid (left < (n : Int)) := hl
    have q2 : left - (n : Int) < 0 := by omega
    go_enter Try.func75, Try.ntmps75
    go_wp2
    go_ret
    exact ⟨⟨_, rfl, .inl rfl⟩, (Below.refl _ _).alloc (Nat.le_refl _) _⟩
  · have HL : Hid ((n : Int) ≤ left) := by unfold Hid; omega
    have q2 : 0 ≤ left - (n : Int) := by omega
    have q3 : decide (left - (n : Int) < 0) = false := decide_eq_false (by omega)
    go_enter Try.func75, Try.ntmps75
    go_wp2
    go_ret
    exact ⟨⟨_, rfl, .inr ⟨by have := HL.out; omega, by omega⟩⟩, (Below.refl _ _).alloc (Nat.le_refl _) _⟩

set_option maxHeartbeats 1000000 in
theorem szEntryS (l : List Ent) (v : Value) (left : Int) (w : World) (B : Nat) (hv : Lies w B 2 v (entR l)) (hd : ∀ x ∈ l, x.data.size ≤ maxLen) (hn : l.length ≤ maxLen) (h0 : 0 ≤ left) (h1 : left ≤ 1048576) (hB : B ≤ w.heap.size) :
    Calls Try.prog 37 #[v, .int .i64 left] w fun e w' => ∃ r : Int, e = .returned (.int .i64 r) ∧ (r = -1 ∨ 0 ≤ r ∧ r + ((l.length + wtE l : Nat) : Int) = left) ∧ Below w.heap.size w w' := by
  unfold maxLen at hn
  obtain ⟨A, cap, rfl, hl⟩ := ent_look hv
  have HL : Hid (∀ j, j < l.length → ∃ g off, A = some ⟨g, off, none⟩ ∧ g < B ∧ _) := hl
  have HD : Hid (∀ x ∈ l, x.data.size ≤ maxLen) := hd
  have HB : Hid (B ≤ w.heap.size) := hB
  clear hl hd hB hv
  have q1 : (l.length : Int) ≤ 9223372036854775807 := by omega
  have w2 : wrap64 (left - (l.length : Int)) = left - (l.length : Int) := by unfold wrap64; omega
  by_cases hs : left < (l.length : Int)
  · have q2 : left - (l.length : Int) < 0 := by omega
    go_enter Try.func37, Try.ntmps37
    go_wp2_with fail
    go_ret
    exact ⟨-1, rfl, .inl rfl, Below.refl _ _⟩
  · have q2 : 0 ≤ left - (l.length : Int) := by omega
    have q3 : decide (left - (l.length : Int) < 0) = false := decide_eq_false (by omega)
    have HQ : Hid (0 ≤ left - (l.length : Int)) := q2
    generalize hN : l.length = n at *
    go_enter Try.func37, Try.ntmps37
    go_wp2_with fail
    clear q2 q3 w2
    go_loopw [1, 5] (fun v1 v5 wr => ∃ (k : Nat) (r : Int), k ≤ n ∧ v5 = .int .i64 (k : Int) ∧ v1 = .int .i64 r ∧ 0 ≤ r ∧ r + ((n + wtE (l.take k) : Nat) : Int) = left ∧ Below w.heap.size w wr) (fun _ i _ => n - (intOf i).toNat)
    case atStart => exact ⟨0, left - (n : Int), by omega, rfl, rfl, HQ.out, by simp [wtE], Below.refl _ _⟩
    case round =>
      obtain ⟨k, r, hk, rfl, rfl, hr0, hr, hb⟩ := hrel
      have HR : Hid (r + ((n + wtE (l.take k) : Nat) : Int) = left) := hr
      have HB1 : Hid (Below w.heap.size w wr) := hb
      have q9 : r ≤ 1048576 := by omega
      clear hr hb
      by_cases hlt : k < n
      · have q4 : (k : Int) < (n : Int) := by omega
        obtain ⟨g, off, rfl, hg, hc0, hc1⟩ := HL.out k (by omega)
        have hgw : g < w.heap.size := Nat.lt_of_lt_of_le hg HB.out
        rw [← HB1.out.cell (p := ⟨_, _, none⟩) hgw] at hc0
        rw [← HB1.out.cell (p := ⟨_, _, none⟩) hgw] at hc1
        have c1 := fun wx => szEntry (l.getD k default) r wx hr0 q9 (HD.out _ (getD_mem l k (by omega)))
        have HW : Hid (wtE (l.take (k + 1)) = wtE (l.take k) + wtE1 (l.getD k default)) := wtE_snoc l k (by omega)
        unfold vEnt at c1
        generalize wtE1 (l.getD k default) = t at *
        generalize l.getD k default = x at *
        go_wp2_with fail
        refine (c1 _).mono ?_
        rintro e w2 ⟨⟨r2, rfl, hr2⟩, hb2⟩
        have HR2 : Hid (r2 = -1 ∨ 0 ≤ r2 ∧ r2 + (t : Int) = r) := hr2
        have HB2 : Hid (Below w.heap.size w w2) := HB1.out.trans (hb2.mono HB1.out.size)
        clear hr2 hb2
        rcases HR2.out with rfl | ⟨hp, hq⟩
        · go_wp2_with fail
          go_ret
          exact ⟨-1, rfl, .inl rfl, HB2.out⟩
        · have q5 : decide (r2 < 0) = false := decide_eq_false (by omega)
          have HQ2 : Hid (r2 + (t : Int) = r) := hq
          clear hq
          go_wp2_with fail
          go_roundw
          case rel => exact ⟨k + 1, r2, by omega, by go_num, rfl, hp, by have := HR.out; have := HQ2.out; rw [HW.out]; omega, HB2.out⟩
          case measure => simp [intOf]; omega
      · obtain rfl : k = n := by omega
        go_wp2_with fail
        go_ret
        exact ⟨r, rfl, .inr ⟨hr0, by have := HR.out; rw [← hN, List.take_length] at this; rw [← hN]; exact this⟩, HB1.out⟩

/-- How much the rows weigh. -/
def wtR1 (x : Rcd) : Nat := x.data.size
/-- The value of one. -/
def vRcd (x : Rcd) : Value := .agg #[.int .i64 x.kind, .int .i64 x.term, .int .i64 x.index, .int .i64 x.vote, .string x.data]

/-- How much a log weighs. -/
def wtW (x : Wl) : Nat := x.ents.length + wtE x.ents
theorem wtE_mem (l : List Ent) : ∀ e ∈ l, e.data.size ≤ wtE l := by
  induction l with
  | nil => intro e he; cases he
  | cons x r ih =>
    intro e he
    unfold wtE wtE1
    rcases List.mem_cons.1 he with rfl | h
    · omega
    · have := ih e h; omega

set_option maxHeartbeats 1000000 in
theorem szWal (x : Wl) (v : Value) (w : World) (B : Nat) (left : Int) (h0 : 0 ≤ left) (h1 : left ≤ 1048576) (hv : WalV w B v x) (hf : FitsW x) (hB : B ≤ w.heap.size) :
    Calls Try.prog 21 #[v, .int .i64 left] w fun e w' => ∃ r : Int, e = .returned (.int .i64 r) ∧ (r = -1 ∨ 0 ≤ r ∧ r + (wtW x : Int) = left) ∧ Below w.heap.size w w' := by
  obtain ⟨u, rfl, hl⟩ := hv
  have HF : Hid (FitsW x) := hf
  have HB : Hid (B ≤ w.heap.size) := hB
  have HL : Hid (Lies w B 2 u (entR x.ents)) := hl
  have HW : Hid (wtW x = x.ents.length + wtE x.ents) := rfl
  clear hl hf hB
  go_enter Try.func21, Try.ntmps21
  go_wp2_with fail
  have B1 : Hid (Below w.heap.size w (w.alloc (.cells #[.int .i64 x.term, .int .i64 x.vote, .int .i64 x.base, .int .i64 x.bterm, u] 41))) := (Below.refl _ _).alloc (Nat.le_refl _) _
  generalize hw1 : w.alloc (.cells #[.int .i64 x.term, .int .i64 x.vote, .int .i64 x.base, .int .i64 x.bterm, u] 41) = w1 at *
  have c1 := szEntryS x.ents u left w1 B (HL.out.on (B1.out.mono HB.out)) HF.out.d HF.out.n h0 h1 (Nat.le_trans HB.out B1.out.size)
  refine c1.mono ?_
  rintro e w2 ⟨r1, rfl, hr1, hb2⟩
  have R1 : Hid (r1 = -1 ∨ 0 ≤ r1 ∧ r1 + ((x.ents.length + wtE x.ents : Nat) : Int) = left) := hr1
  have B2 : Hid (Below w.heap.size w w2) := B1.out.trans (hb2.mono B1.out.size)
  clear hr1 hb2 hw1
  rcases R1.out with rfl | ⟨hp1, hq1⟩
  · go_wp2_with fail
    go_ret
    exact ⟨-1, rfl, .inl rfl, B2.out⟩
  have q1 : decide (r1 < 0) = false := decide_eq_false (by omega)
  have HQ1 : Hid (r1 + ((x.ents.length + wtE x.ents : Nat) : Int) = left) := hq1
  clear hq1
  go_wp2_with fail
  go_ret
  refine ⟨r1, rfl, .inr ⟨hp1, ?_⟩, B2.out⟩
  rw [HW.out]
  exact HQ1.out
end Go.Proofs.Ytjejcpieajeflaa
