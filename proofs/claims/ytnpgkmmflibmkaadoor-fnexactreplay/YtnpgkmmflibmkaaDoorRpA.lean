/-
  Right logs: their beginnings, and what a record makes of them.
-/
import Derived.Test.YtnpgkmmflibmkaaDoorWkAid
import Derived.Test.YtnpgkmmflibmkaaDoorReadSpecN
import Derived.Test.YtnpgkmmflibmkaaDoorStImpl
import Derived.Test.YtnpgkmmflibmkaaDoorFrAid
import Derived.Test.YtnpgkmmflibmkaaDoorStrAid
import Derived.Test.YtnpgkmmflibmkaaDoorRows
import Derived.Deep.Slices
import Derived.WalkKit
import Derived.ProofKit
namespace Go.Proofs.YtnpgkmmflibmkaaDoor
set_option linter.unusedVariables false

/-- The term of the last of them, or last. -/
def lastOf (last : Int) (l : List Ent) : Int := match l.getLast? with | some e => e.term | none => last
theorem lastOf_cons (last : Int) (e : Ent) (l : List Ent) : lastOf last (e :: l) = lastOf e.term l := by
  unfold lastOf
  rw [List.getLast?_cons]
  cases l.getLast? <;> rfl
theorem ents_take (top : Int) : ∀ (l : List Ent) (last : Int) (k : Nat), entsOk top last l = true → entsOk top last (l.take k) = true
  | [], _, k, h => by simpa using h
  | e :: r, last, 0, h => rfl
  | e :: r, last, k + 1, h => by
    rw [List.take_succ_cons]
    unfold entsOk at h ⊢
    simp only [Bool.and_eq_true] at h ⊢
    exact ⟨h.1, ents_take top r _ k h.2⟩
theorem ents_top (top top' : Int) (ht : top ≤ top') : ∀ (l : List Ent) (last : Int), entsOk top last l = true → entsOk top' last l = true
  | [], _, h => rfl
  | e :: r, last, h => by
    unfold entsOk at h ⊢
    simp only [Bool.and_eq_true, decide_eq_true_eq] at h ⊢
    exact ⟨⟨⟨h.1.1.1, by omega⟩, h.1.2⟩, ents_top top top' ht r _ h.2⟩
theorem ents_at (top : Int) : ∀ (l : List Ent) (last : Int) (k : Nat), entsOk top last l = true → k < l.length →
    1 ≤ (l.getD k default).term ∧ (l.getD k default).term ≤ top ∧ (l.getD k default).data.size ≤ 900 ∧ lastOf last (l.take k) ≤ (l.getD k default).term
  | [], _, k, h, hk => by simp at hk
  | e :: r, last, 0, h, hk => by
    unfold entsOk at h
    simp only [Bool.and_eq_true, decide_eq_true_eq] at h
    exact ⟨h.1.1.1.1, h.1.1.2, h.1.2, h.1.1.1.2⟩
  | e :: r, last, k + 1, h, hk => by
    unfold entsOk at h
    simp only [Bool.and_eq_true, decide_eq_true_eq] at h
    rw [List.take_succ_cons, lastOf_cons]
    exact ents_at top r e.term k h.2 (by simpa using hk)
structure WOk (x : Wl) : Prop where
  t0 : 0 ≤ x.term
  t1 : x.term ≤ 100000
  v0 : -1 ≤ x.vote
  v1 : x.vote ≤ 4
  b : based x.base x.bterm = true
  bt : x.bterm ≤ x.term
  n : x.ents.length ≤ 60
  s : x.base + x.ents.length ≤ 100000
  e : entsOk x.term x.bterm x.ents = true
theorem wOk_of {x : Wl} (h : walOk x = true) : WOk x := by
  unfold walOk inIt at h
  simp only [Bool.and_eq_true, decide_eq_true_eq] at h
  obtain ⟨⟨⟨⟨⟨⟨h1, h2⟩, h3⟩, h4⟩, h5⟩, h6⟩, h7⟩ := h
  exact ⟨h1.1, h1.2, h2.1, h2.2, h3, h4, h5, h6, h7⟩
theorem WOk.ok {x : Wl} (h : WOk x) : walOk x = true := by
  unfold walOk inIt
  simp only [Bool.and_eq_true, decide_eq_true_eq]
  exact ⟨⟨⟨⟨⟨⟨⟨h.t0, h.t1⟩, ⟨h.v0, h.v1⟩⟩, h.b⟩, h.bt⟩, h.n⟩, h.s⟩, h.e⟩
theorem based0 {i t : Int} (h : based i t = true) : 0 ≤ i := by
  unfold based inIt at h
  split at h
  · omega
  · simp only [Bool.and_eq_true, decide_eq_true_eq] at h
    omega
theorem WOk.take {x : Wl} (h : WOk x) (k : Nat) : WOk { x with ents := x.ents.take k } :=
  ⟨h.t0, h.t1, h.v0, h.v1, h.b, h.bt, by show (x.ents.take k).length ≤ 60; rw [List.length_take]; have := h.n; omega, by show x.base + ((x.ents.take k).length : Int) ≤ 100000; rw [List.length_take]; have := h.s; omega, ents_take _ _ _ _ h.e⟩
theorem ents_snoc (top : Int) (e : Ent) (h1 : 1 ≤ e.term) (h2 : e.term ≤ top) (h3 : e.data.size ≤ 900) : ∀ (l : List Ent) (last : Int), entsOk top last l = true → lastOf last l ≤ e.term → entsOk top last (l ++ [e]) = true
  | [], last, h, hl => by
    have hl' : last ≤ e.term := hl
    show entsOk top last [e] = true
    unfold entsOk entsOk
    simp only [Bool.and_eq_true, decide_eq_true_eq]
    exact ⟨⟨⟨⟨h1, hl'⟩, h2⟩, h3⟩, trivial⟩
  | y :: r, last, h, hl => by
    rw [lastOf_cons] at hl
    show entsOk top last (y :: (r ++ [e])) = true
    unfold entsOk at h ⊢
    simp only [Bool.and_eq_true] at h ⊢
    exact ⟨h.1, ents_snoc top e h1 h2 h3 r _ h.2 hl⟩
/-- A right record that fits makes a right log of a right one. -/
theorem step_ok (x : Wl) (r : Rcd) (h : walOk x = true) (hr : recOk r = true) (hf : recFits x r = true) : walOk (stepTo x r) = true := by
  have w := wOk_of h
  unfold recFits at hf
  unfold recOk inIt at hr
  unfold stepTo
  split at hf
  · rename_i hk
    rw [if_pos hk] at hr ⊢
    simp only [Bool.or_eq_true, Bool.and_eq_true, decide_eq_true_eq] at hf hr
    have ht : x.term ≤ r.term := by omega
    have := w.bt
    exact WOk.ok ⟨hr.1.1.1.1, hr.1.1.1.2, hr.1.1.2.1, hr.1.1.2.2, w.b, by show x.bterm ≤ r.term; omega, w.n, w.s, ents_top _ _ ht _ _ w.e⟩
  · rename_i hk1
    rw [if_neg hk1] at hr ⊢
    split at hf
    · rename_i hk
      rw [if_pos hk] at hr ⊢
      simp only [Bool.and_eq_true, decide_eq_true_eq] at hf hr
      obtain ⟨⟨⟨f1, f2⟩, f3⟩, f4⟩ := hf
      obtain ⟨⟨⟨r1, r2⟩, r3⟩, r4⟩ := hr
      refine WOk.ok ⟨w.t0, w.t1, w.v0, w.v1, w.b, w.bt, ?_, ?_, ?_⟩
      · show (x.ents ++ [_]).length ≤ 60
        rw [List.length_append]
        simp only [List.length_cons, List.length_nil]
        omega
      · show x.base + ((x.ents ++ [_]).length : Int) ≤ 100000
        rw [List.length_append]
        simp only [List.length_cons, List.length_nil]
        omega
      · exact ents_snoc _ _ r1.1 f4 r4 _ _ w.e f3
    · rename_i hk2
      rw [if_neg hk2]
      exact (w.take _).ok
theorem recOk_data (r : Rcd) (h : recOk r = true) : r.data.size ≤ 900 := by
  have z : ByteArray.empty.size = 0 := rfl
  unfold recOk at h
  split at h
  · simp only [Bool.and_eq_true, decide_eq_true_eq] at h
    rw [h.2, z]
    omega
  split at h
  · simp only [Bool.and_eq_true, decide_eq_true_eq] at h
    exact h.2
  split at h
  · simp only [Bool.and_eq_true, decide_eq_true_eq] at h
    rw [h.2, z]
    omega
  split at h
  · simp only [Bool.and_eq_true, decide_eq_true_eq] at h
    rw [h.2, z]
    omega
  · cases h
/-- The log that a base begins. -/
def begW (q : Rcd) : Wl := ⟨q.term, -1, q.index, q.term, []⟩
theorem beg_ok (q : Rcd) (h : recOk q = true) (hk : q.kind = 4) : walOk (begW q) = true := by
  unfold recOk at h
  rw [if_neg (by omega), if_neg (by omega), if_neg (by omega), if_pos hk] at h
  simp only [Bool.and_eq_true] at h
  have hb := h.1.1
  have h0 : 0 ≤ q.term ∧ q.term ≤ 100000 ∧ q.index ≤ 100000 := by
    unfold based inIt at hb
    split at hb
    · have := of_decide_eq_true hb
      omega
    · simp only [Bool.and_eq_true, decide_eq_true_eq] at hb
      omega
  exact WOk.ok ⟨h0.1, h0.2.1, by show (-1 : Int) ≤ -1; omega, by show (-1 : Int) ≤ 4; omega, hb, Int.le_refl _, Nat.zero_le _, by show q.index + ((0 : Nat) : Int) ≤ 100000; omega, rfl⟩
end Go.Proofs.YtnpgkmmflibmkaaDoor

/-
  What a text of frames is replayed as, as plain data.
-/
namespace Go.Proofs.YtnpgkmmflibmkaaDoor
open Go.ChangeShapes Go.WideShapes Go.ChangeAt Go.RowKit Go.PlainAid
set_option linter.unusedVariables false

/-- The record that a body is read as. -/
noncomputable def rd (s : ByteArray) : Option Rcd := Classical.choose (readA_has s)
theorem rd_is (s : ByteArray) : ReadA s (rd s) := Classical.choose_spec (readA_has s)
theorem rd_ok {s : ByteArray} {q : Rcd} (h : rd s = some q) : recOk q = true := by
  rcases rd_is s with ⟨_, e⟩ | ⟨s1, s2, s3, s4, k1, k2, k3, _, e⟩
  · rw [h] at e
    cases e
  · rw [h] at e
    split at e
    · rename_i ho
      cases e
      exact ho
    · cases e
/-- What a body makes of a log. -/
noncomputable def stp (x : Wl) (s : ByteArray) : Wl × Bool :=
  match rd s with
  | some q => if recFits x q = true then (stepTo x q, true) else (x, false)
  | none => (x, false)
theorem stp_ok (x : Wl) (s : ByteArray) (h : walOk x = true) : walOk (stp x s).1 = true := by
  unfold stp
  cases hr : rd s with
  | none => exact h
  | some q =>
    simp only
    split
    · rename_i hf
      exact step_ok x q h (rd_ok hr) hf
    · exact h
noncomputable def beg (s : ByteArray) : Option Wl :=
  match rd s with
  | some q => if q.kind = 4 then some (begW q) else none
  | none => none
theorem beg_some {s : ByteArray} {x : Wl} (h : beg s = some x) : walOk x = true := by
  unfold beg at h
  cases hr : rd s with
  | none => rw [hr] at h; cases h
  | some q =>
    rw [hr] at h
    simp only at h
    split at h
    · rename_i hk
      cases h
      exact beg_ok q (rd_ok hr) hk
    · cases h
/-- The log behind those bodies that fit, and how many bytes they are. -/
noncomputable def goOn : Wl → List ByteArray → Wl × Nat
  | x, [] => (x, 0)
  | x, s :: r => if (stp x s).2 = true then ((goOn (stp x s).1 r).1, 8 + s.size + (goOn (stp x s).1 r).2) else (x, 0)
noncomputable def rep : List ByteArray → Wl × Nat × Bool
  | [] => (wal0, 0, false)
  | s :: r => match beg s with
    | some x => ((goOn x r).1, 8 + s.size + (goOn x r).2, true)
    | none => (wal0, 0, false)
theorem goOn_no (x : Wl) (s : ByteArray) (r : List ByteArray) (h : (stp x s).2 = false) : goOn x (s :: r) = (x, 0) := by
  unfold goOn
  rw [h]
  rfl
theorem goOn_yes (x : Wl) (s : ByteArray) (r : List ByteArray) (h : (stp x s).2 = true) : goOn x (s :: r) = ((goOn (stp x s).1 r).1, 8 + s.size + (goOn (stp x s).1 r).2) := by
  rw [goOn, if_pos h]
/-- The state on the way: so far x and n bytes, bodies from the i-th on are left. -/
structure OnWay (bs : List ByteArray) (i : Nat) (x : Wl) (n : Nat) : Prop where
  ok : walOk x = true
  lw : (goOn x (bs.drop i)).1 = (rep bs).1
  ln : n + (goOn x (bs.drop i)).2 = (rep bs).2.1
  b : (rep bs).2.2 = true
  le : n ≤ i * 1048584
theorem OnWay.begin {s : ByteArray} {r : List ByteArray} {x : Wl} (h : beg s = some x) (hs : s.size ≤ 1048576) : OnWay (s :: r) 1 x (8 + s.size) := by
  have e : rep (s :: r) = ((goOn x r).1, 8 + s.size + (goOn x r).2, true) := by rw [rep, h]
  exact ⟨beg_some h, by rw [e]; rfl, by rw [e]; rfl, by rw [e], by omega⟩
theorem drop_body (l : List ByteArray) (i : Nat) (h : i < l.length) : l.drop i = l.getD i default :: l.drop (i + 1) := by
  rw [List.drop_eq_getElem_cons h, List.getD_eq_getElem?_getD, List.getElem?_eq_getElem h]
  rfl
theorem OnWay.next {bs : List ByteArray} {i : Nat} {x : Wl} {n : Nat} (h : OnWay bs i x n) (hi : i < bs.length) (hs : (bs.getD i default).size ≤ 1048576) (hf : (stp x (bs.getD i default)).2 = true) : OnWay bs (i + 1) (stp x (bs.getD i default)).1 (n + (8 + (bs.getD i default).size)) := by
  have e := goOn_yes x (bs.getD i default) (bs.drop (i + 1)) hf
  rw [← drop_body bs i hi] at e
  have hw := h.lw
  have hn := h.ln
  rw [e] at hw hn
  exact ⟨stp_ok x _ h.ok, hw, by simp only at hn; omega, h.b, by have := h.le; omega⟩
theorem OnWay.stop {bs : List ByteArray} {i : Nat} {x : Wl} {n : Nat} (h : OnWay bs i x n) (hi : i < bs.length) (hf : (stp x (bs.getD i default)).2 = false) : rep bs = (x, n, true) := by
  have e := goOn_no x (bs.getD i default) (bs.drop (i + 1)) hf
  rw [← drop_body bs i hi] at e
  have hw := h.lw
  have hn := h.ln
  have hb := h.b
  rw [e] at hw hn
  simp only at hw hn
  generalize rep bs = z at *
  obtain ⟨z1, z2, z3⟩ := z
  simp only at hw hn hb
  subst hw
  subst hb
  rw [← hn, Nat.add_zero]
theorem OnWay.done {bs : List ByteArray} {i : Nat} {x : Wl} {n : Nat} (h : OnWay bs i x n) (hi : bs.length ≤ i) : rep bs = (x, n, true) := by
  have hw := h.lw
  have hn := h.ln
  have hb := h.b
  rw [List.drop_of_length_le hi] at hw hn
  simp only [goOn] at hw hn
  generalize rep bs = z at *
  obtain ⟨z1, z2, z3⟩ := z
  simp only at hw hn hb
  subst hw
  subst hb
  rw [← hn, Nat.add_zero]
theorem rep_none {s : ByteArray} {r : List ByteArray} (h : beg s = none) : rep (s :: r) = (wal0, 0, false) := by rw [rep, h]
theorem bods_size (s : ByteArray) (k : Nat) : ∀ x ∈ bods s k, x.size ≤ s.size := by
  induction k with
  | zero => intro x hx; cases hx
  | succ k ih =>
    intro x hx
    rw [bods_succ, List.mem_append] at hx
    rcases hx with hx | hx
    · exact ih x hx
    · rw [List.mem_singleton.1 hx, bodyOf, ByteArray.size_extract, rest_size]
      omega
theorem strs_look {w : World} {base : Nat} {v : Value} {l : List ByteArray} (h : Strs w base v l) : ∃ A cap, v = .slice A l.length cap ∧ ∀ j, j < l.length → ∃ g, A = some ⟨g, 0, none⟩ ∧ g < w.heap.size ∧ base ≤ g ∧ w.cell? ⟨g, j, none⟩ = some (.string (l.getD j default)) := by
  rcases h.form with ⟨rfl, rfl⟩ | ⟨g, cap, rfl, hb, hl⟩
  · exact ⟨none, 0, rfl, fun j hj => by simp at hj⟩
  · refine ⟨_, cap, rfl, fun j hj => ⟨g, rfl, hl, hb, ?_⟩⟩
    rw [h.cell j hj, List.getD_eq_getElem?_getD, List.getElem?_eq_getElem hj]
    rfl
theorem fitsW_ok {x : Wl} (h : walOk x = true) : FitsW x := by
  have w := wOk_of h
  refine ⟨by unfold maxLen; have := w.n; omega, fun e he => ?_⟩
  obtain ⟨i, hi, rfl⟩ := List.getElem_of_mem he
  have := (ents_at _ _ _ _ w.e hi).2.2.1
  rw [List.getD_eq_getElem?_getD, List.getElem?_eq_getElem hi] at this
  unfold maxLen
  simp only [Option.getD_some] at this
  omega
/-- A body's record behind its interface. -/
theorem readRecA (s : ByteArray) (hs : s.size ≤ 1048576) : ∃ q : Rcd, q.data.size ≤ 1048576 ∧ rd s = (if recOk q = true then some q else none) ∧ ∀ w, Calls Tryd.prog 14 #[.string s] w fun e w' => e = .returned (recV q) ∧ Below w.heap.size w w' := by
  have z : recOk ⟨0, 0, 0, 0, ByteArray.empty⟩ = false := by decide
  have z1 : recV ⟨0, 0, 0, 0, ByteArray.empty⟩ = .nilIface := by unfold recV; rw [z]; rfl
  rcases rd_is s with ⟨hn, e⟩ | ⟨s1, s2, s3, s4, k1, k2, k3, hp, e⟩
  · refine ⟨⟨0, 0, 0, 0, ByteArray.empty⟩, Nat.zero_le _, by rw [e, z]; rfl, fun w => ?_⟩
    rw [z1]
    exact readRecordV s w hs hn
  · have c := fun w => readRecord_yes s s1 s2 s3 s4 k1 k2 k3 w hs hp
    cases ho : recOk (partsR s s1 s2 s3 s4 k1 k2 k3)
    · have z2 : recV (partsR s s1 s2 s3 s4 k1 k2 k3) = .nilIface := by unfold recV; rw [ho]; rfl
      refine ⟨⟨0, 0, 0, 0, ByteArray.empty⟩, Nat.zero_le _, by rw [e, ho, z]; rfl, fun w => ?_⟩
      rw [z1, ← z2]
      exact c w
    · exact ⟨_, Nat.le_trans (recOk_data _ ho) (by omega), by rw [e, ho], c⟩
theorem stepR_stp {q : Rcd} {s : ByteArray} (h : rd s = if recOk q = true then some q else none) (x : Wl) : stepR x q = stp x s := by
  unfold stepR stp
  cases ho : recOk q
  · rw [ho] at h
    rw [h]
    rfl
  · rw [ho] at h
    rw [h]
    rw [Bool.true_and]
    rfl
theorem walStep_some {q : Rcd} {s : ByteArray} (h : rd s = some q) (x : Wl) (hx : walOk x = true) : walStep x q = stp x s := by
  unfold walStep stp
  rw [h, hx, rd_ok h]
  simp only [Bool.true_and]
  rfl
theorem walStep_none {s : ByteArray} (h : rd s = none) (x : Wl) (hx : walOk x = true) : walStep x ⟨0, 0, 0, 0, ⟨#[]⟩⟩ = (x, false) ∧ stp x s = (x, false) := by
  refine ⟨?_, by unfold stp; rw [h]⟩
  unfold walStep
  rw [hx, show recOk ⟨0, 0, 0, 0, ⟨#[]⟩⟩ = false by decide]
  rfl
theorem beg_rec {q : Rcd} {s : ByteArray} (h : rd s = if recOk q = true then some q else none) : beg s = if recOk q = true ∧ q.kind = 4 then some (begW q) else none := by
  unfold beg
  cases ho : recOk q
  · rw [ho] at h
    rw [h]
    rfl
  · rw [ho] at h
    rw [h]
    by_cases hk : q.kind = 4
    · simp [hk]
    · simp [hk]
end Go.Proofs.YtnpgkmmflibmkaaDoor

/-
  Contract of impl.begun.
-/
namespace Go.Proofs.YtnpgkmmflibmkaaDoor
open Go.ChangeShapes Go.WideShapes Go.ChangeAt Go.RowKit Go.PlainAid
set_option linter.unusedVariables false

set_option maxHeartbeats 1000000 in
theorem begun_no (kv : Value) (w : World) (ta : ∀ wx : World, (Instr.typeAssert kv 41 62 true).run Tryd.prog wx = .ok (.tuple #[.agg #[.int .i64 0, .int .i64 0], .bool false]) wx) :
    Calls Tryd.prog 13 #[kv] w fun e w' => e = .returned (.tuple #[.agg #[.int .i64 0, .int .i64 0, .int .i64 0, .int .i64 0, .slice none 0 0], .bool false]) ∧ Below w.heap.size w w' := by
  go_enter Tryd.func13, Tryd.ntmps13
  go_wp2_with fail
  exact bodyPost_ret (v := .tuple #[.agg #[.int .i64 0, .int .i64 0, .int .i64 0, .int .i64 0, .slice none 0 0], .bool false]) (by simp [results, go_sem]) rfl ⟨rfl, (Below.refl _ w).alloc (Nat.le_refl _) _⟩
set_option maxHeartbeats 1000000 in
theorem begun_yes (i t : Int) (w : World) :
    Calls Tryd.prog 13 #[.iface 62 (.agg #[.int .i64 i, .int .i64 t])] w fun e w' => e = .returned (.tuple #[.agg #[.int .i64 t, .int .i64 (-1), .int .i64 i, .int .i64 t, .slice none 0 0], .bool true]) ∧ Below w.heap.size w w' := by
  have ta : ∀ wx : World, (Instr.typeAssert (.iface 62 (.agg #[.int .i64 i, .int .i64 t])) 41 62 true).run Tryd.prog wx = .ok (.tuple #[.agg #[.int .i64 i, .int .i64 t], .bool true]) wx := fun wx => by kernel_rfl
  go_enter Tryd.func13, Tryd.ntmps13
  go_wp2_with fail
  exact bodyPost_ret (v := .tuple #[.agg #[.int .i64 t, .int .i64 (-1), .int .i64 i, .int .i64 t, .slice none 0 0], .bool true]) (by simp [results, go_sem]) rfl ⟨rfl, ((Below.refl _ w).alloc (Nat.le_refl _) _).alloc (by simp) _⟩
theorem begunV (q : Rcd) (w : World) : Calls Tryd.prog 13 #[recV q] w fun e w' => e = .returned (if recOk q = true ∧ q.kind = 4 then .tuple #[.agg #[.int .i64 q.term, .int .i64 (-1), .int .i64 q.index, .int .i64 q.term, .slice none 0 0], .bool true] else .tuple #[.agg #[.int .i64 0, .int .i64 0, .int .i64 0, .int .i64 0, .slice none 0 0], .bool false]) ∧ Below w.heap.size w w' := by
  cases ho : recOk q
  · have h1 : recV q = .nilIface := by unfold recV; rw [ho]; rfl
    rw [h1, if_neg (by simp)]
    exact begun_no _ w (fun wx => by kernel_rfl)
  · have h1 : recV q = kindV q := by unfold recV; rw [if_pos ho]
    rw [h1]
    obtain ⟨k, t, i, vo, d⟩ := q
    rcases rest0_of k t i vo d ho with ⟨rfl, _, _⟩ | ⟨rfl, _⟩ | ⟨rfl, _, _, _⟩ | ⟨rfl, _, _⟩
    · rw [if_neg (by simp)]
      exact begun_no _ w (fun wx => by kernel_rfl)
    · rw [if_neg (by simp)]
      exact begun_no _ w (fun wx => by kernel_rfl)
    · rw [if_neg (by simp)]
      exact begun_no _ w (fun wx => by kernel_rfl)
    · rw [if_pos ⟨rfl, rfl⟩]
      exact begun_yes i t w
end Go.Proofs.YtnpgkmmflibmkaaDoor

/-
  's[1:]' of a slice of texts.
-/
namespace Go.Proofs.YtnpgkmmflibmkaaDoor
open Go.ChangeShapes Go.WideShapes Go.ChangeAt Go.RowKit Go.PlainAid
set_option linter.unusedVariables false

theorem elem_strs : Tryd.prog.elem 30 = 9 := by kernel_rfl
theorem size_str : (Tryd.prog.info? 9).map (·.size) = some 1 := by kernel_rfl
theorem cut_strs (g n c : Nat) (hn : 1 ≤ n) (hc : n ≤ c) : ∃ A' c', (∀ wx, (Instr.sliceAt 30 (.slice (some ⟨g, 0, none⟩) n c) (some (.int .i64 1)) none none).run Tryd.prog wx = .ok (.slice A' (n - 1) c') wx) ∧ (1 < n → A' = some ⟨g, 1, none⟩) := by
  have hu : Tryd.prog.underlying 30 = some (.slice (Tryd.prog.elem 30)) := by rw [elem_strs]; exact Tryd.underlying30
  have hz := size_str
  cases hq : Tryd.prog.info? 9 with
  | none => rw [hq] at hz; simp at hz
  | some i =>
    rw [hq] at hz
    have hi : i.size = 1 := by simpa using hz
    refine ⟨if c = 1 then some ⟨g, 0, none⟩ else some ⟨g, 1, none⟩, c - 1, fun wx => ?_, fun h => if_neg (by omega)⟩
    rw [run_sliceAt_slice wx 30 _ _ _ _ hu, run_slice_l wx 30 (some ⟨g, 0, none⟩) n c hu .i64 1 (by omega) (by omega), elem_strs]
    by_cases h1 : c = 1
    · simp [sizeOf, typeInfo, hq, hi, sliced, h1]
    · simp [sizeOf, typeInfo, hq, hi, sliced, h1, Addr.add]
theorem Strs.room {w : World} {base n c : Nat} {A : Option Addr} {l : List ByteArray} (h : Strs w base (.slice A n c) l) : l.length ≤ c ∧ n = l.length := by
  rcases h.2 with ⟨e, h0⟩ | ⟨g, cap, cur, e, _, _, hcap, _⟩
  · cases e
    omega
  · cases e
    exact ⟨by omega, rfl⟩
end Go.Proofs.YtnpgkmmflibmkaaDoor
