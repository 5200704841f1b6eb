/- StImpl WlMath StrAid RpDef SnAid SnOk -/
import Derived.Test.YtdimaoloapbeoaaGreatDoorRows
import Derived.Test.YtdimaoloapbeoaaGreatDoorQv18
import Derived.Test.YtdimaoloapbeoaaGreatDoorQv20
import Derived.Test.YtdimaoloapbeoaaGreatDoorQv14
import Derived.Handy
import Derived.Deep.RegionHeld3
import Derived.Test.YtdimaoloapbeoaaGreatDoorQv10
import Derived.Test.YtdimaoloapbeoaaGreatDoorQv0
import Derived.WalkKit
import Derived.ProofKit
import Derived.Laws.OwnMore
import Derived.Below
import Derived.OwnWalk
import Derived.WalkSmall
import Derived.Test.YtdimaoloapbeoaaGreatDoorQv15
import Derived.Test.YtdimaoloapbeoaaGreatDoorQv2
import Derived.Test.YtdimaoloapbeoaaGreatDoorQv11
import Derived.OpenShut
import Derived.WalkLawsBesides
import Derived.Outline
import Derived.BigQuiet
import Derived.Deep.QuietTactic
namespace Go.Proofs.YtdimaoloapbeoaaGreatDoor
open Go.ChangeShapes Go.WideShapes Go.ChangeAt Go.RowKit Go.PlainAid
set_option linter.unusedVariables false
def stepR (x : Wl) (r : Rcd) : Wl × Bool := if (recOk r && recFits x r) = true then (stepTo x r, true) else (x, false)
theorem steppedV (x : Wl) (r : Rcd) (v : Value) (w : World) (base : Nat) (hv : WalO w base v x) (hn : x.ents.length ≤ 60) (hb1 : 0 ≤ x.base) (hb2 : x.base ≤ 100000) (hB : base ≤ w.heap.size) (hd : r.data.size ≤ 1048576) :
  Calls Tryz.prog 68 #[v, recV r] w fun e w' => ∃ u b, e = .returned (.tuple #[u, .bool b]) ∧ (WalO w' base u (stepR x r).1 ∧ b = (stepR x r).2) ∧ Below base w w' := by
 cases ho : recOk r
 ·have h1 : recV r = .nilIface := by unfold recV; rw [ho]; rfl
  have h2 : stepR x r = (x, false) := by unfold stepR; rw [ho]; rfl
  rw [h1, h2]
  exact stepped_nil x v w base hv hn hb1 hb2 hB
 ·have h1 : recV r = kindV r := by unfold recV; rw [if_pos ho]
  have h2 : stepR x r = if recFits x r = true then (stepTo x r, true) else (x, false) := by unfold stepR; rw [ho, Bool.true_and]
  rw [h1, h2]
  obtain ⟨k, t, i, vo, d⟩ := r
  rcases rest0_of k t i vo d ho with ⟨rfl, _, _⟩ | ⟨rfl, _⟩ | ⟨rfl, _, _, _⟩ | ⟨rfl, _, _⟩
  ·exact stepped_hard t i vo d x v w base hv hn hb1 hb2 hB
  ·exact stepped_entry t i vo d x v w base hv hn hb1 hb2 hB hd
  ·exact stepped_cut t i vo d x v w base hv hn hb1 hb2 hB
  ·have h3 : recFits x ⟨4, t, i, vo, d⟩ = false := by unfold recFits; simp
   rw [h3, if_neg Bool.false_ne_true]
   exact stepped_base _ x v w base hv hn hb1 hb2 hB
end Go.Proofs.YtdimaoloapbeoaaGreatDoor
namespace Go.Proofs.YtdimaoloapbeoaaGreatDoor
set_option linter.unusedVariables false
def lastOf (last : Int) (l : List Ent) : Int := match l.getLast? with | some e => e.term | none => last
theorem lastOf_cons (last : Int) (e : Ent) (l : List Ent) : lastOf last (e :: l) = lastOf e.term l := by
 unfold lastOf
 rw [List.getLast?_cons]
 cases l.getLast? <;> rfl
theorem ents_take (top : Int) : ∀ (l : List Ent) (last : Int) (k : Nat), entsOk top last l = true → entsOk top last (l.take k) = true
 | [], _, k, h => by simpa using h
 | e :: r, last, 0, h => rfl
 | e :: r, last, k + 1, h => by
  rw [List.take_succ_cons]
  unfold entsOk at h ⊢
  simp only [Bool.and_eq_true] at h ⊢
  exact ⟨h.1, ents_take top r _ k h.2⟩
theorem ents_top (top top' : Int) (ht : top ≤ top') : ∀ (l : List Ent) (last : Int), entsOk top last l = true → entsOk top' last l = true
 | [], _, h => rfl
 | e :: r, last, h => by
  unfold entsOk at h ⊢
  simp only [Bool.and_eq_true, decide_eq_true_eq] at h ⊢
  exact ⟨⟨⟨h.1.1.1, by omega⟩, h.1.2⟩, ents_top top top' ht r _ h.2⟩
theorem ents_at (top : Int) : ∀ (l : List Ent) (last : Int) (k : Nat), entsOk top last l = true → k < l.length →
  1 ≤ (l.getD k default).term ∧ (l.getD k default).term ≤ top ∧ (l.getD k default).data.size ≤ 900 ∧ lastOf last (l.take k) ≤ (l.getD k default).term
 | [], _, k, h, hk => by simp at hk
 | e :: r, last, 0, h, hk => by
  unfold entsOk at h
  simp only [Bool.and_eq_true, decide_eq_true_eq] at h
  exact ⟨h.1.1.1.1, h.1.1.2, h.1.2, h.1.1.1.2⟩
 | e :: r, last, k + 1, h, hk => by
  unfold entsOk at h
  simp only [Bool.and_eq_true, decide_eq_true_eq] at h
  rw [List.take_succ_cons, lastOf_cons]
  exact ents_at top r e.term k h.2 (by simpa using hk)
structure WOk (x : Wl) : Prop where
 t0 : 0 ≤ x.term
 t1 : x.term ≤ 100000
 v0 : -1 ≤ x.vote
 v1 : x.vote ≤ 4
 b : based x.base x.bterm = true
 bt : x.bterm ≤ x.term
 n : x.ents.length ≤ 60
 s : x.base + x.ents.length ≤ 100000
 e : entsOk x.term x.bterm x.ents = true
theorem wOk_of {x : Wl} (h : walOk x = true) : WOk x := by
 unfold walOk inIt at h
 simp only [Bool.and_eq_true, decide_eq_true_eq] at h
 obtain ⟨⟨⟨⟨⟨⟨h1, h2⟩, h3⟩, h4⟩, h5⟩, h6⟩, h7⟩ := h
 exact ⟨h1.1, h1.2, h2.1, h2.2, h3, h4, h5, h6, h7⟩
theorem WOk.ok {x : Wl} (h : WOk x) : walOk x = true := by
 unfold walOk inIt
 simp only [Bool.and_eq_true, decide_eq_true_eq]
 exact ⟨⟨⟨⟨⟨⟨⟨h.t0, h.t1⟩, ⟨h.v0, h.v1⟩⟩, h.b⟩, h.bt⟩, h.n⟩, h.s⟩, h.e⟩
theorem based0 {i t : Int} (h : based i t = true) : 0 ≤ i := by
 unfold based inIt at h
 split at h
 ·omega
 ·simp only [Bool.and_eq_true, decide_eq_true_eq] at h
  omega
theorem WOk.take {x : Wl} (h : WOk x) (k : Nat) : WOk { x with ents := x.ents.take k } :=
 ⟨h.t0, h.t1, h.v0, h.v1, h.b, h.bt, by show (x.ents.take k).length ≤ 60; rw [List.length_take]; have := h.n; omega, by show x.base + ((x.ents.take k).length : Int) ≤ 100000; rw [List.length_take]; have := h.s; omega, ents_take _ _ _ _ h.e⟩
theorem ents_snoc (top : Int) (e : Ent) (h1 : 1 ≤ e.term) (h2 : e.term ≤ top) (h3 : e.data.size ≤ 900) : ∀ (l : List Ent) (last : Int), entsOk top last l = true → lastOf last l ≤ e.term → entsOk top last (l ++ [e]) = true
 | [], last, h, hl => by
  have hl' : last ≤ e.term := hl
  show entsOk top last [e] = true
  unfold entsOk entsOk
  simp only [Bool.and_eq_true, decide_eq_true_eq]
  exact ⟨⟨⟨⟨h1, hl'⟩, h2⟩, h3⟩, trivial⟩
 | y :: r, last, h, hl => by
  rw [lastOf_cons] at hl
  show entsOk top last (y :: (r ++ [e])) = true
  unfold entsOk at h ⊢
  simp only [Bool.and_eq_true] at h ⊢
  exact ⟨h.1, ents_snoc top e h1 h2 h3 r _ h.2 hl⟩
theorem step_ok (x : Wl) (r : Rcd) (h : walOk x = true) (hr : recOk r = true) (hf : recFits x r = true) : walOk (stepTo x r) = true := by
 have w := wOk_of h
 unfold recFits at hf
 unfold recOk inIt at hr
 unfold stepTo
 split at hf
 ·rename_i hk
  rw [if_pos hk] at hr ⊢
  simp only [Bool.or_eq_true, Bool.and_eq_true, decide_eq_true_eq] at hf hr
  have ht : x.term ≤ r.term := by omega
  have := w.bt
  exact WOk.ok ⟨hr.1.1.1.1, hr.1.1.1.2, hr.1.1.2.1, hr.1.1.2.2, w.b, by show x.bterm ≤ r.term; omega, w.n, w.s, ents_top _ _ ht _ _ w.e⟩
 ·rename_i hk1
  rw [if_neg hk1] at hr ⊢
  split at hf
  ·rename_i hk
   rw [if_pos hk] at hr ⊢
   simp only [Bool.and_eq_true, decide_eq_true_eq] at hf hr
   obtain ⟨⟨⟨f1, f2⟩, f3⟩, f4⟩ := hf
   obtain ⟨⟨⟨r1, r2⟩, r3⟩, r4⟩ := hr
   refine WOk.ok ⟨w.t0, w.t1, w.v0, w.v1, w.b, w.bt, ?_, ?_, ?_⟩
   ·show (x.ents ++ [_]).length ≤ 60
    rw [List.length_append]
    simp only [List.length_cons, List.length_nil]
    omega
   ·show x.base + ((x.ents ++ [_]).length : Int) ≤ 100000
    rw [List.length_append]
    simp only [List.length_cons, List.length_nil]
    omega
   ·exact ents_snoc _ _ r1.1 f4 r4 _ _ w.e f3
  ·rename_i hk2
   rw [if_neg hk2]
   exact (w.take _).ok
theorem recOk_data (r : Rcd) (h : recOk r = true) : r.data.size ≤ 900 := by
 have z : ByteArray.empty.size = 0 := rfl
 unfold recOk at h
 split at h
 ·simp only [Bool.and_eq_true, decide_eq_true_eq] at h
  rw [h.2, z]
  omega
 split at h
 ·simp only [Bool.and_eq_true, decide_eq_true_eq] at h
  exact h.2
 split at h
 ·simp only [Bool.and_eq_true, decide_eq_true_eq] at h
  rw [h.2, z]
  omega
 split at h
 ·simp only [Bool.and_eq_true, decide_eq_true_eq] at h
  rw [h.2, z]
  omega
 ·cases h
def begW (q : Rcd) : Wl := ⟨q.term, -1, q.index, q.term, []⟩
theorem beg_ok (q : Rcd) (h : recOk q = true) (hk : q.kind = 4) : walOk (begW q) = true := by
 unfold recOk at h
 rw [if_neg (by omega), if_neg (by omega), if_neg (by omega), if_pos hk] at h
 simp only [Bool.and_eq_true] at h
 have hb := h.1.1
 have h0 : 0 ≤ q.term ∧ q.term ≤ 100000 ∧ q.index ≤ 100000 := by
  unfold based inIt at hb
  split at hb
  ·have := of_decide_eq_true hb
   omega
  ·simp only [Bool.and_eq_true, decide_eq_true_eq] at hb
   omega
 exact WOk.ok ⟨h0.1, h0.2.1, by show (-1 : Int) ≤ -1; omega, by show (-1 : Int) ≤ 4; omega, hb, Int.le_refl _, Nat.zero_le _, by show q.index + ((0 : Nat) : Int) ≤ 100000; omega, rfl⟩
end Go.Proofs.YtdimaoloapbeoaaGreatDoor
namespace Go.Proofs.YtdimaoloapbeoaaGreatDoor
open Go.RowKit Go.PlainAid
def strCells (l : List ByteArray) : List Value := l.map Value.string
def Strs (w : World) (base : Nat) (v : Value) (l : List ByteArray) : Prop := w.ownsRow base 9 1 v l.length (strCells l)
theorem Strs.nil (w : World) (base : Nat) : Strs w base (.slice none 0 0) [] := World.ownsRow_nil w base 9 1
theorem Strs.empty (w : World) (base : Nat) (hb : base ≤ w.heap.size) : Strs (w.alloc (.cells #[] 9)) base (.slice (some ⟨w.heap.size, 0, none⟩) 0 0) [] :=
 World.ownsRow_lit w #[] 0 hb (by unfold maxLen; omega) rfl
theorem Strs.mono {w : World} {base base' : Nat} {v : Value} {l : List ByteArray} (h : Strs w base v l) (hb : base' ≤ base) : Strs w base' v l :=
 ⟨h.1, h.2.imp id fun ⟨g, cap, cur, e, hg, r⟩ => ⟨g, cap, cur, e, Nat.le_trans hb hg, r⟩⟩
theorem Strs.kept {w w' : World} {base : Nat} {v : Value} {l : List ByteArray} (h : Strs w base v l) (hk : ∀ g, g < w.heap.size → v.ownBlock = some g → w'.heap[g]? = w.heap[g]?) : Strs w' base v l := by
 have hl := World.ownsRow.lt h
 refine ⟨h.1, h.2.imp id ?_⟩
 rintro ⟨g, cap, cur, rfl, hg, hh, r⟩
 refine ⟨g, cap, cur, rfl, hg, ?_, r⟩
 rw [hk g (hl g rfl).2 rfl]
 exact hh
theorem Strs.on {w w' : World} {base : Nat} {v : Value} {l : List ByteArray} (h : Strs w base v l) (hb : Below w.heap.size w w') : Strs w' base v l := h.kept fun g hg _ => hb.block g hg
theorem Strs.alloc {w : World} {base : Nat} {v : Value} {l : List ByteArray} (h : Strs w base v l) (o : Obj) : Strs (w.alloc o) base v l := World.ownsRow.alloc h o
theorem Strs.form {w : World} {base : Nat} {v : Value} {l : List ByteArray} (h : Strs w base v l) : (v = .slice none 0 0 ∧ l = []) ∨ ∃ g cap, v = .slice (some ⟨g, 0, none⟩) l.length cap ∧ base ≤ g ∧ g < w.heap.size := by
 have hl := World.ownsRow.lt h
 rcases h.2 with ⟨rfl, h0⟩ | ⟨g, cap, cur, rfl, hg, _⟩
 ·exact .inl ⟨rfl, List.eq_nil_of_length_eq_zero h0⟩
 ·exact .inr ⟨g, cap, rfl, hg, (hl g rfl).2⟩
theorem Strs.cell {w : World} {base g cap : Nat} {l : List ByteArray} (h : Strs w base (.slice (some ⟨g, 0, none⟩) l.length cap) l) (j : Nat) (hj : j < l.length) : w.cell? ⟨g, j, none⟩ = some (.string l[j]) := by
 rw [World.ownsRow.cellAt h j (by omega)]
 simp [strCells, hj]
theorem Strs.stored {w : World} {base g cap : Nat} {l : List ByteArray} (h : Strs w base (.slice (some ⟨g, 0, none⟩) l.length cap) l) (j : Nat) (x : ByteArray) :
  Strs (w.setCell ⟨g, j, none⟩ (.string x)) base (.slice (some ⟨g, 0, none⟩) l.length cap) (l.set j x) := by
 have hs := (World.ownsRow.stored h j (.string x)).1
 unfold Strs
 rw [List.length_set, strCells, List.map_set]
 exact hs
theorem wpList_append_str {P : Program} {w : World} {ops : Array Oper} {rest : List Oper} {o : Oper} {a : Act} {Q : Exit → Act → World → Prop} (hgd : o.guard = none) (s x : Operand) (t : TypeId)
  (ho : o.op = .call { callee := .builtin .append, args := #[s, x], argTypes := #[t, t] })
  (ht : P.underlying t = some (.slice 9)) (hinfo : (P.info? 9).map (fun i => (i.zero, i.size, i.bytes)) = some (some (.string ⟨#[]⟩), 1, 16))
  (base : Nat) (v : Value) (l : List ByteArray) (hs : a.eval s = v) (hown : Strs w base v l) (b : ByteArray)
  (hx : a.eval x = .slice (some ⟨w.heap.size, 0, none⟩) 1 1) (hlen : l.length ≤ 2097152) (hbase : base ≤ w.heap.size)
  (h : ∀ v' w', Strs w' base v' (l ++ [b]) → Below base w w' → wpList P ops Q rest (a.put o.dst v') w') : wpList P ops Q (o :: rest) a (w.alloc (.cells #[.string b] 9)) := by
 obtain ⟨i0, hi, hz0, hz1, hz2⟩ := info_parts hinfo
 refine wpList_append_own (w := w.alloc (.cells #[.string b] 9)) hgd s x t ho base 9 i0 (.string ⟨#[]⟩) 1 16 ht hi hz0 hz1 hz2 rfl (by decide) v l.length (strCells l) hs (hown.alloc _) ⟨w.heap.size, 0, none⟩ 1 1 [.string b] hx rfl ?_ ?_ ?_ ?_ ?_ ?_
 ·intro j u hj
  have e : (⟨w.heap.size, 0, none⟩ : Addr).add j = ⟨w.heap.size, j, none⟩ := by cases j <;> simp [Addr.add]
  rw [e, World.cell?_alloc_mark]
  simpa using hj
 ·intro u hu
  simp at hu
  subst hu
  rfl
 ·unfold maxLen; omega
 ·omega
 ·simp; omega
 ·intro v' w' h1 h2 _
  have hb0 : ∀ k, v.ownBlock = some k → base ≤ k := fun k hk => (World.ownsRow.lt hown k hk).1
  refine h v' w' ?_ ?_
  ·unfold Strs
   rw [List.length_append, strCells, List.map_append]
   exact h1
  ·exact ((Below.refl base w).alloc hbase _).grown h2 (by simp; omega) hb0
def dg : Nat → Nat → List UInt8
 | 0, _ => []
 | f + 1, n => if n = 0 then [] else dg f (n / 10) ++ [byt (48 + n % 10)]
theorem dg_zero (f : Nat) : dg f 0 = [] := by
 cases f with
 | zero => rfl
 | succ f => rw [dg, if_pos rfl]
def mark (k : Nat) : ByteArray := txt (109 :: dg 20 k)
def marks (k : Nat) : Nat → List ByteArray
 | 0 => []
 | n + 1 => marks k n ++ [mark (k + n)]
end Go.Proofs.YtdimaoloapbeoaaGreatDoor
namespace Go.Proofs.YtdimaoloapbeoaaGreatDoor
open Go.ChangeShapes Go.WideShapes Go.ChangeAt Go.RowKit Go.PlainAid
set_option linter.unusedVariables false
noncomputable def rd (s : ByteArray) : Option Rcd := Classical.choose (readA_has s)
theorem rd_is (s : ByteArray) : ReadA s (rd s) := Classical.choose_spec (readA_has s)
theorem rd_ok {s : ByteArray} {q : Rcd} (h : rd s = some q) : recOk q = true := by
 rcases rd_is s with ⟨_, e⟩ | ⟨s1, s2, s3, s4, k1, k2, k3, _, e⟩
 ·rw [h] at e
  cases e
 ·rw [h] at e
  split at e
  ·rename_i ho
   cases e
   exact ho
  ·cases e
noncomputable def stp (x : Wl) (s : ByteArray) : Wl × Bool :=
 match rd s with
 | some q => if recFits x q = true then (stepTo x q, true) else (x, false)
 | none => (x, false)
theorem stp_ok (x : Wl) (s : ByteArray) (h : walOk x = true) : walOk (stp x s).1 = true := by
 unfold stp
 cases hr : rd s with
 | none => exact h
 | some q =>
  simp only
  split
  ·rename_i hf
   exact step_ok x q h (rd_ok hr) hf
  ·exact h
noncomputable def beg (s : ByteArray) : Option Wl :=
 match rd s with
 | some q => if q.kind = 4 then some (begW q) else none
 | none => none
theorem beg_some {s : ByteArray} {x : Wl} (h : beg s = some x) : walOk x = true := by
 unfold beg at h
 cases hr : rd s with
 | none => rw [hr] at h; cases h
 | some q =>
  rw [hr] at h
  simp only at h
  split at h
  ·rename_i hk
   cases h
   exact beg_ok q (rd_ok hr) hk
  ·cases h
noncomputable def goOn : Wl → List ByteArray → Wl × Nat
 | x, [] => (x, 0)
 | x, s :: r => if (stp x s).2 = true then ((goOn (stp x s).1 r).1, 8 + s.size + (goOn (stp x s).1 r).2) else (x, 0)
noncomputable def rep : List ByteArray → Wl × Nat × Bool
 | [] => (wal0, 0, false)
 | s :: r => match beg s with
  | some x => ((goOn x r).1, 8 + s.size + (goOn x r).2, true)
  | none => (wal0, 0, false)
theorem goOn_no (x : Wl) (s : ByteArray) (r : List ByteArray) (h : (stp x s).2 = false) : goOn x (s :: r) = (x, 0) := by
 unfold goOn
 rw [h]
 rfl
theorem goOn_yes (x : Wl) (s : ByteArray) (r : List ByteArray) (h : (stp x s).2 = true) : goOn x (s :: r) = ((goOn (stp x s).1 r).1, 8 + s.size + (goOn (stp x s).1 r).2) := by
 rw [goOn, if_pos h]
structure OnWay (bs : List ByteArray) (i : Nat) (x : Wl) (n : Nat) : Prop where
 ok : walOk x = true
 lw : (goOn x (bs.drop i)).1 = (rep bs).1
 ln : n + (goOn x (bs.drop i)).2 = (rep bs).2.1
 b : (rep bs).2.2 = true
 le : n ≤ i * 1048584
theorem OnWay.begin {s : ByteArray} {r : List ByteArray} {x : Wl} (h : beg s = some x) (hs : s.size ≤ 1048576) : OnWay (s :: r) 1 x (8 + s.size) := by
 have e : rep (s :: r) = ((goOn x r).1, 8 + s.size + (goOn x r).2, true) := by rw [rep, h]
 exact ⟨beg_some h, by rw [e]; rfl, by rw [e]; rfl, by rw [e], by omega⟩
theorem drop_body (l : List ByteArray) (i : Nat) (h : i < l.length) : l.drop i = l.getD i default :: l.drop (i + 1) := by
 rw [List.drop_eq_getElem_cons h, List.getD_eq_getElem?_getD, List.getElem?_eq_getElem h]
 rfl
theorem OnWay.next {bs : List ByteArray} {i : Nat} {x : Wl} {n : Nat} (h : OnWay bs i x n) (hi : i < bs.length) (hs : (bs.getD i default).size ≤ 1048576) (hf : (stp x (bs.getD i default)).2 = true) : OnWay bs (i + 1) (stp x (bs.getD i default)).1 (n + (8 + (bs.getD i default).size)) := by
 have e := goOn_yes x (bs.getD i default) (bs.drop (i + 1)) hf
 rw [← drop_body bs i hi] at e
 have hw := h.lw
 have hn := h.ln
 rw [e] at hw hn
 exact ⟨stp_ok x _ h.ok, hw, by simp only at hn; omega, h.b, by have := h.le; omega⟩
theorem OnWay.stop {bs : List ByteArray} {i : Nat} {x : Wl} {n : Nat} (h : OnWay bs i x n) (hi : i < bs.length) (hf : (stp x (bs.getD i default)).2 = false) : rep bs = (x, n, true) := by
 have e := goOn_no x (bs.getD i default) (bs.drop (i + 1)) hf
 rw [← drop_body bs i hi] at e
 have hw := h.lw
 have hn := h.ln
 have hb := h.b
 rw [e] at hw hn
 simp only at hw hn
 generalize rep bs = z at *
 obtain ⟨z1, z2, z3⟩ := z
 simp only at hw hn hb
 subst hw
 subst hb
 rw [← hn, Nat.add_zero]
theorem OnWay.done {bs : List ByteArray} {i : Nat} {x : Wl} {n : Nat} (h : OnWay bs i x n) (hi : bs.length ≤ i) : rep bs = (x, n, true) := by
 have hw := h.lw
 have hn := h.ln
 have hb := h.b
 rw [List.drop_of_length_le hi] at hw hn
 simp only [goOn] at hw hn
 generalize rep bs = z at *
 obtain ⟨z1, z2, z3⟩ := z
 simp only at hw hn hb
 subst hw
 subst hb
 rw [← hn, Nat.add_zero]
theorem rep_none {s : ByteArray} {r : List ByteArray} (h : beg s = none) : rep (s :: r) = (wal0, 0, false) := by rw [rep, h]
theorem bods_size (s : ByteArray) (k : Nat) : ∀ x ∈ bods s k, x.size ≤ s.size := by
 induction k with
 | zero => intro x hx; cases hx
 | succ k ih =>
  intro x hx
  rw [bods_succ, List.mem_append] at hx
  rcases hx with hx | hx
  ·exact ih x hx
  ·rw [List.mem_singleton.1 hx, bodyOf, ByteArray.size_extract, rest_size]
   omega
theorem strs_look {w : World} {base : Nat} {v : Value} {l : List ByteArray} (h : Strs w base v l) : ∃ A cap, v = .slice A l.length cap ∧ ∀ j, j < l.length → ∃ g, A = some ⟨g, 0, none⟩ ∧ g < w.heap.size ∧ base ≤ g ∧ w.cell? ⟨g, j, none⟩ = some (.string (l.getD j default)) := by
 rcases h.form with ⟨rfl, rfl⟩ | ⟨g, cap, rfl, hb, hl⟩
 ·exact ⟨none, 0, rfl, fun j hj => by simp at hj⟩
 ·refine ⟨_, cap, rfl, fun j hj => ⟨g, rfl, hl, hb, ?_⟩⟩
  rw [h.cell j hj, List.getD_eq_getElem?_getD, List.getElem?_eq_getElem hj]
  rfl
theorem fitsW_ok {x : Wl} (h : walOk x = true) : FitsW x := by
 have w := wOk_of h
 refine ⟨by unfold maxLen; have := w.n; omega, fun e he => ?_⟩
 obtain ⟨i, hi, rfl⟩ := List.getElem_of_mem he
 have := (ents_at _ _ _ _ w.e hi).2.2.1
 rw [List.getD_eq_getElem?_getD, List.getElem?_eq_getElem hi] at this
 unfold maxLen
 simp only [Option.getD_some] at this
 omega
theorem readRecA (s : ByteArray) (hs : s.size ≤ 1048576) : ∃ q : Rcd, q.data.size ≤ 1048576 ∧ rd s = (if recOk q = true then some q else none) ∧ ∀ w, Calls Tryz.prog 67 #[.string s] w fun e w' => e = .returned (recV q) ∧ Below w.heap.size w w' := by
 have z : recOk ⟨0, 0, 0, 0, ByteArray.empty⟩ = false := by decide
 have z1 : recV ⟨0, 0, 0, 0, ByteArray.empty⟩ = .nilIface := by unfold recV; rw [z]; rfl
 rcases rd_is s with ⟨hn, e⟩ | ⟨s1, s2, s3, s4, k1, k2, k3, hp, e⟩
 ·refine ⟨⟨0, 0, 0, 0, ByteArray.empty⟩, Nat.zero_le _, by rw [e, z]; rfl, fun w => ?_⟩
  rw [z1]
  exact readRecordV s w hs hn
 ·have c := fun w => readRecord_yes s s1 s2 s3 s4 k1 k2 k3 w hs hp
  cases ho : recOk (partsR s s1 s2 s3 s4 k1 k2 k3)
  ·have z2 : recV (partsR s s1 s2 s3 s4 k1 k2 k3) = .nilIface := by unfold recV; rw [ho]; rfl
   refine ⟨⟨0, 0, 0, 0, ByteArray.empty⟩, Nat.zero_le _, by rw [e, ho, z]; rfl, fun w => ?_⟩
   rw [z1, ← z2]
   exact c w
  ·exact ⟨_, Nat.le_trans (recOk_data _ ho) (by omega), by rw [e, ho], c⟩
theorem stepR_stp {q : Rcd} {s : ByteArray} (h : rd s = if recOk q = true then some q else none) (x : Wl) : stepR x q = stp x s := by
 unfold stepR stp
 cases ho : recOk q
 ·rw [ho] at h
  rw [h]
  rfl
 ·rw [ho] at h
  rw [h]
  rw [Bool.true_and]
  rfl
theorem walStep_some {q : Rcd} {s : ByteArray} (h : rd s = some q) (x : Wl) (hx : walOk x = true) : walStep x q = stp x s := by
 unfold walStep stp
 rw [h, hx, rd_ok h]
 simp only [Bool.true_and]
 rfl
theorem walStep_none {s : ByteArray} (h : rd s = none) (x : Wl) (hx : walOk x = true) : walStep x ⟨0, 0, 0, 0, ⟨#[]⟩⟩ = (x, false) ∧ stp x s = (x, false) := by
 refine ⟨?_, by unfold stp; rw [h]⟩
 unfold walStep
 rw [hx, show recOk ⟨0, 0, 0, 0, ⟨#[]⟩⟩ = false by decide]
 rfl
theorem beg_rec {q : Rcd} {s : ByteArray} (h : rd s = if recOk q = true then some q else none) : beg s = if recOk q = true ∧ q.kind = 4 then some (begW q) else none := by
 unfold beg
 cases ho : recOk q
 ·rw [ho] at h
  rw [h]
  rfl
 ·rw [ho] at h
  rw [h]
  by_cases hk : q.kind = 4
  ·simp [hk]
  ·simp [hk]
end Go.Proofs.YtdimaoloapbeoaaGreatDoor
namespace Go.Proofs.YtdimaoloapbeoaaGreatDoor
open Go.ChangeShapes Go.WideShapes Go.ChangeAt Go.RowKit Go.PlainAid
set_option linter.unusedVariables false
structure Snp where
 index : Int
 term : Int
 data : ByteArray
def snapOk (x : Snp) : Bool := if x.index = 0 then decide (x.term = 0) && decide (x.data = ByteArray.empty) else inIt x.index 1 100000 && inIt x.term 1 100000 && decide (x.data.size ≤ 30000)
def vSnp (x : Snp) : Value := .agg #[.int .i64 x.index, .int .i64 x.term, .string x.data]
def Cell3 (w : World) (g : Nat) (x : Snp) : Prop := w.cell? ⟨g, 0, none⟩ = some (.int .i64 x.index) ∧ w.cell? ⟨g, 1, none⟩ = some (.int .i64 x.term) ∧ w.cell? ⟨g, 2, none⟩ = some (.string x.data) ∧ g < w.heap.size
theorem Cell3.on {w w' : World} {B g : Nat} {x : Snp} (h : Cell3 w g x) (hb : Below B w w') (hg : g < B) (hs : B ≤ w.heap.size) : Cell3 w' g x := by
 obtain ⟨a, b, c, d⟩ := h
 refine ⟨?_, ?_, ?_, Nat.lt_of_lt_of_le d ?_⟩
 ·rw [hb.cell (p := ⟨_, _, none⟩) hg]; exact a
 ·rw [hb.cell (p := ⟨_, _, none⟩) hg]; exact b
 ·rw [hb.cell (p := ⟨_, _, none⟩) hg]; exact c
 ·exact hb.size
theorem Cell3.new (w : World) (x : Snp) (t : TypeId) : Cell3 (w.alloc (.cells #[.int .i64 x.index, .int .i64 x.term, .string x.data] t)) w.heap.size x := by
 have h : (w.alloc (.cells #[.int .i64 x.index, .int .i64 x.term, .string x.data] t)).heap[w.heap.size]? = some (.cells #[.int .i64 x.index, .int .i64 x.term, .string x.data] t (0, 0)) := heap_alloc_new w _
 refine ⟨?_, ?_, ?_, by simp⟩
 ·rw [cell_of_row _ _ 0 _ t (0, 0) h]; rfl
 ·rw [cell_of_row _ _ 1 _ t (0, 0) h]; rfl
 ·rw [cell_of_row _ _ 2 _ t (0, 0) h]; rfl
theorem below_one (w : World) (a : Obj) : Below w.heap.size w (w.alloc a) := (Below.refl _ w).alloc (Nat.le_refl _) a
set_option maxHeartbeats 400000 in
theorem inBS (x lo hi : Int) (w : World) : Calls Tryz.prog 43 #[.int .i64 x, .int .i64 lo, .int .i64 hi] w fun e w' => e = .returned (.bool (inIt x lo hi)) ∧ w = w' := by
 by_cases h1 : lo ≤ x
 ·go_enter Tryz.func43, Tryz.ntmps43
  go_wp2
  go_ret
  exact ⟨by simp [inIt, h1], rfl⟩
 ·have z : decide (lo ≤ x) = false := decide_eq_false h1
  have z2 : x < lo := by omega
  go_enter Tryz.func43, Tryz.ntmps43
  go_wp2
  go_ret
  exact ⟨by unfold inIt; rw [z]; rfl, rfl⟩
set_option maxHeartbeats 2000000 in
theorem specSnapOk (x : Snp) (w : World) (hd : x.data.size ≤ maxLen) : Calls Tryz.prog 88 #[vSnp x] w fun e w' => e = .returned (.bool (snapOk x)) ∧ Below w.heap.size w w' := by
 obtain ⟨i, t, d⟩ := x
 unfold vSnp
 simp only at hd ⊢
 have HB : Hid (Below w.heap.size w (w.alloc (.cells #[.int .i64 i, .int .i64 t, .string d] 32))) := below_one _ _
 have HE : Hid (snapOk ⟨i, t, d⟩ = if i = 0 then decide (t = 0) && decide (d = ByteArray.empty) else inIt i 1 100000 && inIt t 1 100000 && decide (d.size ≤ 30000)) := rfl
 by_cases h1 : i = 0
 ·subst h1
  rw [if_pos rfl] at HE
  by_cases h2 : t = 0
  ·subst h2
   rw [decide_eq_true rfl] at HE
   have hb := empty_beq d
   cases h3 : decide (d = ByteArray.empty) <;> rw [h3] at hb HE <;> clear h3
   ·go_enter Tryz.func88, Tryz.ntmps88
    go_wp2_with fail
    go_ret
    exact ⟨by rw [HE.out]; rfl, HB.out⟩
   ·go_enter Tryz.func88, Tryz.ntmps88
    go_wp2_with fail
    go_ret
    exact ⟨by rw [HE.out]; rfl, HB.out⟩
  ·rw [decide_eq_false h2] at HE
   have z : (t == 0) = false := by simpa using h2
   go_enter Tryz.func88, Tryz.ntmps88
   go_wp2_with fail
   go_ret
   exact ⟨by rw [HE.out]; rfl, HB.out⟩
 ·rw [if_neg h1] at HE
  have z : (i == 0) = false := by simpa using h1
  have a1 := inBS i 1 100000
  have a2 := inBS t 1 100000
  cases h2 : inIt i 1 100000 <;> rw [h2] at a1 HE <;> clear h2
  ·clear h1
   go_enter Tryz.func88, Tryz.ntmps88
   go_wp2_with fail
   refine (a1 _).mono ?_
   rintro e w' ⟨rfl, rfl⟩
   go_wp2_with fail
   go_ret
   exact ⟨by rw [HE.out]; rfl, HB.out⟩
  cases h3 : inIt t 1 100000 <;> rw [h3] at a2 HE <;> clear h3
  ·clear h1
   go_enter Tryz.func88, Tryz.ntmps88
   go_wp2_with fail
   refine (a1 _).mono ?_
   rintro e w' ⟨rfl, rfl⟩
   go_wp2_with fail
   refine (a2 _).mono ?_
   rintro e w' ⟨rfl, rfl⟩
   go_wp2_with fail
   go_ret
   exact ⟨by rw [HE.out]; rfl, HB.out⟩
  ·clear h1
   have hdi : (d.size : Int) ≤ 9223372036854775807 := by unfold maxLen at hd; omega
   have hq : decide ((d.size : Int) ≤ 30000) = decide (d.size ≤ 30000) := by
    by_cases h : d.size ≤ 30000
    ·rw [decide_eq_true h, decide_eq_true (by omega)]
    ·rw [decide_eq_false h, decide_eq_false (by omega)]
   go_enter Tryz.func88, Tryz.ntmps88
   go_wp2_with fail
   refine (a1 _).mono ?_
   rintro e w' ⟨rfl, rfl⟩
   go_wp2_with fail
   refine (a2 _).mono ?_
   rintro e w' ⟨rfl, rfl⟩
   go_wp2_with fail
   go_ret
   exact ⟨by rw [HE.out, ← hq]; rfl, HB.out⟩
end Go.Proofs.YtdimaoloapbeoaaGreatDoor
namespace Go.Proofs.YtdimaoloapbeoaaGreatDoor
open Go.ChangeShapes Go.WideShapes Go.ChangeAt Go.RowKit Go.PlainAid
set_option linter.unusedVariables false
theorem empty_eqsS (d : ByteArray) : (d.toList == []) = decide (d = ByteArray.empty) := by
 rw [← empty_beq]
 cases d.toList <;> rfl
set_option maxHeartbeats 4000000 in
theorem implSnapOk (x : Snp) (w : World) (hd : x.data.size ≤ maxLen) : Calls Tryz.prog 121 #[vSnp x] w fun e w' => e = .returned (.bool (snapOk x)) ∧ Below w.heap.size w w' := by
 obtain ⟨i, t, d⟩ := x
 unfold vSnp
 simp only at hd ⊢
 have HB : Hid (Below w.heap.size w (w.alloc (.cells #[.int .i64 i, .int .i64 t, .string d] 32))) := below_one _ _
 have HE : Hid (snapOk ⟨i, t, d⟩ = if i = 0 then decide (t = 0) && decide (d = ByteArray.empty) else inIt i 1 100000 && inIt t 1 100000 && decide (d.size ≤ 30000)) := rfl
 have hdi : (d.size : Int) ≤ 9223372036854775807 := by unfold maxLen at hd; omega
 clear hd
 by_cases h1 : i = 0
 ·subst h1
  rw [if_pos rfl] at HE
  by_cases h2 : t = 0
  ·subst h2
   rw [decide_eq_true rfl] at HE
   have hb := empty_beq d
   have hc := empty_eqsS d
   cases h3 : decide (d = ByteArray.empty) <;> rw [h3] at hb hc HE <;> clear h3
   ·go_enter Tryz.func121, Tryz.ntmps121
    go_wp2
    go_ret
    exact ⟨by rw [HE.out]; rfl, HB.out⟩
   ·go_enter Tryz.func121, Tryz.ntmps121
    go_wp2
    go_ret
    exact ⟨by rw [HE.out]; rfl, HB.out⟩
  ·rw [decide_eq_false h2] at HE
   have z : (t == 0) = false := by simpa using h2
   clear h2
   go_enter Tryz.func121, Tryz.ntmps121
   go_wp2
   go_ret
   exact ⟨by rw [HE.out]; rfl, HB.out⟩
 ·rw [if_neg h1] at HE
  have z : (i == 0) = false := by simpa using h1
  unfold inIt at HE
  by_cases a1 : 1 ≤ i
  ·by_cases a2 : i ≤ 100000
   ·by_cases a3 : 1 ≤ t
    ·by_cases a4 : t ≤ 100000
     ·have hq : decide ((d.size : Int) ≤ 30000) = decide (d.size ≤ 30000) := by
       by_cases h : d.size ≤ 30000
       ·rw [decide_eq_true h, decide_eq_true (by omega)]
       ·rw [decide_eq_false h, decide_eq_false (by omega)]
      rw [decide_eq_true a1, decide_eq_true a2, decide_eq_true a3, decide_eq_true a4, ← hq] at HE
      clear hq
      by_cases a5 : (d.size : Int) ≤ 30000
      ·rw [decide_eq_true a5] at HE
       go_enter Tryz.func121, Tryz.ntmps121
       go_wp2
       go_ret
       exact ⟨by rw [HE.out]; rfl, HB.out⟩
      ·have b5 : decide ((d.size : Int) ≤ 30000) = false := decide_eq_false a5
       rw [b5] at HE
       go_enter Tryz.func121, Tryz.ntmps121
       go_wp2
       go_ret
       exact ⟨by rw [HE.out]; rfl, HB.out⟩
     ·have b4 : decide (t ≤ 100000) = false := decide_eq_false a4
      rw [b4] at HE
      go_enter Tryz.func121, Tryz.ntmps121
      go_wp2
      go_ret
      exact ⟨by rw [HE.out]; simp, HB.out⟩
    ·have b3 : decide (1 ≤ t) = false := decide_eq_false a3
     rw [b3] at HE
     go_enter Tryz.func121, Tryz.ntmps121
     go_wp2
     go_ret
     exact ⟨by rw [HE.out]; simp, HB.out⟩
   ·have b2 : decide (i ≤ 100000) = false := decide_eq_false a2
    rw [b2] at HE
    go_enter Tryz.func121, Tryz.ntmps121
    go_wp2
    go_ret
    exact ⟨by rw [HE.out]; simp, HB.out⟩
  ·have b1 : decide (1 ≤ i) = false := decide_eq_false a1
   rw [b1] at HE
   go_enter Tryz.func121, Tryz.ntmps121
   go_wp2
   go_ret
   exact ⟨by rw [HE.out]; simp, HB.out⟩
end Go.Proofs.YtdimaoloapbeoaaGreatDoor
