/- PtMath LikeAid Num1In PtOk -/
import Derived.Test.YtpmgndgkmffcnaaGreatDoorQd3
import Derived.Below
import Derived.BigQuiet
import Derived.WalkKit
import Derived.Test.YtpmgndgkmffcnaaGreatDoorRows
import Derived.Test.YtpmgndgkmffcnaaGreatDoorQd0
import Derived.ProofKit
import Derived.OpenShut
import Derived.WalkLawsBesides
import Derived.WalkMore
import Derived.Outline
import Derived.WalkSmall
namespace Go.Proofs.YtpmgndgkmffcnaaGreatDoor
open Go.RowKit Go.PlainAid
def Rising (l : List Pnt) : Prop := l.Pairwise fun p q => p.t < q.t
def inB (p : Pnt) : Prop := (0 ≤ p.t ∧ p.t ≤ 1099511627776) ∧ (-1099511627776 ≤ p.v ∧ p.v ≤ 1099511627776)
theorem tAt_get (l : List Pnt) (j : Nat) (h : j < l.length) : tAt l j = (l[j]).t := by rw [tAt, ← getD_at l j h]
theorem vAt_get (l : List Pnt) (j : Nat) (h : j < l.length) : vAt l j = (l[j]).v := by rw [vAt, ← getD_at l j h]
theorem rising_of_next (l : List Pnt) (h : ∀ j, j < l.length → 0 < j → tAt l (j - 1) < tAt l j) : Rising l := by
 unfold Rising
 rw [List.pairwise_iff_getElem]
 have key : ∀ d i, i + d + 1 < l.length → tAt l i < tAt l (i + d + 1) := by
  intro d
  induction d with
  | zero => intro i hi; have := h (i + 0 + 1) hi (by omega); simpa using this
  | succ d ih =>
   intro i hi
   have h1 := ih i (by omega)
   have h2 := h (i + (d + 1) + 1) hi (by omega)
   rw [show i + (d + 1) + 1 - 1 = i + d + 1 by omega] at h2
   omega
 intro i j hi hj hij
 have := key (j - i - 1) i (by omega)
 rw [show i + (j - i - 1) + 1 = j by omega] at this
 rw [tAt_get l i hi, tAt_get l j hj] at this
 exact this
theorem POk_iff (l : List Pnt) : POk l ↔ l.length ≤ 60 ∧ Rising l ∧ ∀ p ∈ l, inB p := by
 constructor
 ·intro h
  refine ⟨h.1, rising_of_next l fun j hj h0 => (h.2 j hj).2 h0, fun p hp => ?_⟩
  obtain ⟨j, hj, rfl⟩ := List.getElem_of_mem hp
  have := (h.2 j hj).1
  rw [tAt_get l j hj, vAt_get l j hj] at this
  exact this
 ·rintro ⟨h1, h2, h3⟩
  refine ⟨h1, fun j hj => ⟨?_, fun h0 => ?_⟩⟩
  ·rw [tAt_get l j hj, vAt_get l j hj]
   exact h3 _ (List.getElem_mem hj)
  ·rw [tAt_get l j hj, tAt_get l (j - 1) (by omega)]
   exact (List.pairwise_iff_getElem.1 h2) (j - 1) j (by omega) hj (by omega)
theorem rising_ext : ∀ {l m : List Pnt}, Rising l → Rising m → (∀ p, p ∈ l ↔ p ∈ m) → l = m
 | [], [], _, _, _ => rfl
 | [], y :: m, _, _, h => by have := (h y).2 (by simp); simp at this
 | x :: l, [], _, _, h => by have := (h x).1 (by simp); simp at this
 | x :: l, y :: m, hl, hm, h => by
  have hl' := List.pairwise_cons.1 hl
  have hm' := List.pairwise_cons.1 hm
  have hxy : x = y := by
   rcases List.mem_cons.1 ((h x).1 (by simp)) with e | h1
   ·exact e
   ·rcases List.mem_cons.1 ((h y).2 (by simp)) with e | h2
    ·exact e.symm
    ·have := hm'.1 x h1
     have := hl'.1 y h2
     omega
  subst hxy
  congr 1
  refine rising_ext hl'.2 hm'.2 fun p => ⟨fun hp => ?_, fun hp => ?_⟩
  ·rcases List.mem_cons.1 ((h p).1 (by simp [hp])) with e | h1
   ·subst e; have := hl'.1 p hp; omega
   ·exact h1
  ·rcases List.mem_cons.1 ((h p).2 (by simp [hp])) with e | h1
   ·subst e; have := hm'.1 p hp; omega
   ·exact h1
def stepF (p : Pnt) (s : List Pnt × Bool) (q : Pnt) : List Pnt × Bool :=
 let o := if s.2 = false ∧ p.t ≤ q.t then (s.1 ++ [p], true) else s
 if q.t = p.t then o else (o.1 ++ [q], o.2)
def putS (l : List Pnt) (p : Pnt) (k : Nat) : List Pnt × Bool := (l.take k).foldl (stepF p) ([], false)
theorem putS_succ (l : List Pnt) (p : Pnt) (k : Nat) (h : k < l.length) : putS l p (k + 1) = stepF p (putS l p k) (l.getD k default) := by
 unfold putS
 rw [take_getD l k h, List.foldl_append]
 rfl
def putL (l : List Pnt) (p : Pnt) : List Pnt := if (putS l p l.length).2 then (putS l p l.length).1 else (putS l p l.length).1 ++ [p]
def putP : List Pnt → Pnt → List Pnt
 | [], p => [p]
 | q :: r, p => if p.t ≤ q.t then p :: (q :: r).filter (fun x => decide (x.t ≠ p.t)) else q :: putP r p
theorem fold_done (p : Pnt) : ∀ (l o : List Pnt), l.foldl (stepF p) (o, true) = (o ++ l.filter (fun x => decide (x.t ≠ p.t)), true)
 | [], o => by simp
 | q :: r, o => by
  rw [List.foldl_cons]
  by_cases h : q.t = p.t
  ·have e : stepF p (o, true) q = (o, true) := by simp [stepF, h]
   rw [e, fold_done p r o, List.filter_cons, if_neg (by simp [h])]
  ·have e : stepF p (o, true) q = (o ++ [q], true) := by simp [stepF, h]
   rw [e, fold_done p r (o ++ [q]), List.filter_cons, if_pos (by simp [h]), List.append_assoc]
   rfl
def fin (p : Pnt) (s : List Pnt × Bool) : List Pnt := if s.2 then s.1 else s.1 ++ [p]
theorem fold_open (p : Pnt) : ∀ (l o : List Pnt), fin p (l.foldl (stepF p) (o, false)) = o ++ putP l p
 | [], o => by simp [fin, putP]
 | q :: r, o => by
  rw [List.foldl_cons]
  by_cases h : p.t ≤ q.t
  ·rw [putP, if_pos h]
   by_cases h2 : q.t = p.t
   ·have e : stepF p (o, false) q = (o ++ [p], true) := by simp [stepF, h2]
    rw [e, fold_done p r (o ++ [p]), List.filter_cons, if_neg (by simp [h2])]
    simp [fin]
   ·have e : stepF p (o, false) q = (o ++ [p] ++ [q], true) := by simp [stepF, h, h2]
    rw [e, fold_done p r (o ++ [p] ++ [q]), List.filter_cons, if_pos (by simp [h2])]
    simp [fin]
  ·have e : stepF p (o, false) q = (o ++ [q], false) := by simp [stepF, h, show ¬ q.t = p.t by omega]
   rw [putP, if_neg h, e, fold_open p r (o ++ [q])]
   simp
theorem putL_eq (l : List Pnt) (p : Pnt) : putL l p = putP l p := by
 have := fold_open p l []
 unfold putL putS
 rw [List.take_length]
 exact this
theorem mem_putP (p x : Pnt) : ∀ l : List Pnt, x ∈ putP l p ↔ x = p ∨ (x ∈ l ∧ x.t ≠ p.t)
 | [] => by simp [putP]
 | q :: r => by
  by_cases h : p.t ≤ q.t
  ·rw [putP, if_pos h, List.mem_cons, List.mem_filter]
   simp
  ·rw [putP, if_neg h, List.mem_cons, mem_putP p x r, List.mem_cons]
   constructor
   ·rintro (e | e | ⟨e1, e2⟩)
    ·subst e; exact .inr ⟨.inl rfl, by omega⟩
    ·exact .inl e
    ·exact .inr ⟨.inr e1, e2⟩
   ·rintro (e | ⟨e | e1, e2⟩)
    ·exact .inr (.inl e)
    ·exact .inl e
    ·exact .inr (.inr ⟨e1, e2⟩)
theorem rising_putP (p : Pnt) : ∀ l : List Pnt, Rising l → Rising (putP l p)
 | [], _ => by simp [putP, Rising]
 | q :: r, hl => by
  have hl' := List.pairwise_cons.1 hl
  by_cases h : p.t ≤ q.t
  ·rw [putP, if_pos h]
   refine List.pairwise_cons.2 ⟨fun x hx => ?_, hl.sublist List.filter_sublist⟩
   obtain ⟨h1, h2⟩ := List.mem_filter.1 hx
   have h3 : x.t ≠ p.t := by simpa using h2
   rcases List.mem_cons.1 h1 with e | h4
   ·subst e; omega
   ·have := hl'.1 x h4; omega
  ·rw [putP, if_neg h]
   refine List.pairwise_cons.2 ⟨fun x hx => ?_, rising_putP p r hl'.2⟩
   rcases (mem_putP p x r).1 hx with e | ⟨h4, _⟩
   ·subst e; omega
   ·exact hl'.1 x h4
theorem putP_length (p : Pnt) : ∀ l : List Pnt, (putP l p).length ≤ l.length + 1
 | [] => by simp [putP]
 | q :: r => by
  by_cases h : p.t ≤ q.t
  ·rw [putP, if_pos h]
   have := List.length_filter_le (fun x => decide (x.t ≠ p.t)) (q :: r)
   simp only [List.length_cons] at this ⊢
   omega
  ·rw [putP, if_neg h]
   have := putP_length p r
   simp only [List.length_cons]
   omega
def mrg (a b : List Pnt) : List Pnt := b.foldl putP a
theorem mem_mrg (x : Pnt) : ∀ (b a : List Pnt), Rising b → (x ∈ mrg a b ↔ x ∈ b ∨ (x ∈ a ∧ ∀ q ∈ b, q.t ≠ x.t))
 | [], a, _ => by simp [mrg]
 | y :: b, a, hb => by
  have hb' := List.pairwise_cons.1 hb
  have ih := mem_mrg x b (putP a y) hb'.2
  have e : mrg a (y :: b) = mrg (putP a y) b := rfl
  rw [e, ih, mem_putP]
  constructor
  ·rintro (h | ⟨h | ⟨h1, h2⟩, h3⟩)
   ·exact .inl (by simp [h])
   ·exact .inl (by simp [h])
   ·refine .inr ⟨h1, fun q hq => ?_⟩
    rcases List.mem_cons.1 hq with e | hq
    ·subst e; omega
    ·exact h3 q hq
  ·rintro (h | ⟨h1, h2⟩)
   ·rcases List.mem_cons.1 h with e | h
    ·subst e
     exact .inr ⟨.inl rfl, fun q hq => by have := hb'.1 q hq; omega⟩
    ·exact .inl h
   ·exact .inr ⟨.inr ⟨h1, fun e => h2 y (by simp) e.symm⟩, fun q hq => h2 q (by simp [hq])⟩
theorem rising_mrg : ∀ (b a : List Pnt), Rising a → Rising (mrg a b)
 | [], _, ha => ha
 | y :: b, a, ha => rising_mrg b (putP a y) (rising_putP y a ha)
theorem mrg_length : ∀ (b a : List Pnt), (mrg a b).length ≤ a.length + b.length
 | [], a => by simp [mrg]
 | y :: b, a => by
  have h1 := mrg_length b (putP a y)
  have h2 := putP_length y a
  have e : mrg a (y :: b) = mrg (putP a y) b := rfl
  rw [e]
  simp only [List.length_cons]
  omega
theorem mrg_nil_left (b : List Pnt) (hb : Rising b) : mrg [] b = b :=
 rising_ext (rising_mrg b [] (by simp [Rising])) hb fun p => by rw [mem_mrg p b [] hb]; simp
theorem mrg_less {x y : Pnt} {a b : List Pnt} (ha : Rising (x :: a)) (hb : Rising (y :: b)) (h : x.t < y.t) : mrg (x :: a) (y :: b) = x :: mrg a (y :: b) := by
 have ha' := List.pairwise_cons.1 ha
 have hb' := List.pairwise_cons.1 hb
 refine rising_ext (rising_mrg _ _ ha) (List.pairwise_cons.2 ⟨fun p hp => ?_, rising_mrg _ _ ha'.2⟩) fun p => ?_
 ·rcases (mem_mrg p (y :: b) a hb).1 hp with h1 | ⟨h1, _⟩
  ·rcases List.mem_cons.1 h1 with e | h1
   ·subst e; exact h
   ·have := hb'.1 p h1; omega
  ·exact ha'.1 p h1
 ·rw [List.mem_cons, mem_mrg p _ _ hb, mem_mrg p _ _ hb]
  constructor
  ·rintro (h1 | ⟨h1, h2⟩)
   ·exact .inr (.inl h1)
   ·rcases List.mem_cons.1 h1 with e | h1
    ·exact .inl e
    ·exact .inr (.inr ⟨h1, h2⟩)
  ·rintro (e | h1 | ⟨h1, h2⟩)
   ·subst e
    refine .inr ⟨by simp, fun q hq => ?_⟩
    rcases List.mem_cons.1 hq with e | hq
    ·subst e; omega
    ·have := hb'.1 q hq; omega
   ·exact .inl h1
   ·exact .inr ⟨by simp [h1], h2⟩
theorem mrg_same {x y : Pnt} {a b : List Pnt} (ha : Rising (x :: a)) (hb : Rising (y :: b)) (h : x.t = y.t) : mrg (x :: a) (y :: b) = y :: mrg a b := by
 have ha' := List.pairwise_cons.1 ha
 have hb' := List.pairwise_cons.1 hb
 refine rising_ext (rising_mrg _ _ ha) (List.pairwise_cons.2 ⟨fun p hp => ?_, rising_mrg _ _ ha'.2⟩) fun p => ?_
 ·rcases (mem_mrg p b a hb'.2).1 hp with h1 | ⟨h1, _⟩
  ·exact hb'.1 p h1
  ·have := ha'.1 p h1; omega
 ·rw [List.mem_cons, mem_mrg p _ _ hb, mem_mrg p _ _ hb'.2]
  constructor
  ·rintro (h1 | ⟨h1, h2⟩)
   ·rcases List.mem_cons.1 h1 with e | h1
    ·exact .inl e
    ·exact .inr (.inl h1)
   ·rcases List.mem_cons.1 h1 with e | h1
    ·subst e; exact absurd h.symm (h2 y (by simp))
    ·exact .inr (.inr ⟨h1, fun q hq => h2 q (by simp [hq])⟩)
  ·rintro (e | h1 | ⟨h1, h2⟩)
   ·exact .inl (by simp [e])
   ·exact .inl (by simp [h1])
   ·refine .inr ⟨by simp [h1], fun q hq => ?_⟩
    rcases List.mem_cons.1 hq with e | hq
    ·subst e; have := ha'.1 p h1; omega
    ·exact h2 q hq
theorem mrg_more {x y : Pnt} {a b : List Pnt} (ha : Rising (x :: a)) (hb : Rising (y :: b)) (h : y.t < x.t) : mrg (x :: a) (y :: b) = y :: mrg (x :: a) b := by
 have ha' := List.pairwise_cons.1 ha
 have hb' := List.pairwise_cons.1 hb
 refine rising_ext (rising_mrg _ _ ha) (List.pairwise_cons.2 ⟨fun p hp => ?_, rising_mrg _ _ ha⟩) fun p => ?_
 ·rcases (mem_mrg p b (x :: a) hb'.2).1 hp with h1 | ⟨h1, _⟩
  ·exact hb'.1 p h1
  ·rcases List.mem_cons.1 h1 with e | h1
   ·subst e; exact h
   ·have := ha'.1 p h1; omega
 ·rw [List.mem_cons, mem_mrg p _ _ hb, mem_mrg p _ _ hb'.2]
  constructor
  ·rintro (h1 | ⟨h1, h2⟩)
   ·rcases List.mem_cons.1 h1 with e | h1
    ·exact .inl e
    ·exact .inr (.inl h1)
   ·exact .inr (.inr ⟨h1, fun q hq => h2 q (by simp [hq])⟩)
  ·rintro (e | h1 | ⟨h1, h2⟩)
   ·exact .inl (by simp [e])
   ·exact .inl (by simp [h1])
   ·refine .inr ⟨h1, fun q hq => ?_⟩
    rcases List.mem_cons.1 hq with e | hq
    ·subst e
     rcases List.mem_cons.1 h1 with e | h1
     ·subst e; omega
     ·have := ha'.1 p h1; omega
    ·exact h2 q hq
end Go.Proofs.YtpmgndgkmffcnaaGreatDoor
namespace Go.Proofs.YtpmgndgkmffcnaaGreatDoor
open Go.RowKit
theorem cell?_heap {w w' : World} (h : w'.heap = w.heap) (a : Addr) : w'.cell? a = w.cell? a := by
 unfold World.cell?
 rw [h]
theorem below_heap {w w' : World} (h1 : w'.heap = w.heap) (h2 : w'.os = w.os) (h3 : w'.tape = w.tape) (h4 : w'.output = w.output) : Below w.heap.size w w' := ⟨h2, h3, h4, by rw [h1]; exact Nat.le_refl _, fun k _ => by rw [h1]⟩
def Like (w w' : World) : Prop := w'.heap = w.heap ∧ w'.os = w.os ∧ w'.tape = w.tape ∧ w'.output = w.output
theorem Like.refl (w : World) : Like w w := ⟨rfl, rfl, rfl, rfl⟩
theorem Like.drewN {w w' : World} (h : Like w w') (n : Nat) : Like w (w'.drewN n) := h
theorem Like.below {w w' : World} (h : Like w w') : Below w.heap.size w w' := below_heap h.1 h.2.1 h.2.2.1 h.2.2.2
end Go.Proofs.YtpmgndgkmffcnaaGreatDoor
namespace Go.Proofs.YtpmgndgkmffcnaaGreatDoor
open Go.ChangeShapes Go.WideShapes Go.ChangeAt Go.RowKit Go.PlainAid
set_option linter.unusedVariables false
set_option maxHeartbeats 400000 in
theorem in_yes (x lo hi : Int) (w : World) (h1 : lo ≤ x) (h2 : x ≤ hi) :
  Calls Tryz.prog 36 #[.int .i64 x, .int .i64 lo, .int .i64 hi] w fun e w' => e = .returned (.bool true) ∧ w = w' := by
 go_enter Tryz.func36, Tryz.ntmps36
 go_wp2
 go_ret
 exact ⟨rfl, rfl⟩
set_option maxHeartbeats 400000 in
theorem in_no (x lo hi : Int) (w : World) (h : x < lo ∨ hi < x) :
  Calls Tryz.prog 36 #[.int .i64 x, .int .i64 lo, .int .i64 hi] w fun e w' => e = .returned (.bool false) ∧ w = w' := by
 by_cases h1 : x < lo
 ·go_enter Tryz.func36, Tryz.ntmps36
  go_wp2
  go_ret
  exact ⟨rfl, rfl⟩
 ·have h2 : hi < x := by omega
  have h3 : decide (x ≤ hi) = false := by simp; omega
  clear h
  go_enter Tryz.func36, Tryz.ntmps36
  go_wp2
  go_ret
  exact ⟨rfl, rfl⟩
end Go.Proofs.YtpmgndgkmffcnaaGreatDoor
namespace Go.Proofs.YtpmgndgkmffcnaaGreatDoor
open Go.ChangeShapes Go.WideShapes Go.ChangeAt Go.RowKit Go.PlainAid
set_option linter.unusedVariables false
theorem dec_of {p : Prop} [Decidable p] (b : Bool) (h : b = true ↔ p) : decide p = b := by
 cases b
 ·exact decide_eq_false fun hp => by simp [hp] at h
 ·exact decide_eq_true (h.1 rfl)
set_option maxHeartbeats 1000000 in
theorem implPointsOk (l : List Pnt) (v : Value) (w : World) (B : Nat) (hv : Lies w B 2 v (ptR l)) (hn : l.length ≤ 1048576) (hB : B ≤ w.heap.size) : Calls Tryz.prog 63 #[v] w fun e w' => e = .returned (.bool (decide (POk l))) ∧ Below w.heap.size w w' := by
 obtain ⟨A, cap, rfl, hl⟩ := pt_look hv
 have HL : Hid (∀ j, j < l.length → ∃ g off, A = some ⟨g, off, none⟩ ∧ g < B ∧ w.cell? ⟨g, off + j * 2, none⟩ = some (.int .i64 (tAt l j)) ∧ w.cell? ⟨g, off + j * 2 + 1, none⟩ = some (.int .i64 (vAt l j))) := hl
 have HB : Hid (B ≤ w.heap.size) := hB
 have HD : Hid (∀ b, (b = true ↔ POk l) → decide (POk l) = b) := fun b hb => dec_of b hb
 have HV : Hid (POk l ↔ l.length ≤ 60 ∧ ∀ j, j < l.length → ((0 ≤ tAt l j ∧ tAt l j ≤ 1099511627776) ∧ (-1099511627776 ≤ vAt l j ∧ vAt l j ≤ 1099511627776)) ∧ (0 < j → tAt l (j - 1) < tAt l j)) := Iff.rfl
 have q0 : (l.length : Int) ≤ 1048576 := by omega
 clear hl hn hv hB
 generalize hN : l.length = n at *
 clear hN
 by_cases h2 : (60 : Int) < (n : Int)
 ·go_enter Tryz.func63, Tryz.ntmps63
  go_wp2
  go_ret
  refine ⟨?_, Below.refl _ _⟩
  rw [HD.out false]
  ·rfl
  rw [HV.out]
  exact ⟨fun h => (by cases h), fun h => by omega⟩
 have q1 : (n : Int) ≤ 60 := by omega
 clear h2
 go_enter Tryz.func63, Tryz.ntmps63
 go_wp2
 go_loopw [3, 11] (fun v3 v11 wr => ∃ (k : Nat) (m : Int), k ≤ n ∧ v11 = .int .i64 (k : Int) ∧ v3 = .int .i64 m ∧ 0 ≤ m ∧ m ≤ 1099511627777 ∧ Hid ((k = 0 → m = 0) ∧ (0 < k → m = tAt l (k - 1) + 1)) ∧ Below w.heap.size w wr ∧ Hid (∀ j, j < k → ((0 ≤ tAt l j ∧ tAt l j ≤ 1099511627776) ∧ (-1099511627776 ≤ vAt l j ∧ vAt l j ≤ 1099511627776)) ∧ (0 < j → tAt l (j - 1) < tAt l j))) (fun _ i _ => n - (intOf i).toNat)
 case atStart => exact ⟨0, 0, by omega, rfl, rfl, by omega, by omega, ⟨fun _ => rfl, fun h => by omega⟩, Below.refl _ _, fun j hj => by omega⟩
 case round =>
  obtain ⟨k, m, hk, rfl, rfl, hm0, hm1, HM, hb, HJ⟩ := hrel
  have HB1 : Hid (Below w.heap.size w wr) := hb
  clear hb
  by_cases hlt : k < n
  ·have q2 : (k : Int) < (n : Int) := by omega
   obtain ⟨g, off, rfl, hg, e1, e2⟩ := HL.out k hlt
   have hgw : g < w.heap.size := Nat.lt_of_lt_of_le hg HB.out
   rw [← HB1.out.cell (p := ⟨_, _, none⟩) hgw] at e1
   rw [← HB1.out.cell (p := ⟨_, _, none⟩) hgw] at e2
   have HBa : Hid (∀ cs cs' : Array Value, Below w.heap.size w ((wr.alloc (.cells cs 56)))) := fun cs _ => HB1.out.alloc HB1.out.size _
   generalize hx : tAt l k = x at *
   have HX : Hid (tAt l k = x) := hx
   clear hx
   generalize hy : vAt l k = y at *
   have HY : Hid (vAt l k = y) := hy
   clear hy hgw hg
   have HNo : Hid ((x < m ∨ 1099511627776 < x ∨ y < -1099511627776 ∨ 1099511627776 < y) → decide (POk l) = false) := fun h => by
    apply HD.out
    rw [HV.out]
    refine ⟨fun h => (by cases h), fun h2 => ?_⟩
    have h3 := h2.2 k hlt
    rw [HX.out, HY.out] at h3
    have h4 := HM.out
    by_cases h0 : k = 0
    ·have := h4.1 h0; omega
    ·have := h4.2 (by omega); have := h3.2 (by omega); omega
   by_cases c1 : x < m
   ·skip
    go_wp2
    go_ret
    exact ⟨by rw [HNo.out (.inl c1)]; rfl, HBa.out _ #[]⟩
   by_cases c2 : 1099511627776 < x
   ·skip
    go_wp2
    go_ret
    exact ⟨by rw [HNo.out (.inr (.inl c2))]; rfl, HBa.out _ #[]⟩
   by_cases c3 : y < -1099511627776
   ·skip
    go_wp2
    go_ret
    exact ⟨by rw [HNo.out (.inr (.inr (.inl c3)))]; rfl, HBa.out _ #[]⟩
   by_cases c4 : 1099511627776 < y
   ·skip
    go_wp2
    go_ret
    exact ⟨by rw [HNo.out (.inr (.inr (.inr c4)))]; rfl, HBa.out _ #[]⟩
   go_wp2
   go_roundw
   case rel =>
    refine ⟨k + 1, x + 1, by omega, by go_num, by go_num, by omega, by omega, ⟨fun h => by omega, fun _ => by rw [Nat.add_sub_cancel, HX.out]⟩, HBa.out _ #[], fun j hj => ?_⟩
    by_cases e : j = k
    ·subst e
     rw [HX.out, HY.out]
     have h4 := HM.out
     refine ⟨⟨⟨by omega, by omega⟩, by omega, by omega⟩, fun h => ?_⟩
     have := h4.2 h
     omega
    ·exact HJ.out j (by omega)
   case measure => simp [intOf]; omega
  ·have hkk : k = n := by omega
   subst hkk
   go_wp2
   go_ret
   refine ⟨?_, HB1.out⟩
   rw [HD.out true]
   ·rfl
   rw [HV.out]
   exact ⟨fun _ => ⟨by omega, HJ.out⟩, fun _ => rfl⟩
end Go.Proofs.YtpmgndgkmffcnaaGreatDoor
