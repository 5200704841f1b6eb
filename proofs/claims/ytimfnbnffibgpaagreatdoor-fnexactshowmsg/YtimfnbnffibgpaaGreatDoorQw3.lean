/- Until UntilF PtAid BtVar Num1In NumV NumR NmAid LikeAid NmLaw -/
import Derived.Deep.RegionHeld3
import Derived.StillTail
import Derived.Test.YtimfnbnffibgpaaGreatDoorQw1
import Derived.Test.YtimfnbnffibgpaaGreatDoorQw0
import Derived.Test.YtimfnbnffibgpaaGreatDoorRows
import Derived.WalkKit
import Derived.ProofKit
import Derived.OpenShut
import Derived.WalkLawsBesides
import Derived.WalkMore
import Derived.Outline
import Derived.WalkSmall
import Derived.Below
import Derived.Handy
import Derived.WalkSpells
import Derived.Deep.OwnRows
import Derived.Deep.RegionLaw
import Derived.Deep.DrawnRows
import Derived.Laws.OwnMore
import Derived.OwnWalk
import Derived.Lib.OwnKind
import Derived.Shelf.Strings.BuilderK
import Derived.BigQuiet
import Derived.Deep.QuietTactic
import Derived.Deep.RegionWith
open List (setIfInBounds_toArray set_cons_zero set_cons_succ)
namespace Go.Proofs.YtimfnbnffibgpaaGreatDoor
open Go
section
variable {P : Program} {ops : Array Oper} {Q : Exit → Act → World → Prop} {md : Region.Mode} {S : World → Prop} {T : Nat → Bool}
def wpUntil (P : Program) (md : Region.Mode) (ops : Array Oper) (Q : Exit → Act → World → Prop) (S : World → Prop) (T : Nat → Bool) : Nat → Array Bool → Act → World → Prop
 | 0, listed, a, w => Region.ready md ops listed = [] ∧ Q .normal a w
 | fuel + 1, listed, a, w =>
  (Region.ready md ops listed = [] → Q .normal a w) ∧ ∀ i ∈ Region.ready md ops listed, wpOp P ops Q i (fun a' w' => (T i = false → S w → S w') ∧ wpUntil P md ops Q S T fuel (listed.setIfInBounds i true) a' w') a w
theorem wpAny_of_until : ∀ (fuel : Nat) (listed : Array Bool) (a : Act) (w : World), wpUntil P md ops Q S T fuel listed a w → wpAny P md ops Q fuel listed a w
 | 0, _, _, _, h => h
 | fuel + 1, _, _, _, h => ⟨h.1, fun i hi => wpOp_mono (fun a' w' h' => wpAny_of_until fuel _ a' w' h'.2) (h.2 i hi)⟩
def needs (md : Region.Mode) (ops : Array Oper) : Nat → Nat → Nat → Bool
 | 0, _, _ => false
 | f + 1, t, i => match ops[t]? with
  | some o => o.after.any fun e => Region.binds md e && (e.on == i || needs md ops f e.on i)
  | none => false
def Closed (md : Region.Mode) (ops : Array Oper) (listed : Array Bool) : Prop :=
 ∀ j oj, ops[j]? = some oj → listed.getD j false = true → ∀ e ∈ oj.after, Region.binds md e = true → listed.getD e.on false = true
theorem needs_some {f t i : Nat} (h : needs md ops f t i = true) : ∃ o, ops[t]? = some o := by
 cases f with
 | zero => cases h
 | succ f =>
  unfold needs at h
  cases e : ops[t]? with
  | none => rw [e] at h; cases h
  | some o => exact ⟨o, rfl⟩
theorem needs_listed {listed : Array Bool} (hc : Closed md ops listed) : ∀ (f t i : Nat) (ot : Oper), ops[t]? = some ot → (∀ e ∈ ot.after, Region.binds md e = true → listed.getD e.on false = true) → needs md ops f t i = true → listed.getD i false = true
 | 0, _, _, _, _, _, h => by cases h
 | f + 1, t, i, ot, hot, hall, h => by
  unfold needs at h
  rw [hot] at h
  obtain ⟨e, he, hb⟩ := Array.any_eq_true'.1 h
  rw [Bool.and_eq_true, Bool.or_eq_true] at hb
  have h1 := hall e he hb.1
  rcases hb.2 with h2 | h2
  ·rw [← beq_iff_eq.1 h2]
   exact h1
  ·obtain ⟨o2, ho2⟩ := needs_some h2
   exact needs_listed hc f e.on i o2 ho2 (hc e.on o2 ho2 h1) h2
theorem Closed.set {i : Nat} {listed : Array Bool} (h : Closed md ops listed) (hi : i ∈ Region.ready md ops listed) : Closed md ops (listed.setIfInBounds i true) := by
 obtain ⟨_, oi, hoi, hall⟩ := mem_ready.1 hi
 intro j oj hj hl e he hb
 by_cases hij : i = j
 ·subst hij
  have : oj = oi := Option.some.inj (hj.symm.trans hoi)
  subst this
  exact getD_set_true (hall e he hb)
 ·rw [_root_.Go.getD_set_ne false hij] at hl
  exact getD_set_true (h j oj hj hl e he hb)
theorem wpUntil_first {i : Nat} {oi : Oper} {v : Value} (hi : ops[i]? = some oi) (hsel : ∀ (j : Nat) (o : Oper) cs b, ops[j]? = some o → o.op ≠ .select cs b)
  (hQ : ∀ c a w, Q (.panic c) (a.put oi.dst v) w → Q (.panic c) a w) (hT : ∀ t, t < ops.size → T t = true → needs md ops ops.size t i = true) :
  ∀ (fuel : Nat) (listed : Array Bool) (a : Act) (w : World), Closed md ops listed →
   (∀ j oj, ops[j]? = some oj → j ≠ i → listed.getD j true = false → (∀ e ∈ oj.after, Region.binds md e = true → e.on ≠ i) → oi.apart ops oj = true) →
   i ∈ Region.ready md ops listed → YieldsIf P ops S oi v a → S w →
   wpUntil P md ops Q S T fuel (listed.setIfInBounds i true) (a.put oi.dst v) w → wpUntil P md ops Q S T (fuel + 1) listed a w := by
 intro fuel
 induction fuel with
 | zero =>
  intro listed a w _ _ hr hy hS H
  refine ⟨fun h => (by rw [h] at hr; cases hr), fun j hj => ?_⟩
  by_cases hji : j = i
  ·subst hji
   exact hy.wpOp hi hS ⟨fun _ h => h, H⟩
  ·have := ready_mono hj hji
   rw [H.1] at this
   cases this
 | succ fuel ih =>
  intro listed a w hc hfree hr hy hS H
  refine ⟨fun h => (by rw [h] at hr; cases hr), fun j hj => ?_⟩
  by_cases hji : j = i
  ·subst hji
   exact hy.wpOp hi hS ⟨fun _ h => h, H⟩
  ·have h1 := H.2 j (ready_mono hj hji)
   obtain ⟨hjun, oj, hoj, hall⟩ := mem_ready.1 hj
   have hun := getD_both (mem_ready.1 hr).1
   have hnot : ∀ e ∈ oj.after, Region.binds md e = true → e.on ≠ i := fun e he hb heq => by
    have h1 := hall e he hb
    rw [heq, hun] at h1
    cases h1
   have hTj : T j = false := by
    cases e : T j with
    | false => rfl
    | true =>
     have := needs_listed hc _ j i oj hoj hall (hT j (Array.getElem?_eq_some_iff.1 hoj).1 e)
     rw [hun] at this
     cases this
   have h2 := wpOp_putIf hoj (hfree j oj hoj hji hjun hnot) (fun cs b => hsel i oi cs b hi) (fun cs b => hsel j oj cs b hoj) hQ hy h1
   have hfree' : ∀ k ok, ops[k]? = some ok → k ≠ i → (listed.setIfInBounds j true).getD k true = false →
     (∀ e ∈ ok.after, Region.binds md e = true → e.on ≠ i) → oi.apart ops ok = true := fun k ok hk hki hun hno => by
    refine hfree k ok hk hki ?_ hno
    by_cases hjk : j = k
    ·subst hjk
     exact hjun
    ·rw [_root_.Go.getD_set_ne true hjk] at hun
     exact hun
   refine wpOp_mono (fun a' w' h3 => ⟨h3.2.1, ih (listed.setIfInBounds j true) a' w' (hc.set hj) hfree' (ready_mono hr (Ne.symm hji)) h3.1 (h3.2.1 hTj hS) ?_⟩) h2
   rw [Array.setIfInBounds_comm _ _ hji]
   exact h3.2.2
theorem wpUntil_pure {i : Nat} {oi : Oper} {v : Value} (hi : ops[i]? = some oi) (hsel : ∀ (j : Nat) (o : Oper) cs b, ops[j]? = some o → o.op ≠ .select cs b)
  (hQ : ∀ c a w, Q (.panic c) (a.put oi.dst v) w → Q (.panic c) a w) :
  ∀ (fuel : Nat) (listed : Array Bool) (a : Act) (w : World),
   (∀ j oj, ops[j]? = some oj → j ≠ i → listed.getD j true = false → (∀ e ∈ oj.after, Region.binds md e = true → e.on ≠ i) → oi.apart ops oj = true) →
   i ∈ Region.ready md ops listed → YieldsIf P ops (fun _ => True) oi v a →
   wpUntil P md ops Q S T fuel (listed.setIfInBounds i true) (a.put oi.dst v) w → wpUntil P md ops Q S T (fuel + 1) listed a w := by
 intro fuel
 induction fuel with
 | zero =>
  intro listed a w _ hr hy H
  refine ⟨fun h => (by rw [h] at hr; cases hr), fun j hj => ?_⟩
  by_cases hji : j = i
  ·subst hji
   exact hy.wpOp hi trivial ⟨fun _ h => h, H⟩
  ·have := ready_mono hj hji
   rw [H.1] at this
   cases this
 | succ fuel ih =>
  intro listed a w hfree hr hy H
  refine ⟨fun h => (by rw [h] at hr; cases hr), fun j hj => ?_⟩
  by_cases hji : j = i
  ·subst hji
   exact hy.wpOp hi trivial ⟨fun _ h => h, H⟩
  ·have h1 := H.2 j (ready_mono hj hji)
   obtain ⟨hjun, oj, hoj, hall⟩ := mem_ready.1 hj
   have hun := getD_both (mem_ready.1 hr).1
   have hnot : ∀ e ∈ oj.after, Region.binds md e = true → e.on ≠ i := fun e he hb heq => by
    have h1 := hall e he hb
    rw [heq, hun] at h1
    cases h1
   have h2 := wpOp_putIf hoj (hfree j oj hoj hji hjun hnot) (fun cs b => hsel i oi cs b hi) (fun cs b => hsel j oj cs b hoj) hQ hy h1
   have hfree' : ∀ k ok, ops[k]? = some ok → k ≠ i → (listed.setIfInBounds j true).getD k true = false →
     (∀ e ∈ ok.after, Region.binds md e = true → e.on ≠ i) → oi.apart ops ok = true := fun k ok hk hki hun hno => by
    refine hfree k ok hk hki ?_ hno
    by_cases hjk : j = k
    ·subst hjk
     exact hjun
    ·rw [_root_.Go.getD_set_ne true hjk] at hun
     exact hun
   refine wpOp_mono (fun a' w' h3 => ⟨h3.2.1, ih (listed.setIfInBounds j true) a' w' hfree' (ready_mono hr (Ne.symm hji)) h3.1 ?_⟩) h2
   rw [Array.setIfInBounds_comm _ _ hji]
   exact h3.2.2
def closedB (md : Region.Mode) (ops : Array Oper) (listed : Array Bool) : Bool :=
 (List.range ops.size).all fun j => match ops[j]? with
  | some oj => !(listed.getD j false) || oj.after.all fun e => !Region.binds md e || listed.getD e.on false
  | none => true
theorem closedB_spec {listed : Array Bool} (h : closedB md ops listed = true) : Closed md ops listed := by
 intro j oj hj hl e he hb
 have h1 := List.all_eq_true.1 h j (List.mem_range.2 (Array.getElem?_eq_some_iff.1 hj).1)
 rw [hj] at h1
 simp only [hl, Bool.not_true, Bool.false_or] at h1
 have h2 := Array.all_eq_true'.1 h1 e he
 rw [hb] at h2
 simpa using h2
def takeB (md : Region.Mode) (ops : Array Oper) (T : Nat → Bool) (listed : Array Bool) (i : Nat) : Bool :=
 Region.noSelect ops && Region.free md ops listed i && (Region.ready md ops listed).contains i && closedB md ops listed && (List.range ops.size).all fun t => !T t || needs md ops ops.size t i
theorem drop_at {l : List Oper} {i : Nat} {o : Oper} {rest : List Oper} (h : l.drop i = o :: rest) : l.toArray[i]? = some o := by
 have := congrArg (fun x : List Oper => x[0]?) h
 simpa [List.getElem?_drop] using this
theorem until_take {l : List Oper} (i : Nat) {oi : Oper} {rest : List Oper} {v : Value} {fuel : Nat} {listed : Array Bool} {a : Act} {w : World} (hd : l.drop i = oi :: rest) (hB : takeB md l.toArray T listed i = true)
  (hQ : ∀ c a w, Q (.panic c) (a.put oi.dst v) w → Q (.panic c) a w) (hw : Region.wanted oi (yielded l.toArray a.tmps) = true) (hy : ∀ w, S w → (execOp a.eval oi).run P w = .ok (.value v) w) (hS : S w)
  (h : wpUntil P md l.toArray Q S T fuel (listed.setIfInBounds i true) (a.put oi.dst v) w) : wpUntil P md l.toArray Q S T (fuel + 1) listed a w := by
 unfold takeB at hB
 simp only [Bool.and_eq_true] at hB
 obtain ⟨⟨⟨⟨hs, hf⟩, hr⟩, hc⟩, ht⟩ := hB
 refine wpUntil_first (drop_at hd) (Region.noSelect_spec hs) hQ (fun t htl htt => ?_) fuel listed a w (closedB_spec hc) (Region.free_spec (drop_at hd) hf) (by simpa using hr) (.inl ⟨hw, hy⟩) hS h
 have := List.all_eq_true.1 ht t (List.mem_range.2 htl)
 rw [htt] at this
 simpa using this
def pureB (md : Region.Mode) (ops : Array Oper) (listed : Array Bool) (i : Nat) : Bool := Region.noSelect ops && Region.free md ops listed i && (Region.ready md ops listed).contains i
theorem until_pure {l : List Oper} (i : Nat) {oi : Oper} {rest : List Oper} {v : Value} {fuel : Nat} {listed : Array Bool} {a : Act} {w : World} (hd : l.drop i = oi :: rest) (hB : pureB md l.toArray listed i = true)
  (hQ : ∀ c a w, Q (.panic c) (a.put oi.dst v) w → Q (.panic c) a w) (hw : Region.wanted oi (yielded l.toArray a.tmps) = true) (hy : ∀ w, (execOp a.eval oi).run P w = .ok (.value v) w)
  (h : wpUntil P md l.toArray Q S T fuel (listed.setIfInBounds i true) (a.put oi.dst v) w) : wpUntil P md l.toArray Q S T (fuel + 1) listed a w := by
 unfold pureB at hB
 simp only [Bool.and_eq_true] at hB
 obtain ⟨⟨hs, hf⟩, hr⟩ := hB
 exact wpUntil_pure (drop_at hd) (Region.noSelect_spec hs) hQ fuel listed a w (Region.free_spec (drop_at hd) hf) (by simpa using hr) (.inl ⟨hw, fun w _ => hy w⟩) h
theorem until_one {l : List Oper} (i : Nat) {oi : Oper} {rest : List Oper} {fuel : Nat} {listed : Array Bool} {a : Act} {w : World} (hd : l.drop i = oi :: rest) (hr : Region.ready md l.toArray listed = [i])
  (h : ∀ K : Act → World → Prop, Shut (∀ a' w', (T i = false → S w → S w') → wpUntil P md l.toArray Q S T fuel (listed.setIfInBounds i true) a' w' → K a' w') → if Region.wanted oi (yielded l.toArray a.tmps) = true then Oper.wp P oi a w K Q else K (a.put oi.dst undef) w) :
  wpUntil P md l.toArray Q S T (fuel + 1) listed a w := by
 refine ⟨fun h0 => (by rw [hr] at h0; cases h0), fun j hj => ?_⟩
 rw [hr] at hj
 obtain rfl : j = i := by simpa using hj
 exact wpOp_step (drop_at hd) (fun K hK => h K (fun a w h1 h2 => hK a w ⟨h1, h2⟩))
theorem until_two {l : List Oper} (i j : Nat) {oi oj : Oper} {rest rest' : List Oper} {fuel : Nat} {listed : Array Bool} {a : Act} {w : World} (hd : l.drop i = oi :: rest) (hd' : l.drop j = oj :: rest') (hr : Region.ready md l.toArray listed = [i, j])
  (h : ∀ K : Act → World → Prop, Shut (∀ a' w', (T i = false → S w → S w') → wpUntil P md l.toArray Q S T fuel (listed.setIfInBounds i true) a' w' → K a' w') → if Region.wanted oi (yielded l.toArray a.tmps) = true then Oper.wp P oi a w K Q else K (a.put oi.dst undef) w)
  (h' : ∀ K : Act → World → Prop, Shut (∀ a' w', (T j = false → S w → S w') → wpUntil P md l.toArray Q S T fuel (listed.setIfInBounds j true) a' w' → K a' w') → if Region.wanted oj (yielded l.toArray a.tmps) = true then Oper.wp P oj a w K Q else K (a.put oj.dst undef) w) :
  wpUntil P md l.toArray Q S T (fuel + 1) listed a w := by
 refine ⟨fun h0 => (by rw [hr] at h0; cases h0), fun k hk => ?_⟩
 rw [hr] at hk
 have : k = i ∨ k = j := by simpa using hk
 rcases this with rfl | rfl
 ·exact wpOp_step (drop_at hd) (fun K hK => h K (fun a w h1 h2 => hK a w ⟨h1, h2⟩))
 ·exact wpOp_step (drop_at hd') (fun K hK => h' K (fun a w h1 h2 => hK a w ⟨h1, h2⟩))
theorem until_done {listed : Array Bool} {a : Act} {w : World} (hr : Region.ready md ops listed = []) (h : Q .normal a w) : ∀ fuel, wpUntil P md ops Q S T fuel listed a w
 | 0 => ⟨hr, h⟩
 | _ + 1 => ⟨fun _ => h, by rw [hr]; simp⟩
theorem wp_region_until {id : Nat} {l : List Oper} {a : Act} {w : World} (S : World → Prop) (T : Nat → Bool) (n : Nat) (hn : l.length = n) (hm : P.follows .mixedOrders = true)
  (h : wpUntil P .any l.toArray Q S T n (Array.replicate n false) a w.drew) : (Code.region id l.toArray true).wp P Q a w := by
 subst hn
 exact wp_region_any hm (wpAny_of_until _ _ _ _ (by simpa using h))
end
section
variable {P : Program} {Q : Exit → Act → World → Prop} {md : Region.Mode} {S : World → Prop} {T : Nat → Bool}
theorem tKe {l : List Oper} (i : Nat) {oi : Oper} {rest : List Oper} {v : Value} {fuel : Nat} {listed : Array Bool} {a : Act} {w : World} (hS : S w) (hy : ∀ w, S w → (execOp a.eval oi).run P w = .ok (.value v) w) (h : wpUntil P md l.toArray Q S T fuel (listed.setIfInBounds i true) (a.put oi.dst v) w) (hd : l.drop i = oi :: rest := by rfl) (hB : takeB md l.toArray T listed i = true := by kernel_rfl) (hQ : ∀ c a w, Q (.panic c) (a.put oi.dst v) w → Q (.panic c) a w := by exact fun _ _ _ h => h) (hw : Region.wanted oi (yielded l.toArray a.tmps) = true := by rfl) : wpUntil P md l.toArray Q S T (fuel + 1) listed a w := until_take i hd hB hQ hw hy hS h
theorem pUr {l : List Oper} (i : Nat) {oi : Oper} {rest : List Oper} {v : Value} {fuel : Nat} {listed : Array Bool} {a : Act} {w : World} (hy : ∀ w, (execOp a.eval oi).run P w = .ok (.value v) w) (h : wpUntil P md l.toArray Q S T fuel (listed.setIfInBounds i true) (a.put oi.dst v) w) (hd : l.drop i = oi :: rest := by rfl) (hB : pureB md l.toArray listed i = true := by kernel_rfl) (hQ : ∀ c a w, Q (.panic c) (a.put oi.dst v) w → Q (.panic c) a w := by exact fun _ _ _ h => h) (hw : Region.wanted oi (yielded l.toArray a.tmps) = true := by rfl) : wpUntil P md l.toArray Q S T (fuel + 1) listed a w := until_pure i hd hB hQ hw hy h
theorem uNe {l : List Oper} (i : Nat) {oi : Oper} {rest : List Oper} {fuel : Nat} {listed : Array Bool} {a : Act} {w : World} (h : ∀ K : Act → World → Prop, Shut (∀ a' w', (T i = false → S w → S w') → wpUntil P md l.toArray Q S T fuel (listed.setIfInBounds i true) a' w' → K a' w') → if Region.wanted oi (yielded l.toArray a.tmps) = true then Oper.wp P oi a w K Q else K (a.put oi.dst undef) w) (hd : l.drop i = oi :: rest := by rfl) (hr : Region.ready md l.toArray listed = [i] := by kernel_rfl) : wpUntil P md l.toArray Q S T (fuel + 1) listed a w := until_one i hd hr h
end
theorem zQ1 {α : Type} (l : List α) (i : Nat) (a : α) : l.toArray.setIfInBounds i a = (l.set i a).toArray := List.setIfInBounds_toArray ..
theorem zQ2 {α : Type} (x : α) (l : List α) (a : α) : (x :: l).set 0 a = a :: l := rfl
theorem zQ3 {α : Type} (x : α) (l : List α) (n : Nat) (a : α) : (x :: l).set (n + 1) a = x :: l.set n a := rfl
section
variable {P : Program} {Q : Exit → Act → World → Prop} {md : Region.Mode} {S : World → Prop} {T : Nat → Bool}
theorem tKf {l : List Oper} (i : Nat) {oi : Oper} {rest : List Oper} {v : Value} {fuel : Nat} {listed : Array Bool} {a b : Act} {w : World} (hS : S w) (h : wpUntil P md l.toArray Q S T fuel (listed.setIfInBounds i true) b w) (hd : l.drop i = oi :: rest := by rfl) (hB : takeB md l.toArray T listed i = true := by kernel_rfl) (hw : Region.wanted oi (yielded l.toArray a.tmps) = true := by rfl) (hy : ∀ w, S w → (execOp a.eval oi).run P w = .ok (.value v) w := by intro w hSw; (try dsimp only at hSw); go_simp; try with_reducible rfl) (hb : a.put oi.dst v = b := by (try simp only [Act.put, zQ1, zQ2, zQ3]); exact rfl) (hQ : ∀ c a w, Q (.panic c) (a.put oi.dst v) w → Q (.panic c) a w := by exact fun _ _ _ h => h) : wpUntil P md l.toArray Q S T (fuel + 1) listed a w := until_take i hd hB hQ hw hy hS (hb ▸ h)
theorem pUf {l : List Oper} (i : Nat) {oi : Oper} {rest : List Oper} {v : Value} {fuel : Nat} {listed : Array Bool} {a b : Act} {w : World} (h : wpUntil P md l.toArray Q S T fuel (listed.setIfInBounds i true) b w) (hd : l.drop i = oi :: rest := by rfl) (hB : pureB md l.toArray listed i = true := by kernel_rfl) (hw : Region.wanted oi (yielded l.toArray a.tmps) = true := by rfl) (hy : ∀ w, (execOp a.eval oi).run P w = .ok (.value v) w := by intro w; go_simp; try with_reducible rfl) (hb : a.put oi.dst v = b := by (try simp only [Act.put, zQ1, zQ2, zQ3]); exact rfl) (hQ : ∀ c a w, Q (.panic c) (a.put oi.dst v) w → Q (.panic c) a w := by exact fun _ _ _ h => h) : wpUntil P md l.toArray Q S T (fuel + 1) listed a w := until_pure i hd hB hQ hw hy (hb ▸ h)
end
end Go.Proofs.YtimfnbnffibgpaaGreatDoor
namespace Go.Proofs.YtimfnbnffibgpaaGreatDoor
set_option linter.unusedVariables false
section
variable {P : Program} {Q : Exit → Act → World → Prop} {md : Region.Mode} {S : World → Prop} {T : Nat → Bool}
theorem tF {l : List Oper} (i : Nat) {oi : Oper} {rest : List Oper} {v : Value} {fuel : Nat} {listed : Array Bool} {a b : Act} {w : World} (hS : S w) (h : wpUntil P md l.toArray Q S T fuel (listed.setIfInBounds i true) b w) (hd : l.drop i = oi :: rest := by rfl) (hB : takeB md l.toArray T listed i = true := by kernel_rfl) (hw : Region.wanted oi (yielded l.toArray a.tmps) = true := by rfl) (hy : ∀ w, S w → (execOp a.eval oi).run P w = .ok (.value v) w := by intro w hSw; (try dsimp only at hSw); go_simp; try with_reducible rfl) (hb : a.put oi.dst v = b := by (try simp only [Act.put, zQ1, zQ2, zQ3]); exact rfl) (hQ : ∀ c a w, Q (.panic c) (a.put oi.dst v) w → Q (.panic c) a w := by exact fun _ _ _ h => h) : wpUntil P md l.toArray Q S T (fuel + 1) listed a w := until_take i hd hB hQ hw hy hS (hb ▸ h)
theorem pF {l : List Oper} (i : Nat) {oi : Oper} {rest : List Oper} {v : Value} {fuel : Nat} {listed : Array Bool} {a b : Act} {w : World} (h : wpUntil P md l.toArray Q S T fuel (listed.setIfInBounds i true) b w) (hd : l.drop i = oi :: rest := by rfl) (hB : pureB md l.toArray listed i = true := by kernel_rfl) (hw : Region.wanted oi (yielded l.toArray a.tmps) = true := by rfl) (hy : ∀ w, (execOp a.eval oi).run P w = .ok (.value v) w := by intro w; go_simp; try with_reducible rfl) (hb : a.put oi.dst v = b := by (try simp only [Act.put, zQ1, zQ2, zQ3]); exact rfl) (hQ : ∀ c a w, Q (.panic c) (a.put oi.dst v) w → Q (.panic c) a w := by exact fun _ _ _ h => h) : wpUntil P md l.toArray Q S T (fuel + 1) listed a w := until_pure i hd hB hQ hw hy (hb ▸ h)
end
end Go.Proofs.YtimfnbnffibgpaaGreatDoor
namespace Go.Proofs.YtimfnbnffibgpaaGreatDoor
open Go.RowKit Go.PlainAid
def tAt (l : List Pnt) (j : Nat) : Int := (l.getD j default).t
def vAt (l : List Pnt) (j : Nat) : Int := (l.getD j default).v
def POk (l : List Pnt) : Prop := l.length ≤ 60 ∧ ∀ j, j < l.length → ((0 ≤ tAt l j ∧ tAt l j ≤ 1099511627776) ∧ (-1099511627776 ≤ vAt l j ∧ vAt l j ≤ 1099511627776)) ∧ (0 < j → tAt l (j - 1) < tAt l j)
instance (l : List Pnt) : Decidable (POk l) := by unfold POk; infer_instance
theorem POk.nil : POk [] := ⟨by simp, fun j hj => by simp at hj⟩
end Go.Proofs.YtimfnbnffibgpaaGreatDoor
namespace Go.Proofs.YtimfnbnffibgpaaGreatDoor
open Go.RowKit Go.PlainAid
theorem vvS_var (f n : Nat) (pre tl : List UInt8) (hn : n < 128 ^ (f + 1)) : vvS (txt (pre ++ vF f n ++ tl)) pre.length (vF f n).length = n := by
 induction f generalizing n pre with
 | zero =>
  simp at hn
  have e : (vF 0 n).length = 1 := rfl
  rw [e]
  have hb : bn (txt (pre ++ vF 0 n ++ tl)) pre.length = n := by
   rw [bn_txt _ _ (by simp [vF])]
   simp [vF, byt_toNat]
   omega
  simp only [vvS, hb]
  omega
 | succ f ih =>
  by_cases h : n < 128
  ·rw [vF_small _ n h]
   have hb : bn (txt (pre ++ [byt n] ++ tl)) pre.length = n := by
    rw [bn_txt _ _ (by simp)]
    simp [byt_toNat]
    omega
   simp only [List.length_cons, List.length_nil, vvS, hb]
   omega
  ·have e : vF (f + 1) n = byt (128 + n % 128) :: vF f (n / 128) := by rw [vF, if_neg h]
   have hd : n / 128 < 128 ^ (f + 1) := by
    rw [Nat.pow_succ] at hn
    exact Nat.div_lt_of_lt_mul (by rw [Nat.mul_comm]; exact hn)
   rw [e]
   have hb : bn (txt (pre ++ (byt (128 + n % 128) :: vF f (n / 128)) ++ tl)) pre.length = 128 + n % 128 := by
    rw [bn_txt _ _ (by simp)]
    simp [byt_toNat]
    omega
   have hi := ih (n / 128) (pre ++ [byt (128 + n % 128)]) hd
   have e2 : pre ++ [byt (128 + n % 128)] ++ vF f (n / 128) ++ tl = pre ++ (byt (128 + n % 128) :: vF f (n / 128)) ++ tl := by simp
   rw [e2] at hi
   simp only [List.length_cons, vvS, hb]
   simp only [List.length_append, List.length_cons, List.length_nil] at hi
   rw [Nat.zero_add] at hi
   rw [hi]
   omega
theorem sg_txt (l tl : List UInt8) : sg (txt (l ++ tl)) 0 l.length = l := by
 have h := sg_extract (txt (l ++ tl)) l.length (by rw [txt_size]; simp)
 have e : (txt (l ++ tl)).extract 0 l.length = txt l := by
  apply ByteArray.ext
  apply Array.toList_inj.1
  rw [Lib.extract_data]
  simp [txt]
 rw [e] at h
 exact (txt_inj _ _ h).symm
theorem vF_pos (f n : Nat) : 1 ≤ (vF f n).length := by
 cases f with
 | zero => simp [vF]
 | succ f => rw [vF]; split <;> simp
theorem find_var (n : Nat) (tl : List UInt8) (hn : n ≤ 562949953421311) : FindV (txt (vF 6 n ++ tl)) (vF 6 n).length ∧ vvS (txt (vF 6 n ++ tl)) 0 (vF 6 n).length = n := by
 have hp := vF_pos 6 n
 have hl := vF_length 6 n
 have hv := vvS_var 6 n [] tl (by omega)
 simp only [List.nil_append, List.length_nil] at hv
 refine ⟨⟨hp, hl, by rw [txt_size]; simp, ?_⟩, hv⟩
 obtain ⟨d, hd⟩ : ∃ d, (vF 6 n).length = d + 1 := ⟨(vF 6 n).length - 1, by omega⟩
 have hs := sg_txt (vF 6 n) tl
 rw [hd] at hs hv ⊢
 rw [← canonS_iff _ d 0 6 (by omega), hv, hs]
end Go.Proofs.YtimfnbnffibgpaaGreatDoor
namespace Go.Proofs.YtimfnbnffibgpaaGreatDoor
open Go.ChangeShapes Go.WideShapes Go.ChangeAt Go.RowKit Go.PlainAid
set_option linter.unusedVariables false
set_option maxHeartbeats 400000 in
theorem in_yes (x lo hi : Int) (w : World) (h1 : lo ≤ x) (h2 : x ≤ hi) :
  Calls Tryz.prog 20 #[.int .i64 x, .int .i64 lo, .int .i64 hi] w fun e w' => e = .returned (.bool true) ∧ w = w' := by
 go_enter Tryz.func20, Tryz.ntmps20
 go_wp2
 go_ret
 exact ⟨rfl, rfl⟩
set_option maxHeartbeats 400000 in
theorem in_no (x lo hi : Int) (w : World) (h : x < lo ∨ hi < x) :
  Calls Tryz.prog 20 #[.int .i64 x, .int .i64 lo, .int .i64 hi] w fun e w' => e = .returned (.bool false) ∧ w = w' := by
 by_cases h1 : x < lo
 ·go_enter Tryz.func20, Tryz.ntmps20
  go_wp2
  go_ret
  exact ⟨rfl, rfl⟩
 ·have h2 : hi < x := by omega
  have h3 : decide (x ≤ hi) = false := by simp; omega
  clear h
  go_enter Tryz.func20, Tryz.ntmps20
  go_wp2
  go_ret
  exact ⟨rfl, rfl⟩
end Go.Proofs.YtimfnbnffibgpaaGreatDoor
namespace Go.Proofs.YtimfnbnffibgpaaGreatDoor
open Go.ChangeShapes Go.WideShapes Go.ChangeAt Go.RowKit Go.PlainAid
set_option linter.unusedVariables false
set_option maxHeartbeats 400000 in
theorem spec_var (n : Nat) (w : World) (h1 : n ≤ 562949953421311) :
  Calls Tryz.prog 32 #[.int .i64 (n : Int)] w fun e w' => e = .returned (.string (txt (vF 6 n))) ∧ Below w.heap.size w w' := by
 have q1 : (n : Int) ≤ 562949953421311 := by omega
 go_enter Tryz.func32, Tryz.ntmps32
 go_wp2_with (go_at_call 20; refine (in_yes _ _ _ _ (by omega) (by omega)).mono ?_; rintro e w' ⟨rfl, rfl⟩)
 go_loopw [0, 3] (fun v0 v3 wr => ∃ m f : Nat, ∃ pre : List UInt8, v0 = .int .i64 m ∧ m ≤ 562949953421311 ∧ m < 128 ^ (f + 1) ∧ pre ++ vF f m = vF 6 n ∧ Buf wr w.heap.size v3 pre ∧ Below w.heap.size w wr) (fun i _ _ => (intOf i).toNat)
 case atStart => exact ⟨n, 6, [], rfl, h1, by omega, rfl, Buf.made w w.heap.size 0 #[] (Nat.le_refl _) (by simp [maxLen]) rfl, (Below.refl _ _).alloc (Nat.le_refl _) _⟩
 case round =>
  obtain ⟨m, f, pre, rfl, hm1, hm2, hpre, hbuf, hb⟩ := hrel
  have HP : Hid (pre ++ vF f m = vF 6 n) := hpre
  clear hpre
  have HM : Hid (m < 128 ^ (f + 1)) := hm2
  clear hm2
  have hlp : pre.length ≤ 7 := by
   have := congrArg List.length HP.out
   have := vF_length 6 n
   simp at *
   omega
  have hsz := hb.size
  by_cases hlt : (128 : Int) ≤ (m : Int)
  ·have hcs := one_cell (128 + (m : Int) % 128) (128 + m % 128) (by omega) (by omega)
   have HC : Hid (#[Value.int .u8 (128 + (m : Int) % 128)] = byteCells [byt (128 + m % 128)]) := hcs
   clear hcs
   go_wp2_with (at_builtin; refine wpList_append_bytes rfl (.tmp 10) (.tmp 15) 61 rfl Tryz.underlying61 Tryz.info5 w.heap.size _ pre rfl hbuf _ [byt (128 + m % 128)] HC.out 1 1 rfl rfl (by simp; omega) hsz ?_; intro v' w1 hbuf1 hb1)
   obtain ⟨g, hg1, hg2, _⟩ := vF_round f m pre HM.out (by omega)
   go_roundw
   case rel => exact ⟨m / 128, g, pre ++ [byt (128 + m % 128)], by go_num, by omega, hg1, hg2.trans HP.out, hbuf1, hb.trans hb1⟩
   case measure => simp [intOf]; omega
  ·have hcs := one_cell (m : Int) m rfl (by omega)
   have HC : Hid (#[Value.int .u8 (m : Int)] = byteCells [byt m]) := hcs
   clear hcs
   go_wp2_with (at_builtin; refine wpList_append_bytes rfl (.tmp 19) (.tmp 22) 61 rfl Tryz.underlying61 Tryz.info5 w.heap.size _ pre rfl hbuf _ [byt m] HC.out 1 1 rfl rfl (by simp; omega) hsz ?_; intro v' w1 hbuf1 hb1; have hcv := hbuf1.string (P := Tryz.prog) 61 9 Tryz.underlying61 Tryz.underlying5 Tryz.underlying9)
   go_ret
   exact ⟨by rw [← HP.out, vF_small f m (by omega)]; rfl, hb.trans hb1⟩
set_option maxHeartbeats 400000 in
theorem impl_var (n : Nat) (w : World) (h1 : n ≤ 562949953421311) :
  Calls Tryz.prog 60 #[.int .i64 (n : Int)] w fun e w' => e = .returned (.string (txt (vF 6 n))) ∧ Below w.heap.size w w' := by
 have q1 : (n : Int) ≤ 562949953421311 := by omega
 have q0 : (0 : Int) ≤ (n : Int) := by omega
 have hmk : ∀ w : World, (Instr.makeSlice 61 (.int .i64 0) (.int .i64 7)).run Tryz.prog w = .ok (.slice (some ⟨w.heap.size, 0, none⟩) 0 7) (w.alloc (.cells #[.int .u8 0, .int .u8 0, .int .u8 0, .int .u8 0, .int .u8 0, .int .u8 0, .int .u8 0] 5)) := fun _ => by kernel_rfl
 go_enter Tryz.func60, Tryz.ntmps60
 go_wp2
 go_loopw [0, 3] (fun v0 v3 wr => ∃ m f : Nat, ∃ pre : List UInt8, v0 = .int .i64 m ∧ m ≤ 562949953421311 ∧ m < 128 ^ (f + 1) ∧ pre ++ vF f m = vF 6 n ∧ Buf wr w.heap.size v3 pre ∧ Below w.heap.size w wr) (fun i _ _ => (intOf i).toNat)
 case atStart => exact ⟨n, 6, [], rfl, h1, by omega, rfl, Buf.made w w.heap.size 7 _ (Nat.le_refl _) (by simp [maxLen]) rfl, (Below.refl _ _).alloc (Nat.le_refl _) _⟩
 case round =>
  obtain ⟨m, f, pre, rfl, hm1, hm2, hpre, hbuf, hb⟩ := hrel
  have HP : Hid (pre ++ vF f m = vF 6 n) := hpre
  clear hpre
  have HM : Hid (m < 128 ^ (f + 1)) := hm2
  clear hm2
  have hlp : pre.length ≤ 7 := by
   have := congrArg List.length HP.out
   have := vF_length 6 n
   simp at *
   omega
  have hsz := hb.size
  by_cases hlt : (128 : Int) ≤ (m : Int)
  ·have hcs := one_cell ((m : Int) % 128 + 128) (128 + m % 128) (by omega) (by omega)
   have HC : Hid (#[Value.int .u8 ((m : Int) % 128 + 128)] = byteCells [byt (128 + m % 128)]) := hcs
   clear hcs
   go_wp2_with (at_builtin; refine wpList_append_bytes rfl (.tmp 13) (.tmp 18) 61 rfl Tryz.underlying61 Tryz.info5 w.heap.size _ pre rfl hbuf _ [byt (128 + m % 128)] HC.out 1 1 rfl rfl (by simp; omega) hsz ?_; intro v' w1 hbuf1 hb1)
   obtain ⟨g, hg1, hg2, _⟩ := vF_round f m pre HM.out (by omega)
   go_roundw
   case rel => exact ⟨m / 128, g, pre ++ [byt (128 + m % 128)], by go_num, by omega, hg1, hg2.trans HP.out, hbuf1, hb.trans hb1⟩
   case measure => simp [intOf]; omega
  ·have hcs := one_cell (m : Int) m rfl (by omega)
   have HC : Hid (#[Value.int .u8 (m : Int)] = byteCells [byt m]) := hcs
   clear hcs
   go_wp2_with (at_builtin; refine wpList_append_bytes rfl (.tmp 22) (.tmp 25) 61 rfl Tryz.underlying61 Tryz.info5 w.heap.size _ pre rfl hbuf _ [byt m] HC.out 1 1 rfl rfl (by simp; omega) hsz ?_; intro v' w1 hbuf1 hb1; have hcv := hbuf1.string (P := Tryz.prog) 61 9 Tryz.underlying61 Tryz.underlying5 Tryz.underlying9)
   go_ret
   exact ⟨by rw [← HP.out, vF_small f m (by omega)]; rfl, hb.trans hb1⟩
end Go.Proofs.YtimfnbnffibgpaaGreatDoor
namespace Go.Proofs.YtimfnbnffibgpaaGreatDoor
open Go.ChangeShapes Go.WideShapes Go.ChangeAt Go.RowKit Go.PlainAid
set_option linter.unusedVariables false
def ReadV (s : ByteArray) (e : Ending) : Prop :=
 (∃ k : Nat, FindV s k ∧ e = .returned (.tuple #[.int .i64 (vvS s 0 k : Int), .int .i64 (k : Int)])) ∨ ((∀ k, ¬ FindV s k) ∧ e = .returned (.tuple #[.int .i64 0, .int .i64 0]))
theorem vvS_or (s : ByteArray) (k : Nat) (h : k < 7) : bits .or .i64 (vvS s 0 k : Int) (wrap64 ((bn s k : Int) % 128 * 2 ^ (7 * k))) = (vvS s 0 (k + 1) : Int) := by
 have h1 := vvS_lt s k 0
 have h2 := vvS_le s (k + 1) (by omega) 0
 have e := vvS_snoc s k 0
 rw [Nat.zero_add] at e
 have e2 : (128 : Nat) ^ k = 2 ^ (7 * k) := by rw [Nat.pow_mul]
 have c : (bn s k : Int) % 128 * 2 ^ (7 * k) = ((bn s k % 128 * 2 ^ (7 * k) : Nat) : Int) := by norm_cast
 rw [e2] at e h1
 rw [c, IntWalk.wrap64_in _ ⟨by omega, by omega⟩]
 have j := or_join (7 * k) (bn s k % 128 * 2 ^ (7 * k)) (vvS s 0 k) (Nat.mul_mod_left _ _) h1 (by omega)
 have comm : bits .or .i64 (vvS s 0 k : Int) ((bn s k % 128 * 2 ^ (7 * k) : Nat) : Int) = bits .or .i64 ((bn s k % 128 * 2 ^ (7 * k) : Nat) : Int) (vvS s 0 k : Int) := by
  show IntKind.i64.wrap ((BitVec.ofInt 64 _ ||| BitVec.ofInt 64 _).toNat : Int) = IntKind.i64.wrap ((BitVec.ofInt 64 _ ||| BitVec.ofInt 64 _).toNat : Int)
  rw [BitVec.or_comm]
 rw [comm, j, e, Nat.add_comm]
theorem find_stop (s : ByteArray) (k : Nat) (hk : k < 7) (hs : k < s.size) (hj : ∀ j, j < k → 128 ≤ bn s j) (hc : bn s k < 128) (hz : k = 0 ∨ bn s k ≠ 0) : FindV s (k + 1) :=
 ⟨by omega, by omega, by omega, (canonS_char s k 0).2 ⟨by intro j h; rw [Nat.zero_add]; exact hj j h, by rw [Nat.zero_add]; exact hc, by rw [Nat.zero_add]; exact hz⟩⟩
theorem find_zero (s : ByteArray) (k : Nat) (hj : ∀ j, j < k → 128 ≤ bn s j) (hc : bn s k = 0) (hk : 0 < k) : ∀ m, ¬ FindV s m := by
 rintro m ⟨h1, h2, h3, h4⟩
 obtain ⟨d, rfl⟩ : ∃ d, m = d + 1 := ⟨m - 1, by omega⟩
 obtain ⟨c1, c2, c3⟩ := (canonS_char s d 0).1 h4
 rw [Nat.zero_add] at c2 c3
 rcases Nat.lt_trichotomy d k with h | h | h
 ·have := hj d h; omega
 ·subst h; omega
 ·have := c1 k h; rw [Nat.zero_add] at this; omega
theorem find_end (s : ByteArray) (L : Nat) (hj : ∀ j, j < L → 128 ≤ bn s j) (hL : 7 ≤ L ∨ s.size ≤ L) : ∀ m, ¬ FindV s m := by
 rintro m ⟨h1, h2, h3, h4⟩
 obtain ⟨d, rfl⟩ : ∃ d, m = d + 1 := ⟨m - 1, by omega⟩
 obtain ⟨c1, c2, c3⟩ := (canonS_char s d 0).1 h4
 rw [Nat.zero_add] at c2
 have := hj d (by omega)
 omega
theorem ret_ints {a b c d : Int} (h : a = b) (h' : c = d) : Ending.returned (.tuple #[.int .i64 a, .int .i64 c]) = .returned (.tuple #[.int .i64 b, .int .i64 d]) := by rw [h, h']
set_option maxHeartbeats 1000000 in
theorem impl_readVar_long (s : ByteArray) (w : World) (hs : s.size ≤ 1048576) (h7 : (7 : Int) < (s.size : Int)) :
  Calls Tryz.prog 84 #[.string s] w fun e w' => ReadV s e ∧ w = w' := by
 have q1 : (s.size : Int) ≤ 1048576 := by omega
 have hbt := get_bn s
 go_enter Tryz.func84, Tryz.ntmps84
 go_wp2
 go_loop [4, 10] (fun v4 v10 => ∃ k : Nat, k ≤ 7 ∧ v10 = .int .i64 k ∧ v4 = .int .i64 (vvS s 0 k) ∧ Hid (∀ j, j < k → 128 ≤ bn s j)) (fun _ i => 7 - (intOf i).toNat)
 case atStart => exact ⟨0, by omega, rfl, rfl, fun j hj => absurd hj (by omega)⟩
 case round =>
  obtain ⟨k, hk, rfl, rfl, HJ⟩ := hrel
  by_cases hlt : k < 7
  ·have r1 := bn_lt s k
   have HO : Hid (bits .or .i64 (vvS s 0 k : Int) (wrap64 ((bn s k : Int) % 128 * 2 ^ (7 * k))) = (vvS s 0 (k + 1) : Int)) := vvS_or s k (by omega)
   by_cases hc : (128 : Int) ≤ (bn s k : Int)
   ·go_wp2
    go_round
    case rel =>
     refine ⟨k + 1, by omega, by go_num, by rw [HO.out], ?_⟩
     intro j hj
     by_cases e : j = k
     ·subst e; omega
     ·exact HJ.out j (by omega)
    case measure => simp [intOf]; omega
   ·by_cases hz : bn s k = 0
    ·by_cases hk0 : k = 0
     ·have HF : Hid (FindV s (k + 1)) := find_stop s k (by omega) (by omega) HJ.out (by omega) (.inl hk0)
      have z1 : ((bn s k : Int) == 0) = true := by simp; omega
      have z2 : (k : Int) ≤ 0 := by omega
      clear hk0 hz
      go_wp2
      go_ret2
      exact ⟨.inl ⟨k + 1, HF.out, ret_ints HO.out (by omega)⟩, rfl⟩
     ·have HF : Hid (∀ m, ¬ FindV s m) := find_zero s k HJ.out hz (by omega)
      have z1 : ((bn s k : Int) == 0) = true := by simp; omega
      have z2 : (0 : Int) < (k : Int) := by omega
      clear hz
      go_wp2
      go_ret2
      exact ⟨.inr ⟨HF.out, rfl⟩, rfl⟩
    ·have HF : Hid (FindV s (k + 1)) := find_stop s k (by omega) (by omega) HJ.out (by omega) (.inr hz)
     have z1 : ((bn s k : Int) == 0) = false := by simp; omega
     go_wp2
     go_ret2
     exact ⟨.inl ⟨k + 1, HF.out, ret_ints HO.out (by omega)⟩, rfl⟩
  ·have HF : Hid (∀ m, ¬ FindV s m) := find_end s k HJ.out (by omega)
   go_wp2
   go_ret2
   exact ⟨.inr ⟨HF.out, rfl⟩, rfl⟩
set_option maxHeartbeats 1000000 in
theorem impl_readVar_short (s : ByteArray) (w : World) (hs : s.size ≤ 1048576) (h7 : (s.size : Int) ≤ 7) :
  Calls Tryz.prog 84 #[.string s] w fun e w' => ReadV s e ∧ w = w' := by
 have q1 : (s.size : Int) ≤ 1048576 := by omega
 have hbt := get_bn s
 go_enter Tryz.func84, Tryz.ntmps84
 go_wp2
 go_loop [4, 10] (fun v4 v10 => ∃ k : Nat, k ≤ s.size ∧ v10 = .int .i64 k ∧ v4 = .int .i64 (vvS s 0 k) ∧ Hid (∀ j, j < k → 128 ≤ bn s j)) (fun _ i => s.size - (intOf i).toNat)
 case atStart => exact ⟨0, by omega, rfl, rfl, fun j hj => absurd hj (by omega)⟩
 case round =>
  obtain ⟨k, hk, rfl, rfl, HJ⟩ := hrel
  by_cases hlt : k < s.size
  ·have r1 := bn_lt s k
   have HO : Hid (bits .or .i64 (vvS s 0 k : Int) (wrap64 ((bn s k : Int) % 128 * 2 ^ (7 * k))) = (vvS s 0 (k + 1) : Int)) := vvS_or s k (by omega)
   by_cases hc : (128 : Int) ≤ (bn s k : Int)
   ·go_wp2
    go_round
    case rel =>
     refine ⟨k + 1, by omega, by go_num, by rw [HO.out], ?_⟩
     intro j hj
     by_cases e : j = k
     ·subst e; omega
     ·exact HJ.out j (by omega)
    case measure => simp [intOf]; omega
   ·by_cases hz : bn s k = 0
    ·by_cases hk0 : k = 0
     ·have HF : Hid (FindV s (k + 1)) := find_stop s k (by omega) (by omega) HJ.out (by omega) (.inl hk0)
      have z1 : ((bn s k : Int) == 0) = true := by simp; omega
      have z2 : (k : Int) ≤ 0 := by omega
      clear hk0 hz
      go_wp2
      go_ret2
      exact ⟨.inl ⟨k + 1, HF.out, ret_ints HO.out (by omega)⟩, rfl⟩
     ·have HF : Hid (∀ m, ¬ FindV s m) := find_zero s k HJ.out hz (by omega)
      have z1 : ((bn s k : Int) == 0) = true := by simp; omega
      have z2 : (0 : Int) < (k : Int) := by omega
      clear hz
      go_wp2
      go_ret2
      exact ⟨.inr ⟨HF.out, rfl⟩, rfl⟩
    ·have HF : Hid (FindV s (k + 1)) := find_stop s k (by omega) (by omega) HJ.out (by omega) (.inr hz)
     have z1 : ((bn s k : Int) == 0) = false := by simp; omega
     go_wp2
     go_ret2
     exact ⟨.inl ⟨k + 1, HF.out, ret_ints HO.out (by omega)⟩, rfl⟩
  ·have HF : Hid (∀ m, ¬ FindV s m) := find_end s k HJ.out (by omega)
   go_wp2
   go_ret2
   exact ⟨.inr ⟨HF.out, rfl⟩, rfl⟩
theorem impl_readVar (s : ByteArray) (w : World) (hs : s.size ≤ 1048576) :
  Calls Tryz.prog 84 #[.string s] w fun e w' => ReadV s e ∧ w = w' := by
 by_cases h : (7 : Int) < (s.size : Int)
 ·exact impl_readVar_long s w hs h
 ·exact impl_readVar_short s w hs (by omega)
theorem txt_list (l : List UInt8) : (txt l).toList = l := by rw [Lib.toList_data]; simp [txt]
theorem var_eq (s : ByteArray) (k : Nat) (h1 : 1 ≤ k) (h7 : k ≤ 7) (hk : k ≤ s.size) : ((txt (vF 6 (vvS s 0 k))).toList == (s.extract 0 k).toList) = true ↔ canonS s 0 k := by
 obtain ⟨d, rfl⟩ : ∃ d, k = d + 1 := ⟨k - 1, by omega⟩
 rw [sg_extract s (d + 1) hk, txt_list, txt_list, ← canonS_iff s d 0 6 (by omega)]
 simp
set_option maxHeartbeats 1000000 in
theorem spec_readVar (s : ByteArray) (w : World) (hs : s.size ≤ 1048576) :
  Calls Tryz.prog 63 #[.string s] w fun e w' => ReadV s e ∧ Below w.heap.size w w' := by
 have q1 : (s.size : Int) ≤ 1048576 := by omega
 have hbt := get_bn s
 go_enter Tryz.func63, Tryz.ntmps63
 go_wp2
 go_loopw [4] (fun v4 wr => ∃ k : Nat, 1 ≤ k ∧ k ≤ 8 ∧ v4 = .int .i64 k ∧ Hid (∀ j, j < k → ¬ FindV s j) ∧ Below w.heap.size w wr) (fun i _ => 8 - (intOf i).toNat)
 case atStart => exact ⟨1, by omega, by omega, rfl, (by intro j hj h; have := h.1; omega), Below.refl _ _⟩
 case round =>
  obtain ⟨k, hk1, hk, rfl, HJ, hb⟩ := hrel
  by_cases hlt : k ≤ 7
  ·by_cases hle : k ≤ s.size
   ·have c1 : (k : Int) ≤ 7 := by omega
    have c2 : (k : Int) ≤ (s.size : Int) := by omega
    have hkv := vvS_le s k hlt 0
    go_wp2
    go_loop [5, 6] (fun v5 v6 => ∃ j : Nat, j ≤ k ∧ v6 = .int .i64 ((j : Int) - 1) ∧ v5 = .int .i64 (vvS s j (k - j))) (fun _ i => (intOf i + 1).toNat)
    case atStart => exact ⟨k, by omega, rfl, by rw [Nat.sub_self]; rfl⟩
    case round =>
     obtain ⟨j, hj, rfl, rfl⟩ := hrel
     by_cases hj0 : 0 < j
     ·have r1 := bn_lt s (j - 1)
      have r2 := vvS_le s (k - j) (by omega) j
      have hs0 : vvS s (j - 1) (k - (j - 1)) = bn s (j - 1) % 128 + 128 * vvS s j (k - j) := by
       have e1 : k - (j - 1) = (k - j) + 1 := by omega
       have e2 : j - 1 + 1 = j := by omega
       rw [e1, vvS, e2]
      have HS : Hid (vvS s (j - 1) (k - (j - 1)) = bn s (j - 1) % 128 + 128 * vvS s j (k - j)) := hs0
      clear hs0
      have e3 : ((j : Int) - 1).toNat = j - 1 := by omega
      go_wp2
      go_round
      case rel => exact ⟨j - 1, by omega, by go_num, by rw [HS.out]; go_num⟩
      case measure => simp [intOf]; omega
     ·have hj00 : j = 0 := by omega
      subst hj00
      rw [Nat.sub_zero]
      by_cases hcan : canonS s 0 k
      ·have hq := (var_eq s k hk1 hlt hle).2 hcan
       have HF : Hid (FindV s k) := ⟨hk1, hlt, hle, hcan⟩
       clear hcan
       go_wp2
       go_region_held3 (fun _ => True) (exact True.intro) ((go_at_call 32; refine (spec_var _ _ (by omega)).mono ?_; rintro e w1 ⟨rfl, hbv⟩))
       all_goals
        go_wp2
        go_ret2
        exact ⟨.inl ⟨k, HF.out, rfl⟩, hb.drew.trans (hbv.mono (by have := hb.size; exact this))⟩
      ·have hq : ((txt (vF 6 (vvS s 0 k))).toList == (s.extract 0 k).toList) = false := by
        have := mt (var_eq s k hk1 hlt hle).1 hcan
        simpa using this
       have HF : Hid (¬ FindV s k) := fun h => hcan h.2.2.2
       clear hcan
       go_wp2
       go_region_held3 (fun _ => True) (exact True.intro) ((go_at_call 32; refine (spec_var _ _ (by omega)).mono ?_; rintro e w1 ⟨rfl, hbv⟩))
       all_goals
        go_wp2
        go_roundw
        case rel =>
         refine ⟨k + 1, by omega, by omega, by go_num, ?_, hb.drew.trans (hbv.mono (by have := hb.size; exact this))⟩
         intro j hj
         by_cases e : j = k
         ·subst e; exact HF.out
         ·exact HJ.out j (by omega)
        case measure => simp [intOf]; omega
   ·have c1 : (k : Int) ≤ 7 := by omega
    have c2 : decide ((k : Int) ≤ (s.size : Int)) = false := by simp; omega
    have HF : Hid (∀ m, ¬ FindV s m) := by
     intro m hm
     by_cases e : m < k
     ·exact HJ.out m e hm
     ·have := hm.2.2.1; omega
    go_wp2
    go_ret2
    exact ⟨.inr ⟨HF.out, rfl⟩, hb⟩
  ·have c1 : (7 : Int) < (k : Int) := by omega
   have HF : Hid (∀ m, ¬ FindV s m) := by
    intro m hm
    by_cases e : m < k
    ·exact HJ.out m e hm
    ·have := hm.2.1; omega
   go_wp2
   go_ret2
   exact ⟨.inr ⟨HF.out, rfl⟩, hb⟩
end Go.Proofs.YtimfnbnffibgpaaGreatDoor
namespace Go.Proofs.YtimfnbnffibgpaaGreatDoor
open Go.RowKit Go.PlainAid
def numCells (l : List Int) : List Value := l.map fun z => Value.int .i64 z
def Nums (w : World) (base : Nat) (v : Value) (l : List Int) : Prop := w.ownsRow base 3 1 v l.length (numCells l)
def NumsV (w : World) (B : Nat) (v : Value) (l : List Int) : Prop :=
 ∃ A cap, v = .slice A l.length cap ∧ l.length ≤ cap ∧ cap ≤ maxLen ∧ ∀ j, j < l.length → ∃ g off, A = some ⟨g, off, none⟩ ∧ g < B ∧ w.cell? ⟨g, off + j, none⟩ = some (.int .i64 (l.getD j 0))
theorem Nums.nil (w : World) (base : Nat) : Nums w base (.slice none 0 0) [] := World.ownsRow_nil w base 3 1
theorem Nums.empty (w : World) (base : Nat) (hb : base ≤ w.heap.size) : Nums (w.alloc (.cells #[] 3)) base (.slice (some ⟨w.heap.size, 0, none⟩) 0 0) [] :=
 World.ownsRow_lit w #[] 0 hb (by unfold maxLen; omega) rfl
theorem Nums.one (w : World) (base : Nat) (z : Int) (hb : base ≤ w.heap.size) : Nums (w.alloc (.cells #[.int .i64 z] 3)) base (.slice (some ⟨w.heap.size, 0, none⟩) 1 1) [z] :=
 World.ownsRow_lit w #[.int .i64 z] 1 hb (by unfold maxLen; omega) rfl
theorem Nums.mono {w : World} {base base' : Nat} {v : Value} {l : List Int} (h : Nums w base v l) (hb : base' ≤ base) : Nums w base' v l :=
 ⟨h.1, h.2.imp id fun ⟨g, cap, cur, e, hg, r⟩ => ⟨g, cap, cur, e, Nat.le_trans hb hg, r⟩⟩
theorem Nums.lt {w : World} {base : Nat} {v : Value} {l : List Int} (h : Nums w base v l) : ∀ k, v.ownBlock = some k → base ≤ k ∧ k < w.heap.size := World.ownsRow.lt h
theorem Nums.kept {w w' : World} {base : Nat} {v : Value} {l : List Int} (h : Nums w base v l) (hk : ∀ g, g < w.heap.size → v.ownBlock = some g → w'.heap[g]? = w.heap[g]?) : Nums w' base v l := by
 have hl := World.ownsRow.lt h
 refine ⟨h.1, h.2.imp id ?_⟩
 rintro ⟨g, cap, cur, rfl, hg, hh, r⟩
 refine ⟨g, cap, cur, rfl, hg, ?_, r⟩
 rw [hk g (hl g rfl).2 rfl]
 exact hh
theorem Nums.on {w w' : World} {base : Nat} {v : Value} {l : List Int} (h : Nums w base v l) (hb : Below w.heap.size w w') : Nums w' base v l := h.kept fun g hg _ => hb.block g hg
theorem Nums.under {w w' : World} {base B : Nat} {v : Value} {l : List Int} (h : Nums w base v l) (hB : w.heap.size ≤ B) (hb : Below B w w') : Nums w' base v l := h.kept fun g hg _ => hb.block g (Nat.lt_of_lt_of_le hg hB)
theorem Nums.heap {w w' : World} {base : Nat} {v : Value} {l : List Int} (h : Nums w base v l) (hh : w'.heap = w.heap) : Nums w' base v l := h.kept fun g _ _ => by rw [hh]
theorem Nums.alloc {w : World} {base : Nat} {v : Value} {l : List Int} (h : Nums w base v l) (o : Obj) : Nums (w.alloc o) base v l := World.ownsRow.alloc h o
theorem Nums.other {w : World} {base : Nat} {v : Value} {l : List Int} (h : Nums w base v l) {g : Nat} (hne : v.ownBlock ≠ some g) (i : Nat) (x : Value) : Nums (w.setCell ⟨g, i, none⟩ x) base v l :=
 h.kept fun k _ hk => Below.heap_setCell _ _ _ _ (fun e => hne (by rw [hk]; exact congrArg some e))
theorem Nums.others {w w' : World} {base b : Nat} {v : Value} {l : List Int} (h : Nums w base v l) (hk : Lib.OthersKept 5 (some b) w w') (hb : v.ownBlock ≠ some b) : Nums w' base v l :=
 h.kept fun g hg ho => by
  obtain ⟨c, fz, e1⟩ := Lib.ownsRow_kind h g ho
  rw [hk g _ e1 (fun e => hb (by rw [ho]; exact e)) (fun c fz e => by cases e), e1]
theorem Nums.form {w : World} {base : Nat} {v : Value} {l : List Int} (h : Nums w base v l) : (v = .slice none 0 0 ∧ l = []) ∨ ∃ g cap, v = .slice (some ⟨g, 0, none⟩) l.length cap ∧ l.length ≤ cap ∧ cap ≤ maxLen ∧ base ≤ g ∧ g < w.heap.size := by
 have hl := World.ownsRow.lt h
 rcases h.2 with ⟨rfl, h0⟩ | ⟨g, cap, cur, rfl, hg, _, hc, hm, _⟩
 ·exact .inl ⟨rfl, List.eq_nil_of_length_eq_zero h0⟩
 ·exact .inr ⟨g, cap, rfl, hc, hm, hg, (hl g rfl).2⟩
theorem Nums.shape {w : World} {base : Nat} {v : Value} {l : List Int} (h : Nums w base v l) : ∃ A c, v = .slice A l.length c ∧ l.length ≤ c ∧ c ≤ maxLen := by
 rcases h.form with ⟨rfl, rfl⟩ | ⟨g, c, rfl, h1, h2, _⟩
 ·exact ⟨_, _, rfl, by simp, by unfold maxLen; omega⟩
 ·exact ⟨_, _, rfl, h1, h2⟩
theorem Nums.len {w : World} {base n cap : Nat} {A : Option Addr} {l : List Int} (h : Nums w base (.slice A n cap) l) : n = l.length := by
 rcases h.form with ⟨e, e2⟩ | ⟨g', c', e, _⟩
 ·injection e with _ e1; rw [e1, e2]; rfl
 ·injection e
theorem Nums.cell {w : World} {base g cap n : Nat} {l : List Int} (h : Nums w base (.slice (some ⟨g, 0, none⟩) n cap) l) (j : Nat) (hj : j < l.length) : w.cell? ⟨g, j, none⟩ = some (.int .i64 (l.getD j 0)) := by
 have hn := h.len
 subst hn
 rw [World.ownsRow.cellAt h j (by omega)]
 simp [numCells, hj]
theorem Nums.frozen {w : World} {base g cap n : Nat} {l : List Int} (h : Nums w base (.slice (some ⟨g, 0, none⟩) n cap) l) (j : Nat) : w.frozen? ⟨g, j, none⟩ = false := by
 have hn := h.len
 subst hn
 exact World.ownsRow.frozenAt h j
theorem Nums.stored {w : World} {base g cap n : Nat} {l : List Int} (h : Nums w base (.slice (some ⟨g, 0, none⟩) n cap) l) (j : Nat) (x : Int) :
  Nums (w.setCell ⟨g, j, none⟩ (.int .i64 x)) base (.slice (some ⟨g, 0, none⟩) n cap) (l.set j x) := by
 have hn := h.len
 subst hn
 have hs := (World.ownsRow.stored h j (.int .i64 x)).1
 unfold Nums
 rw [List.length_set, numCells, List.map_set]
 exact hs
theorem Nums.block {w : World} {base n cap : Nat} {A : Option Addr} {l : List Int} (h : Nums w base (.slice A n cap) l) (hn : 0 < l.length) : ∃ g, A = some ⟨g, 0, none⟩ ∧ base ≤ g ∧ g < w.heap.size := by
 rcases h.form with ⟨e, e2⟩ | ⟨g', c', e, _, _, h3, h4⟩
 ·rw [e2] at hn; simp at hn
 ·injection e with e1; exact ⟨g', e1, h3, h4⟩
theorem Nums.lies {w : World} {base : Nat} {v : Value} {l : List Int} (h : Nums w base v l) : NumsV w w.heap.size v l := by
 rcases h.form with ⟨rfl, rfl⟩ | ⟨g, c, rfl, h1, h2, h3, h4⟩
 ·exact ⟨none, 0, rfl, Nat.zero_le _, by unfold maxLen; omega, fun j hj => by simp at hj⟩
 ·exact ⟨_, c, rfl, h1, h2, fun j hj => ⟨g, 0, rfl, h4, by rw [Nat.zero_add]; exact h.cell j hj⟩⟩
theorem NumsV.on {w w' : World} {B : Nat} {v : Value} {l : List Int} (h : NumsV w B v l) (hb : Below B w w') : NumsV w' B v l := by
 obtain ⟨A, cap, rfl, h1, h2, h3⟩ := h
 refine ⟨A, cap, rfl, h1, h2, fun j hj => ?_⟩
 obtain ⟨g, off, rfl, hg, hc⟩ := h3 j hj
 exact ⟨g, off, rfl, hg, by rw [hb.cell (p := ⟨_, _, none⟩) hg]; exact hc⟩
theorem NumsV.mono {w : World} {B C : Nat} {v : Value} {l : List Int} (h : NumsV w B v l) (hB : B ≤ C) : NumsV w C v l := by
 obtain ⟨A, cap, rfl, h1, h2, h3⟩ := h
 refine ⟨A, cap, rfl, h1, h2, fun j hj => ?_⟩
 obtain ⟨g, off, rfl, hg, hc⟩ := h3 j hj
 exact ⟨g, off, rfl, Nat.lt_of_lt_of_le hg hB, hc⟩
theorem NumsV.heap {w w' : World} {B : Nat} {v : Value} {l : List Int} (h : NumsV w B v l) (hh : w'.heap = w.heap) : NumsV w' B v l := by
 obtain ⟨A, cap, rfl, h1, h2, h3⟩ := h
 refine ⟨A, cap, rfl, h1, h2, fun j hj => ?_⟩
 obtain ⟨g, off, rfl, hg, hc⟩ := h3 j hj
 exact ⟨g, off, rfl, hg, by unfold World.cell? at *; rw [hh]; exact hc⟩
theorem NumsV.full {w : World} {B : Nat} {v : Value} {l : List Int} (h : NumsV w B v l) (hn : 0 < l.length) : ∃ g off cap, v = .slice (some ⟨g, off, none⟩) l.length cap ∧ l.length ≤ cap ∧ cap ≤ maxLen ∧ g < B ∧ ∀ wx, Below B w wx → ∀ j, j < l.length → wx.cell? ⟨g, off + j, none⟩ = some (.int .i64 (l.getD j 0)) := by
 obtain ⟨A, cap, rfl, h1, h2, h3⟩ := h
 obtain ⟨g, off, rfl, hg, _⟩ := h3 0 hn
 refine ⟨g, off, cap, rfl, h1, h2, hg, fun wx hx j hj => ?_⟩
 obtain ⟨g', off', e, _, hc⟩ := h3 j hj
 injection e with e
 injection e with e1 e2
 subst e1
 subst e2
 rw [hx.cell (p := ⟨_, _, none⟩) hg]
 exact hc
theorem getD_set_same (l : List Int) (j : Nat) (x : Int) (h : j < l.length) : (l.set j x).getD j 0 = x := by simp [List.getD, h]
theorem getD_set_ne (l : List Int) (j k : Nat) (x : Int) (h : j ≠ k) : (l.set j x).getD k 0 = l.getD k 0 := by simp [List.getD, List.getElem?_set_ne h]
theorem nums_ext {l m : List Int} (h : l.length = m.length) (hj : ∀ j, j < l.length → l.getD j 0 = m.getD j 0) : l = m := by
 apply List.ext_getElem h
 intro j h1 h2
 have := hj j h1
 simpa [List.getD, h1, h2] using this
theorem take_num (l : List Int) (k : Nat) (h : k < l.length) : l.take (k + 1) = l.take k ++ [l.getD k 0] := by
 rw [List.take_succ_eq_append_getElem h]
 simp [List.getD, h]
theorem wpList_append_num {P : Program} {w : World} {ops : Array Oper} {rest : List Oper} {o : Oper} {a : Act} {Q : Exit → Act → World → Prop} (hgd : o.guard = none) (s x : Operand) (t : TypeId)
  (ho : o.op = .call { callee := .builtin .append, args := #[s, x], argTypes := #[t, t] })
  (ht : P.underlying t = some (.slice 3)) (hinfo : (P.info? 3).map (fun i => (i.zero, i.size, i.bytes)) = some (some (.int .i64 0), 1, 8))
  (base : Nat) (v : Value) (l : List Int) (hs : a.eval s = v) (hown : Nums w base v l) (z : Int)
  (hx : a.eval x = .slice (some ⟨w.heap.size, 0, none⟩) 1 1) (hlen : l.length ≤ 2097152) (hbase : base ≤ w.heap.size)
  (h : ∀ v' w', Nums w' base v' (l ++ [z]) → Below base w w' → (∀ g, g < w.heap.size → v.ownBlock ≠ some g → w'.heap[g]? = w.heap[g]?) → wpList P ops Q rest (a.put o.dst v') w') : wpList P ops Q (o :: rest) a (w.alloc (.cells #[.int .i64 z] 3)) := by
 obtain ⟨i0, hi, hz0, hz1, hz2⟩ := info_parts hinfo
 refine wpList_append_own (w := w.alloc (.cells #[.int .i64 z] 3)) hgd s x t ho base 3 i0 (.int .i64 0) 1 8 ht hi hz0 hz1 hz2 rfl (by decide) v l.length (numCells l) hs (hown.alloc _) ⟨w.heap.size, 0, none⟩ 1 1 [.int .i64 z] hx rfl ?_ ?_ ?_ ?_ ?_ ?_
 ·intro j u hj
  have e : (⟨w.heap.size, 0, none⟩ : Addr).add j = ⟨w.heap.size, j, none⟩ := by cases j <;> simp [Addr.add]
  rw [e, World.cell?_alloc_mark]
  simpa using hj
 ·intro u hu
  simp at hu
  subst hu
  rfl
 ·unfold maxLen; omega
 ·omega
 ·simp; omega
 ·intro v' w' h1 h2 _
  have hb0 : ∀ k, v.ownBlock = some k → base ≤ k := fun k hk => (World.ownsRow.lt hown k hk).1
  refine h v' w' ?_ ?_ ?_
  ·unfold Nums
   rw [List.length_append, numCells, List.map_append]
   exact h1
  ·exact ((Below.refl base w).alloc hbase _).grown h2 (by simp; omega) hb0
  ·intro g hg hne
   rw [h2.block g (by simp; omega) (fun e => hne e.symm)]
   exact Below.heap_alloc w _ g hg
end Go.Proofs.YtimfnbnffibgpaaGreatDoor
namespace Go.Proofs.YtimfnbnffibgpaaGreatDoor
open Go.RowKit
theorem cell?_heap {w w' : World} (h : w'.heap = w.heap) (a : Addr) : w'.cell? a = w.cell? a := by
 unfold World.cell?
 rw [h]
theorem below_heap {w w' : World} (h1 : w'.heap = w.heap) (h2 : w'.os = w.os) (h3 : w'.tape = w.tape) (h4 : w'.output = w.output) : Below w.heap.size w w' := ⟨h2, h3, h4, by rw [h1]; exact Nat.le_refl _, fun k _ => by rw [h1]⟩
def Like (w w' : World) : Prop := w'.heap = w.heap ∧ w'.os = w.os ∧ w'.tape = w.tape ∧ w'.output = w.output
theorem Like.refl (w : World) : Like w w := ⟨rfl, rfl, rfl, rfl⟩
theorem Like.drewN {w w' : World} (h : Like w w') (n : Nat) : Like w (w'.drewN n) := h
theorem Like.below {w w' : World} (h : Like w w') : Below w.heap.size w w' := below_heap h.1 h.2.1 h.2.2.1 h.2.2.2
end Go.Proofs.YtimfnbnffibgpaaGreatDoor
namespace Go.Proofs.YtimfnbnffibgpaaGreatDoor
open Go.ChangeShapes Go.WideShapes Go.ChangeAt Go.RowKit Go.PlainAid
set_option linter.unusedVariables false
theorem Tryz.infoInt : (Tryz.prog.info? 3).map (fun i => (i.zero, i.size, i.bytes)) = some (some (.int .i64 0), 1, 8) := by kernel_rfl
end Go.Proofs.YtimfnbnffibgpaaGreatDoor
