/- Until UntilS UntilF CoShort AwAid MgVal MgLaw CoSp CoMe CoMm CoMh WkApp StAid CoShelf CoApp -/
import Derived.Deep.RegionHeld3
import Derived.StillTail
import Derived.Test.YtlhoonohpfpkbaaRows
import Derived.Test.YtlhoonohpfpkbaaQp0
import Derived.Deep.Cut
import Derived.Handy
import Derived.WalkKit
import Derived.ProofKit
import Derived.OpenShut
import Derived.Below
import Derived.WalkSmall
import Derived.WalkLawsBesides
import Derived.Outline
import Derived.BigQuiet
import Derived.Deep.QuietTactic
import Derived.Test.YtlhoonohpfpkbaaQp1
import Derived.Deep.RegionWith
import Derived.OwnWalk
import Derived.Deep.RegionLaw
import Derived.Shelf.SlGeneric
import Derived.Ground.SlgnProg
import Derived.Shelf.SlicesE.Clone
import Derived.Test.YtlhoonohpfpkbaaProg
open List (setIfInBounds_toArray set_cons_zero set_cons_succ)
namespace Go.Proofs.Ytlhoonohpfpkbaa
open Go
section
variable {P : Program} {ops : Array Oper} {Q : Exit → Act → World → Prop} {md : Region.Mode} {S : World → Prop} {T : Nat → Bool}
def wpUntil (P : Program) (md : Region.Mode) (ops : Array Oper) (Q : Exit → Act → World → Prop) (S : World → Prop) (T : Nat → Bool) : Nat → Array Bool → Act → World → Prop
 | 0, listed, a, w => Region.ready md ops listed = [] ∧ Q .normal a w
 | fuel + 1, listed, a, w =>
  (Region.ready md ops listed = [] → Q .normal a w) ∧ ∀ i ∈ Region.ready md ops listed, wpOp P ops Q i (fun a' w' => (T i = false → S w → S w') ∧ wpUntil P md ops Q S T fuel (listed.setIfInBounds i true) a' w') a w
theorem wpAny_of_until : ∀ (fuel : Nat) (listed : Array Bool) (a : Act) (w : World), wpUntil P md ops Q S T fuel listed a w → wpAny P md ops Q fuel listed a w
 | 0, _, _, _, h => h
 | fuel + 1, _, _, _, h => ⟨h.1, fun i hi => wpOp_mono (fun a' w' h' => wpAny_of_until fuel _ a' w' h'.2) (h.2 i hi)⟩
def needs (md : Region.Mode) (ops : Array Oper) : Nat → Nat → Nat → Bool
 | 0, _, _ => false
 | f + 1, t, i => match ops[t]? with
  | some o => o.after.any fun e => Region.binds md e && (e.on == i || needs md ops f e.on i)
  | none => false
def Closed (md : Region.Mode) (ops : Array Oper) (listed : Array Bool) : Prop :=
 ∀ j oj, ops[j]? = some oj → listed.getD j false = true → ∀ e ∈ oj.after, Region.binds md e = true → listed.getD e.on false = true
theorem needs_some {f t i : Nat} (h : needs md ops f t i = true) : ∃ o, ops[t]? = some o := by
 cases f with
 | zero => cases h
 | succ f =>
  unfold needs at h
  cases e : ops[t]? with
  | none => rw [e] at h; cases h
  | some o => exact ⟨o, rfl⟩
theorem needs_listed {listed : Array Bool} (hc : Closed md ops listed) : ∀ (f t i : Nat) (ot : Oper), ops[t]? = some ot → (∀ e ∈ ot.after, Region.binds md e = true → listed.getD e.on false = true) → needs md ops f t i = true → listed.getD i false = true
 | 0, _, _, _, _, _, h => by cases h
 | f + 1, t, i, ot, hot, hall, h => by
  unfold needs at h
  rw [hot] at h
  obtain ⟨e, he, hb⟩ := Array.any_eq_true'.1 h
  rw [Bool.and_eq_true, Bool.or_eq_true] at hb
  have h1 := hall e he hb.1
  rcases hb.2 with h2 | h2
  ·rw [← beq_iff_eq.1 h2]
   exact h1
  ·obtain ⟨o2, ho2⟩ := needs_some h2
   exact needs_listed hc f e.on i o2 ho2 (hc e.on o2 ho2 h1) h2
theorem Closed.set {i : Nat} {listed : Array Bool} (h : Closed md ops listed) (hi : i ∈ Region.ready md ops listed) : Closed md ops (listed.setIfInBounds i true) := by
 obtain ⟨_, oi, hoi, hall⟩ := mem_ready.1 hi
 intro j oj hj hl e he hb
 by_cases hij : i = j
 ·subst hij
  have : oj = oi := Option.some.inj (hj.symm.trans hoi)
  subst this
  exact getD_set_true (hall e he hb)
 ·rw [_root_.Go.getD_set_ne false hij] at hl
  exact getD_set_true (h j oj hj hl e he hb)
theorem wpUntil_first {i : Nat} {oi : Oper} {v : Value} (hi : ops[i]? = some oi) (hsel : ∀ (j : Nat) (o : Oper) cs b, ops[j]? = some o → o.op ≠ .select cs b)
  (hQ : ∀ c a w, Q (.panic c) (a.put oi.dst v) w → Q (.panic c) a w) (hT : ∀ t, t < ops.size → T t = true → needs md ops ops.size t i = true) :
  ∀ (fuel : Nat) (listed : Array Bool) (a : Act) (w : World), Closed md ops listed →
   (∀ j oj, ops[j]? = some oj → j ≠ i → listed.getD j true = false → (∀ e ∈ oj.after, Region.binds md e = true → e.on ≠ i) → oi.apart ops oj = true) →
   i ∈ Region.ready md ops listed → YieldsIf P ops S oi v a → S w →
   wpUntil P md ops Q S T fuel (listed.setIfInBounds i true) (a.put oi.dst v) w → wpUntil P md ops Q S T (fuel + 1) listed a w := by
 intro fuel
 induction fuel with
 | zero =>
  intro listed a w _ _ hr hy hS H
  refine ⟨fun h => (by rw [h] at hr; cases hr), fun j hj => ?_⟩
  by_cases hji : j = i
  ·subst hji
   exact hy.wpOp hi hS ⟨fun _ h => h, H⟩
  ·have := ready_mono hj hji
   rw [H.1] at this
   cases this
 | succ fuel ih =>
  intro listed a w hc hfree hr hy hS H
  refine ⟨fun h => (by rw [h] at hr; cases hr), fun j hj => ?_⟩
  by_cases hji : j = i
  ·subst hji
   exact hy.wpOp hi hS ⟨fun _ h => h, H⟩
  ·have h1 := H.2 j (ready_mono hj hji)
   obtain ⟨hjun, oj, hoj, hall⟩ := mem_ready.1 hj
   have hun := getD_both (mem_ready.1 hr).1
   have hnot : ∀ e ∈ oj.after, Region.binds md e = true → e.on ≠ i := fun e he hb heq => by
    have h1 := hall e he hb
    rw [heq, hun] at h1
    cases h1
   have hTj : T j = false := by
    cases e : T j with
    | false => rfl
    | true =>
     have := needs_listed hc _ j i oj hoj hall (hT j (Array.getElem?_eq_some_iff.1 hoj).1 e)
     rw [hun] at this
     cases this
   have h2 := wpOp_putIf hoj (hfree j oj hoj hji hjun hnot) (fun cs b => hsel i oi cs b hi) (fun cs b => hsel j oj cs b hoj) hQ hy h1
   have hfree' : ∀ k ok, ops[k]? = some ok → k ≠ i → (listed.setIfInBounds j true).getD k true = false →
     (∀ e ∈ ok.after, Region.binds md e = true → e.on ≠ i) → oi.apart ops ok = true := fun k ok hk hki hun hno => by
    refine hfree k ok hk hki ?_ hno
    by_cases hjk : j = k
    ·subst hjk
     exact hjun
    ·rw [_root_.Go.getD_set_ne true hjk] at hun
     exact hun
   refine wpOp_mono (fun a' w' h3 => ⟨h3.2.1, ih (listed.setIfInBounds j true) a' w' (hc.set hj) hfree' (ready_mono hr (Ne.symm hji)) h3.1 (h3.2.1 hTj hS) ?_⟩) h2
   rw [Array.setIfInBounds_comm _ _ hji]
   exact h3.2.2
theorem wpUntil_pure {i : Nat} {oi : Oper} {v : Value} (hi : ops[i]? = some oi) (hsel : ∀ (j : Nat) (o : Oper) cs b, ops[j]? = some o → o.op ≠ .select cs b)
  (hQ : ∀ c a w, Q (.panic c) (a.put oi.dst v) w → Q (.panic c) a w) :
  ∀ (fuel : Nat) (listed : Array Bool) (a : Act) (w : World),
   (∀ j oj, ops[j]? = some oj → j ≠ i → listed.getD j true = false → (∀ e ∈ oj.after, Region.binds md e = true → e.on ≠ i) → oi.apart ops oj = true) →
   i ∈ Region.ready md ops listed → YieldsIf P ops (fun _ => True) oi v a →
   wpUntil P md ops Q S T fuel (listed.setIfInBounds i true) (a.put oi.dst v) w → wpUntil P md ops Q S T (fuel + 1) listed a w := by
 intro fuel
 induction fuel with
 | zero =>
  intro listed a w _ hr hy H
  refine ⟨fun h => (by rw [h] at hr; cases hr), fun j hj => ?_⟩
  by_cases hji : j = i
  ·subst hji
   exact hy.wpOp hi trivial ⟨fun _ h => h, H⟩
  ·have := ready_mono hj hji
   rw [H.1] at this
   cases this
 | succ fuel ih =>
  intro listed a w hfree hr hy H
  refine ⟨fun h => (by rw [h] at hr; cases hr), fun j hj => ?_⟩
  by_cases hji : j = i
  ·subst hji
   exact hy.wpOp hi trivial ⟨fun _ h => h, H⟩
  ·have h1 := H.2 j (ready_mono hj hji)
   obtain ⟨hjun, oj, hoj, hall⟩ := mem_ready.1 hj
   have hun := getD_both (mem_ready.1 hr).1
   have hnot : ∀ e ∈ oj.after, Region.binds md e = true → e.on ≠ i := fun e he hb heq => by
    have h1 := hall e he hb
    rw [heq, hun] at h1
    cases h1
   have h2 := wpOp_putIf hoj (hfree j oj hoj hji hjun hnot) (fun cs b => hsel i oi cs b hi) (fun cs b => hsel j oj cs b hoj) hQ hy h1
   have hfree' : ∀ k ok, ops[k]? = some ok → k ≠ i → (listed.setIfInBounds j true).getD k true = false →
     (∀ e ∈ ok.after, Region.binds md e = true → e.on ≠ i) → oi.apart ops ok = true := fun k ok hk hki hun hno => by
    refine hfree k ok hk hki ?_ hno
    by_cases hjk : j = k
    ·subst hjk
     exact hjun
    ·rw [_root_.Go.getD_set_ne true hjk] at hun
     exact hun
   refine wpOp_mono (fun a' w' h3 => ⟨h3.2.1, ih (listed.setIfInBounds j true) a' w' hfree' (ready_mono hr (Ne.symm hji)) h3.1 ?_⟩) h2
   rw [Array.setIfInBounds_comm _ _ hji]
   exact h3.2.2
def closedB (md : Region.Mode) (ops : Array Oper) (listed : Array Bool) : Bool :=
 (List.range ops.size).all fun j => match ops[j]? with
  | some oj => !(listed.getD j false) || oj.after.all fun e => !Region.binds md e || listed.getD e.on false
  | none => true
theorem closedB_spec {listed : Array Bool} (h : closedB md ops listed = true) : Closed md ops listed := by
 intro j oj hj hl e he hb
 have h1 := List.all_eq_true.1 h j (List.mem_range.2 (Array.getElem?_eq_some_iff.1 hj).1)
 rw [hj] at h1
 simp only [hl, Bool.not_true, Bool.false_or] at h1
 have h2 := Array.all_eq_true'.1 h1 e he
 rw [hb] at h2
 simpa using h2
def takeB (md : Region.Mode) (ops : Array Oper) (T : Nat → Bool) (listed : Array Bool) (i : Nat) : Bool :=
 Region.noSelect ops && Region.free md ops listed i && (Region.ready md ops listed).contains i && closedB md ops listed && (List.range ops.size).all fun t => !T t || needs md ops ops.size t i
theorem drop_at {l : List Oper} {i : Nat} {o : Oper} {rest : List Oper} (h : l.drop i = o :: rest) : l.toArray[i]? = some o := by
 have := congrArg (fun x : List Oper => x[0]?) h
 simpa [List.getElem?_drop] using this
theorem until_take {l : List Oper} (i : Nat) {oi : Oper} {rest : List Oper} {v : Value} {fuel : Nat} {listed : Array Bool} {a : Act} {w : World} (hd : l.drop i = oi :: rest) (hB : takeB md l.toArray T listed i = true)
  (hQ : ∀ c a w, Q (.panic c) (a.put oi.dst v) w → Q (.panic c) a w) (hw : Region.wanted oi (yielded l.toArray a.tmps) = true) (hy : ∀ w, S w → (execOp a.eval oi).run P w = .ok (.value v) w) (hS : S w)
  (h : wpUntil P md l.toArray Q S T fuel (listed.setIfInBounds i true) (a.put oi.dst v) w) : wpUntil P md l.toArray Q S T (fuel + 1) listed a w := by
 unfold takeB at hB
 simp only [Bool.and_eq_true] at hB
 obtain ⟨⟨⟨⟨hs, hf⟩, hr⟩, hc⟩, ht⟩ := hB
 refine wpUntil_first (drop_at hd) (Region.noSelect_spec hs) hQ (fun t htl htt => ?_) fuel listed a w (closedB_spec hc) (Region.free_spec (drop_at hd) hf) (by simpa using hr) (.inl ⟨hw, hy⟩) hS h
 have := List.all_eq_true.1 ht t (List.mem_range.2 htl)
 rw [htt] at this
 simpa using this
def pureB (md : Region.Mode) (ops : Array Oper) (listed : Array Bool) (i : Nat) : Bool := Region.noSelect ops && Region.free md ops listed i && (Region.ready md ops listed).contains i
theorem until_pure {l : List Oper} (i : Nat) {oi : Oper} {rest : List Oper} {v : Value} {fuel : Nat} {listed : Array Bool} {a : Act} {w : World} (hd : l.drop i = oi :: rest) (hB : pureB md l.toArray listed i = true)
  (hQ : ∀ c a w, Q (.panic c) (a.put oi.dst v) w → Q (.panic c) a w) (hw : Region.wanted oi (yielded l.toArray a.tmps) = true) (hy : ∀ w, (execOp a.eval oi).run P w = .ok (.value v) w)
  (h : wpUntil P md l.toArray Q S T fuel (listed.setIfInBounds i true) (a.put oi.dst v) w) : wpUntil P md l.toArray Q S T (fuel + 1) listed a w := by
 unfold pureB at hB
 simp only [Bool.and_eq_true] at hB
 obtain ⟨⟨hs, hf⟩, hr⟩ := hB
 exact wpUntil_pure (drop_at hd) (Region.noSelect_spec hs) hQ fuel listed a w (Region.free_spec (drop_at hd) hf) (by simpa using hr) (.inl ⟨hw, fun w _ => hy w⟩) h
theorem until_one {l : List Oper} (i : Nat) {oi : Oper} {rest : List Oper} {fuel : Nat} {listed : Array Bool} {a : Act} {w : World} (hd : l.drop i = oi :: rest) (hr : Region.ready md l.toArray listed = [i])
  (h : ∀ K : Act → World → Prop, Shut (∀ a' w', (T i = false → S w → S w') → wpUntil P md l.toArray Q S T fuel (listed.setIfInBounds i true) a' w' → K a' w') → if Region.wanted oi (yielded l.toArray a.tmps) = true then Oper.wp P oi a w K Q else K (a.put oi.dst undef) w) :
  wpUntil P md l.toArray Q S T (fuel + 1) listed a w := by
 refine ⟨fun h0 => (by rw [hr] at h0; cases h0), fun j hj => ?_⟩
 rw [hr] at hj
 obtain rfl : j = i := by simpa using hj
 exact wpOp_step (drop_at hd) (fun K hK => h K (fun a w h1 h2 => hK a w ⟨h1, h2⟩))
theorem until_two {l : List Oper} (i j : Nat) {oi oj : Oper} {rest rest' : List Oper} {fuel : Nat} {listed : Array Bool} {a : Act} {w : World} (hd : l.drop i = oi :: rest) (hd' : l.drop j = oj :: rest') (hr : Region.ready md l.toArray listed = [i, j])
  (h : ∀ K : Act → World → Prop, Shut (∀ a' w', (T i = false → S w → S w') → wpUntil P md l.toArray Q S T fuel (listed.setIfInBounds i true) a' w' → K a' w') → if Region.wanted oi (yielded l.toArray a.tmps) = true then Oper.wp P oi a w K Q else K (a.put oi.dst undef) w)
  (h' : ∀ K : Act → World → Prop, Shut (∀ a' w', (T j = false → S w → S w') → wpUntil P md l.toArray Q S T fuel (listed.setIfInBounds j true) a' w' → K a' w') → if Region.wanted oj (yielded l.toArray a.tmps) = true then Oper.wp P oj a w K Q else K (a.put oj.dst undef) w) :
  wpUntil P md l.toArray Q S T (fuel + 1) listed a w := by
 refine ⟨fun h0 => (by rw [hr] at h0; cases h0), fun k hk => ?_⟩
 rw [hr] at hk
 have : k = i ∨ k = j := by simpa using hk
 rcases this with rfl | rfl
 ·exact wpOp_step (drop_at hd) (fun K hK => h K (fun a w h1 h2 => hK a w ⟨h1, h2⟩))
 ·exact wpOp_step (drop_at hd') (fun K hK => h' K (fun a w h1 h2 => hK a w ⟨h1, h2⟩))
theorem until_done {listed : Array Bool} {a : Act} {w : World} (hr : Region.ready md ops listed = []) (h : Q .normal a w) : ∀ fuel, wpUntil P md ops Q S T fuel listed a w
 | 0 => ⟨hr, h⟩
 | _ + 1 => ⟨fun _ => h, by rw [hr]; simp⟩
theorem wp_region_until {id : Nat} {l : List Oper} {a : Act} {w : World} (S : World → Prop) (T : Nat → Bool) (n : Nat) (hn : l.length = n) (hm : P.follows .mixedOrders = true)
  (h : wpUntil P .any l.toArray Q S T n (Array.replicate n false) a w.drew) : (Code.region id l.toArray true).wp P Q a w := by
 subst hn
 exact wp_region_any hm (wpAny_of_until _ _ _ _ (by simpa using h))
end
section
variable {P : Program} {Q : Exit → Act → World → Prop} {md : Region.Mode} {S : World → Prop} {T : Nat → Bool}
theorem tKe {l : List Oper} (i : Nat) {oi : Oper} {rest : List Oper} {v : Value} {fuel : Nat} {listed : Array Bool} {a : Act} {w : World} (hS : S w) (hy : ∀ w, S w → (execOp a.eval oi).run P w = .ok (.value v) w) (h : wpUntil P md l.toArray Q S T fuel (listed.setIfInBounds i true) (a.put oi.dst v) w) (hd : l.drop i = oi :: rest := by rfl) (hB : takeB md l.toArray T listed i = true := by kernel_rfl) (hQ : ∀ c a w, Q (.panic c) (a.put oi.dst v) w → Q (.panic c) a w := by exact fun _ _ _ h => h) (hw : Region.wanted oi (yielded l.toArray a.tmps) = true := by rfl) : wpUntil P md l.toArray Q S T (fuel + 1) listed a w := until_take i hd hB hQ hw hy hS h
theorem pUr {l : List Oper} (i : Nat) {oi : Oper} {rest : List Oper} {v : Value} {fuel : Nat} {listed : Array Bool} {a : Act} {w : World} (hy : ∀ w, (execOp a.eval oi).run P w = .ok (.value v) w) (h : wpUntil P md l.toArray Q S T fuel (listed.setIfInBounds i true) (a.put oi.dst v) w) (hd : l.drop i = oi :: rest := by rfl) (hB : pureB md l.toArray listed i = true := by kernel_rfl) (hQ : ∀ c a w, Q (.panic c) (a.put oi.dst v) w → Q (.panic c) a w := by exact fun _ _ _ h => h) (hw : Region.wanted oi (yielded l.toArray a.tmps) = true := by rfl) : wpUntil P md l.toArray Q S T (fuel + 1) listed a w := until_pure i hd hB hQ hw hy h
theorem uNe {l : List Oper} (i : Nat) {oi : Oper} {rest : List Oper} {fuel : Nat} {listed : Array Bool} {a : Act} {w : World} (h : ∀ K : Act → World → Prop, Shut (∀ a' w', (T i = false → S w → S w') → wpUntil P md l.toArray Q S T fuel (listed.setIfInBounds i true) a' w' → K a' w') → if Region.wanted oi (yielded l.toArray a.tmps) = true then Oper.wp P oi a w K Q else K (a.put oi.dst undef) w) (hd : l.drop i = oi :: rest := by rfl) (hr : Region.ready md l.toArray listed = [i] := by kernel_rfl) : wpUntil P md l.toArray Q S T (fuel + 1) listed a w := until_one i hd hr h
end
theorem zQ1 {α : Type} (l : List α) (i : Nat) (a : α) : l.toArray.setIfInBounds i a = (l.set i a).toArray := List.setIfInBounds_toArray ..
theorem zQ2 {α : Type} (x : α) (l : List α) (a : α) : (x :: l).set 0 a = a :: l := rfl
theorem zQ3 {α : Type} (x : α) (l : List α) (n : Nat) (a : α) : (x :: l).set (n + 1) a = x :: l.set n a := rfl
section
variable {P : Program} {Q : Exit → Act → World → Prop} {md : Region.Mode} {S : World → Prop} {T : Nat → Bool}
theorem tKf {l : List Oper} (i : Nat) {oi : Oper} {rest : List Oper} {v : Value} {fuel : Nat} {listed : Array Bool} {a b : Act} {w : World} (hS : S w) (h : wpUntil P md l.toArray Q S T fuel (listed.setIfInBounds i true) b w) (hd : l.drop i = oi :: rest := by rfl) (hB : takeB md l.toArray T listed i = true := by kernel_rfl) (hw : Region.wanted oi (yielded l.toArray a.tmps) = true := by rfl) (hy : ∀ w, S w → (execOp a.eval oi).run P w = .ok (.value v) w := by intro w hSw; (try dsimp only at hSw); go_simp; try with_reducible rfl) (hb : a.put oi.dst v = b := by (try simp only [Act.put, zQ1, zQ2, zQ3]); exact rfl) (hQ : ∀ c a w, Q (.panic c) (a.put oi.dst v) w → Q (.panic c) a w := by exact fun _ _ _ h => h) : wpUntil P md l.toArray Q S T (fuel + 1) listed a w := until_take i hd hB hQ hw hy hS (hb ▸ h)
theorem pUf {l : List Oper} (i : Nat) {oi : Oper} {rest : List Oper} {v : Value} {fuel : Nat} {listed : Array Bool} {a b : Act} {w : World} (h : wpUntil P md l.toArray Q S T fuel (listed.setIfInBounds i true) b w) (hd : l.drop i = oi :: rest := by rfl) (hB : pureB md l.toArray listed i = true := by kernel_rfl) (hw : Region.wanted oi (yielded l.toArray a.tmps) = true := by rfl) (hy : ∀ w, (execOp a.eval oi).run P w = .ok (.value v) w := by intro w; go_simp; try with_reducible rfl) (hb : a.put oi.dst v = b := by (try simp only [Act.put, zQ1, zQ2, zQ3]); exact rfl) (hQ : ∀ c a w, Q (.panic c) (a.put oi.dst v) w → Q (.panic c) a w := by exact fun _ _ _ h => h) : wpUntil P md l.toArray Q S T (fuel + 1) listed a w := until_pure i hd hB hQ hw hy (hb ▸ h)
end
end Go.Proofs.Ytlhoonohpfpkbaa
namespace Go.Proofs.Ytlhoonohpfpkbaa
open Go
theorem until_skip {P : Program} {Q : Exit → Act → World → Prop} {md : Region.Mode} {S : World → Prop} {T : Nat → Bool} {l : List Oper} (i : Nat) {oi : Oper} {rest : List Oper} {fuel : Nat} {listed : Array Bool} {a : Act} {w : World} (hd : l.drop i = oi :: rest) (hB : pureB md l.toArray listed i = true)
  (hQ : ∀ c a w, Q (.panic c) (a.put oi.dst undef) w → Q (.panic c) a w) (hw : Region.wanted oi (yielded l.toArray a.tmps) = false)
  (h : wpUntil P md l.toArray Q S T fuel (listed.setIfInBounds i true) (a.put oi.dst undef) w) : wpUntil P md l.toArray Q S T (fuel + 1) listed a w := by
 unfold pureB at hB
 simp only [Bool.and_eq_true] at hB
 obtain ⟨⟨hs, hf⟩, hr⟩ := hB
 exact wpUntil_pure (drop_at hd) (Region.noSelect_spec hs) hQ fuel listed a w (Region.free_spec (drop_at hd) hf) (by simpa using hr) (.inr ⟨hw, rfl⟩) h
theorem sKi {P : Program} {Q : Exit → Act → World → Prop} {md : Region.Mode} {S : World → Prop} {T : Nat → Bool} {l : List Oper} (i : Nat) {oi : Oper} {rest : List Oper} {fuel : Nat} {listed : Array Bool} {a : Act} {w : World} (h : wpUntil P md l.toArray Q S T fuel (listed.setIfInBounds i true) (a.put oi.dst undef) w) (hd : l.drop i = oi :: rest := by rfl) (hB : pureB md l.toArray listed i = true := by kernel_rfl) (hQ : ∀ c a w, Q (.panic c) (a.put oi.dst undef) w → Q (.panic c) a w := by exact fun _ _ _ h => h) (hw : Region.wanted oi (yielded l.toArray a.tmps) = false := by rfl) : wpUntil P md l.toArray Q S T (fuel + 1) listed a w := until_skip i hd hB hQ hw h
theorem sKf {P : Program} {Q : Exit → Act → World → Prop} {md : Region.Mode} {S : World → Prop} {T : Nat → Bool} {l : List Oper} (i : Nat) {oi : Oper} {rest : List Oper} {fuel : Nat} {listed : Array Bool} {a b : Act} {w : World} (h : wpUntil P md l.toArray Q S T fuel (listed.setIfInBounds i true) b w) (hd : l.drop i = oi :: rest := by rfl) (hB : pureB md l.toArray listed i = true := by kernel_rfl) (hw : Region.wanted oi (yielded l.toArray a.tmps) = false := by rfl) (hb : a.put oi.dst undef = b := by (try simp only [Act.put, zQ1, zQ2, zQ3]); exact rfl) (hQ : ∀ c a w, Q (.panic c) (a.put oi.dst undef) w → Q (.panic c) a w := by exact fun _ _ _ h => h) : wpUntil P md l.toArray Q S T (fuel + 1) listed a w := until_skip i hd hB hQ hw (hb ▸ h)
end Go.Proofs.Ytlhoonohpfpkbaa
namespace Go.Proofs.Ytlhoonohpfpkbaa
set_option linter.unusedVariables false
section
variable {P : Program} {Q : Exit → Act → World → Prop} {md : Region.Mode} {S : World → Prop} {T : Nat → Bool}
theorem tF {l : List Oper} (i : Nat) {oi : Oper} {rest : List Oper} {v : Value} {fuel : Nat} {listed : Array Bool} {a b : Act} {w : World} (hS : S w) (h : wpUntil P md l.toArray Q S T fuel (listed.setIfInBounds i true) b w) (hd : l.drop i = oi :: rest := by rfl) (hB : takeB md l.toArray T listed i = true := by kernel_rfl) (hw : Region.wanted oi (yielded l.toArray a.tmps) = true := by rfl) (hy : ∀ w, S w → (execOp a.eval oi).run P w = .ok (.value v) w := by intro w hSw; (try dsimp only at hSw); go_simp; try with_reducible rfl) (hb : a.put oi.dst v = b := by (try simp only [Act.put, zQ1, zQ2, zQ3]); exact rfl) (hQ : ∀ c a w, Q (.panic c) (a.put oi.dst v) w → Q (.panic c) a w := by exact fun _ _ _ h => h) : wpUntil P md l.toArray Q S T (fuel + 1) listed a w := until_take i hd hB hQ hw hy hS (hb ▸ h)
theorem pF {l : List Oper} (i : Nat) {oi : Oper} {rest : List Oper} {v : Value} {fuel : Nat} {listed : Array Bool} {a b : Act} {w : World} (h : wpUntil P md l.toArray Q S T fuel (listed.setIfInBounds i true) b w) (hd : l.drop i = oi :: rest := by rfl) (hB : pureB md l.toArray listed i = true := by kernel_rfl) (hw : Region.wanted oi (yielded l.toArray a.tmps) = true := by rfl) (hy : ∀ w, (execOp a.eval oi).run P w = .ok (.value v) w := by intro w; go_simp; try with_reducible rfl) (hb : a.put oi.dst v = b := by (try simp only [Act.put, zQ1, zQ2, zQ3]); exact rfl) (hQ : ∀ c a w, Q (.panic c) (a.put oi.dst v) w → Q (.panic c) a w := by exact fun _ _ _ h => h) : wpUntil P md l.toArray Q S T (fuel + 1) listed a w := until_pure i hd hB hQ hw hy (hb ▸ h)
theorem sF {l : List Oper} (i : Nat) {oi : Oper} {rest : List Oper} {fuel : Nat} {listed : Array Bool} {a b : Act} {w : World} (h : wpUntil P md l.toArray Q S T fuel (listed.setIfInBounds i true) b w) (hd : l.drop i = oi :: rest := by rfl) (hB : pureB md l.toArray listed i = true := by kernel_rfl) (hw : Region.wanted oi (yielded l.toArray a.tmps) = false := by rfl) (hb : a.put oi.dst undef = b := by (try simp only [Act.put, zQ1, zQ2, zQ3]); exact rfl) (hQ : ∀ c a w, Q (.panic c) (a.put oi.dst undef) w → Q (.panic c) a w := by exact fun _ _ _ h => h) : wpUntil P md l.toArray Q S T (fuel + 1) listed a w := until_skip i hd hB hQ hw (hb ▸ h)
end
end Go.Proofs.Ytlhoonohpfpkbaa
namespace Go.Proofs.Ytlhoonohpfpkbaa
open Go.ChangeShapes Go.WideShapes Go.ChangeAt Go.RowKit Go.PlainAid
set_option linter.unusedVariables false
theorem ShortC.of {x : Cor} (h : wtC x ≤ 1048576) : ShortC x := by
 unfold wtC at h
 exact ⟨by omega, fun y hy => by have := wtE_mem x.log y hy; omega, by omega, by omega, by omega⟩
end Go.Proofs.Ytlhoonohpfpkbaa
namespace Go.Proofs.Ytlhoonohpfpkbaa
open Go.ChangeShapes Go.WideShapes Go.ChangeAt Go.RowKit Go.PlainAid
set_option linter.unusedVariables false
structure Ans where
 code : Int
 index : Int
 mark : Int
 data : ByteArray
instance : Inhabited Ans := ⟨⟨0, 0, 0, ByteArray.empty⟩⟩
def Cell4 (w : World) (g : Nat) (x : Ans) : Prop := w.cell? ⟨g, 0, none⟩ = some (.int .i64 x.code) ∧ w.cell? ⟨g, 1, none⟩ = some (.int .i64 x.index) ∧ w.cell? ⟨g, 2, none⟩ = some (.int .i64 x.mark) ∧ w.cell? ⟨g, 3, none⟩ = some (.string x.data) ∧ g < w.heap.size
theorem Cell4.on {w w' : World} {B g : Nat} {x : Ans} (h : Cell4 w g x) (hb : Below B w w') (hg : g < B) (hs : B ≤ w.heap.size) : Cell4 w' g x := by
 obtain ⟨a, b, c, c', d⟩ := h
 refine ⟨?_, ?_, ?_, ?_, Nat.lt_of_lt_of_le d ?_⟩
 ·rw [hb.cell (p := ⟨_, _, none⟩) hg]; exact a
 ·rw [hb.cell (p := ⟨_, _, none⟩) hg]; exact b
 ·rw [hb.cell (p := ⟨_, _, none⟩) hg]; exact c
 ·rw [hb.cell (p := ⟨_, _, none⟩) hg]; exact c'
 ·exact hb.size
theorem Cell4.new (w : World) (x : Ans) (t : TypeId) : Cell4 (w.alloc (.cells #[.int .i64 x.code, .int .i64 x.index, .int .i64 x.mark, .string x.data] t)) w.heap.size x := by
 have h : (w.alloc (.cells #[.int .i64 x.code, .int .i64 x.index, .int .i64 x.mark, .string x.data] t)).heap[w.heap.size]? = some (.cells #[.int .i64 x.code, .int .i64 x.index, .int .i64 x.mark, .string x.data] t (0, 0)) := heap_alloc_new w _
 refine ⟨?_, ?_, ?_, ?_, by simp⟩
 ·rw [cell_of_row _ _ 0 _ t (0, 0) h]; rfl
 ·rw [cell_of_row _ _ 1 _ t (0, 0) h]; rfl
 ·rw [cell_of_row _ _ 2 _ t (0, 0) h]; rfl
 ·rw [cell_of_row _ _ 3 _ t (0, 0) h]; rfl
end Go.Proofs.Ytlhoonohpfpkbaa
namespace Go.Proofs.Ytlhoonohpfpkbaa
open Go.ChangeShapes Go.WideShapes Go.ChangeAt Go.RowKit Go.PlainAid
set_option linter.unusedVariables false
structure Mg where
 kind : Int
 frm : Int
 dst : Int
 term : Int
 index : Int
 iterm : Int
 commit : Int
 yes : Bool
 ents : List Ent
 data : ByteArray
def vMg (x : Mg) (u : Value) : Value := .agg #[.int .i64 x.kind, .int .i64 x.frm, .int .i64 x.dst, .int .i64 x.term, .int .i64 x.index, .int .i64 x.iterm, .int .i64 x.commit, .bool x.yes, u, .string x.data]
def MgV (w : World) (B : Nat) (v : Value) (x : Mg) : Prop := ∃ u, v = vMg x u ∧ Lies w B 2 u (entR x.ents)
def MgO (w : World) (base : Nat) (v : Value) (x : Mg) : Prop := ∃ u, v = vMg x u ∧ Owns w base 71 2 u (entR x.ents)
theorem MgV.on {w w' : World} {B : Nat} {v : Value} {x : Mg} (h : MgV w B v x) (hb : Below B w w') : MgV w' B v x := by
 obtain ⟨u, e, hl⟩ := h
 exact ⟨u, e, hl.on hb⟩
theorem MgV.mono {w : World} {B C : Nat} {v : Value} {x : Mg} (h : MgV w B v x) (hB : B ≤ C) : MgV w C v x := by
 obtain ⟨u, e, hl⟩ := h
 exact ⟨u, e, hl.mono hB⟩
theorem MgO.lies {w : World} {base : Nat} {v : Value} {x : Mg} (h : MgO w base v x) : MgV w w.heap.size v x := by
 obtain ⟨u, e, hl⟩ := h
 exact ⟨u, e, hl.lies⟩
theorem MgO.on {w w' : World} {base : Nat} {v : Value} {x : Mg} (h : MgO w base v x) (hb : Below w.heap.size w w') : MgO w' base v x := by
 obtain ⟨u, e, hl⟩ := h
 exact ⟨u, e, hl.on hb⟩
theorem MgO.mono {w : World} {base base' : Nat} {v : Value} {x : Mg} (h : MgO w base v x) (hb : base' ≤ base) : MgO w base' v x := by
 obtain ⟨u, e, hl⟩ := h
 exact ⟨u, e, hl.mono hb⟩
theorem Hid.mkM {p : Prop} (h : p) : Hid p := h
end Go.Proofs.Ytlhoonohpfpkbaa
namespace Go.Proofs.Ytlhoonohpfpkbaa
open Go.ChangeShapes Go.WideShapes Go.ChangeAt Go.RowKit Go.PlainAid
set_option linter.unusedVariables false
set_option maxHeartbeats 4000000 in
theorem eqMsg (x : Mg) (va vb : Value) (w : World) (B : Nat) (ha : MgV w B va x) (hb : MgV w B vb x) (hn : x.ents.length ≤ 1048576) (hB : B ≤ w.heap.size) :
  Calls Try.prog 34 #[va, vb] w fun e w' => e = .returned (.bool true) ∧ Below w.heap.size w w' := by
 obtain ⟨ua, rfl, al⟩ := ha
 obtain ⟨ub, rfl, bl⟩ := hb
 unfold vMg
 have HB : Hid (B ≤ w.heap.size) := hB
 have AL : Hid (Lies w B 2 ua (entR x.ents)) := al
 have BL : Hid (Lies w B 2 ub (entR x.ents)) := bl
 have L1 : Hid (x.ents.length ≤ 1048576) := hn
 have ny : (x.yes != x.yes) = false := by cases x.yes <;> rfl
 clear al bl hn hB
 have hb0 := below_alloc2 w (.cells #[.int .i64 x.kind, .int .i64 x.frm, .int .i64 x.dst, .int .i64 x.term, .int .i64 x.index, .int .i64 x.iterm, .int .i64 x.commit, .bool x.yes, ua, .string x.data] 48) (.cells #[.int .i64 x.kind, .int .i64 x.frm, .int .i64 x.dst, .int .i64 x.term, .int .i64 x.index, .int .i64 x.iterm, .int .i64 x.commit, .bool x.yes, ub, .string x.data] 48)
 have bA := (Blk.new w #[.int .i64 x.kind, .int .i64 x.frm, .int .i64 x.dst, .int .i64 x.term, .int .i64 x.index, .int .i64 x.iterm, .int .i64 x.commit, .bool x.yes, ua, .string x.data] 48).alloc (.cells #[.int .i64 x.kind, .int .i64 x.frm, .int .i64 x.dst, .int .i64 x.term, .int .i64 x.index, .int .i64 x.iterm, .int .i64 x.commit, .bool x.yes, ub, .string x.data] 48)
 have bB := Blk.new (w.alloc (.cells #[.int .i64 x.kind, .int .i64 x.frm, .int .i64 x.dst, .int .i64 x.term, .int .i64 x.index, .int .i64 x.iterm, .int .i64 x.commit, .bool x.yes, ua, .string x.data] 48)) #[.int .i64 x.kind, .int .i64 x.frm, .int .i64 x.dst, .int .i64 x.term, .int .i64 x.index, .int .i64 x.iterm, .int .i64 x.commit, .bool x.yes, ub, .string x.data] 48
 simp only [World.size_alloc] at bA bB
 obtain ⟨W, hW⟩ : ∃ W, W = (w.alloc (.cells #[.int .i64 x.kind, .int .i64 x.frm, .int .i64 x.dst, .int .i64 x.term, .int .i64 x.index, .int .i64 x.iterm, .int .i64 x.commit, .bool x.yes, ua, .string x.data] 48)).alloc (.cells #[.int .i64 x.kind, .int .i64 x.frm, .int .i64 x.dst, .int .i64 x.term, .int .i64 x.index, .int .i64 x.iterm, .int .i64 x.commit, .bool x.yes, ub, .string x.data] 48) := ⟨_, rfl⟩
 rw [← hW] at hb0 bA bB
 have B0 : Hid (Below w.heap.size w W) := hb0
 have BA := Hid.mkM bA
 have BB := Hid.mkM bB
 go_enter Try.func34, Try.ntmps34
 clear hb0 bA bB
 go_wp2_with fail
 rw [← hW]
 clear hW
 refine (eqEntryS x.ents ua ub W B (AL.out.on (B0.out.mono HB.out)) (BL.out.on (B0.out.mono HB.out)) L1.out (Nat.le_trans HB.out B0.out.size)).mono ?_
 rintro e w2 ⟨rfl, hb2⟩
 have B2 : Hid (Below w.heap.size w w2) := B0.out.trans (hb2.mono B0.out.size)
 have p9 := (BA.out.on hb2 BA.out.lt).cell 9 _ rfl
 have q9 := (BB.out.on hb2 BB.out.lt).cell 9 _ rfl
 clear hb2
 go_wp2_with fail
 go_ret
 exact ⟨rfl, B2.out⟩
end Go.Proofs.Ytlhoonohpfpkbaa
namespace Go.Proofs.Ytlhoonohpfpkbaa
open Go.ChangeShapes Go.WideShapes Go.ChangeAt Go.RowKit Go.PlainAid
set_option linter.unusedVariables false
instance : Inhabited Mg := ⟨⟨0, 0, 0, 0, 0, 0, 0, false, [], ⟨#[]⟩⟩⟩
instance : Inhabited (Mg × Value) := ⟨⟨default, .slice none 0 0⟩⟩
def mgC (p : Mg × Value) : List Value := [.int .i64 p.1.kind, .int .i64 p.1.frm, .int .i64 p.1.dst, .int .i64 p.1.term, .int .i64 p.1.index, .int .i64 p.1.iterm, .int .i64 p.1.commit, .bool p.1.yes, p.2, .string p.1.data]
def mgR (L : List (Mg × Value)) : List (List Value) := L.map mgC
theorem mgR_length (L : List (Mg × Value)) : (mgR L).length = L.length := by simp [mgR]
theorem mgR_append (L M : List (Mg × Value)) : mgR (L ++ M) = mgR L ++ mgR M := by simp [mgR]
structure MsO (w : World) (base : Nat) (v : Value) (L : List (Mg × Value)) : Prop where
 r : Owns w base 48 10 v (mgR L)
 e : ∀ p ∈ L, Owns w base 71 2 p.2 (entR p.1.ents)
 a : L.Pairwise fun p q => Apart p.2 q.2
theorem MsO.nil (w : World) (base : Nat) : MsO w base (.slice none 0 0) [] := ⟨⟨fun r hr => (by cases hr), World.ownsRow_nil w base 48 10⟩, fun p hp => (by cases hp), List.Pairwise.nil⟩
theorem MsO.on {w w' : World} {base : Nat} {v : Value} {L : List (Mg × Value)} (h : MsO w base v L) (hb : Below w.heap.size w w') : MsO w' base v L := ⟨h.r.on hb, fun p hp => (h.e p hp).on hb, h.a⟩
theorem MsO.mono {w : World} {base base' : Nat} {v : Value} {L : List (Mg × Value)} (h : MsO w base v L) (hb : base' ≤ base) : MsO w base' v L := ⟨h.r.mono hb, fun p hp => (h.e p hp).mono hb, h.a⟩
theorem MsO.kept {w w' : World} {base : Nat} {v : Value} {L : List (Mg × Value)} (h : MsO w base v L) (hk : ∀ g, g < w.heap.size → base ≤ g → w'.heap[g]? = w.heap[g]?) : MsO w' base v L := ⟨h.r.kept fun g hg e => hk g hg (h.r.lt g e).1, fun p hp => (h.e p hp).kept fun g hg e => hk g hg ((h.e p hp).lt g e).1, h.a⟩
theorem MsO.low {w : World} {bs g j : Nat} {v u : Value} {L : List (Mg × Value)} (h : MsO w bs u L) (hl : g < bs) : MsO (w.setCell ⟨g, j, none⟩ v) bs u L := h.kept fun k _ hk => Below.heap_setCell _ _ _ _ (show k ≠ g by omega)
structure BelowX (g B : Nat) (w w' : World) : Prop where
 os : w'.os = w.os
 tape : w'.tape = w.tape
 output : w'.output = w.output
 size : w.heap.size ≤ w'.heap.size
 block : ∀ k, k < B → k ≠ g → w'.heap[k]? = w.heap[k]?
theorem BelowX.of {g B : Nat} {w w' : World} (h : Below B w w') : BelowX g B w w' := ⟨h.os, h.tape, h.output, h.size, fun k hk _ => h.block k hk⟩
theorem BelowX.trans {g B : Nat} {w w' w'' : World} (h : BelowX g B w w') (h' : BelowX g B w' w'') : BelowX g B w w'' := ⟨h'.os.trans h.os, h'.tape.trans h.tape, h'.output.trans h.output, Nat.le_trans h.size h'.size, fun k hk hn => (h'.block k hk hn).trans (h.block k hk hn)⟩
theorem BelowX.mono {g B C : Nat} {w w' : World} (h : BelowX g B w w') (hC : C ≤ B) : BelowX g C w w' := ⟨h.os, h.tape, h.output, h.size, fun k hk hn => h.block k (Nat.lt_of_lt_of_le hk hC) hn⟩
theorem BelowX.below {g B : Nat} {w w' : World} (h : BelowX g B w w') (hg : B ≤ g) : Below B w w' := ⟨h.os, h.tape, h.output, h.size, fun k hk => h.block k hk (by omega)⟩
theorem BelowX.blk {g B k : Nat} {w w' : World} {cs : Array Value} {t : TypeId} (h : BelowX g B w w') (hb : Blk w k cs t) (hk : k < B) (hn : k ≠ g) : Blk w' k cs t := by
 unfold Blk
 rw [h.block k hk hn]
 exact hb
structure SpkO (w : World) (base p : Nat) (x : Cor) (ul uy un um us : Value) (L : List (Mg × Value)) : Prop where
 b : Blk w p #[.int .i64 x.id, .int .i64 x.peers, .int .i64 x.term, .int .i64 x.vote, .int .i64 x.role, .int .i64 x.lead, .int .i64 x.base, .int .i64 x.bterm, ul, .int .i64 x.commit, uy, un, um, us] 74
 r : CoRows w base x ul uy un um
 m : MsO w base us L
 a : ∀ q ∈ L, ∀ g, q.2.ownBlock = some g → blkF ul ≠ some g
 p : base ≤ p
def Spk (w : World) (base p : Nat) (x : Cor) (M : List Mg) : Prop := ∃ ul uy un um us L, SpkO w base p x ul uy un um us L ∧ L.map Prod.fst = M
theorem SpkO.on {w w' : World} {base p : Nat} {x : Cor} {ul uy un um us : Value} {L : List (Mg × Value)} (h : SpkO w base p x ul uy un um us L) (hb : Below w.heap.size w w') : SpkO w' base p x ul uy un um us L := ⟨h.b.on hb h.b.lt, h.r.on hb, h.m.on hb, h.a, h.p⟩
theorem Spk.on {w w' : World} {base p : Nat} {x : Cor} {M : List Mg} (h : Spk w base p x M) (hb : Below w.heap.size w w') : Spk w' base p x M := by
 obtain ⟨ul, uy, un, um, us, L, h, e⟩ := h
 exact ⟨ul, uy, un, um, us, L, h.on hb, e⟩
theorem SpkO.shape {w : World} {base p : Nat} {x : Cor} {ul uy un um us : Value} {L : List (Mg × Value)} (h : SpkO w base p x ul uy un um us L) : ∃ A0 n0 c0 A1 n1 c1 A2 n2 c2 A3 n3 c3 A4 n4 c4, ul = .slice A0 n0 c0 ∧ uy = .slice A1 n1 c1 ∧ un = .slice A2 n2 c2 ∧ um = .slice A3 n3 c3 ∧ us = .slice A4 n4 c4 := by
 obtain ⟨A0, c0, A1, c1, A2, c2, A3, c3, e0, e1, e2, e3⟩ := h.r.shape
 obtain ⟨A4, n4, c4, e4⟩ := h.m.r.shape
 exact ⟨A0, _, c0, A1, _, c1, A2, _, c2, A3, _, c3, A4, n4, c4, e0, e1, e2, e3, e4⟩
end Go.Proofs.Ytlhoonohpfpkbaa
namespace Go.Proofs.Ytlhoonohpfpkbaa
open Go.ChangeShapes Go.WideShapes Go.ChangeAt Go.RowKit Go.PlainAid
set_option linter.unusedVariables false
def MsV (w : World) (B : Nat) (v : Value) (M : List Mg) : Prop := ∃ L : List (Mg × Value), L.map Prod.fst = M ∧ Lies w B 10 v (mgR L) ∧ ∀ p ∈ L, Lies w B 2 p.2 (entR p.1.ents)
theorem MsV.on {w w' : World} {B : Nat} {v : Value} {M : List Mg} (h : MsV w B v M) (hb : Below B w w') : MsV w' B v M := by
 obtain ⟨L, e, h1, h2⟩ := h
 exact ⟨L, e, h1.on hb, fun p hp => (h2 p hp).on hb⟩
theorem MsV.mono {w : World} {B C : Nat} {v : Value} {M : List Mg} (h : MsV w B v M) (hB : B ≤ C) : MsV w C v M := by
 obtain ⟨L, e, h1, h2⟩ := h
 exact ⟨L, e, h1.mono hB, fun p hp => (h2 p hp).mono hB⟩
theorem MsO.view {w : World} {base : Nat} {v : Value} {L : List (Mg × Value)} (h : MsO w base v L) : MsV w w.heap.size v (L.map Prod.fst) := ⟨L, rfl, h.r.lies, fun p hp => (h.e p hp).lies⟩
theorem MsV.look {w : World} {B : Nat} {v : Value} {M : List Mg} (h : MsV w B v M) : ∃ A cap, v = .slice A M.length cap ∧ ∀ j, j < M.length → ∃ g off u, A = some ⟨g, off, none⟩ ∧ g < B ∧ w.cell? ⟨g, off + j * 10, none⟩ = some (.int .i64 (M.getD j default).kind) ∧ w.cell? ⟨g, off + j * 10 + 1, none⟩ = some (.int .i64 (M.getD j default).frm) ∧ w.cell? ⟨g, off + j * 10 + 2, none⟩ = some (.int .i64 (M.getD j default).dst) ∧ w.cell? ⟨g, off + j * 10 + 3, none⟩ = some (.int .i64 (M.getD j default).term) ∧ w.cell? ⟨g, off + j * 10 + 4, none⟩ = some (.int .i64 (M.getD j default).index) ∧ w.cell? ⟨g, off + j * 10 + 5, none⟩ = some (.int .i64 (M.getD j default).iterm) ∧ w.cell? ⟨g, off + j * 10 + 6, none⟩ = some (.int .i64 (M.getD j default).commit) ∧ w.cell? ⟨g, off + j * 10 + 7, none⟩ = some (.bool (M.getD j default).yes) ∧ w.cell? ⟨g, off + j * 10 + 8, none⟩ = some (u) ∧ w.cell? ⟨g, off + j * 10 + 9, none⟩ = some (.string (M.getD j default).data) ∧ Lies w B 2 u (entR (M.getD j default).ents) := by
 obtain ⟨L, rfl, h1, h2⟩ := h
 obtain ⟨A, cap, e, hl⟩ := h1.look
 rw [mgR_length] at e
 refine ⟨A, cap, by rw [List.length_map]; exact e, fun j hj => ?_⟩
 rw [List.length_map] at hj
 obtain ⟨g, off, e, hg, hc⟩ := hl j (by rw [mgR_length]; exact hj)
 have hr : (mgR L)[j]'(by rw [mgR_length]; exact hj) = mgC (L.getD j default) := by
  rw [← getD_at L j hj]
  simp [mgR]
 have hm : (L.map Prod.fst).getD j default = (L.getD j default).1 := by
  rw [← getD_at _ j (by rw [List.length_map]; exact hj), List.getElem_map, getD_at L j hj]
 rw [hr] at hc
 rw [hm]
 refine ⟨g, off, (L.getD j default).2, e, hg, ?_, ?_, ?_, ?_, ?_, ?_, ?_, ?_, ?_, ?_, h2 _ (getD_mem L j hj)⟩
 ·have := hc 0 _ (by omega) rfl; simpa [Nat.add_assoc] using this
 ·have := hc 1 _ (by omega) rfl; simpa [Nat.add_assoc] using this
 ·have := hc 2 _ (by omega) rfl; simpa [Nat.add_assoc] using this
 ·have := hc 3 _ (by omega) rfl; simpa [Nat.add_assoc] using this
 ·have := hc 4 _ (by omega) rfl; simpa [Nat.add_assoc] using this
 ·have := hc 5 _ (by omega) rfl; simpa [Nat.add_assoc] using this
 ·have := hc 6 _ (by omega) rfl; simpa [Nat.add_assoc] using this
 ·have := hc 7 _ (by omega) rfl; simpa [Nat.add_assoc] using this
 ·have := hc 8 _ (by omega) rfl; simpa [Nat.add_assoc] using this
 ·have := hc 9 _ (by omega) rfl; simpa [Nat.add_assoc] using this
set_option maxRecDepth 20000 in
set_option maxHeartbeats 4000000 in
theorem eqMsgS (M : List Mg) (va vb : Value) (w : World) (B : Nat) (ha : MsV w B va M) (hb : MsV w B vb M) (hl : M.length ≤ 100) (he : ∀ x ∈ M, x.ents.length ≤ 100) (hB : B ≤ w.heap.size) :
  Calls Try.prog 11 #[va, vb] w fun e w' => e = .returned (.bool true) ∧ Below w.heap.size w w' := by
 obtain ⟨A, cap, rfl, hl1⟩ := ha.look
 obtain ⟨A', cap', rfl, hl2⟩ := hb.look
 have HL : Hid (∀ j, j < M.length → ∃ g off u, A = some ⟨g, off, none⟩ ∧ g < B ∧ _) := hl1
 have HL' : Hid (∀ j, j < M.length → ∃ g off u, A' = some ⟨g, off, none⟩ ∧ g < B ∧ _) := hl2
 have HB : Hid (B ≤ w.heap.size) := hB
 have HS : Hid (∀ j, j < M.length → (M.getD j default).ents.length ≤ 1048576) := fun j hj => Nat.le_trans (he _ (getD_mem M j hj)) (by omega)
 have q1 : (M.length : Int) ≤ 100 := by omega
 clear hl1 hl2 hB ha hb hl he
 generalize hN : M.length = n at *
 go_enter Try.func11, Try.ntmps11
 go_wp2_with fail
 go_loopw [5] (fun v5 wr => ∃ k : Nat, k ≤ n ∧ v5 = .int .i64 (k : Int) ∧ Below w.heap.size w wr) (fun i _ => n - (intOf i).toNat)
 case atStart => exact ⟨0, by omega, rfl, Below.refl _ _⟩
 case round =>
  obtain ⟨k, hk, rfl, hb⟩ := hrel
  have HB1 : Hid (Below w.heap.size w wr) := hb
  clear hb
  by_cases hlt : k < n
  ·have q4 : (k : Int) < (n : Int) := by omega
   obtain ⟨g, off, u, rfl, hg, a0, a1, a2, a3, a4, a5, a6, a7, a8, a9, hu⟩ := HL.out k hlt
   obtain ⟨g', off', u', rfl, hg', b0, b1, b2, b3, b4, b5, b6, b7, b8, b9, hu'⟩ := HL'.out k hlt
   have hgw : g < w.heap.size := Nat.lt_of_lt_of_le hg HB.out
   have hgw' : g' < w.heap.size := Nat.lt_of_lt_of_le hg' HB.out
   rw [← HB1.out.cell (p := ⟨_, _, none⟩) hgw] at a0
   rw [← HB1.out.cell (p := ⟨_, _, none⟩) hgw'] at b0
   rw [← HB1.out.cell (p := ⟨_, _, none⟩) hgw] at a1
   rw [← HB1.out.cell (p := ⟨_, _, none⟩) hgw'] at b1
   rw [← HB1.out.cell (p := ⟨_, _, none⟩) hgw] at a2
   rw [← HB1.out.cell (p := ⟨_, _, none⟩) hgw'] at b2
   rw [← HB1.out.cell (p := ⟨_, _, none⟩) hgw] at a3
   rw [← HB1.out.cell (p := ⟨_, _, none⟩) hgw'] at b3
   rw [← HB1.out.cell (p := ⟨_, _, none⟩) hgw] at a4
   rw [← HB1.out.cell (p := ⟨_, _, none⟩) hgw'] at b4
   rw [← HB1.out.cell (p := ⟨_, _, none⟩) hgw] at a5
   rw [← HB1.out.cell (p := ⟨_, _, none⟩) hgw'] at b5
   rw [← HB1.out.cell (p := ⟨_, _, none⟩) hgw] at a6
   rw [← HB1.out.cell (p := ⟨_, _, none⟩) hgw'] at b6
   rw [← HB1.out.cell (p := ⟨_, _, none⟩) hgw] at a7
   rw [← HB1.out.cell (p := ⟨_, _, none⟩) hgw'] at b7
   rw [← HB1.out.cell (p := ⟨_, _, none⟩) hgw] at a8
   rw [← HB1.out.cell (p := ⟨_, _, none⟩) hgw'] at b8
   rw [← HB1.out.cell (p := ⟨_, _, none⟩) hgw] at a9
   rw [← HB1.out.cell (p := ⟨_, _, none⟩) hgw'] at b9
   have c1 := fun (wx : World) (hw : Below w.heap.size w wx) => eqMsg (M.getD k default) (vMg (M.getD k default) u) (vMg (M.getD k default) u') wx B ⟨_, rfl, hu.on (hw.mono HB.out)⟩ ⟨_, rfl, hu'.on (hw.mono HB.out)⟩ (HS.out k hlt) (Nat.le_trans HB.out hw.size)
   obtain ⟨A1, cap1, rfl, _⟩ := ent_look hu
   obtain ⟨A2, cap2, rfl, _⟩ := ent_look hu'
   unfold vMg at c1
   clear hu hu'
   generalize M.getD k default = y at *
   generalize y.ents.length = pn at *
   have hsz := HB1.out.size
   go_wp2_with fail
   go_region_with (go_at_call 34; refine (c1 _ HB1.out.drew).mono ?_; rintro e w1 ⟨rfl, hb1⟩)
   all_goals go_wp2_with fail
   all_goals exact ⟨⟨k + 1, by omega, by go_num, HB1.out.trans (((Below.refl _ wr).drew.trans hb1).mono hsz)⟩, by simp [intOf]; omega⟩
  ·obtain rfl : k = n := by omega
   go_wp2_with fail
   go_ret
   exact ⟨rfl, HB1.out⟩
end Go.Proofs.Ytlhoonohpfpkbaa
namespace Go.Proofs.Ytlhoonohpfpkbaa
open Go.ChangeShapes Go.WideShapes Go.ChangeAt Go.RowKit Go.PlainAid
set_option linter.unusedVariables false
def yB (k : Int) : Bool := k % 3 == 0
def mA (k : Nat) (L : List (Mg × Value)) : Nat → Nat
 | 0 => k
 | j + 1 => mA k L j + 9 + 2 * (L.getD j default).1.ents.length
theorem mA_le {k : Nat} {L : List (Mg × Value)} (h : ∀ q ∈ L, q.1.ents.length ≤ 4) : ∀ j, j ≤ L.length → k ≤ mA k L j ∧ mA k L j ≤ k + 17 * j
 | 0, _ => ⟨Nat.le_refl _, by simp [mA]⟩
 | j + 1, hj => by
  have ih := mA_le (k := k) h j (by omega)
  have := h _ (getD_mem L j (by omega))
  rw [mA]
  omega
def mM (a n : Nat) (u : Value) : List Value := [.int .i64 ((a : Int)), .int .i64 ((a : Int) + 1), .int .i64 ((a : Int) + 1 + 1), .int .i64 ((a : Int) + 1 + 1 + 1), .int .i64 ((a : Int) + 1 + 1 + 1 + 1), .int .i64 ((a : Int) + 1 + 1 + 1 + 1 + 1), .int .i64 ((a : Int) + 1 + 1 + 1 + 1 + 1 + 1), .bool (yB ((a : Int) + 1 + 1 + 1 + 1 + 1 + 1 + 1)), u, .string (mark (a + 8 + 2 * n))]
def mmR (k : Nat) (L : List (Mg × Value)) (j : Nat) : List Value := mM (mA k L j) (L.getD j default).1.ents.length (L.getD j default).2
def MMk (w : World) (base k : Nat) (v : Value) (L : List (Mg × Value)) : Prop := Owns w base 48 10 v (newR (mmR k L) L.length) ∧ ∀ j, j < L.length → Owns w base 71 2 (L.getD j default).2 (newR (mkEnt (mA k L j + 8)) (L.getD j default).1.ents.length)
theorem MMk.on {w w' : World} {base k : Nat} {v : Value} {L : List (Mg × Value)} (h : MMk w base k v L) (hb : Below w.heap.size w w') : MMk w' base k v L := ⟨h.1.on hb, fun j hj => (h.2 j hj).on hb⟩
theorem apart_getM {L : List (Mg × Value)} (h : L.Pairwise fun p q => Apart p.2 q.2) (i j : Nat) (hi : i < L.length) (hj : j < L.length) (hne : i ≠ j) : Apart (L.getD i default).2 (L.getD j default).2 := by
 rw [List.pairwise_iff_getElem] at h
 rw [← getD_at L i hi, ← getD_at L j hj]
 rcases Nat.lt_or_ge i j with hl | hl
 ·exact h i j hi hj hl
 ·exact (h j i hj hi (by omega)).symm
theorem mgR_get (L : List (Mg × Value)) (j : Nat) (hj : j < (mgR L).length) : (mgR L)[j] = mgC (L.getD j default) := by
 have hj' : j < L.length := by rw [mgR_length] at hj; exact hj
 rw [← getD_at L j hj']
 simp [mgR]
theorem partR_at (f : Nat → List Value) (R : List (List Value)) (j : Nat) (hj : j < R.length) (h' : j < (partR f R j).length) : (partR f R j)[j]'h' = R[j] := by
 have e : (partR f R j)[j]? = R[j]? := by
  unfold partR
  rw [List.getElem?_append_right (by rw [newR_length]; exact Nat.le_refl _), newR_length, Nat.sub_self, List.getElem?_drop]
  simp
 rw [List.getElem?_eq_getElem h', List.getElem?_eq_getElem hj] at e
 exact Option.some.inj e
theorem Owns.apartT {w : World} {b b' : Nat} {e e' : TypeId} {sz sz' : Nat} {u v : Value} {r r' : List (List Value)} (h : Owns w b e sz u r) (h' : Owns w b' e' sz' v r') (hne : e ≠ e') : Apart u v := fun g h1 h2 => by
 rcases h.2.2 with ⟨rfl, _⟩ | ⟨g1, c1, k1, rfl, _, q1, _⟩
 ·cases h1
 rcases h'.2.2 with ⟨rfl, _⟩ | ⟨g2, c2, k2, rfl, _, q2, _⟩
 ·cases h2
 simp only [Value.ownBlock, Option.some.injEq] at h1 h2
 subst h1
 subst h2
 rw [q1] at q2
 cases q2
 exact hne rfl
theorem m_cell {w : World} {base g n ca j : Nat} {R : List (List Value)} {r : List Value} (h : Owns w base 48 10 (.slice (some ⟨g, 0, none⟩) n ca) (R.set j r)) (hn : R.length = n) (hj : j < n) (f : Nat) (x : Value) (hf : f < 10) (hx : r[f]? = some x) : w.cell? ⟨g, j * 10 + f, none⟩ = some x := by
 obtain ⟨A, c, e, hl⟩ := h.lies.look
 cases e
 obtain ⟨g', off, e, _, hc⟩ := hl j (by rw [List.length_set, hn]; exact hj)
 cases e
 have hr : (R.set j r)[j]'(by rw [List.length_set, hn]; exact hj) = r := List.getElem_set_self _
 rw [hr] at hc
 have := hc f x hf hx
 simpa [Nat.add_assoc] using this
theorem m_free {w : World} {base g n ca j : Nat} {R : List (List Value)} {r : List Value} (h : Owns w base 48 10 (.slice (some ⟨g, 0, none⟩) n ca) (R.set j r)) (hn : R.length = n) (i : Nat) : w.frozen? ⟨g, i, none⟩ = false := by
 subst hn
 have hl : (R.set j r).length = R.length := List.length_set
 rw [← hl] at h
 exact h.free i
theorem m_eight {w : World} {base g n ca j : Nat} {R : List (List Value)} {a0 a1 a2 a3 a4 a5 a6 a7 a8 a9 x0 x1 x2 x3 x4 x5 x6 x7 : Value} (h : Owns w base 48 10 (.slice (some ⟨g, 0, none⟩) n ca) (R.set j [a0, a1, a2, a3, a4, a5, a6, a7, a8, a9])) (hn : R.length = n) (hj : j < n) :
  (w.cell? ⟨g, j * 10, none⟩ = some a0 ∧ w.frozen? ⟨g, j * 10, none⟩ = false) ∧ ((w.setCell ⟨g, j * 10, none⟩ x0).cell? ⟨g, j * 10 + 1, none⟩ = some a1 ∧ (w.setCell ⟨g, j * 10, none⟩ x0).frozen? ⟨g, j * 10 + 1, none⟩ = false) ∧ (((w.setCell ⟨g, j * 10, none⟩ x0).setCell ⟨g, j * 10 + 1, none⟩ x1).cell? ⟨g, j * 10 + 2, none⟩ = some a2 ∧ ((w.setCell ⟨g, j * 10, none⟩ x0).setCell ⟨g, j * 10 + 1, none⟩ x1).frozen? ⟨g, j * 10 + 2, none⟩ = false) ∧ ((((w.setCell ⟨g, j * 10, none⟩ x0).setCell ⟨g, j * 10 + 1, none⟩ x1).setCell ⟨g, j * 10 + 2, none⟩ x2).cell? ⟨g, j * 10 + 3, none⟩ = some a3 ∧ (((w.setCell ⟨g, j * 10, none⟩ x0).setCell ⟨g, j * 10 + 1, none⟩ x1).setCell ⟨g, j * 10 + 2, none⟩ x2).frozen? ⟨g, j * 10 + 3, none⟩ = false) ∧ (((((w.setCell ⟨g, j * 10, none⟩ x0).setCell ⟨g, j * 10 + 1, none⟩ x1).setCell ⟨g, j * 10 + 2, none⟩ x2).setCell ⟨g, j * 10 + 3, none⟩ x3).cell? ⟨g, j * 10 + 4, none⟩ = some a4 ∧ ((((w.setCell ⟨g, j * 10, none⟩ x0).setCell ⟨g, j * 10 + 1, none⟩ x1).setCell ⟨g, j * 10 + 2, none⟩ x2).setCell ⟨g, j * 10 + 3, none⟩ x3).frozen? ⟨g, j * 10 + 4, none⟩ = false) ∧ ((((((w.setCell ⟨g, j * 10, none⟩ x0).setCell ⟨g, j * 10 + 1, none⟩ x1).setCell ⟨g, j * 10 + 2, none⟩ x2).setCell ⟨g, j * 10 + 3, none⟩ x3).setCell ⟨g, j * 10 + 4, none⟩ x4).cell? ⟨g, j * 10 + 5, none⟩ = some a5 ∧ (((((w.setCell ⟨g, j * 10, none⟩ x0).setCell ⟨g, j * 10 + 1, none⟩ x1).setCell ⟨g, j * 10 + 2, none⟩ x2).setCell ⟨g, j * 10 + 3, none⟩ x3).setCell ⟨g, j * 10 + 4, none⟩ x4).frozen? ⟨g, j * 10 + 5, none⟩ = false) ∧ (((((((w.setCell ⟨g, j * 10, none⟩ x0).setCell ⟨g, j * 10 + 1, none⟩ x1).setCell ⟨g, j * 10 + 2, none⟩ x2).setCell ⟨g, j * 10 + 3, none⟩ x3).setCell ⟨g, j * 10 + 4, none⟩ x4).setCell ⟨g, j * 10 + 5, none⟩ x5).cell? ⟨g, j * 10 + 6, none⟩ = some a6 ∧ ((((((w.setCell ⟨g, j * 10, none⟩ x0).setCell ⟨g, j * 10 + 1, none⟩ x1).setCell ⟨g, j * 10 + 2, none⟩ x2).setCell ⟨g, j * 10 + 3, none⟩ x3).setCell ⟨g, j * 10 + 4, none⟩ x4).setCell ⟨g, j * 10 + 5, none⟩ x5).frozen? ⟨g, j * 10 + 6, none⟩ = false) ∧ ((((((((w.setCell ⟨g, j * 10, none⟩ x0).setCell ⟨g, j * 10 + 1, none⟩ x1).setCell ⟨g, j * 10 + 2, none⟩ x2).setCell ⟨g, j * 10 + 3, none⟩ x3).setCell ⟨g, j * 10 + 4, none⟩ x4).setCell ⟨g, j * 10 + 5, none⟩ x5).setCell ⟨g, j * 10 + 6, none⟩ x6).cell? ⟨g, j * 10 + 7, none⟩ = some a7 ∧ (((((((w.setCell ⟨g, j * 10, none⟩ x0).setCell ⟨g, j * 10 + 1, none⟩ x1).setCell ⟨g, j * 10 + 2, none⟩ x2).setCell ⟨g, j * 10 + 3, none⟩ x3).setCell ⟨g, j * 10 + 4, none⟩ x4).setCell ⟨g, j * 10 + 5, none⟩ x5).setCell ⟨g, j * 10 + 6, none⟩ x6).frozen? ⟨g, j * 10 + 7, none⟩ = false) ∧ Owns ((((((((w.setCell ⟨g, j * 10, none⟩ x0).setCell ⟨g, j * 10 + 1, none⟩ x1).setCell ⟨g, j * 10 + 2, none⟩ x2).setCell ⟨g, j * 10 + 3, none⟩ x3).setCell ⟨g, j * 10 + 4, none⟩ x4).setCell ⟨g, j * 10 + 5, none⟩ x5).setCell ⟨g, j * 10 + 6, none⟩ x6).setCell ⟨g, j * 10 + 7, none⟩ x7) base 48 10 (.slice (some ⟨g, 0, none⟩) n ca) (R.set j [x0, x1, x2, x3, x4, x5, x6, x7, a8, a9]) := by
 have h1 : Owns (w.setCell ⟨g, j * 10, none⟩ x0) base 48 10 (.slice (some ⟨g, 0, none⟩) n ca) (R.set j [x0, a1, a2, a3, a4, a5, a6, a7, a8, a9]) := h.pokeAt hn hj 0 (by omega) x0
 have h2 : Owns ((w.setCell ⟨g, j * 10, none⟩ x0).setCell ⟨g, j * 10 + 1, none⟩ x1) base 48 10 (.slice (some ⟨g, 0, none⟩) n ca) (R.set j [x0, x1, a2, a3, a4, a5, a6, a7, a8, a9]) := h1.pokeAt hn hj 1 (by omega) x1
 have h3 : Owns (((w.setCell ⟨g, j * 10, none⟩ x0).setCell ⟨g, j * 10 + 1, none⟩ x1).setCell ⟨g, j * 10 + 2, none⟩ x2) base 48 10 (.slice (some ⟨g, 0, none⟩) n ca) (R.set j [x0, x1, x2, a3, a4, a5, a6, a7, a8, a9]) := h2.pokeAt hn hj 2 (by omega) x2
 have h4 : Owns ((((w.setCell ⟨g, j * 10, none⟩ x0).setCell ⟨g, j * 10 + 1, none⟩ x1).setCell ⟨g, j * 10 + 2, none⟩ x2).setCell ⟨g, j * 10 + 3, none⟩ x3) base 48 10 (.slice (some ⟨g, 0, none⟩) n ca) (R.set j [x0, x1, x2, x3, a4, a5, a6, a7, a8, a9]) := h3.pokeAt hn hj 3 (by omega) x3
 have h5 : Owns (((((w.setCell ⟨g, j * 10, none⟩ x0).setCell ⟨g, j * 10 + 1, none⟩ x1).setCell ⟨g, j * 10 + 2, none⟩ x2).setCell ⟨g, j * 10 + 3, none⟩ x3).setCell ⟨g, j * 10 + 4, none⟩ x4) base 48 10 (.slice (some ⟨g, 0, none⟩) n ca) (R.set j [x0, x1, x2, x3, x4, a5, a6, a7, a8, a9]) := h4.pokeAt hn hj 4 (by omega) x4
 have h6 : Owns ((((((w.setCell ⟨g, j * 10, none⟩ x0).setCell ⟨g, j * 10 + 1, none⟩ x1).setCell ⟨g, j * 10 + 2, none⟩ x2).setCell ⟨g, j * 10 + 3, none⟩ x3).setCell ⟨g, j * 10 + 4, none⟩ x4).setCell ⟨g, j * 10 + 5, none⟩ x5) base 48 10 (.slice (some ⟨g, 0, none⟩) n ca) (R.set j [x0, x1, x2, x3, x4, x5, a6, a7, a8, a9]) := h5.pokeAt hn hj 5 (by omega) x5
 have h7 : Owns (((((((w.setCell ⟨g, j * 10, none⟩ x0).setCell ⟨g, j * 10 + 1, none⟩ x1).setCell ⟨g, j * 10 + 2, none⟩ x2).setCell ⟨g, j * 10 + 3, none⟩ x3).setCell ⟨g, j * 10 + 4, none⟩ x4).setCell ⟨g, j * 10 + 5, none⟩ x5).setCell ⟨g, j * 10 + 6, none⟩ x6) base 48 10 (.slice (some ⟨g, 0, none⟩) n ca) (R.set j [x0, x1, x2, x3, x4, x5, x6, a7, a8, a9]) := h6.pokeAt hn hj 6 (by omega) x6
 have h8 : Owns ((((((((w.setCell ⟨g, j * 10, none⟩ x0).setCell ⟨g, j * 10 + 1, none⟩ x1).setCell ⟨g, j * 10 + 2, none⟩ x2).setCell ⟨g, j * 10 + 3, none⟩ x3).setCell ⟨g, j * 10 + 4, none⟩ x4).setCell ⟨g, j * 10 + 5, none⟩ x5).setCell ⟨g, j * 10 + 6, none⟩ x6).setCell ⟨g, j * 10 + 7, none⟩ x7) base 48 10 (.slice (some ⟨g, 0, none⟩) n ca) (R.set j [x0, x1, x2, x3, x4, x5, x6, x7, a8, a9]) := h7.pokeAt hn hj 7 (by omega) x7
 exact ⟨⟨m_cell h hn hj 0 _ (by omega) rfl, m_free h hn _⟩, ⟨m_cell h1 hn hj 1 _ (by omega) rfl, m_free h1 hn _⟩, ⟨m_cell h2 hn hj 2 _ (by omega) rfl, m_free h2 hn _⟩, ⟨m_cell h3 hn hj 3 _ (by omega) rfl, m_free h3 hn _⟩, ⟨m_cell h4 hn hj 4 _ (by omega) rfl, m_free h4 hn _⟩, ⟨m_cell h5 hn hj 5 _ (by omega) rfl, m_free h5 hn _⟩, ⟨m_cell h6 hn hj 6 _ (by omega) rfl, m_free h6 hn _⟩, ⟨m_cell h7 hn hj 7 _ (by omega) rfl, m_free h7 hn _⟩, h8⟩
set_option maxRecDepth 20000 in
set_option maxHeartbeats 8000000 in
theorem markMsgS (k base : Nat) (v : Value) (L : List (Mg × Value)) (w : World) (hv : MsO w base v L) (hl : L.length ≤ 5) (hp : ∀ q ∈ L, q.1.ents.length ≤ 4) (h1 : 1 ≤ k) (h2 : k ≤ 8000000) (hbs : base ≤ w.heap.size) :
  Calls Try.prog 13 #[v, .int .i64 (k : Int)] w fun e w' => e = .returned (.int .i64 (mA k L L.length : Int)) ∧ MMk w' base k v L ∧ Below base w w' ∧ (∀ b, b < w.heap.size → v.ownBlock ≠ some b → (∀ q ∈ L, q.2.ownBlock ≠ some b) → w'.heap[b]? = w.heap[b]?) := by
 obtain ⟨A, ca, e0, _⟩ := hv.r.lies.look
 rw [mgR_length] at e0
 have HV : Hid (MsO w base v L) := hv
 subst e0
 have HP : Hid (∀ q ∈ L, q.1.ents.length ≤ 4) := hp
 have HK : Hid (∀ j, j ≤ L.length → k ≤ mA k L j ∧ mA k L j ≤ k + 17 * j) := mA_le hp
 have q1 : (L.length : Int) ≤ 5 := by omega
 have HAp : Hid (∀ i j, i < L.length → j < L.length → i ≠ j → Apart (L.getD i default).2 (L.getD j default).2) := fun i j hi hj hne => apart_getM hv.a i j hi hj hne
 have HRl : Hid ((mgR L).length = L.length) := mgR_length L
 have HRg : Hid (∀ j (hj : j < (mgR L).length), (mgR L)[j] = mgC (L.getD j default)) := fun j hj => mgR_get L j hj
 have P0 : Hid (∀ j, j < L.length → Owns w base 71 2 (L.getD j default).2 (entR (L.getD j default).1.ents)) := fun j hj => hv.e _ (getD_mem L j hj)
 have HBS : Hid (base ≤ w.heap.size) := hbs
 have HK1 : Hid (1 ≤ k ∧ k ≤ 8000000) := ⟨h1, h2⟩
 have HIn : Hid (∀ j, j < L.length → (L.getD j default) ∈ L) := fun j hj => getD_mem L j hj
 clear hv hp hl hbs h1 h2
 generalize hn : L.length = n at *
 have HN : Hid (L.length = n) := hn
 clear hn
 go_enter Try.func13, Try.ntmps13
 go_wp2_with fail
 go_loopw [1, 5] (fun v1 v5 wr => ∃ j : Nat, j ≤ n ∧ v5 = .int .i64 (j : Int) ∧ v1 = .int .i64 (mA k L j : Int) ∧ Owns wr base 48 10 (.slice A n ca) (partR (mmR k L) (mgR L) j) ∧ (∀ i, i < j → Owns wr base 71 2 (L.getD i default).2 (newR (mkEnt (mA k L i + 8)) (L.getD i default).1.ents.length)) ∧ (∀ i, j ≤ i → i < n → Owns wr base 71 2 (L.getD i default).2 (entR (L.getD i default).1.ents)) ∧ Below base w wr ∧ (∀ b, b < w.heap.size → (Value.slice A n ca).ownBlock ≠ some b → (∀ q ∈ L, q.2.ownBlock ≠ some b) → wr.heap[b]? = w.heap[b]?)) (fun _ i _ => n - (intOf i).toNat)
 case atStart => exact ⟨0, by omega, rfl, rfl, by rw [partR_zero]; exact HV.out.r, fun i hi => by omega, fun i _ hi => P0.out i hi, Below.refl _ _, fun _ _ _ _ => rfl⟩
 case round =>
  obtain ⟨j, hj, rfl, rfl, hS, hM, hR, hB, hKp⟩ := hrel
  have HS : Hid (Owns wr base 48 10 (.slice A n ca) (partR (mmR k L) (mgR L) j)) := hS
  have HM : Hid (∀ i, i < j → Owns wr base 71 2 (L.getD i default).2 (newR (mkEnt (mA k L i + 8)) (L.getD i default).1.ents.length)) := hM
  have HR : Hid (∀ i, j ≤ i → i < n → Owns wr base 71 2 (L.getD i default).2 (entR (L.getD i default).1.ents)) := hR
  have HB : Hid (Below base w wr) := hB
  have HKp : Hid (∀ b, b < w.heap.size → (Value.slice A n ca).ownBlock ≠ some b → (∀ q ∈ L, q.2.ownBlock ≠ some b) → wr.heap[b]? = w.heap[b]?) := hKp
  clear hS hM hR hB hKp
  by_cases hlt : j < n
  ·have q2 : (j : Int) < (n : Int) := by omega
   obtain ⟨g, rfl, hgb⟩ : ∃ g, A = some ⟨g, 0, none⟩ ∧ base ≤ g := by
    rcases HS.out.2.2 with ⟨e, h0⟩ | ⟨g, c, cur, e, hg, _⟩
    ·rw [partR_length _ _ _ (by rw [HRl.out]; omega), HRl.out] at h0; omega
    ·cases e; exact ⟨g, rfl, hg⟩
   have HG : Hid (base ≤ g) := hgb
   clear hgb
   have hkj := HK.out j (by omega)
   have HKs : Hid (mA k L (j + 1) = mA k L j + 9 + 2 * (L.getD j default).1.ents.length) := by unfold Hid; rw [mA]
   have hpj := HP.out _ (HIn.out j hlt)
   have HSm : Hid (mmR k L j = mM (mA k L j) (L.getD j default).1.ents.length (L.getD j default).2) := rfl
   have hpl : (partR (mmR k L) (mgR L) j).length = n := by rw [partR_length _ _ _ (by rw [HRl.out]; omega), HRl.out]
   have hjr : j < (partR (mmR k L) (mgR L) j).length := by rw [hpl]; exact hlt
   have hrow : (partR (mmR k L) (mgR L) j)[j]'hjr = mgC (L.getD j default) := by
    rw [partR_at _ _ _ (by rw [HRl.out]; exact hlt)]
    exact HRg.out j _
   have hS2 := HS.out
   rw [← set_self j hjr, hrow] at hS2
   have HF : Hid ((partR (mmR k L) (mgR L) j).set j (mmR k L j) = partR (mmR k L) (mgR L) (j + 1)) := partR_set _ _ _ (by rw [HRl.out]; exact hlt)
   have HInj := HIn.out j hlt
   obtain ⟨Aj, nj, cj, euj⟩ := (HR.out j (Nat.le_refl _) hlt).shape
   have HPj : Hid (mA k L j ≤ 8000085 ∧ 1 ≤ mA k L j ∧ (L.getD j default).1.ents.length ≤ 4) := ⟨by have := HK1.out; have := HN.out; omega, by have := HK1.out; omega, hpj⟩
   have HEu : Hid ((L.getD j default).2 = .slice Aj nj cj) := euj
   have HNm : Hid (∀ b, b < w.heap.size → (∀ q ∈ L, q.2.ownBlock ≠ some b) → (Value.slice Aj nj cj).ownBlock ≠ some b) := fun b _ h => by have := h _ HInj; rw [euj] at this; exact this
   have HPl : Hid ((partR (mmR k L) (mgR L) j).length = n) := hpl
   unfold mgC at hS2
   rw [euj] at hS2
   have hEj := HR.out j (Nat.le_refl _) hlt
   rw [euj] at hEj
   have HEj : Hid (Owns wr base 71 2 (.slice Aj nj cj) (entR (L.getD j default).1.ents)) := hEj
   rw [euj] at HSm
   clear euj hpj hkj hpl hjr hrow hEj HInj
   generalize hkk : mA k L j = kk at *
   have HKK : Hid (mA k L j = kk) := hkk
   clear hkk
   have q5 : (kk : Int) ≤ 8000085 := by have := HPj.out; omega
   obtain ⟨⟨d0, f0⟩, ⟨d1, f1⟩, ⟨d2, f2⟩, ⟨d3, f3⟩, ⟨d4, f4⟩, ⟨d5, f5⟩, ⟨d6, f6⟩, ⟨d7, f7⟩, hS8⟩ := m_eight (x0 := .int .i64 ((kk : Int))) (x1 := .int .i64 ((kk : Int) + 1)) (x2 := .int .i64 ((kk : Int) + 1 + 1)) (x3 := .int .i64 ((kk : Int) + 1 + 1 + 1)) (x4 := .int .i64 ((kk : Int) + 1 + 1 + 1 + 1)) (x5 := .int .i64 ((kk : Int) + 1 + 1 + 1 + 1 + 1)) (x6 := .int .i64 ((kk : Int) + 1 + 1 + 1 + 1 + 1 + 1)) (x7 := .bool (((kk : Int) + 1 + 1 + 1 + 1 + 1 + 1 + 1) % 3 == 0)) hS2 HPl.out hlt
   obtain ⟨W8, hW8⟩ : ∃ W8, W8 = ((((((((wr.setCell ⟨g, j * 10, none⟩ (.int .i64 ((kk : Int)))).setCell ⟨g, j * 10 + 1, none⟩ (.int .i64 ((kk : Int) + 1))).setCell ⟨g, j * 10 + 2, none⟩ (.int .i64 ((kk : Int) + 1 + 1))).setCell ⟨g, j * 10 + 3, none⟩ (.int .i64 ((kk : Int) + 1 + 1 + 1))).setCell ⟨g, j * 10 + 4, none⟩ (.int .i64 ((kk : Int) + 1 + 1 + 1 + 1))).setCell ⟨g, j * 10 + 5, none⟩ (.int .i64 ((kk : Int) + 1 + 1 + 1 + 1 + 1))).setCell ⟨g, j * 10 + 6, none⟩ (.int .i64 ((kk : Int) + 1 + 1 + 1 + 1 + 1 + 1))).setCell ⟨g, j * 10 + 7, none⟩ (.bool (((kk : Int) + 1 + 1 + 1 + 1 + 1 + 1 + 1) % 3 == 0))) := ⟨_, rfl⟩
   have hne : ∀ i, i < n → (L.getD i default).2.ownBlock ≠ some g := fun i hi e => by
    by_cases hij : i < j
    ·exact (HM.out i hij).apartT HS.out (by decide) g e rfl
    ·exact (HR.out i (by omega) hi).apartT HS.out (by decide) g e rfl
   have S8 : Hid (Owns W8 base 48 10 (.slice (some ⟨g, 0, none⟩) n ca) ((partR (mmR k L) (mgR L) j).set j [.int .i64 ((kk : Int)), .int .i64 ((kk : Int) + 1), .int .i64 ((kk : Int) + 1 + 1), .int .i64 ((kk : Int) + 1 + 1 + 1), .int .i64 ((kk : Int) + 1 + 1 + 1 + 1), .int .i64 ((kk : Int) + 1 + 1 + 1 + 1 + 1), .int .i64 ((kk : Int) + 1 + 1 + 1 + 1 + 1 + 1), .bool (((kk : Int) + 1 + 1 + 1 + 1 + 1 + 1 + 1) % 3 == 0), .slice Aj nj cj, .string (L.getD j default).1.data])) := by unfold Hid; rw [hW8]; exact hS8
   have M8 : Hid (∀ i, i < j → Owns W8 base 71 2 (L.getD i default).2 (newR (mkEnt (mA k L i + 8)) (L.getD i default).1.ents.length)) := fun i hi => by rw [hW8]; exact (((((((((HM.out i hi).other (hne i (by omega)) _ _).other (hne i (by omega)) _ _).other (hne i (by omega)) _ _).other (hne i (by omega)) _ _).other (hne i (by omega)) _ _).other (hne i (by omega)) _ _).other (hne i (by omega)) _ _).other (hne i (by omega)) _ _)
   have R8 : Hid (∀ i, j ≤ i → i < n → Owns W8 base 71 2 (L.getD i default).2 (entR (L.getD i default).1.ents)) := fun i hi h2 => by rw [hW8]; exact (((((((((HR.out i hi h2).other (hne i h2) _ _).other (hne i h2) _ _).other (hne i h2) _ _).other (hne i h2) _ _).other (hne i h2) _ _).other (hne i h2) _ _).other (hne i h2) _ _).other (hne i h2) _ _)
   have B8 : Hid (Below base w W8) := by unfold Hid; rw [hW8]; exact ((((((((HB.out.setCell HG.out _).setCell HG.out _).setCell HG.out _).setCell HG.out _).setCell HG.out _).setCell HG.out _).setCell HG.out _).setCell HG.out _)
   have K8 : Hid (∀ b, b < w.heap.size → (Value.slice (some ⟨g, 0, none⟩) n ca).ownBlock ≠ some b → (∀ q ∈ L, q.2.ownBlock ≠ some b) → W8.heap[b]? = w.heap[b]?) := fun b hb h1 h2 => by
    have hbg : b ≠ g := fun e => h1 (by rw [e]; rfl)
    rw [hW8, Below.heap_setCell _ _ _ _ hbg, Below.heap_setCell _ _ _ _ hbg, Below.heap_setCell _ _ _ _ hbg, Below.heap_setCell _ _ _ _ hbg, Below.heap_setCell _ _ _ _ hbg, Below.heap_setCell _ _ _ _ hbg, Below.heap_setCell _ _ _ _ hbg, Below.heap_setCell _ _ _ _ hbg]
    exact HKp.out b hb h1 h2
   clear hS2 hS8 hne HS HM HR HB HKp HRg HEj P0
   go_upto_region 20 with fail
   rw [← hW8]
   clear hW8 d0 f0 d1 f1 d2 f2 d3 f3 d4 f4 d5 f5 d6 f6 d7 f7
   have hR8j := R8.out j (Nat.le_refl _) hlt
   rw [HEu.out] at hR8j
   have HJ8 : Hid (Owns W8 base 71 2 (.slice Aj nj cj) (entR (L.getD j default).1.ents)) := hR8j
   have cp := markEntryS (kk + 8) base (.slice Aj nj cj) (entR (L.getD j default).1.ents) W8 hR8j (by rw [entR_length]; have := HPj.out; omega) (by omega) (by have := HPj.out; omega) (Nat.le_trans HBS.out B8.out.size)
   rw [entR_length, show (((kk + 8 : Nat)) : Int) = (kk : Int) + 1 + 1 + 1 + 1 + 1 + 1 + 1 + 1 by omega] at cp
   have m8 := m_cell S8.out HPl.out hlt 8 _ (by omega) rfl
   have HRow : Hid ([.int .i64 ((kk : Int)), .int .i64 ((kk : Int) + 1), .int .i64 ((kk : Int) + 1 + 1), .int .i64 ((kk : Int) + 1 + 1 + 1), .int .i64 ((kk : Int) + 1 + 1 + 1 + 1), .int .i64 ((kk : Int) + 1 + 1 + 1 + 1 + 1), .int .i64 ((kk : Int) + 1 + 1 + 1 + 1 + 1 + 1), .bool (((kk : Int) + 1 + 1 + 1 + 1 + 1 + 1 + 1) % 3 == 0), .slice Aj nj cj, .string (mark (kk + 8 + 2 * (L.getD j default).1.ents.length))] = mmR k L j) := by unfold Hid; rw [HSm.out]; rfl
   have q6 : (((kk + 8 + 2 * (L.getD j default).1.ents.length : Nat)) : Int) ≤ 8000200 := by have := HPj.out; omega
   have HK2 : Hid (1 ≤ kk + 8 + 2 * (L.getD j default).1.ents.length ∧ kk + 8 + 2 * (L.getD j default).1.ents.length ≤ 8000200) := by have := HPj.out; unfold Hid; omega
   have HKc : Hid ((((kk + 8 + 2 * (L.getD j default).1.ents.length : Nat)) : Int) + 1 = (mA k L (j + 1) : Int)) := by unfold Hid; rw [HKs.out]; omega
   generalize hk2 : kk + 8 + 2 * (L.getD j default).1.ents.length = k2 at *
   clear hR8j hk2
   have HO8 : Hid (kk + 8 = kk + 8) := rfl
   go_wp2_with fail
   refine cp.mono ?_
   rintro e Y4 ⟨rfl, hO4, hb4, hk4⟩
   have S4 : Hid (Owns Y4 base 48 10 (.slice (some ⟨g, 0, none⟩) n ca) ((partR (mmR k L) (mgR L) j).set j [.int .i64 ((kk : Int)), .int .i64 ((kk : Int) + 1), .int .i64 ((kk : Int) + 1 + 1), .int .i64 ((kk : Int) + 1 + 1 + 1), .int .i64 ((kk : Int) + 1 + 1 + 1 + 1), .int .i64 ((kk : Int) + 1 + 1 + 1 + 1 + 1), .int .i64 ((kk : Int) + 1 + 1 + 1 + 1 + 1 + 1), .bool (((kk : Int) + 1 + 1 + 1 + 1 + 1 + 1 + 1) % 3 == 0), .slice Aj nj cj, .string (L.getD j default).1.data])) := S8.out.kept fun gg hs hv => hk4 gg hs (fun hu => HJ8.out.apartT S8.out (by decide) gg hu hv)
   have M4 : Hid (∀ i, i < (j + 1) → Owns Y4 base 71 2 (L.getD i default).2 (newR (mkEnt (mA k L i + 8)) (L.getD i default).1.ents.length)) := fun i hi => by
    by_cases e : i = j
    ·rw [e, HKK.out, HEu.out]; exact hO4
    ·refine (M8.out i (by omega)).kept fun gg hs hv => hk4 gg hs (fun hu => ?_)
     have := HAp.out i j (by omega) hlt e
     rw [HEu.out] at this
     exact this gg hv hu
   have R4 : Hid (∀ i, (j + 1) ≤ i → i < n → Owns Y4 base 71 2 (L.getD i default).2 (entR (L.getD i default).1.ents)) := fun i h1 h2 => by
    refine (R8.out i (by omega) h2).kept fun gg hs hv => hk4 gg hs (fun hu => ?_)
    have := HAp.out i j h2 hlt (by omega)
    rw [HEu.out] at this
    exact this gg hv hu
   have B4 : Hid (Below base w Y4) := B8.out.trans hb4
   have K4 : Hid (∀ b, b < w.heap.size → (Value.slice (some ⟨g, 0, none⟩) n ca).ownBlock ≠ some b → (∀ q ∈ L, q.2.ownBlock ≠ some b) → Y4.heap[b]? = w.heap[b]?) := fun b hb h1 h2 => (hk4 b (Nat.lt_of_lt_of_le hb B8.out.size) (HNm.out b hb h2)).trans (K8.out b hb h1 h2)
   have HZ4 : Hid (w.heap.size ≤ Y4.heap.size) := B4.out.size
   clear hO4 hb4 hk4 cp S8 M8 R8 B8 K8 m8 HJ8
   have cm := markText k2 Y4 (HK2.out.1) (by have := HK2.out; omega)
   go_wp2_with fail
   refine cm.mono ?_
   rintro e Y5 ⟨rfl, hb5⟩
   have S5 := Hid.mk (S4.out.on hb5)
   have d9 := m_cell S5.out HPl.out hlt 9 _ (by omega) rfl
   have f9 := m_free S5.out HPl.out (j * 10 + 9)
   have hS9 := S5.out.pokeAt HPl.out hlt 9 (by omega) (.string (mark k2))
   have hne : ∀ i, i < n → (L.getD i default).2.ownBlock ≠ some g := fun i hi e => by
    by_cases hij : i < j + 1
    ·exact ((M4.out i hij).on hb5).apartT S5.out (by decide) g e rfl
    ·exact ((R4.out i (by omega) hi).on hb5).apartT S5.out (by decide) g e rfl
   have S9 : Hid (Owns (Y5.setCell ⟨g, j * 10 + 9, none⟩ (.string (mark k2))) base 48 10 (.slice (some ⟨g, 0, none⟩) n ca) (partR (mmR k L) (mgR L) (j + 1))) := by
    unfold Hid
    rw [← HF.out, ← HRow.out]
    exact hS9
   have M9 : Hid (∀ i, i < (j + 1) → Owns (Y5.setCell ⟨g, j * 10 + 9, none⟩ (.string (mark k2))) base 71 2 (L.getD i default).2 (newR (mkEnt (mA k L i + 8)) (L.getD i default).1.ents.length)) := fun i hi => ((M4.out i hi).on hb5).other (hne i (by omega)) _ _
   have R9 : Hid (∀ i, (j + 1) ≤ i → i < n → Owns (Y5.setCell ⟨g, j * 10 + 9, none⟩ (.string (mark k2))) base 71 2 (L.getD i default).2 (entR (L.getD i default).1.ents)) := fun i h1 h2 => ((R4.out i h1 h2).on hb5).other (hne i h2) _ _
   have B9 : Hid (Below base w (Y5.setCell ⟨g, j * 10 + 9, none⟩ (.string (mark k2)))) := (B4.out.trans (hb5.mono (Nat.le_trans HBS.out B4.out.size))).setCell HG.out _
   have K9 : Hid (∀ b, b < w.heap.size → (Value.slice (some ⟨g, 0, none⟩) n ca).ownBlock ≠ some b → (∀ q ∈ L, q.2.ownBlock ≠ some b) → (Y5.setCell ⟨g, j * 10 + 9, none⟩ (.string (mark k2))).heap[b]? = w.heap[b]?) := fun b hb h1 h2 => by
    have hbg : b ≠ g := fun e => h1 (by rw [e]; rfl)
    rw [Below.heap_setCell _ _ _ _ hbg, hb5.block b (Nat.lt_of_lt_of_le hb HZ4.out)]
    exact K4.out b hb h1 h2
   clear hS9 hne S5 S4 M4 R4 B4 K4 hb5 cm
   go_wp2_with fail
   go_roundw
   case rel => exact ⟨j + 1, by omega, by go_num, by rw [HKc.out], S9.out, M9.out, R9.out, B9.out, K9.out⟩
   case measure => simp [intOf]; omega
  ·obtain rfl : j = n := by omega
   go_wp2_with fail
   go_ret
   refine ⟨rfl, ⟨?_, fun i hi => HM.out i (by rw [← HN.out]; exact hi)⟩, HB.out, HKp.out⟩
   have := HS.out
   rw [show j = (mgR L).length by rw [HRl.out], partR_all, HRl.out] at this
   rw [HN.out]
   exact this
end Go.Proofs.Ytlhoonohpfpkbaa
namespace Go.Proofs.Ytlhoonohpfpkbaa
open Go.ChangeShapes Go.WideShapes Go.ChangeAt Go.RowKit Go.PlainAid
set_option linter.unusedVariables false
theorem mm_look {w : World} {B k : Nat} {v : Value} {L : List (Mg × Value)} (h : Lies w B 10 v (newR (mmR k L) L.length)) : ∃ A cap, v = .slice A L.length cap ∧ ∀ j, j < L.length → ∃ g off, A = some ⟨g, off, none⟩ ∧ g < B ∧ w.cell? ⟨g, off + j * 10, none⟩ = some (.int .i64 ((mA k L j : Int))) ∧ w.cell? ⟨g, off + j * 10 + 1, none⟩ = some (.int .i64 ((mA k L j : Int) + 1)) ∧ w.cell? ⟨g, off + j * 10 + 2, none⟩ = some (.int .i64 ((mA k L j : Int) + 1 + 1)) ∧ w.cell? ⟨g, off + j * 10 + 3, none⟩ = some (.int .i64 ((mA k L j : Int) + 1 + 1 + 1)) ∧ w.cell? ⟨g, off + j * 10 + 4, none⟩ = some (.int .i64 ((mA k L j : Int) + 1 + 1 + 1 + 1)) ∧ w.cell? ⟨g, off + j * 10 + 5, none⟩ = some (.int .i64 ((mA k L j : Int) + 1 + 1 + 1 + 1 + 1)) ∧ w.cell? ⟨g, off + j * 10 + 6, none⟩ = some (.int .i64 ((mA k L j : Int) + 1 + 1 + 1 + 1 + 1 + 1)) ∧ w.cell? ⟨g, off + j * 10 + 7, none⟩ = some (.bool (yB ((mA k L j : Int) + 1 + 1 + 1 + 1 + 1 + 1 + 1))) ∧ w.cell? ⟨g, off + j * 10 + 8, none⟩ = some ((L.getD j default).2) ∧ w.cell? ⟨g, off + j * 10 + 9, none⟩ = some (.string (mark (mA k L j + 8 + 2 * (L.getD j default).1.ents.length))) := by
 obtain ⟨A, cap, e, h⟩ := h.look
 rw [newR_length] at e
 refine ⟨A, cap, e, fun j hj => ?_⟩
 obtain ⟨g, off, e, hg, hc⟩ := h j (by rw [newR_length]; exact hj)
 have hr : (newR (mmR k L) L.length)[j]'(by rw [newR_length]; exact hj) = mmR k L j := by simp [newR]
 rw [hr] at hc
 refine ⟨g, off, e, hg, ?_, ?_, ?_, ?_, ?_, ?_, ?_, ?_, ?_, ?_⟩
 ·have := hc 0 _ (by omega) rfl; simpa [Nat.add_assoc] using this
 ·have := hc 1 _ (by omega) rfl; simpa [Nat.add_assoc] using this
 ·have := hc 2 _ (by omega) rfl; simpa [Nat.add_assoc] using this
 ·have := hc 3 _ (by omega) rfl; simpa [Nat.add_assoc] using this
 ·have := hc 4 _ (by omega) rfl; simpa [Nat.add_assoc] using this
 ·have := hc 5 _ (by omega) rfl; simpa [Nat.add_assoc] using this
 ·have := hc 6 _ (by omega) rfl; simpa [Nat.add_assoc] using this
 ·have := hc 7 _ (by omega) rfl; simpa [Nat.add_assoc] using this
 ·have := hc 8 _ (by omega) rfl; simpa [Nat.add_assoc] using this
 ·have := hc 9 _ (by omega) rfl; simpa [Nat.add_assoc] using this
set_option maxRecDepth 20000 in
set_option maxHeartbeats 8000000 in
theorem heldMsgS (k base : Nat) (v : Value) (L : List (Mg × Value)) (w : World) (hv : MMk w base k v L) (hl : L.length ≤ 5) (hp : ∀ q ∈ L, q.1.ents.length ≤ 4) (h1 : 1 ≤ k) (h2 : k ≤ 8000000) :
  Calls Try.prog 15 #[v, .int .i64 (k : Int)] w fun e w' => e = .returned (.int .i64 (mA k L L.length : Int)) ∧ Below w.heap.size w w' := by
 obtain ⟨A, ca, e0, hlk⟩ := mm_look hv.1.lies
 subst e0
 have HLK : Hid (∀ j, j < L.length → ∃ g off, A = some ⟨g, off, none⟩ ∧ g < w.heap.size ∧ w.cell? ⟨g, off + j * 10, none⟩ = some (.int .i64 ((mA k L j : Int))) ∧ w.cell? ⟨g, off + j * 10 + 1, none⟩ = some (.int .i64 ((mA k L j : Int) + 1)) ∧ w.cell? ⟨g, off + j * 10 + 2, none⟩ = some (.int .i64 ((mA k L j : Int) + 1 + 1)) ∧ w.cell? ⟨g, off + j * 10 + 3, none⟩ = some (.int .i64 ((mA k L j : Int) + 1 + 1 + 1)) ∧ w.cell? ⟨g, off + j * 10 + 4, none⟩ = some (.int .i64 ((mA k L j : Int) + 1 + 1 + 1 + 1)) ∧ w.cell? ⟨g, off + j * 10 + 5, none⟩ = some (.int .i64 ((mA k L j : Int) + 1 + 1 + 1 + 1 + 1)) ∧ w.cell? ⟨g, off + j * 10 + 6, none⟩ = some (.int .i64 ((mA k L j : Int) + 1 + 1 + 1 + 1 + 1 + 1)) ∧ w.cell? ⟨g, off + j * 10 + 7, none⟩ = some (.bool (yB ((mA k L j : Int) + 1 + 1 + 1 + 1 + 1 + 1 + 1))) ∧ w.cell? ⟨g, off + j * 10 + 8, none⟩ = some ((L.getD j default).2) ∧ w.cell? ⟨g, off + j * 10 + 9, none⟩ = some (.string (mark (mA k L j + 8 + 2 * (L.getD j default).1.ents.length)))) := hlk
 have HPt : Hid (∀ j, j < L.length → Owns w base 71 2 (L.getD j default).2 (newR (mkEnt (mA k L j + 8)) (L.getD j default).1.ents.length)) := hv.2
 have HP : Hid (∀ q ∈ L, q.1.ents.length ≤ 4) := hp
 have HK : Hid (∀ j, j ≤ L.length → k ≤ mA k L j ∧ mA k L j ≤ k + 17 * j) := mA_le hp
 have q1 : (L.length : Int) ≤ 5 := by omega
 have HK1 : Hid (1 ≤ k ∧ k ≤ 8000000) := ⟨h1, h2⟩
 clear hv hp hl h1 h2 hlk
 generalize hn : L.length = n at *
 have HN : Hid (L.length = n) := hn
 clear hn
 go_enter Try.func15, Try.ntmps15
 go_wp2_with fail
 go_loopw [1, 5] (fun v1 v5 wr => ∃ j : Nat, j ≤ n ∧ v5 = .int .i64 (j : Int) ∧ v1 = .int .i64 (mA k L j : Int) ∧ Below w.heap.size w wr) (fun _ i _ => n - (intOf i).toNat)
 case atStart => exact ⟨0, by omega, rfl, rfl, Below.refl _ _⟩
 case round =>
  obtain ⟨j, hj, rfl, rfl, hB⟩ := hrel
  have HB : Hid (Below w.heap.size w wr) := hB
  clear hB
  by_cases hlt : j < n
  ·have q2 : (j : Int) < (n : Int) := by omega
   obtain ⟨g, off, rfl, hg, d0, d1, d2, d3, d4, d5, d6, d7, d8, d9⟩ := HLK.out j hlt
   have hkj := HK.out j (by omega)
   have HKs : Hid (mA k L (j + 1) = mA k L j + 9 + 2 * (L.getD j default).1.ents.length) := by unfold Hid; rw [mA]
   have hpj := HP.out _ (getD_mem L j (by rw [HN.out]; exact hlt))
   have HPj : Hid (mA k L j ≤ 8000085 ∧ 1 ≤ mA k L j ∧ (L.getD j default).1.ents.length ≤ 4) := ⟨by have := HK1.out; omega, by have := HK1.out; omega, hpj⟩
   have hOj := HPt.out j hlt
   obtain ⟨Aj, nj, cj, euj⟩ := hOj.shape
   rw [euj] at hOj d8
   have HOj : Hid (Owns w base 71 2 (.slice Aj nj cj) (newR (mkEnt (mA k L j + 8)) (L.getD j default).1.ents.length)) := hOj
   have HG : Hid (g < w.heap.size) := hg
   have D9 : Hid (w.cell? ⟨g, off + j * 10 + 9, none⟩ = some (.string (mark (mA k L j + 8 + 2 * (L.getD j default).1.ents.length)))) := d9
   rw [← HB.out.cell (p := ⟨g, off + j * 10, none⟩) hg] at d0
   rw [← HB.out.cell (p := ⟨g, off + j * 10 + 1, none⟩) hg] at d1
   rw [← HB.out.cell (p := ⟨g, off + j * 10 + 2, none⟩) hg] at d2
   rw [← HB.out.cell (p := ⟨g, off + j * 10 + 3, none⟩) hg] at d3
   rw [← HB.out.cell (p := ⟨g, off + j * 10 + 4, none⟩) hg] at d4
   rw [← HB.out.cell (p := ⟨g, off + j * 10 + 5, none⟩) hg] at d5
   rw [← HB.out.cell (p := ⟨g, off + j * 10 + 6, none⟩) hg] at d6
   rw [← HB.out.cell (p := ⟨g, off + j * 10 + 7, none⟩) hg] at d7
   rw [← HB.out.cell (p := ⟨g, off + j * 10 + 8, none⟩) hg] at d8
   clear d9
   have hq5 : mA k L j ≤ 8000085 := HPj.out.1
   clear euj hpj hkj hOj hg
   generalize hkk : mA k L j = kk at *
   have HKK : Hid (mA k L j = kk) := hkk
   clear hkk
   have q5 : (kk : Int) ≤ 8000085 := by omega
   unfold yB at d7
   have n7 : ((((kk : Int) + 1 + 1 + 1 + 1 + 1 + 1 + 1) % 3 == 0) != (((kk : Int) + 1 + 1 + 1 + 1 + 1 + 1 + 1) % 3 == 0)) = false := by simp
   have ch := heldEntryS (kk + 8) (L.getD j default).1.ents.length (.slice Aj nj cj) wr wr.heap.size (HOj.out.on HB.out).lies (by have := HPj.out; omega) (by omega) (by have := HPj.out; omega) (Nat.le_refl _)
   rw [show (((kk + 8 : Nat)) : Int) = (kk : Int) + 1 + 1 + 1 + 1 + 1 + 1 + 1 + 1 by omega] at ch
   have q6 : (((kk + 8 + 2 * (L.getD j default).1.ents.length : Nat)) : Int) ≤ 8000200 := by have := HPj.out; omega
   have HK2 : Hid (1 ≤ kk + 8 + 2 * (L.getD j default).1.ents.length ∧ kk + 8 + 2 * (L.getD j default).1.ents.length ≤ 8000200) := by have := HPj.out; unfold Hid; omega
   have HKc : Hid ((((kk + 8 + 2 * (L.getD j default).1.ents.length : Nat)) : Int) + 1 = (mA k L (j + 1) : Int)) := by unfold Hid; rw [HKs.out]; omega
   generalize kk + 8 + 2 * (L.getD j default).1.ents.length = k2 at *
   have d6b : decide ((k2 : Int) < 0) = false := decide_eq_false (by omega)
   go_wp2_with fail
   refine ch.mono ?_
   rintro e Y0 ⟨rfl, hb0⟩
   have B0 : Hid (Below w.heap.size w Y0) := HB.out.trans (hb0.mono HB.out.size)
   clear hb0 ch d0 d1 d2 d3 d4 d5 d6 d7 d8 n7
   have cm := markText k2 Y0.drew HK2.out.1 (by have := HK2.out; omega)
   have S0 : Hid (Y0.drew.cell? ⟨g, off + j * 10 + 9, none⟩ = some (.string (mark k2))) := (B0.out.cell (p := ⟨g, off + j * 10 + 9, none⟩) HG.out).trans D9.out
   generalize hmk : mark k2 = mt at *
   clear hmk
   go_wp2_with fail
   refine wp_region_until (fun w' => w'.cell? ⟨g, off + j * 10 + 9, none⟩ = some (.string mt)) (fun _ => false) 8 (by rfl) (by kernel_rfl) ?_
   refine tF 0 S0.out ?_
   refine tF 1 S0.out ?_
   refine tF 2 S0.out ?_
   refine tF 3 S0.out ?_
   refine tF 4 S0.out ?_
   refine tF 5 S0.out ?_
   refine uNe 6 (fun K hK => ?_)
   go_simp
   refine cm.mono ?_
   rintro e Y1 ⟨rfl, hb1⟩
   have B1 : Hid (Below w.heap.size w Y1) := B0.out.drew.trans (hb1.mono B0.out.size)
   clear hb1 cm
   try go_wp2_with fail
   refine hK.out _ _ (fun _ _ => (B1.out.cell (p := ⟨g, off + j * 10 + 9, none⟩) HG.out).trans D9.out) ?_
   clear hK K
   try simp only [Act.put, zQ1, zQ2, zQ3]
   refine pF 7 ?_
   refine until_done (by kernel_rfl) ?_ _
   go_wp2_with fail
   go_roundw
   case rel => exact ⟨j + 1, by omega, by go_num, by rw [← HKc.out], B1.out⟩
   case measure => simp [intOf]; omega
  ·obtain rfl : j = n := by omega
   go_wp2_with fail
   go_ret
   exact ⟨rfl, HB.out⟩
end Go.Proofs.Ytlhoonohpfpkbaa
namespace Go.Proofs.Ytlhoonohpfpkbaa
open Go.RowKit Go.PlainAid
theorem Owns.empty (w : World) (base : Nat) (e : TypeId) (sz : Nat) (hb : base ≤ w.heap.size) : Owns (w.alloc (.cells #[] e)) base e sz (.slice (some ⟨w.heap.size, 0, none⟩) 0 0) [] :=
 ⟨fun r hr => by simp at hr, World.ownsRow_lit w #[] 0 hb (by unfold maxLen; omega) (by simp)⟩
theorem Owns.nil (w : World) (base : Nat) (e : TypeId) (sz : Nat) : Owns w base e sz (.slice none 0 0) [] := ⟨fun r hr => by simp at hr, World.ownsRow_nil w base e sz⟩
theorem Owns.alloc {w : World} {base : Nat} {e : TypeId} {sz : Nat} {v : Value} {rows : List (List Value)} (h : Owns w base e sz v rows) (o : Obj) : Owns (w.alloc o) base e sz v rows := ⟨h.1, World.ownsRow.alloc h.2 o⟩
theorem run_append_where {P : Program} (w : World) (base : Nat) (t ty e : TypeId) (i : TypeInfo) (z : Value) (size bytes : Nat) (ht : P.underlying t = some (.slice e)) (hi : P.info? e = some i) (hz : i.zero = some z)
  (hsize : i.size = size) (hby : i.bytes = bytes)
  (v : Value) (n : Nat) (xs : List Value) (hown : w.ownsRow base e size v n xs)
  (a : Addr) (m c : Nat) (news : List Value) (hl : news.length = m * size) (hnews : ∀ j u, news[j]? = some u → w.cell? (a.add j) = some u) (h1 : ∀ u ∈ news, u.oneCell' = true)
  (h63 : n + m ≤ maxLen) (hbytes : (n + m) * bytes ≤ 140737488355328) (v' : Value) (w' : World)
  (h : (Builtin.append_ #[t, t] ty #[v, .slice (some a) m c]).run P w = .ok v' w') : v'.ownBlock = v.ownBlock ∨ v'.ownBlock = some w.heap.size := by
 subst hsize
 subst hby
 have hsmall : n + m ≤ 9223372036854775807 := by simp only [maxLen] at h63; omega
 rcases hown.2 with ⟨rfl, rfl⟩ | ⟨g, cap, cur, rfl, hbg, hg, hnc, hcm, hcs, htake⟩
 ·by_cases hm : m = 0
  ·subst hm
   have hn : news = [] := List.eq_nil_of_length_eq_zero (by simpa using hl)
   subst hn
   have hr : (Builtin.append_ #[t, t] ty #[.slice none 0 0, .slice (some a) 0 c]).run P w = .ok (.slice none 0 0) w := by
    simp [Builtin.append_, run_underlying ht, sizeOf, typeInfo, hi, Builtin.lenOf, Builtin.firstCells, loadCells, loadCellsFrom]
   rw [hr] at h
   cases h
   exact .inl rfl
  ·have hr := run_append_nil (P := P) w t ty e i z ht hi hz a m c news hl hnews (by omega) (by omega) (by have hb := hbytes; simp only [Nat.zero_add] at hb; omega)
   rw [hr] at h
   cases h
   exact .inr rfl
 ·by_cases hroom : n + m ≤ cap
  ·have hfit : n * i.size + news.length ≤ cur.size := by rw [hl, hcs, ← Nat.add_mul]; exact Nat.mul_le_mul_right _ hroom
   have hr := run_append_room (P := P) w t ty e i ht hi g n cap cur hg a m c news hl hnews h1 hroom hfit
   rw [hr] at h
   cases h
   exact .inl rfl
  ·have holds : ∀ j u, xs[j]? = some u → w.cell? ((⟨g, 0, none⟩ : Addr).add j) = some u := hown.cells (g := g) rfl
   have hr := run_append_grow (P := P) w t ty e i z ht hi hz ⟨g, 0, none⟩ n cap xs hown.1 holds a m c news hl hnews (by omega) (by omega) (growslice_fits (by omega) hbytes)
   rw [hr] at h
   cases h
   exact .inr rfl
theorem wpList_append_own2 {P : Program} {w : World} {ops : Array Oper} {rest : List Oper} {o : Oper} {a : Act} {Q : Exit → Act → World → Prop} (hgd : o.guard = none) (s x : Operand) (t : TypeId)
  (ho : o.op = .call { callee := .builtin .append, args := #[s, x], argTypes := #[t, t] })
  (base : Nat) (e : TypeId) (i : TypeInfo) (z : Value) (size bytes : Nat) (ht : P.underlying t = some (.slice e)) (hi : P.info? e = some i) (hz : i.zero = some z)
  (hsize : i.size = size) (hby : i.bytes = bytes) (hzs : z.cells.size = size) (hsz : 0 < size)
  (v : Value) (n : Nat) (xs : List Value) (hs : a.eval s = v) (hown : w.ownsRow base e size v n xs)
  (ad : Addr) (m c : Nat) (news : List Value) (hx : a.eval x = .slice (some ad) m c) (hl : news.length = m * size) (hnews : ∀ j u, news[j]? = some u → w.cell? (ad.add j) = some u) (h1 : ∀ u ∈ news, u.oneCell' = true)
  (h63 : n + m ≤ maxLen) (hbytes : (n + m) * bytes ≤ 140737488355328) (hbase : base ≤ w.heap.size)
  (h : ∀ v' w', w'.ownsRow base e size v' (n + m) (xs ++ news) → w.grownBy w' v.ownBlock → (v'.ownBlock = v.ownBlock ∨ v'.ownBlock = some w.heap.size) → wpList P ops Q rest (a.put o.dst v') w') : wpList P ops Q (o :: rest) a w := by
 obtain ⟨v', w', hr, h2, h3, _⟩ := run_append_own (P := P) w base t o.type e i z size bytes ht hi hz hsize hby hzs hsz v n xs hown ad m c news hl hnews h1 h63 hbytes hbase
 have h5 := run_append_where (P := P) w base t o.type e i z size bytes ht hi hz hsize hby v n xs hown ad m c news hl hnews h1 h63 hbytes v' w' hr
 refine wpList_plain hgd fun K hK => ?_
 unfold Oper.wp execOp
 simp only [ho, resolve, invoke, builtin, Sem.run_bind, Sem.run_pure, Result.andThen_ok, List.map_toArray, List.map_cons, List.map_nil, hs, hx, hr]
 exact hK _ _ (h v' w' h2 h3 h5)
theorem wpList_append_row {P : Program} {w : World} {ops : Array Oper} {rest : List Oper} {o : Oper} {a : Act} {Q : Exit → Act → World → Prop} (hgd : o.guard = none) (s x : Operand) (t e : TypeId) (z : Value) (sz bytes : Nat)
  (ho : o.op = .call { callee := .builtin .append, args := #[s, x], argTypes := #[t, t] })
  (ht : P.underlying t = some (.slice e)) (hinfo : (P.info? e).map (fun i => (i.zero, i.size, i.bytes)) = some (some z, sz, bytes)) (hzs : z.cells.size = sz) (hsz : 0 < sz)
  (base : Nat) (v : Value) (rows : List (List Value)) (hs : a.eval s = v) (hown : Owns w base e sz v rows) (r : List Value) (hr : r.length = sz) (h1 : ∀ u ∈ r, u.oneCell' = true)
  (hx : a.eval x = .slice (some ⟨w.heap.size, 0, none⟩) 1 1) (hlen : rows.length ≤ 2097152) (hby : bytes ≤ 1000) (hbase : base ≤ w.heap.size)
  (h : ∀ v' w', Owns w' base e sz v' (rows ++ [r]) → Below base w w' → (∀ g, g < w.heap.size → v.ownBlock ≠ some g → w'.heap[g]? = w.heap[g]?) → (v'.ownBlock = v.ownBlock ∨ ∀ g, v'.ownBlock = some g → w.heap.size ≤ g) → wpList P ops Q rest (a.put o.dst v') w') : wpList P ops Q (o :: rest) a (w.alloc (.cells r.toArray e)) := by
 obtain ⟨i0, hi, hz0, hz1, hz2⟩ := info_parts hinfo
 have hb1 : (rows.length + 1) * bytes ≤ 140737488355328 := Nat.le_trans (Nat.mul_le_mul (show rows.length + 1 ≤ 2097153 by omega) hby) (by omega)
 refine wpList_append_own2 (w := w.alloc (.cells r.toArray e)) hgd s x t ho base e i0 z sz bytes ht hi hz0 hz1 hz2 hzs hsz v rows.length rows.flatten hs (World.ownsRow.alloc hown.2 _) ⟨w.heap.size, 0, none⟩ 1 1 r hx (by rw [hr]; omega) ?_ h1 (by unfold maxLen; omega) hb1 (by simp; omega) ?_
 ·intro j u hj
  have e1 : (⟨w.heap.size, 0, none⟩ : Addr).add j = ⟨w.heap.size, j, none⟩ := by cases j <;> simp [Addr.add]
  rw [e1, World.cell?_alloc_mark]
  simpa using hj
 ·intro v' w' h2 h3 h5
  have hb0 : ∀ k, v.ownBlock = some k → base ≤ k := fun k hk => (hown.lt k hk).1
  refine h v' w' ⟨?_, ?_⟩ ?_ ?_ (h5.imp id fun e g hg => by rw [e] at hg; cases hg; simp)
  ·intro y hy
   rcases List.mem_append.1 hy with hy | hy
   ·exact hown.1 y hy
   ·rw [List.mem_singleton.1 hy]; exact hr
  ·rw [List.length_append, List.flatten_append]
   simpa using h2
  ·exact ((Below.refl base w).alloc hbase _).grown h3 (by simp; omega) hb0
  ·intro g hg hne
   rw [h3.block g (by simp; omega) (fun e => hne e.symm)]
   exact Below.heap_alloc w _ g hg
theorem wpList_append_all {P : Program} {w : World} {ops : Array Oper} {rest : List Oper} {o : Oper} {a : Act} {Q : Exit → Act → World → Prop} (hgd : o.guard = none) (s x : Operand) (t e : TypeId) (z : Value) (sz bytes : Nat)
  (ho : o.op = .call { callee := .builtin .append, args := #[s, x], argTypes := #[t, t] })
  (ht : P.underlying t = some (.slice e)) (hinfo : (P.info? e).map (fun i => (i.zero, i.size, i.bytes)) = some (some z, sz, bytes)) (hzs : z.cells.size = sz) (hsz : 0 < sz)
  (base : Nat) (v u : Value) (rows more : List (List Value)) (B : Nat) (hs : a.eval s = v) (hown : Owns w base e sz v rows) (hu : Lies w B sz u more) (h1 : ∀ r ∈ more, ∀ y ∈ r, y.oneCell' = true)
  (hx : a.eval x = u) (hlen : rows.length + more.length ≤ 2097152) (hby : bytes ≤ 1000) (hbase : base ≤ w.heap.size)
  (h : ∀ v' w', Owns w' base e sz v' (rows ++ more) → Below base w w' → (∀ g, g < w.heap.size → v.ownBlock ≠ some g → w'.heap[g]? = w.heap[g]?) → (v'.ownBlock = v.ownBlock ∨ ∀ g, v'.ownBlock = some g → w.heap.size ≤ g) → wpList P ops Q rest (a.put o.dst v') w') : wpList P ops Q (o :: rest) a w := by
 obtain ⟨i0, hi, hz0, hz1, hz2⟩ := info_parts hinfo
 have hb1 : (rows.length + more.length) * bytes ≤ 140737488355328 := Nat.le_trans (Nat.mul_le_mul hlen hby) (by omega)
 obtain ⟨A, cap, rfl, hz, hms, hm⟩ := hu
 have fin : ∀ v' w', w'.ownsRow base e sz v' (rows.length + more.length) (rows.flatten ++ more.flatten) → w.grownBy w' v.ownBlock → (v'.ownBlock = v.ownBlock ∨ v'.ownBlock = some w.heap.size) → wpList P ops Q rest (a.put o.dst v') w' := by
  intro v' w' h2 h3 h5
  have hb0 : ∀ k, v.ownBlock = some k → base ≤ k := fun k hk => (hown.lt k hk).1
  refine h v' w' ⟨?_, ?_⟩ ?_ ?_ (h5.imp id fun e g hg => by rw [e] at hg; cases hg; exact Nat.le_refl _)
  ·intro y hy
   rcases List.mem_append.1 hy with hy | hy
   ·exact hown.1 y hy
   ·exact hms y hy
  ·rw [List.length_append, List.flatten_append]
   exact h2
  ·exact (Below.refl base w).grown h3 hbase hb0
  ·intro g hg hne
   exact h3.block g hg (fun e => hne e.symm)
 match A, hz, hx, hm with
 | none, hz, hx, hm =>
  have h0 : more.length = 0 := by
   rcases hm with h0 | ⟨g, off, e, _⟩
   ·exact h0
   ·cases e
  have hc0 := hz.1 rfl
  subst hc0
  have hnil : more = [] := List.eq_nil_of_length_eq_zero h0
  subst hnil
  refine wpList_plain hgd fun K hK => ?_
  have hr := run_append_owned_none (P := P) w base t o.type e i0 sz ht hi v rows.length rows.flatten hown.2
  unfold Oper.wp
  simp [execOp, ho, resolve, invoke, builtin, hs, hx, hr, Result.andThen]
  refine hK _ _ (fin v w ?_ ⟨rfl, rfl, rfl, Nat.le_refl _, fun _ _ _ => rfl⟩ (.inl rfl))
  simpa using hown.2
 | some ad, hz, hx, hm =>
  refine wpList_append_own2 (w := w) hgd s x t ho base e i0 z sz bytes ht hi hz0 hz1 hz2 hzs hsz v rows.length rows.flatten hs hown.2 ad more.length cap more.flatten hx (flat_length sz more hms) ?_ ?_ (by unfold maxLen; omega) hb1 hbase ?_
  ·intro j y hj
   rcases hm with h0 | ⟨g, off, e, hg, hc⟩
   ·rw [List.eq_nil_of_length_eq_zero h0] at hj
    simp at hj
   ·cases e
    have e1 : (⟨g, off, none⟩ : Addr).add j = ⟨g, off + j, none⟩ := by cases j <;> simp [Addr.add]
    rw [e1]
    exact hc j y hj
  ·intro y hy
   obtain ⟨r, hr, hyr⟩ := List.mem_flatten.1 hy
   exact h1 r hr y hyr
  ·intro v' w' h2 h3 h5
   exact fin v' w' h2 h3 h5
theorem ent_one (l : List Ent) : ∀ r ∈ entR l, ∀ y ∈ r, y.oneCell' = true := by
 intro r hr y hy
 obtain ⟨x, _, rfl⟩ := List.mem_map.1 hr
 simp [entC] at hy
 rcases hy with rfl | rfl <;> rfl
theorem Owns.first {w : World} {base : Nat} {e : TypeId} {sz : Nat} {A : Option Addr} {n c : Nat} {rows : List (List Value)} (h : Owns w base e sz (.slice A n c) rows) (k : Nat) (hk : k ≤ rows.length) : Owns w base e sz (.slice A k c) (rows.take k) := by
 obtain ⟨hs, hl, h⟩ := h
 have hkl : (rows.take k).length = k := by rw [List.length_take]; omega
 have hs' : ∀ r ∈ rows.take k, r.length = sz := fun r hr => hs r (List.mem_of_mem_take hr)
 have hft : (rows.take k).flatten = rows.flatten.take (k * sz) := by
  have h1 : rows.flatten = (rows.take k).flatten ++ (rows.drop k).flatten := by rw [← List.flatten_append, List.take_append_drop]
  have hl2 : (rows.take k).flatten.length = k * sz := by rw [flat_length sz _ hs', hkl]
  rw [h1]
  exact (List.take_left' hl2).symm
 refine ⟨hs', ?_, ?_⟩
 ·rw [flat_length sz _ hs']
 rcases h with ⟨e1, h0⟩ | ⟨g, cap, cur, e1, hb, hh, hn, hm, hz, ht⟩
 ·cases e1
  have : k = 0 := by omega
  subst this
  exact .inl ⟨rfl, by simp⟩
 ·cases e1
  refine .inr ⟨g, c, cur, by rw [hkl], hb, hh, by rw [hkl]; omega, hm, hz, ?_⟩
  rw [hkl, hft, ← ht, List.take_take]
  congr 1
  have : k * sz ≤ rows.length * sz := Nat.mul_le_mul_right sz hk
  omega
end Go.Proofs.Ytlhoonohpfpkbaa
namespace Go.Proofs.Ytlhoonohpfpkbaa
open Go.RowKit Go.PlainAid
theorem run_append_row {P : Program} (w : World) (t ty e : TypeId) (z : Value) (sz bytes : Nat)
  (ht : P.underlying t = some (.slice e)) (hinfo : (P.info? e).map (fun i => (i.zero, i.size, i.bytes)) = some (some z, sz, bytes)) (hzs : z.cells.size = sz) (hsz : 0 < sz)
  (base : Nat) (v : Value) (rows : List (List Value)) (hown : Owns w base e sz v rows) (r : List Value) (hr : r.length = sz) (h1 : ∀ u ∈ r, u.oneCell' = true)
  (hlen : rows.length ≤ 2097152) (hby : bytes ≤ 1000) (hbase : base ≤ w.heap.size) :
  ∃ A m c w', (Builtin.append_ #[t, t] ty #[v, .slice (some ⟨w.heap.size, 0, none⟩) 1 1]).run P (w.alloc (.cells r.toArray e)) = .ok (.slice A m c) w' ∧ Owns w' base e sz (.slice A m c) (rows ++ [r]) ∧ Below base w w' ∧ (∀ g, g < w.heap.size → v.ownBlock ≠ some g → w'.heap[g]? = w.heap[g]?) ∧ ((Value.slice A m c).ownBlock = v.ownBlock ∨ ∀ g, (Value.slice A m c).ownBlock = some g → w.heap.size ≤ g) := by
 obtain ⟨i0, hi, hz0, hz1, hz2⟩ := info_parts hinfo
 have hb1 : (rows.length + 1) * bytes ≤ 140737488355328 := Nat.le_trans (Nat.mul_le_mul (show rows.length + 1 ≤ 2097153 by omega) hby) (by omega)
 have hnews : ∀ j u, r[j]? = some u → (w.alloc (.cells r.toArray e)).cell? ((⟨w.heap.size, 0, none⟩ : Addr).add j) = some u := by
  intro j u hj
  have e1 : (⟨w.heap.size, 0, none⟩ : Addr).add j = ⟨w.heap.size, j, none⟩ := by cases j <;> simp [Addr.add]
  rw [e1, World.cell?_alloc_mark]
  simpa using hj
 obtain ⟨v', w', hrun, h2, h3, _⟩ := run_append_own (P := P) (w.alloc (.cells r.toArray e)) base t ty e i0 z sz bytes ht hi hz0 hz1 hz2 hzs hsz v rows.length rows.flatten (World.ownsRow.alloc hown.2 _) ⟨w.heap.size, 0, none⟩ 1 1 r (by rw [hr]; omega) hnews h1 (by unfold maxLen; omega) hb1 (by simp; omega)
 have h5 := run_append_where (P := P) (w.alloc (.cells r.toArray e)) base t ty e i0 z sz bytes ht hi hz0 hz1 hz2 v rows.length rows.flatten (World.ownsRow.alloc hown.2 _) ⟨w.heap.size, 0, none⟩ 1 1 r (by rw [hr]; omega) hnews h1 (by unfold maxLen; omega) hb1 v' w' hrun
 have hb0 : ∀ k, v.ownBlock = some k → base ≤ k := fun k hk => (hown.lt k hk).1
 have hO : Owns w' base e sz v' (rows ++ [r]) := by
  refine ⟨?_, ?_⟩
  ·intro y hy
   rcases List.mem_append.1 hy with hy | hy
   ·exact hown.1 y hy
   ·rw [List.mem_singleton.1 hy]; exact hr
  ·rw [List.length_append, List.flatten_append]
   simpa using h2
 obtain ⟨A, m, c, rfl⟩ := hO.shape
 refine ⟨A, m, c, w', hrun, hO, ((Below.refl base w).alloc hbase _).grown h3 (by simp; omega) hb0, ?_, h5.imp id fun e g hg => by rw [e] at hg; cases hg; simp⟩
 intro g hg hne
 rw [h3.block g (by simp; omega) (fun e => hne e.symm)]
 exact Below.heap_alloc w _ g hg
theorem step_append_run {P : Program} {ops : Array Oper} {o : Oper} {a : Act} {w : World} {K : Act → World → Prop} {Q : Exit → Act → World → Prop} {E : Prop}
  (hg : o.guard = none) (s x : Operand) (t : TypeId) (hop : o.op = Op.call { callee := Callee.builtin Builtin.append, args := #[s, x], argTypes := #[t, t] })
  (v y r : Value) (w' : World) (hs : a.eval s = v) (hx : a.eval x = y) (hrun : (Builtin.append_ #[t, t] o.type #[v, y]).run P w = .ok r w') (hK : K (a.put o.dst r) w') :
  if Region.wanted o (yielded ops a.tmps) = true then Oper.wp P o a w K Q else E := by
 have hw : Region.wanted o (yielded ops a.tmps) = true := by simp [Region.wanted, hg]
 rw [if_pos hw]
 unfold Oper.wp
 simp [execOp, hop, resolve, invoke, builtin, hs, hx, hrun, Result.andThen]
 exact hK
end Go.Proofs.Ytlhoonohpfpkbaa
namespace Go.Proofs
open Go.Shelf
def Try.cloneI_ren : Go.Shelf.Ren := ⟨fun | 41 => 73 | n => n, fun | 22 => 23 | 23 => 3 | 4 => 4 | n => n, fun | n => n⟩
theorem Try.cloneI : Go.Proofs.SlLaysE0.n41 Try.prog Try.cloneI_ren := {
 mixed := by kernel_rfl
 f41 := ⟨Try.f73.name, by decide, Try.func73.trans (congrArg some (by kernel_rfl))⟩
 t4 := Try.underlying4
 a4 := Try.isAgg4
 z4 := Try.sizeOf4
 v4 := Try.zeroValue4
 t22 := Try.underlying23
 a22 := Try.isAgg23
 z22 := Try.sizeOf23
 v22 := Try.zeroValue23 }
end Go.Proofs
namespace Go.Proofs.Ytlhoonohpfpkbaa
open Go.ChangeShapes Go.WideShapes Go.ChangeAt Go.RowKit Go.PlainAid
set_option linter.unusedVariables false
theorem run_append_allC {P : Program} (w : World) (t ty e : TypeId) (z : Value) (sz bytes : Nat)
  (ht : P.underlying t = some (.slice e)) (hinfo : (P.info? e).map (fun i => (i.zero, i.size, i.bytes)) = some (some z, sz, bytes)) (hzs : z.cells.size = sz) (hsz : 0 < sz)
  (base : Nat) (v u : Value) (rows more : List (List Value)) (B : Nat) (hown : Owns w base e sz v rows) (hu : Lies w B sz u more) (h1 : ∀ r ∈ more, ∀ y ∈ r, y.oneCell' = true)
  (hlen : rows.length + more.length ≤ 2097152) (hby : bytes ≤ 1000) (hbase : base ≤ w.heap.size) :
  ∃ A m c w', (Builtin.append_ #[t, t] ty #[v, u]).run P w = .ok (.slice A m c) w' ∧ Owns w' base e sz (.slice A m c) (rows ++ more) ∧ Below base w w' ∧ (∀ g, g < w.heap.size → v.ownBlock ≠ some g → w'.heap[g]? = w.heap[g]?) := by
 obtain ⟨i0, hi, hz0, hz1, hz2⟩ := info_parts hinfo
 have hb1 : (rows.length + more.length) * bytes ≤ 140737488355328 := Nat.le_trans (Nat.mul_le_mul hlen hby) (by omega)
 obtain ⟨A, cap, rfl, hz, hms, hm⟩ := hu
 match A, hz, hm with
 | none, hz, hm =>
  have h0 : more.length = 0 := by
   rcases hm with h0 | ⟨g, off, e, _⟩
   ·exact h0
   ·cases e
  have hc0 := hz.1 rfl
  subst hc0
  have hnil : more = [] := List.eq_nil_of_length_eq_zero h0
  subst hnil
  have hr := run_append_owned_none (P := P) w base t ty e i0 sz ht hi v rows.length rows.flatten hown.2
  obtain ⟨A, m, c, rfl⟩ := hown.shape
  exact ⟨A, m, c, w, hr, by simpa using hown, Below.refl _ _, fun _ _ _ => rfl⟩
 | some ad, hz, hm =>
  have hnews : ∀ j y, more.flatten[j]? = some y → w.cell? (ad.add j) = some y := by
   intro j y hj
   rcases hm with h0 | ⟨g, off, e, hg, hc⟩
   ·rw [List.eq_nil_of_length_eq_zero h0] at hj
    simp at hj
   ·cases e
    have e1 : (⟨g, off, none⟩ : Addr).add j = ⟨g, off + j, none⟩ := by cases j <;> simp [Addr.add]
    rw [e1]
    exact hc j y hj
  have h1' : ∀ y ∈ more.flatten, y.oneCell' = true := by
   intro y hy
   obtain ⟨r, hr, hyr⟩ := List.mem_flatten.1 hy
   exact h1 r hr y hyr
  obtain ⟨v', w', hrun, h2, h3, _⟩ := run_append_own (P := P) w base t ty e i0 z sz bytes ht hi hz0 hz1 hz2 hzs hsz v rows.length rows.flatten hown.2 ad more.length cap more.flatten (flat_length sz more hms) hnews h1' (by unfold maxLen; omega) hb1 hbase
  have hb0 : ∀ k, v.ownBlock = some k → base ≤ k := fun k hk => (hown.lt k hk).1
  have hO : Owns w' base e sz v' (rows ++ more) := by
   refine ⟨?_, ?_⟩
   ·intro y hy
    rcases List.mem_append.1 hy with hy | hy
    ·exact hown.1 y hy
    ·exact hms y hy
   ·rw [List.length_append, List.flatten_append]
    exact h2
  obtain ⟨A, m, c, rfl⟩ := hO.shape
  exact ⟨A, m, c, w', hrun, hO, (Below.refl base w).grown h3 hbase hb0, fun g hg hne => h3.block g hg (fun e => hne e.symm)⟩
end Go.Proofs.Ytlhoonohpfpkbaa
