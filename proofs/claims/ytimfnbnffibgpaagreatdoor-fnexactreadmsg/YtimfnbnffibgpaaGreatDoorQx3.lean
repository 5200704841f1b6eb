/- Until BtRow BtDef BtMath -/
import Derived.Deep.RegionHeld3
import Derived.StillTail
import Derived.Test.YtimfnbnffibgpaaGreatDoorRows
import Derived.Test.YtimfnbnffibgpaaGreatDoorQx2
import Derived.Test.YtimfnbnffibgpaaGreatDoorQx1
open List (setIfInBounds_toArray set_cons_zero set_cons_succ)
namespace Go.Proofs.YtimfnbnffibgpaaGreatDoor
open Go
section
variable {P : Program} {ops : Array Oper} {Q : Exit → Act → World → Prop} {md : Region.Mode} {S : World → Prop} {T : Nat → Bool}
def wpUntil (P : Program) (md : Region.Mode) (ops : Array Oper) (Q : Exit → Act → World → Prop) (S : World → Prop) (T : Nat → Bool) : Nat → Array Bool → Act → World → Prop
 | 0, listed, a, w => Region.ready md ops listed = [] ∧ Q .normal a w
 | fuel + 1, listed, a, w =>
  (Region.ready md ops listed = [] → Q .normal a w) ∧ ∀ i ∈ Region.ready md ops listed, wpOp P ops Q i (fun a' w' => (T i = false → S w → S w') ∧ wpUntil P md ops Q S T fuel (listed.setIfInBounds i true) a' w') a w
theorem wpAny_of_until : ∀ (fuel : Nat) (listed : Array Bool) (a : Act) (w : World), wpUntil P md ops Q S T fuel listed a w → wpAny P md ops Q fuel listed a w
 | 0, _, _, _, h => h
 | fuel + 1, _, _, _, h => ⟨h.1, fun i hi => wpOp_mono (fun a' w' h' => wpAny_of_until fuel _ a' w' h'.2) (h.2 i hi)⟩
def needs (md : Region.Mode) (ops : Array Oper) : Nat → Nat → Nat → Bool
 | 0, _, _ => false
 | f + 1, t, i => match ops[t]? with
  | some o => o.after.any fun e => Region.binds md e && (e.on == i || needs md ops f e.on i)
  | none => false
def Closed (md : Region.Mode) (ops : Array Oper) (listed : Array Bool) : Prop :=
 ∀ j oj, ops[j]? = some oj → listed.getD j false = true → ∀ e ∈ oj.after, Region.binds md e = true → listed.getD e.on false = true
theorem needs_some {f t i : Nat} (h : needs md ops f t i = true) : ∃ o, ops[t]? = some o := by
 cases f with
 | zero => cases h
 | succ f =>
  unfold needs at h
  cases e : ops[t]? with
  | none => rw [e] at h; cases h
  | some o => exact ⟨o, rfl⟩
theorem needs_listed {listed : Array Bool} (hc : Closed md ops listed) : ∀ (f t i : Nat) (ot : Oper), ops[t]? = some ot → (∀ e ∈ ot.after, Region.binds md e = true → listed.getD e.on false = true) → needs md ops f t i = true → listed.getD i false = true
 | 0, _, _, _, _, _, h => by cases h
 | f + 1, t, i, ot, hot, hall, h => by
  unfold needs at h
  rw [hot] at h
  obtain ⟨e, he, hb⟩ := Array.any_eq_true'.1 h
  rw [Bool.and_eq_true, Bool.or_eq_true] at hb
  have h1 := hall e he hb.1
  rcases hb.2 with h2 | h2
  ·rw [← beq_iff_eq.1 h2]
   exact h1
  ·obtain ⟨o2, ho2⟩ := needs_some h2
   exact needs_listed hc f e.on i o2 ho2 (hc e.on o2 ho2 h1) h2
theorem Closed.set {i : Nat} {listed : Array Bool} (h : Closed md ops listed) (hi : i ∈ Region.ready md ops listed) : Closed md ops (listed.setIfInBounds i true) := by
 obtain ⟨_, oi, hoi, hall⟩ := mem_ready.1 hi
 intro j oj hj hl e he hb
 by_cases hij : i = j
 ·subst hij
  have : oj = oi := Option.some.inj (hj.symm.trans hoi)
  subst this
  exact getD_set_true (hall e he hb)
 ·rw [_root_.Go.getD_set_ne false hij] at hl
  exact getD_set_true (h j oj hj hl e he hb)
theorem wpUntil_first {i : Nat} {oi : Oper} {v : Value} (hi : ops[i]? = some oi) (hsel : ∀ (j : Nat) (o : Oper) cs b, ops[j]? = some o → o.op ≠ .select cs b)
  (hQ : ∀ c a w, Q (.panic c) (a.put oi.dst v) w → Q (.panic c) a w) (hT : ∀ t, t < ops.size → T t = true → needs md ops ops.size t i = true) :
  ∀ (fuel : Nat) (listed : Array Bool) (a : Act) (w : World), Closed md ops listed →
   (∀ j oj, ops[j]? = some oj → j ≠ i → listed.getD j true = false → (∀ e ∈ oj.after, Region.binds md e = true → e.on ≠ i) → oi.apart ops oj = true) →
   i ∈ Region.ready md ops listed → YieldsIf P ops S oi v a → S w →
   wpUntil P md ops Q S T fuel (listed.setIfInBounds i true) (a.put oi.dst v) w → wpUntil P md ops Q S T (fuel + 1) listed a w := by
 intro fuel
 induction fuel with
 | zero =>
  intro listed a w _ _ hr hy hS H
  refine ⟨fun h => (by rw [h] at hr; cases hr), fun j hj => ?_⟩
  by_cases hji : j = i
  ·subst hji
   exact hy.wpOp hi hS ⟨fun _ h => h, H⟩
  ·have := ready_mono hj hji
   rw [H.1] at this
   cases this
 | succ fuel ih =>
  intro listed a w hc hfree hr hy hS H
  refine ⟨fun h => (by rw [h] at hr; cases hr), fun j hj => ?_⟩
  by_cases hji : j = i
  ·subst hji
   exact hy.wpOp hi hS ⟨fun _ h => h, H⟩
  ·have h1 := H.2 j (ready_mono hj hji)
   obtain ⟨hjun, oj, hoj, hall⟩ := mem_ready.1 hj
   have hun := getD_both (mem_ready.1 hr).1
   have hnot : ∀ e ∈ oj.after, Region.binds md e = true → e.on ≠ i := fun e he hb heq => by
    have h1 := hall e he hb
    rw [heq, hun] at h1
    cases h1
   have hTj : T j = false := by
    cases e : T j with
    | false => rfl
    | true =>
     have := needs_listed hc _ j i oj hoj hall (hT j (Array.getElem?_eq_some_iff.1 hoj).1 e)
     rw [hun] at this
     cases this
   have h2 := wpOp_putIf hoj (hfree j oj hoj hji hjun hnot) (fun cs b => hsel i oi cs b hi) (fun cs b => hsel j oj cs b hoj) hQ hy h1
   have hfree' : ∀ k ok, ops[k]? = some ok → k ≠ i → (listed.setIfInBounds j true).getD k true = false →
     (∀ e ∈ ok.after, Region.binds md e = true → e.on ≠ i) → oi.apart ops ok = true := fun k ok hk hki hun hno => by
    refine hfree k ok hk hki ?_ hno
    by_cases hjk : j = k
    ·subst hjk
     exact hjun
    ·rw [_root_.Go.getD_set_ne true hjk] at hun
     exact hun
   refine wpOp_mono (fun a' w' h3 => ⟨h3.2.1, ih (listed.setIfInBounds j true) a' w' (hc.set hj) hfree' (ready_mono hr (Ne.symm hji)) h3.1 (h3.2.1 hTj hS) ?_⟩) h2
   rw [Array.setIfInBounds_comm _ _ hji]
   exact h3.2.2
theorem wpUntil_pure {i : Nat} {oi : Oper} {v : Value} (hi : ops[i]? = some oi) (hsel : ∀ (j : Nat) (o : Oper) cs b, ops[j]? = some o → o.op ≠ .select cs b)
  (hQ : ∀ c a w, Q (.panic c) (a.put oi.dst v) w → Q (.panic c) a w) :
  ∀ (fuel : Nat) (listed : Array Bool) (a : Act) (w : World),
   (∀ j oj, ops[j]? = some oj → j ≠ i → listed.getD j true = false → (∀ e ∈ oj.after, Region.binds md e = true → e.on ≠ i) → oi.apart ops oj = true) →
   i ∈ Region.ready md ops listed → YieldsIf P ops (fun _ => True) oi v a →
   wpUntil P md ops Q S T fuel (listed.setIfInBounds i true) (a.put oi.dst v) w → wpUntil P md ops Q S T (fuel + 1) listed a w := by
 intro fuel
 induction fuel with
 | zero =>
  intro listed a w _ hr hy H
  refine ⟨fun h => (by rw [h] at hr; cases hr), fun j hj => ?_⟩
  by_cases hji : j = i
  ·subst hji
   exact hy.wpOp hi trivial ⟨fun _ h => h, H⟩
  ·have := ready_mono hj hji
   rw [H.1] at this
   cases this
 | succ fuel ih =>
  intro listed a w hfree hr hy H
  refine ⟨fun h => (by rw [h] at hr; cases hr), fun j hj => ?_⟩
  by_cases hji : j = i
  ·subst hji
   exact hy.wpOp hi trivial ⟨fun _ h => h, H⟩
  ·have h1 := H.2 j (ready_mono hj hji)
   obtain ⟨hjun, oj, hoj, hall⟩ := mem_ready.1 hj
   have hun := getD_both (mem_ready.1 hr).1
   have hnot : ∀ e ∈ oj.after, Region.binds md e = true → e.on ≠ i := fun e he hb heq => by
    have h1 := hall e he hb
    rw [heq, hun] at h1
    cases h1
   have h2 := wpOp_putIf hoj (hfree j oj hoj hji hjun hnot) (fun cs b => hsel i oi cs b hi) (fun cs b => hsel j oj cs b hoj) hQ hy h1
   have hfree' : ∀ k ok, ops[k]? = some ok → k ≠ i → (listed.setIfInBounds j true).getD k true = false →
     (∀ e ∈ ok.after, Region.binds md e = true → e.on ≠ i) → oi.apart ops ok = true := fun k ok hk hki hun hno => by
    refine hfree k ok hk hki ?_ hno
    by_cases hjk : j = k
    ·subst hjk
     exact hjun
    ·rw [_root_.Go.getD_set_ne true hjk] at hun
     exact hun
   refine wpOp_mono (fun a' w' h3 => ⟨h3.2.1, ih (listed.setIfInBounds j true) a' w' hfree' (ready_mono hr (Ne.symm hji)) h3.1 ?_⟩) h2
   rw [Array.setIfInBounds_comm _ _ hji]
   exact h3.2.2
def closedB (md : Region.Mode) (ops : Array Oper) (listed : Array Bool) : Bool :=
 (List.range ops.size).all fun j => match ops[j]? with
  | some oj => !(listed.getD j false) || oj.after.all fun e => !Region.binds md e || listed.getD e.on false
  | none => true
theorem closedB_spec {listed : Array Bool} (h : closedB md ops listed = true) : Closed md ops listed := by
 intro j oj hj hl e he hb
 have h1 := List.all_eq_true.1 h j (List.mem_range.2 (Array.getElem?_eq_some_iff.1 hj).1)
 rw [hj] at h1
 simp only [hl, Bool.not_true, Bool.false_or] at h1
 have h2 := Array.all_eq_true'.1 h1 e he
 rw [hb] at h2
 simpa using h2
def takeB (md : Region.Mode) (ops : Array Oper) (T : Nat → Bool) (listed : Array Bool) (i : Nat) : Bool :=
 Region.noSelect ops && Region.free md ops listed i && (Region.ready md ops listed).contains i && closedB md ops listed && (List.range ops.size).all fun t => !T t || needs md ops ops.size t i
theorem drop_at {l : List Oper} {i : Nat} {o : Oper} {rest : List Oper} (h : l.drop i = o :: rest) : l.toArray[i]? = some o := by
 have := congrArg (fun x : List Oper => x[0]?) h
 simpa [List.getElem?_drop] using this
theorem until_take {l : List Oper} (i : Nat) {oi : Oper} {rest : List Oper} {v : Value} {fuel : Nat} {listed : Array Bool} {a : Act} {w : World} (hd : l.drop i = oi :: rest) (hB : takeB md l.toArray T listed i = true)
  (hQ : ∀ c a w, Q (.panic c) (a.put oi.dst v) w → Q (.panic c) a w) (hw : Region.wanted oi (yielded l.toArray a.tmps) = true) (hy : ∀ w, S w → (execOp a.eval oi).run P w = .ok (.value v) w) (hS : S w)
  (h : wpUntil P md l.toArray Q S T fuel (listed.setIfInBounds i true) (a.put oi.dst v) w) : wpUntil P md l.toArray Q S T (fuel + 1) listed a w := by
 unfold takeB at hB
 simp only [Bool.and_eq_true] at hB
 obtain ⟨⟨⟨⟨hs, hf⟩, hr⟩, hc⟩, ht⟩ := hB
 refine wpUntil_first (drop_at hd) (Region.noSelect_spec hs) hQ (fun t htl htt => ?_) fuel listed a w (closedB_spec hc) (Region.free_spec (drop_at hd) hf) (by simpa using hr) (.inl ⟨hw, hy⟩) hS h
 have := List.all_eq_true.1 ht t (List.mem_range.2 htl)
 rw [htt] at this
 simpa using this
def pureB (md : Region.Mode) (ops : Array Oper) (listed : Array Bool) (i : Nat) : Bool := Region.noSelect ops && Region.free md ops listed i && (Region.ready md ops listed).contains i
theorem until_pure {l : List Oper} (i : Nat) {oi : Oper} {rest : List Oper} {v : Value} {fuel : Nat} {listed : Array Bool} {a : Act} {w : World} (hd : l.drop i = oi :: rest) (hB : pureB md l.toArray listed i = true)
  (hQ : ∀ c a w, Q (.panic c) (a.put oi.dst v) w → Q (.panic c) a w) (hw : Region.wanted oi (yielded l.toArray a.tmps) = true) (hy : ∀ w, (execOp a.eval oi).run P w = .ok (.value v) w)
  (h : wpUntil P md l.toArray Q S T fuel (listed.setIfInBounds i true) (a.put oi.dst v) w) : wpUntil P md l.toArray Q S T (fuel + 1) listed a w := by
 unfold pureB at hB
 simp only [Bool.and_eq_true] at hB
 obtain ⟨⟨hs, hf⟩, hr⟩ := hB
 exact wpUntil_pure (drop_at hd) (Region.noSelect_spec hs) hQ fuel listed a w (Region.free_spec (drop_at hd) hf) (by simpa using hr) (.inl ⟨hw, fun w _ => hy w⟩) h
theorem until_one {l : List Oper} (i : Nat) {oi : Oper} {rest : List Oper} {fuel : Nat} {listed : Array Bool} {a : Act} {w : World} (hd : l.drop i = oi :: rest) (hr : Region.ready md l.toArray listed = [i])
  (h : ∀ K : Act → World → Prop, Shut (∀ a' w', (T i = false → S w → S w') → wpUntil P md l.toArray Q S T fuel (listed.setIfInBounds i true) a' w' → K a' w') → if Region.wanted oi (yielded l.toArray a.tmps) = true then Oper.wp P oi a w K Q else K (a.put oi.dst undef) w) :
  wpUntil P md l.toArray Q S T (fuel + 1) listed a w := by
 refine ⟨fun h0 => (by rw [hr] at h0; cases h0), fun j hj => ?_⟩
 rw [hr] at hj
 obtain rfl : j = i := by simpa using hj
 exact wpOp_step (drop_at hd) (fun K hK => h K (fun a w h1 h2 => hK a w ⟨h1, h2⟩))
theorem until_two {l : List Oper} (i j : Nat) {oi oj : Oper} {rest rest' : List Oper} {fuel : Nat} {listed : Array Bool} {a : Act} {w : World} (hd : l.drop i = oi :: rest) (hd' : l.drop j = oj :: rest') (hr : Region.ready md l.toArray listed = [i, j])
  (h : ∀ K : Act → World → Prop, Shut (∀ a' w', (T i = false → S w → S w') → wpUntil P md l.toArray Q S T fuel (listed.setIfInBounds i true) a' w' → K a' w') → if Region.wanted oi (yielded l.toArray a.tmps) = true then Oper.wp P oi a w K Q else K (a.put oi.dst undef) w)
  (h' : ∀ K : Act → World → Prop, Shut (∀ a' w', (T j = false → S w → S w') → wpUntil P md l.toArray Q S T fuel (listed.setIfInBounds j true) a' w' → K a' w') → if Region.wanted oj (yielded l.toArray a.tmps) = true then Oper.wp P oj a w K Q else K (a.put oj.dst undef) w) :
  wpUntil P md l.toArray Q S T (fuel + 1) listed a w := by
 refine ⟨fun h0 => (by rw [hr] at h0; cases h0), fun k hk => ?_⟩
 rw [hr] at hk
 have : k = i ∨ k = j := by simpa using hk
 rcases this with rfl | rfl
 ·exact wpOp_step (drop_at hd) (fun K hK => h K (fun a w h1 h2 => hK a w ⟨h1, h2⟩))
 ·exact wpOp_step (drop_at hd') (fun K hK => h' K (fun a w h1 h2 => hK a w ⟨h1, h2⟩))
theorem until_done {listed : Array Bool} {a : Act} {w : World} (hr : Region.ready md ops listed = []) (h : Q .normal a w) : ∀ fuel, wpUntil P md ops Q S T fuel listed a w
 | 0 => ⟨hr, h⟩
 | _ + 1 => ⟨fun _ => h, by rw [hr]; simp⟩
theorem wp_region_until {id : Nat} {l : List Oper} {a : Act} {w : World} (S : World → Prop) (T : Nat → Bool) (n : Nat) (hn : l.length = n) (hm : P.follows .mixedOrders = true)
  (h : wpUntil P .any l.toArray Q S T n (Array.replicate n false) a w.drew) : (Code.region id l.toArray true).wp P Q a w := by
 subst hn
 exact wp_region_any hm (wpAny_of_until _ _ _ _ (by simpa using h))
end
section
variable {P : Program} {Q : Exit → Act → World → Prop} {md : Region.Mode} {S : World → Prop} {T : Nat → Bool}
theorem tKe {l : List Oper} (i : Nat) {oi : Oper} {rest : List Oper} {v : Value} {fuel : Nat} {listed : Array Bool} {a : Act} {w : World} (hS : S w) (hy : ∀ w, S w → (execOp a.eval oi).run P w = .ok (.value v) w) (h : wpUntil P md l.toArray Q S T fuel (listed.setIfInBounds i true) (a.put oi.dst v) w) (hd : l.drop i = oi :: rest := by rfl) (hB : takeB md l.toArray T listed i = true := by kernel_rfl) (hQ : ∀ c a w, Q (.panic c) (a.put oi.dst v) w → Q (.panic c) a w := by exact fun _ _ _ h => h) (hw : Region.wanted oi (yielded l.toArray a.tmps) = true := by rfl) : wpUntil P md l.toArray Q S T (fuel + 1) listed a w := until_take i hd hB hQ hw hy hS h
theorem pUr {l : List Oper} (i : Nat) {oi : Oper} {rest : List Oper} {v : Value} {fuel : Nat} {listed : Array Bool} {a : Act} {w : World} (hy : ∀ w, (execOp a.eval oi).run P w = .ok (.value v) w) (h : wpUntil P md l.toArray Q S T fuel (listed.setIfInBounds i true) (a.put oi.dst v) w) (hd : l.drop i = oi :: rest := by rfl) (hB : pureB md l.toArray listed i = true := by kernel_rfl) (hQ : ∀ c a w, Q (.panic c) (a.put oi.dst v) w → Q (.panic c) a w := by exact fun _ _ _ h => h) (hw : Region.wanted oi (yielded l.toArray a.tmps) = true := by rfl) : wpUntil P md l.toArray Q S T (fuel + 1) listed a w := until_pure i hd hB hQ hw hy h
theorem uNe {l : List Oper} (i : Nat) {oi : Oper} {rest : List Oper} {fuel : Nat} {listed : Array Bool} {a : Act} {w : World} (h : ∀ K : Act → World → Prop, Shut (∀ a' w', (T i = false → S w → S w') → wpUntil P md l.toArray Q S T fuel (listed.setIfInBounds i true) a' w' → K a' w') → if Region.wanted oi (yielded l.toArray a.tmps) = true then Oper.wp P oi a w K Q else K (a.put oi.dst undef) w) (hd : l.drop i = oi :: rest := by rfl) (hr : Region.ready md l.toArray listed = [i] := by kernel_rfl) : wpUntil P md l.toArray Q S T (fuel + 1) listed a w := until_one i hd hr h
end
theorem zQ1 {α : Type} (l : List α) (i : Nat) (a : α) : l.toArray.setIfInBounds i a = (l.set i a).toArray := List.setIfInBounds_toArray ..
theorem zQ2 {α : Type} (x : α) (l : List α) (a : α) : (x :: l).set 0 a = a :: l := rfl
theorem zQ3 {α : Type} (x : α) (l : List α) (n : Nat) (a : α) : (x :: l).set (n + 1) a = x :: l.set n a := rfl
section
variable {P : Program} {Q : Exit → Act → World → Prop} {md : Region.Mode} {S : World → Prop} {T : Nat → Bool}
theorem tKf {l : List Oper} (i : Nat) {oi : Oper} {rest : List Oper} {v : Value} {fuel : Nat} {listed : Array Bool} {a b : Act} {w : World} (hS : S w) (h : wpUntil P md l.toArray Q S T fuel (listed.setIfInBounds i true) b w) (hd : l.drop i = oi :: rest := by rfl) (hB : takeB md l.toArray T listed i = true := by kernel_rfl) (hw : Region.wanted oi (yielded l.toArray a.tmps) = true := by rfl) (hy : ∀ w, S w → (execOp a.eval oi).run P w = .ok (.value v) w := by intro w hSw; (try dsimp only at hSw); go_simp; try with_reducible rfl) (hb : a.put oi.dst v = b := by (try simp only [Act.put, zQ1, zQ2, zQ3]); exact rfl) (hQ : ∀ c a w, Q (.panic c) (a.put oi.dst v) w → Q (.panic c) a w := by exact fun _ _ _ h => h) : wpUntil P md l.toArray Q S T (fuel + 1) listed a w := until_take i hd hB hQ hw hy hS (hb ▸ h)
theorem pUf {l : List Oper} (i : Nat) {oi : Oper} {rest : List Oper} {v : Value} {fuel : Nat} {listed : Array Bool} {a b : Act} {w : World} (h : wpUntil P md l.toArray Q S T fuel (listed.setIfInBounds i true) b w) (hd : l.drop i = oi :: rest := by rfl) (hB : pureB md l.toArray listed i = true := by kernel_rfl) (hw : Region.wanted oi (yielded l.toArray a.tmps) = true := by rfl) (hy : ∀ w, (execOp a.eval oi).run P w = .ok (.value v) w := by intro w; go_simp; try with_reducible rfl) (hb : a.put oi.dst v = b := by (try simp only [Act.put, zQ1, zQ2, zQ3]); exact rfl) (hQ : ∀ c a w, Q (.panic c) (a.put oi.dst v) w → Q (.panic c) a w := by exact fun _ _ _ h => h) : wpUntil P md l.toArray Q S T (fuel + 1) listed a w := until_pure i hd hB hQ hw hy (hb ▸ h)
end
end Go.Proofs.YtimfnbnffibgpaaGreatDoor
namespace Go.Proofs.YtimfnbnffibgpaaGreatDoor
open Go.ChangeShapes Go.WideShapes Go.ChangeAt Go.RowKit Go.PlainAid
set_option linter.unusedVariables false
def mix (f : Nat → Int) (v : List Int) (m : Nat) : List Int := (List.range v.length).map fun i => if i < m then f i else v.getD i 0
theorem mix_length (f : Nat → Int) (v : List Int) (m : Nat) : (mix f v m).length = v.length := by simp [mix]
theorem mix_get (f : Nat → Int) (v : List Int) (m j : Nat) (h : j < v.length) : (mix f v m).getD j 0 = if j < m then f j else v.getD j 0 := by
 unfold mix
 rw [List.getD_eq_getElem?_getD, List.getElem?_map, List.getElem?_range h]
 rfl
theorem mix_set (f : Nat → Int) (v : List Int) (m : Nat) (h : m < v.length) : (mix f v m).set m (f m) = mix f v (m + 1) := by
 apply nums_ext
 ·rw [List.length_set, mix_length, mix_length]
 ·intro j hj
  rw [List.length_set, mix_length] at hj
  rw [mix_get f v (m + 1) j hj]
  by_cases e : m = j
  ·subst e
   rw [getD_set_same _ _ _ (by rw [mix_length]; exact h), if_pos (by omega)]
  ·rw [getD_set_ne _ _ _ _ e, mix_get f v m j hj]
   by_cases h2 : j < m
   ·rw [if_pos h2, if_pos (by omega)]
   ·rw [if_neg h2, if_neg (by omega)]
theorem mix_start (f : Nat → Int) (v : List Int) (m : Nat) (h : ∀ i, i < m → i < v.length → f i = v.getD i 0) : mix f v m = v := by
 apply nums_ext
 ·rw [mix_length]
 ·intro j hj
  rw [mix_length] at hj
  rw [mix_get f v m j hj]
  split
  ·exact h j (by assumption) hj
  ·rfl
def rowOf (f : Nat → Int) (n : Nat) : List Int := (List.range n).map f
theorem rowOf_length (f : Nat → Int) (n : Nat) : (rowOf f n).length = n := by simp [rowOf]
theorem rowOf_get (f : Nat → Int) (n j : Nat) (h : j < n) : (rowOf f n).getD j 0 = f j := by simp [rowOf, List.getD, h]
theorem rowOf_succ (f : Nat → Int) (n : Nat) : rowOf f (n + 1) = rowOf f n ++ [f n] := by simp [rowOf, List.range_succ]
theorem mix_all (f : Nat → Int) (v : List Int) (m : Nat) (h : v.length ≤ m) : mix f v m = rowOf f v.length := by
 apply nums_ext
 ·rw [mix_length, rowOf_length]
 ·intro j hj
  rw [mix_length] at hj
  rw [mix_get f v m j hj, rowOf_get f _ j hj, if_pos (by omega)]
def uzF (off : Nat) (v : List Int) (i : Nat) : Int := if off ≤ i then unz (v.getD i 0) else v.getD i 0
def auF (off : Nat) (v : List Int) : Nat → Int
 | 0 => v.getD 0 0
 | i + 1 => if i + 1 ≤ off then v.getD (i + 1) 0 else auF off v i + v.getD (i + 1) 0
theorem auF_le (off : Nat) (v : List Int) (i : Nat) (h : i ≤ off) : auF off v i = v.getD i 0 := by
 cases i with
 | zero => rfl
 | succ i => rw [auF, if_pos h]
theorem auF_gt (off : Nat) (v : List Int) (i : Nat) (h : off < i) : auF off v i = auF off v (i - 1) + v.getD i 0 := by
 cases i with
 | zero => omega
 | succ i => rw [auF, if_neg (by omega)]; rfl
set_option maxHeartbeats 1000000 in
theorem unzigAllV (off m : Nat) (l : List Int) (g cap base n : Nat) (A : Option Addr) (c : Nat) (w : World) (hN : Nums w base (.slice (some ⟨g, 0, none⟩) n cap) l) (hl : l.length = off + m) (hA : 0 < m → A = some ⟨g, off, none⟩) (hm : m ≤ 1000) (hg : base ≤ g)
  (hb : ∀ j, -9223372036854775808 ≤ l.getD j 0 ∧ l.getD j 0 ≤ 9223372036854775807) :
  Calls Tryz.prog 125 #[.slice A m c] w fun e w' => (∃ u, e = .returned u) ∧ Nums w' base (.slice (some ⟨g, 0, none⟩) n cap) (rowOf (uzF off l) l.length) ∧ Below base w w' := by
 have HN : Hid (Nums w base (.slice (some ⟨g, 0, none⟩) n cap) l) := hN
 have HL : Hid (l.length = off + m) := hl
 have HA : Hid (0 < m → A = some ⟨g, off, none⟩) := hA
 have HG : Hid (base ≤ g) := hg
 have HB : Hid (∀ j, -9223372036854775808 ≤ l.getD j 0 ∧ l.getD j 0 ≤ 9223372036854775807) := hb
 have q1 : (m : Int) ≤ 1000 := by omega
 clear hN hl hA hg hb
 go_enter Tryz.func125, Tryz.ntmps125
 go_wp2_with fail
 go_loopw [6] (fun v6 wr => ∃ k : Nat, k ≤ m ∧ v6 = .int .i64 (k : Int) ∧ Nums wr base (.slice (some ⟨g, 0, none⟩) n cap) (mix (uzF off l) l (off + k)) ∧ Below base w wr) (fun i _ => m - (intOf i).toNat)
 case atStart =>
  refine ⟨0, by omega, rfl, ?_, Below.refl _ _⟩
  rw [mix_start _ _ _ (fun i hi _ => by unfold uzF; rw [if_neg (by omega)])]
  exact HN.out
 case round =>
  obtain ⟨k, hk, rfl, hN1, hb1⟩ := hrel
  have HB1 : Hid (Below base w wr) := hb1
  have HN1 : Hid (Nums wr base (.slice (some ⟨g, 0, none⟩) n cap) (mix (uzF off l) l (off + k))) := hN1
  clear hb1
  by_cases hlt : k < m
  ·have q2 : (k : Int) < (m : Int) := by omega
   have hA := HA.out (by omega)
   subst hA
   have hkl : off + k < l.length := by rw [HL.out]; omega
   have e1 := hN1.cell (off + k) (by rw [mix_length]; exact hkl)
   rw [mix_get _ _ _ _ hkl, if_neg (by omega)] at e1
   have e2 := hN1.frozen (off + k)
   have hbk := HB.out (off + k)
   have cu := fun wx => impl_unz (l.getD (off + k) 0) wx hbk.1 hbk.2
   have hS := hN1.stored (off + k) (unz (l.getD (off + k) 0))
   rw [show unz (l.getD (off + k) 0) = uzF off l (off + k) by unfold uzF; rw [if_pos (by omega)], mix_set _ _ _ hkl] at hS
   rw [show uzF off l (off + k) = unz (l.getD (off + k) 0) by unfold uzF; rw [if_pos (by omega)]] at hS
   have HS : Hid (Nums (wr.setCell ⟨g, off + k, none⟩ (.int .i64 (unz (l.getD (off + k) 0)))) base (.slice (some ⟨g, 0, none⟩) n cap) (mix (uzF off l) l (off + k + 1))) := hS
   clear hS hN1 hkl hbk
   generalize zok (l.getD (off + k) 0) = zk at *
   generalize unz (l.getD (off + k) 0) = y at *
   generalize l.getD (off + k) 0 = x at *
   go_wp2_with fail
   refine (cu _).mono ?_
   rintro e w1 ⟨rfl, rfl⟩
   go_wp2_with fail
   go_roundw
   case rel => exact ⟨k + 1, by omega, by go_num, HS.out, HB1.out.setCell HG.out _⟩
   case measure => simp [intOf]; omega
  ·obtain rfl : k = m := by omega
   clear hN1
   go_wp2_with fail
   have h := HN1.out
   rw [mix_all _ _ _ (by rw [HL.out]; omega)] at h
   exact bodyPost_end (v := .tuple #[]) (by simp [results, go_sem]) rfl ⟨⟨_, rfl⟩, h, HB1.out⟩
set_option maxHeartbeats 1000000 in
theorem addUpV (off m : Nat) (l : List Int) (g cap base n : Nat) (A : Option Addr) (c : Nat) (w : World) (hN : Nums w base (.slice (some ⟨g, 0, none⟩) n cap) l) (hl : l.length = off + m) (hA : 0 < m → A = some ⟨g, off, none⟩) (hm : m ≤ 1000) (hg : base ≤ g)
  (hb : ∀ j, j < l.length → -4611686018427387904 ≤ auF off l j ∧ auF off l j ≤ 4611686018427387904) :
  Calls Tryz.prog 126 #[.slice A m c] w fun e w' => (∃ u, e = .returned u) ∧ Nums w' base (.slice (some ⟨g, 0, none⟩) n cap) (rowOf (auF off l) l.length) ∧ Below base w w' := by
 have HN : Hid (Nums w base (.slice (some ⟨g, 0, none⟩) n cap) l) := hN
 have HL : Hid (l.length = off + m) := hl
 have HA : Hid (0 < m → A = some ⟨g, off, none⟩) := hA
 have HG : Hid (base ≤ g) := hg
 have HB : Hid (∀ j, j < l.length → -4611686018427387904 ≤ auF off l j ∧ auF off l j ≤ 4611686018427387904) := hb
 have q1 : (m : Int) ≤ 1000 := by omega
 clear hN hl hA hg hb
 go_enter Tryz.func126, Tryz.ntmps126
 go_wp2_with fail
 go_loopw [2] (fun v2 wr => ∃ k : Nat, 1 ≤ k ∧ (k ≤ m ∨ k = 1) ∧ v2 = .int .i64 (k : Int) ∧ Nums wr base (.slice (some ⟨g, 0, none⟩) n cap) (mix (auF off l) l (off + k)) ∧ Below base w wr) (fun i _ => m - (intOf i).toNat)
 case atStart =>
  refine ⟨1, by omega, by omega, rfl, ?_, Below.refl _ _⟩
  rw [mix_start _ _ _ (fun i hi _ => auF_le off l i (by omega))]
  exact HN.out
 case round =>
  obtain ⟨k, hk1, hk, rfl, hN1, hb1⟩ := hrel
  have HB1 : Hid (Below base w wr) := hb1
  have HN1 : Hid (Nums wr base (.slice (some ⟨g, 0, none⟩) n cap) (mix (auF off l) l (off + k))) := hN1
  clear hb1
  by_cases hlt : k < m
  ·have q2 : (k : Int) < (m : Int) := by omega
   have q3 : (1 : Int) ≤ (k : Int) := by omega
   have hA := HA.out (by omega)
   subst hA
   have hkl : off + k < l.length := by rw [HL.out]; omega
   have e1 := hN1.cell (off + k) (by rw [mix_length]; exact hkl)
   rw [mix_get _ _ _ _ hkl, if_neg (by omega)] at e1
   have e0 := hN1.cell (off + (k - 1)) (by rw [mix_length]; omega)
   rw [mix_get _ _ _ _ (by omega), if_pos (by omega)] at e0
   have e2 := hN1.frozen (off + k)
   have hbk := HB.out (off + k) hkl
   have hbj := HB.out (off + (k - 1)) (by omega)
   have ef := auF_gt off l (off + k) (by omega)
   rw [show off + k - 1 = off + (k - 1) by omega] at ef
   have hS := hN1.stored (off + k) (auF off l (off + k))
   rw [mix_set _ _ _ hkl] at hS
   have ef2 : auF off l (off + k) = l.getD (off + k) 0 + auF off l (off + (k - 1)) := by omega
   rw [ef2] at hS hbk
   have HS : Hid (Nums (wr.setCell ⟨g, off + k, none⟩ (.int .i64 (l.getD (off + k) 0 + auF off l (off + (k - 1))))) base (.slice (some ⟨g, 0, none⟩) n cap) (mix (auF off l) l (off + k + 1))) := hS
   clear hS hN1 hkl ef ef2
   generalize auF off l (off + (k - 1)) = y at *
   generalize l.getD (off + k) 0 = x at *
   have g1 : IntKind.i64.wrap ((k : Int) - 1) = (k : Int) - 1 := by rw [IntKind.wrap_i64]; omega
   have g3 : (0 : Int) ≤ (k : Int) - 1 := by omega
   have g4 : (k : Int) - 1 < (m : Int) := by omega
   have g5 : ((k : Int) - 1).toNat = k - 1 := by omega
   have g7 : IntKind.i64.wrap (x + y) = x + y := by rw [IntKind.wrap_i64]; omega
   have S0 : Hid (wr.cell? ⟨g, off + k, none⟩ = some (.int .i64 x) ∧ wr.cell? ⟨g, off + (k - 1), none⟩ = some (.int .i64 y)) := ⟨e1, e0⟩
   go_wp2_with fail
   refine wp_region_until (fun w' => w'.cell? ⟨g, off + k, none⟩ = some (.int .i64 x) ∧ w'.cell? ⟨g, off + (k - 1), none⟩ = some (.int .i64 y)) (fun i => i == 11) 12 (by rfl) (by kernel_rfl) ?_
   refine tKf 0 S0.out ?_
   refine tKf 1 S0.out ?_
   refine tKf 2 S0.out ?_
   refine tKf 3 S0.out ?_
   refine tKf 4 S0.out ?_
   refine tKf 5 S0.out ?_
   refine tKf 6 S0.out ?_
   refine tKf 7 S0.out ?_
   refine tKf 8 S0.out ?_
   refine tKf 9 S0.out ?_
   refine tKf 10 S0.out ?_
   refine uNe 11 (fun K hK => ?_)
   go_simp
   go_wp2_with fail
   refine hK.out _ _ (fun h => absurd h (by decide)) ?_
   clear hK K
   try simp only [Act.put, zQ1, zQ2, zQ3]
   refine until_done (by kernel_rfl) ?_ _
   go_wp2_with fail
   go_roundw
   case rel => exact ⟨k + 1, by omega, by omega, by go_num, HS.out, (HB1.out.setCell (p := ⟨g, off + k, none⟩) HG.out (.int .i64 (x + y))).drew⟩
   case measure => simp [intOf]; omega
  ·clear hN1
   have q2 : (m : Int) ≤ (k : Int) := by omega
   go_wp2_with fail
   have h := HN1.out
   rw [mix_all _ _ _ (by rw [HL.out]; omega)] at h
   exact bodyPost_end (v := .tuple #[]) (by simp [results, go_sem]) rfl ⟨⟨_, rfl⟩, h, HB1.out⟩
end Go.Proofs.YtimfnbnffibgpaaGreatDoor
namespace Go.Proofs.YtimfnbnffibgpaaGreatDoor
open Go.RowKit Go.PlainAid
def rv (v : List Int) : Nat → Int
 | 0 => unz (v.getD 0 0)
 | i + 1 => rv v i + unz (v.getD (i + 1) 0)
def rowV (v : List Int) : List Int := rowOf (rv v) v.length
def gp (v : List Int) : Nat → Int
 | 0 => 0
 | i + 1 => gp v i + if i = 0 then v.getD 1 0 else unz (v.getD (i + 1) 0)
def rt (v : List Int) : Nat → Int
 | 0 => v.getD 0 0
 | i + 1 => rt v i + gp v (i + 1)
def rowT (v : List Int) : List Int := rowOf (rt v) v.length
theorem rv_bound (v : List Int) (i : Nat) : -140737488355328 * ((i : Int) + 1) ≤ rv v i ∧ rv v i ≤ 140737488355328 * ((i : Int) + 1) := by
 induction i with
 | zero => have := unz_range (v.getD 0 0); unfold rv; omega
 | succ i ih => have := unz_range (v.getD (i + 1) 0); unfold rv; omega
theorem gp_bound (v : List Int) (hv : ∀ j, 0 ≤ v.getD j 0 ∧ v.getD j 0 ≤ 562949953421311) (i : Nat) : -140737488355328 * (i : Int) ≤ gp v i ∧ gp v i ≤ 562949953421311 + 140737488355328 * (i : Int) := by
 induction i with
 | zero => unfold gp; omega
 | succ i ih =>
  have h1 := hv 1
  have h2 := unz_range (v.getD (i + 1) 0)
  by_cases h0 : i = 0
  ·subst h0
   rw [gp, if_pos rfl]
   have : gp v 0 = 0 := rfl
   omega
  ·rw [gp, if_neg h0]
   omega
theorem rt_bound (v : List Int) (hv : ∀ j, 0 ≤ v.getD j 0 ∧ v.getD j 0 ≤ 562949953421311) (i : Nat) (hi : i ≤ 60) : -9007199254740992 * ((i : Int) + 1) ≤ rt v i ∧ rt v i ≤ 9007199254740992 * ((i : Int) + 1) := by
 induction i with
 | zero => have := hv 0; unfold rt; omega
 | succ i ih =>
  have := gp_bound v hv (i + 1)
  have := ih (by omega)
  unfold rt
  omega
theorem rowV_made (v : List Int) : rowOf (auF 0 (rowOf (uzF 0 v) v.length)) v.length = rowV v := by
 have key : ∀ i, i < v.length → auF 0 (rowOf (uzF 0 v) v.length) i = rv v i := by
  intro i
  induction i with
  | zero =>
   intro h
   rw [auF, rowOf_get _ _ _ h]
   rfl
  | succ i ih =>
   intro h
   rw [auF_gt _ _ _ (by omega), Nat.add_sub_cancel, ih (by omega), rowOf_get _ _ _ h]
   rfl
 apply nums_ext
 ·rw [rowOf_length, rowV, rowOf_length]
 ·intro j hj
  rw [rowOf_length] at hj
  rw [rowOf_get _ _ _ hj, rowV, rowOf_get _ _ _ hj, key j hj]
theorem gaps_made (v : List Int) (hv : 1 ≤ v.length) (i : Nat) (hi : i < v.length) (h1 : 1 ≤ i) : auF 1 (rowOf (uzF (min 2 v.length) v) v.length) i = gp v i := by
 induction i with
 | zero => omega
 | succ i ih =>
  by_cases h0 : i = 0
  ·subst h0
   rw [auF_le _ _ _ (by omega), rowOf_get _ _ _ hi]
   unfold uzF
   rw [if_neg (by omega)]
   simp [gp]
  ·rw [auF_gt _ _ _ (by omega), Nat.add_sub_cancel, ih (by omega) (by omega), rowOf_get _ _ _ hi]
   conv => rhs; unfold gp
   rw [if_neg h0]
   unfold uzF
   rw [if_pos (by omega)]
theorem gaps_zero (v : List Int) (hv : 1 ≤ v.length) : auF 1 (rowOf (uzF (min 2 v.length) v) v.length) 0 = v.getD 0 0 := by
 rw [auF, rowOf_get _ _ _ (by omega)]
 unfold uzF
 rw [if_neg (by omega)]
theorem times_made (v : List Int) (hv : 1 ≤ v.length) (i : Nat) (hi : i < v.length) : auF 0 (rowOf (auF 1 (rowOf (uzF (min 2 v.length) v) v.length)) v.length) i = rt v i := by
 induction i with
 | zero =>
  rw [auF, rowOf_get _ _ _ hi, gaps_zero v hv]
  rfl
 | succ i ih =>
  rw [auF_gt _ _ _ (by omega), Nat.add_sub_cancel, ih (by omega), rowOf_get _ _ _ hi, gaps_made v hv _ hi (by omega)]
  rfl
theorem rowT_made (v : List Int) (hv : 1 ≤ v.length) : rowOf (auF 0 (rowOf (auF 1 (rowOf (uzF (min 2 v.length) v) v.length)) v.length)) v.length = rowT v := by
 apply nums_ext
 ·rw [rowOf_length, rowT, rowOf_length]
 ·intro j hj
  rw [rowOf_length] at hj
  rw [rowOf_get _ _ _ hj, rowT, rowOf_get _ _ _ hj, times_made v hv j hj]
def RdAns (shw : List Int → ByteArray) (row : List Int → List Int) (s : ByteArray) (n : Int) (l : List Int) (k : Nat) : Prop :=
 (∃ (m : Nat) (v : List Int), n = (m : Int) ∧ 1 ≤ m ∧ m ≤ 60 ∧ Rd s m v k ∧ shw (row v) = s.extract 0 k ∧ l = row v) ∨
 ((∀ (m : Nat) (v : List Int) (u : Nat), n = (m : Int) → 1 ≤ m → m ≤ 60 → Rd s m v u → shw (row v) ≠ s.extract 0 u) ∧ l = [] ∧ k = 0)
theorem RdAns.one {shw : List Int → ByteArray} {row : List Int → List Int} {s : ByteArray} {n : Int} {l l' : List Int} {k k' : Nat} (h : RdAns shw row s n l k) (h' : RdAns shw row s n l' k') : l = l' ∧ k = k' := by
 rcases h with ⟨m, v, h1, h2, h3, h4, h5, h6⟩ | ⟨h1, h2, h3⟩ <;> rcases h' with ⟨m', v', h1', h2', h3', h4', h5', h6'⟩ | ⟨h1', h2', h3'⟩
 ·obtain rfl : m = m' := by omega
  obtain ⟨rfl, rfl⟩ := h4.one h4'
  exact ⟨h6.trans h6'.symm, rfl⟩
 ·exact absurd h5 (h1' m v k h1 h2 h3 h4)
 ·exact absurd h5' (h1 m' v' k' h1' h2' h3' h4')
 ·exact ⟨h2.trans h2'.symm, h3.trans h3'.symm⟩
theorem extract_ne (s : ByteArray) (u : Nat) (h1 : 1 ≤ u) (h2 : u ≤ s.size) : txt [] ≠ s.extract 0 u := by
 intro h
 have := congrArg ByteArray.size h
 rw [ByteArray.size_extract, txt_size] at this
 simp at this
 omega
theorem rowV_length (v : List Int) : (rowV v).length = v.length := by rw [rowV, rowOf_length]
theorem rowT_length (v : List Int) : (rowT v).length = v.length := by rw [rowT, rowOf_length]
theorem showV_out (v : List Int) (j : Nat) (hj : j < v.length) (h : rv v j < -1099511627776 ∨ 1099511627776 < rv v j) : showV (rowV v) = txt [] := by
 unfold showV
 rw [if_neg]
 intro ho
 have := ho.2.2 j (by rw [rowV_length]; exact hj)
 rw [rowV, rowOf_get _ _ _ hj] at this
 omega
theorem showT_out (v : List Int) (j : Nat) (hj : j < v.length) (h : rt v j < 0 ∨ 1099511627776 < rt v j) : showT (rowT v) = txt [] := by
 unfold showT
 rw [if_neg]
 intro ho
 have := (ho.2.2 j (by rw [rowT_length]; exact hj)).1
 rw [rowT, rowOf_get _ _ _ hj] at this
 omega
theorem RdAns.few {shw : List Int → ByteArray} {row : List Int → List Int} {s : ByteArray} {m : Nat} (h : RdNo s m) : RdAns shw row s (m : Int) [] 0 := by
 refine .inr ⟨fun m' v u e _ _ hr => ?_, rfl, rfl⟩
 obtain rfl : m = m' := by omega
 exact absurd h hr.no
theorem RdAns.none {shw : List Int → ByteArray} {row : List Int → List Int} {s : ByteArray} {n : Int} (h : n < 1 ∨ 60 < n) : RdAns shw row s n [] 0 :=
 .inr ⟨fun m' v u e _ _ hr => by omega, rfl, rfl⟩
theorem RdAns.other {shw : List Int → ByteArray} {row : List Int → List Int} {s : ByteArray} {m : Nat} {v : List Int} {u : Nat} (hr : Rd s m v u) (h : shw (row v) ≠ s.extract 0 u) : RdAns shw row s (m : Int) [] 0 := by
 refine .inr ⟨fun m' v' u' e _ _ hr' => ?_, rfl, rfl⟩
 obtain rfl : m = m' := by omega
 obtain ⟨rfl, rfl⟩ := hr.one hr'
 exact h
theorem RdAns.yes {shw : List Int → ByteArray} {row : List Int → List Int} {s : ByteArray} {m : Nat} {v : List Int} {u : Nat} (h1 : 1 ≤ m) (h2 : m ≤ 60) (hr : Rd s m v u) (h : shw (row v) = s.extract 0 u) : RdAns shw row s (m : Int) (row v) u :=
 .inl ⟨m, v, rfl, h1, h2, hr, h, rfl⟩
theorem RdAns.short {shw : List Int → ByteArray} {row : List Int → List Int} {s : ByteArray} {n : Int} {l : List Int} {k : Nat} (hrow : ∀ v, (row v).length = v.length) (h : RdAns shw row s n l k) : l.length ≤ 60 ∧ k ≤ s.size := by
 rcases h with ⟨m, v, h1, h2, h3, h4, h5, h6⟩ | ⟨_, rfl, rfl⟩
 ·rw [h6, hrow, h4.length]
  exact ⟨h3, h4.le.2⟩
 ·simp
theorem bytes_ne {a b : ByteArray} (h : a ≠ b) : (a.toList == b.toList) = false := by
 rw [beq_eq_false_iff_ne]
 intro e
 apply h
 rw [Lib.toList_data, Lib.toList_data] at e
 cases a
 cases b
 simp only at e
 congr 1
 exact Array.ext' e
theorem bytes_eq {a b : ByteArray} (h : a = b) : (a.toList == b.toList) = true := by rw [h]; simp
end Go.Proofs.YtimfnbnffibgpaaGreatDoor
namespace Go.Proofs.YtimfnbnffibgpaaGreatDoor
open Go.RowKit Go.PlainAid
theorem cat_split (f : Nat → List UInt8) (k n : Nat) (hk : k < n) : ∃ rest, cat f n = cat f k ++ (f k ++ rest) := by
 induction n with
 | zero => omega
 | succ n ih =>
  by_cases e : k = n
  ·subst e
   exact ⟨[], by rw [cat_succ, List.append_nil]⟩
  ·obtain ⟨rest, h⟩ := ih (by omega)
   exact ⟨rest ++ f n, by rw [cat_succ, h]; simp⟩
theorem extract_back (a b : List UInt8) : (txt (a ++ b)).extract a.length (txt (a ++ b)).size = txt b := by
 rw [txt_size]
 apply ByteArray.ext
 apply Array.toList_inj.1
 rw [Lib.extract_data]
 simp [txt]
theorem extract_front (a b : List UInt8) : (txt (a ++ b)).extract 0 a.length = txt a := by
 apply ByteArray.ext
 apply Array.toList_inj.1
 rw [Lib.extract_data]
 simp [txt]
theorem rd_cat (x : Nat → Nat) (n : Nat) (hx : ∀ i, i < n → x i ≤ 562949953421311) (tl : List UInt8) (k : Nat) (hk : k ≤ n) : Rd (txt (cat (fun i => vF 6 (x i)) n ++ tl)) k (rowOf (fun i => (x i : Int)) k) (cat (fun i => vF 6 (x i)) k).length := by
 induction k with
 | zero => exact ⟨rfl, rfl⟩
 | succ k ih =>
  obtain ⟨rest, h⟩ := cat_split (fun i => vF 6 (x i)) k n (by omega)
  have e : txt (cat (fun i => vF 6 (x i)) n ++ tl) = txt (cat (fun i => vF 6 (x i)) k ++ (vF 6 (x k) ++ (rest ++ tl))) := by rw [h]; simp
  have hf := find_var (x k) (rest ++ tl) (hx k (by omega))
  refine ⟨_, _, (vF 6 (x k)).length, ih (by omega), ?_, ?_, ?_⟩
  ·rw [e, extract_back]
   exact hf.1
  ·rw [e, extract_back, hf.2, rowOf_succ]
  ·rw [cat_succ, List.length_append]
theorem rowOf_ext (f g : Nat → Int) (n : Nat) (h : ∀ i, i < n → f i = g i) : rowOf f n = rowOf g n := by
 apply nums_ext
 ·rw [rowOf_length, rowOf_length]
 ·intro j hj
  rw [rowOf_length] at hj
  rw [rowOf_get _ _ _ hj, rowOf_get _ _ _ hj, h j hj]
theorem gp_turn (l : List Int) (h : TOk l) (i : Nat) (h1 : 1 ≤ i) (hi : i < l.length) : gp (rowOf (turn l) l.length) i = dif l i := by
 induction i with
 | zero => omega
 | succ i ih =>
  by_cases h0 : i = 0
  ·subst h0
   rw [gp, if_pos rfl, rowOf_get _ _ _ hi]
   have : gp (rowOf (turn l) l.length) 0 = 0 := rfl
   rw [this]
   unfold turn
   rw [if_pos (by omega)]
   omega
  ·rw [gp, if_neg h0, ih (by omega) (by omega), rowOf_get _ _ _ hi]
   have d1 := h.dif (i + 1) hi
   have d2 := h.dif i (by omega)
   unfold turn
   rw [if_neg (by omega), Nat.add_sub_cancel, unz_zig _ (by omega) (by omega)]
   omega
theorem rt_turn (l : List Int) (h : TOk l) (i : Nat) (hi : i < l.length) : rt (rowOf (turn l) l.length) i = l.getD i 0 := by
 induction i with
 | zero =>
  rw [rt, rowOf_get _ _ _ hi]
  unfold turn dif prv
  simp
 | succ i ih =>
  rw [rt, ih (by omega), gp_turn l h (i + 1) (by omega) hi]
  unfold dif
  rw [prv_succ]
  omega
theorem rowT_turn (l : List Int) (h : TOk l) : rowT (rowOf (turn l) l.length) = l := by
 unfold rowT
 rw [rowOf_length]
 apply nums_ext
 ·rw [rowOf_length]
 ·intro j hj
  rw [rowOf_length] at hj
  rw [rowOf_get _ _ _ hj, rt_turn l h j hj]
theorem readT_back (l : List Int) (h : TOk l) (tl : List UInt8) : RdAns showT rowT (txt (cat (tPiece l) l.length ++ tl)) (l.length : Int) l (cat (tPiece l) l.length).length := by
 have hr := rd_cat (fun i => (turn l i).toNat) l.length (fun i hi => by have := h.turn i hi; omega) tl l.length (Nat.le_refl _)
 rw [rowOf_ext (fun i => (((turn l i).toNat : Nat) : Int)) (turn l) l.length (fun i hi => Int.toNat_of_nonneg (h.turn i hi).1)] at hr
 have hy := RdAns.yes (shw := showT) (row := rowT) h.1 h.2.1 hr (by rw [rowT_turn l h]; unfold showT; rw [if_pos h]; exact (extract_front _ _).symm)
 rw [rowT_turn l h] at hy
 exact hy
theorem rv_zig (l : List Int) (h : VOk l) (i : Nat) (hi : i < l.length) : rv (rowOf (fun i => zig (dif l i)) l.length) i = l.getD i 0 := by
 induction i with
 | zero =>
  have d := h.dif 0 hi
  rw [rv, rowOf_get _ _ _ hi, unz_zig _ (by omega) (by omega)]
  unfold dif prv
  simp
 | succ i ih =>
  have d := h.dif (i + 1) hi
  rw [rv, ih (by omega), rowOf_get _ _ _ hi, unz_zig _ (by omega) (by omega)]
  unfold dif
  rw [prv_succ]
  omega
theorem rowV_zig (l : List Int) (h : VOk l) : rowV (rowOf (fun i => zig (dif l i)) l.length) = l := by
 unfold rowV
 rw [rowOf_length]
 apply nums_ext
 ·rw [rowOf_length]
 ·intro j hj
  rw [rowOf_length] at hj
  rw [rowOf_get _ _ _ hj, rv_zig l h j hj]
theorem readV_back (l : List Int) (h : VOk l) (tl : List UInt8) : RdAns showV rowV (txt (cat (vPiece l) l.length ++ tl)) (l.length : Int) l (cat (vPiece l) l.length).length := by
 have hz : ∀ i, i < l.length → 0 ≤ zig (dif l i) := fun i hi => zig_pos _ (by have := h.dif i hi; omega) (by have := h.dif i hi; omega)
 have hr := rd_cat (fun i => (zig (dif l i)).toNat) l.length (fun i hi => by have := (zig_range (dif l i)).2; omega) tl l.length (Nat.le_refl _)
 rw [rowOf_ext (fun i => (((zig (dif l i)).toNat : Nat) : Int)) (fun i => zig (dif l i)) l.length (fun i hi => Int.toNat_of_nonneg (hz i hi))] at hr
 have hy := RdAns.yes (shw := showV) (row := rowV) h.1 h.2.1 hr (by rw [rowV_zig l h]; unfold showV; rw [if_pos h]; exact (extract_front _ _).symm)
 rw [rowV_zig l h] at hy
 exact hy
theorem showT_size (l : List Int) : (showT l).size ≤ 420 := by
 unfold showT
 split
 ·rename_i h
  rw [txt_size]
  have := cat_length (tPiece l) (tPiece_length l) l.length
  have := h.2.1
  omega
 ·rw [txt_size]; simp
theorem showV_size (l : List Int) : (showV l).size ≤ 420 := by
 unfold showV
 split
 ·rename_i h
  rw [txt_size]
  have := cat_length (vPiece l) (vPiece_length l) l.length
  have := h.2.1
  omega
 ·rw [txt_size]; simp
theorem cat_pos (f : Nat → List UInt8) (n : Nat) (h1 : 1 ≤ n) (h : 1 ≤ (f 0).length) : 1 ≤ (cat f n).length := by
 obtain ⟨rest, e⟩ := cat_split f 0 n (by omega)
 rw [e, cat_zero, List.nil_append, List.length_append]
 omega
end Go.Proofs.YtimfnbnffibgpaaGreatDoor
