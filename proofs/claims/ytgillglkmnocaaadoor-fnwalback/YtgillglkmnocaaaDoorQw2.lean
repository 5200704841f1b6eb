/- Until ShowImplD Num2 Clone ReadImpl ReadTold ReadSpecN -/
import Derived.Deep.RegionHeld3
import Derived.StillTail
import Derived.Test.YtgillglkmnocaaaDoorRows
import Derived.Test.YtgillglkmnocaaaDoorQw1
import Derived.Handy
import Derived.Test.YtgillglkmnocaaaDoorQw0
import Derived.WalkKit
import Derived.ProofKit
import Derived.OpenShut
import Derived.Below
import Derived.WalkLawsBesides
import Derived.WalkSpells
import Derived.WalkMore
import Derived.Outline
import Derived.Deep.OwnRows
import Derived.Deep.RegionLaw
import Derived.Deep.DrawnRows
import Derived.WalkSmall
import Derived.Shelf.Pu.Clone
import Derived.LoopN
open List (setIfInBounds_toArray set_cons_zero set_cons_succ)
namespace Go.Proofs.YtgillglkmnocaaaDoor
open Go
section
variable {P : Program} {ops : Array Oper} {Q : Exit → Act → World → Prop} {md : Region.Mode} {S : World → Prop} {T : Nat → Bool}
def wpUntil (P : Program) (md : Region.Mode) (ops : Array Oper) (Q : Exit → Act → World → Prop) (S : World → Prop) (T : Nat → Bool) : Nat → Array Bool → Act → World → Prop
 | 0, listed, a, w => Region.ready md ops listed = [] ∧ Q .normal a w
 | fuel + 1, listed, a, w =>
  (Region.ready md ops listed = [] → Q .normal a w) ∧ ∀ i ∈ Region.ready md ops listed, wpOp P ops Q i (fun a' w' => (T i = false → S w → S w') ∧ wpUntil P md ops Q S T fuel (listed.setIfInBounds i true) a' w') a w
theorem wpAny_of_until : ∀ (fuel : Nat) (listed : Array Bool) (a : Act) (w : World), wpUntil P md ops Q S T fuel listed a w → wpAny P md ops Q fuel listed a w
 | 0, _, _, _, h => h
 | fuel + 1, _, _, _, h => ⟨h.1, fun i hi => wpOp_mono (fun a' w' h' => wpAny_of_until fuel _ a' w' h'.2) (h.2 i hi)⟩
def needs (md : Region.Mode) (ops : Array Oper) : Nat → Nat → Nat → Bool
 | 0, _, _ => false
 | f + 1, t, i => match ops[t]? with
  | some o => o.after.any fun e => Region.binds md e && (e.on == i || needs md ops f e.on i)
  | none => false
def Closed (md : Region.Mode) (ops : Array Oper) (listed : Array Bool) : Prop :=
 ∀ j oj, ops[j]? = some oj → listed.getD j false = true → ∀ e ∈ oj.after, Region.binds md e = true → listed.getD e.on false = true
theorem needs_some {f t i : Nat} (h : needs md ops f t i = true) : ∃ o, ops[t]? = some o := by
 cases f with
 | zero => cases h
 | succ f =>
  unfold needs at h
  cases e : ops[t]? with
  | none => rw [e] at h; cases h
  | some o => exact ⟨o, rfl⟩
theorem needs_listed {listed : Array Bool} (hc : Closed md ops listed) : ∀ (f t i : Nat) (ot : Oper), ops[t]? = some ot → (∀ e ∈ ot.after, Region.binds md e = true → listed.getD e.on false = true) → needs md ops f t i = true → listed.getD i false = true
 | 0, _, _, _, _, _, h => by cases h
 | f + 1, t, i, ot, hot, hall, h => by
  unfold needs at h
  rw [hot] at h
  obtain ⟨e, he, hb⟩ := Array.any_eq_true'.1 h
  rw [Bool.and_eq_true, Bool.or_eq_true] at hb
  have h1 := hall e he hb.1
  rcases hb.2 with h2 | h2
  ·rw [← beq_iff_eq.1 h2]
   exact h1
  ·obtain ⟨o2, ho2⟩ := needs_some h2
   exact needs_listed hc f e.on i o2 ho2 (hc e.on o2 ho2 h1) h2
theorem Closed.set {i : Nat} {listed : Array Bool} (h : Closed md ops listed) (hi : i ∈ Region.ready md ops listed) : Closed md ops (listed.setIfInBounds i true) := by
 obtain ⟨_, oi, hoi, hall⟩ := mem_ready.1 hi
 intro j oj hj hl e he hb
 by_cases hij : i = j
 ·subst hij
  have : oj = oi := Option.some.inj (hj.symm.trans hoi)
  subst this
  exact getD_set_true (hall e he hb)
 ·rw [_root_.Go.getD_set_ne false hij] at hl
  exact getD_set_true (h j oj hj hl e he hb)
theorem wpUntil_first {i : Nat} {oi : Oper} {v : Value} (hi : ops[i]? = some oi) (hsel : ∀ (j : Nat) (o : Oper) cs b, ops[j]? = some o → o.op ≠ .select cs b)
  (hQ : ∀ c a w, Q (.panic c) (a.put oi.dst v) w → Q (.panic c) a w) (hT : ∀ t, t < ops.size → T t = true → needs md ops ops.size t i = true) :
  ∀ (fuel : Nat) (listed : Array Bool) (a : Act) (w : World), Closed md ops listed →
   (∀ j oj, ops[j]? = some oj → j ≠ i → listed.getD j true = false → (∀ e ∈ oj.after, Region.binds md e = true → e.on ≠ i) → oi.apart ops oj = true) →
   i ∈ Region.ready md ops listed → YieldsIf P ops S oi v a → S w →
   wpUntil P md ops Q S T fuel (listed.setIfInBounds i true) (a.put oi.dst v) w → wpUntil P md ops Q S T (fuel + 1) listed a w := by
 intro fuel
 induction fuel with
 | zero =>
  intro listed a w _ _ hr hy hS H
  refine ⟨fun h => (by rw [h] at hr; cases hr), fun j hj => ?_⟩
  by_cases hji : j = i
  ·subst hji
   exact hy.wpOp hi hS ⟨fun _ h => h, H⟩
  ·have := ready_mono hj hji
   rw [H.1] at this
   cases this
 | succ fuel ih =>
  intro listed a w hc hfree hr hy hS H
  refine ⟨fun h => (by rw [h] at hr; cases hr), fun j hj => ?_⟩
  by_cases hji : j = i
  ·subst hji
   exact hy.wpOp hi hS ⟨fun _ h => h, H⟩
  ·have h1 := H.2 j (ready_mono hj hji)
   obtain ⟨hjun, oj, hoj, hall⟩ := mem_ready.1 hj
   have hun := getD_both (mem_ready.1 hr).1
   have hnot : ∀ e ∈ oj.after, Region.binds md e = true → e.on ≠ i := fun e he hb heq => by
    have h1 := hall e he hb
    rw [heq, hun] at h1
    cases h1
   have hTj : T j = false := by
    cases e : T j with
    | false => rfl
    | true =>
     have := needs_listed hc _ j i oj hoj hall (hT j (Array.getElem?_eq_some_iff.1 hoj).1 e)
     rw [hun] at this
     cases this
   have h2 := wpOp_putIf hoj (hfree j oj hoj hji hjun hnot) (fun cs b => hsel i oi cs b hi) (fun cs b => hsel j oj cs b hoj) hQ hy h1
   have hfree' : ∀ k ok, ops[k]? = some ok → k ≠ i → (listed.setIfInBounds j true).getD k true = false →
     (∀ e ∈ ok.after, Region.binds md e = true → e.on ≠ i) → oi.apart ops ok = true := fun k ok hk hki hun hno => by
    refine hfree k ok hk hki ?_ hno
    by_cases hjk : j = k
    ·subst hjk
     exact hjun
    ·rw [_root_.Go.getD_set_ne true hjk] at hun
     exact hun
   refine wpOp_mono (fun a' w' h3 => ⟨h3.2.1, ih (listed.setIfInBounds j true) a' w' (hc.set hj) hfree' (ready_mono hr (Ne.symm hji)) h3.1 (h3.2.1 hTj hS) ?_⟩) h2
   rw [Array.setIfInBounds_comm _ _ hji]
   exact h3.2.2
theorem wpUntil_pure {i : Nat} {oi : Oper} {v : Value} (hi : ops[i]? = some oi) (hsel : ∀ (j : Nat) (o : Oper) cs b, ops[j]? = some o → o.op ≠ .select cs b)
  (hQ : ∀ c a w, Q (.panic c) (a.put oi.dst v) w → Q (.panic c) a w) :
  ∀ (fuel : Nat) (listed : Array Bool) (a : Act) (w : World),
   (∀ j oj, ops[j]? = some oj → j ≠ i → listed.getD j true = false → (∀ e ∈ oj.after, Region.binds md e = true → e.on ≠ i) → oi.apart ops oj = true) →
   i ∈ Region.ready md ops listed → YieldsIf P ops (fun _ => True) oi v a →
   wpUntil P md ops Q S T fuel (listed.setIfInBounds i true) (a.put oi.dst v) w → wpUntil P md ops Q S T (fuel + 1) listed a w := by
 intro fuel
 induction fuel with
 | zero =>
  intro listed a w _ hr hy H
  refine ⟨fun h => (by rw [h] at hr; cases hr), fun j hj => ?_⟩
  by_cases hji : j = i
  ·subst hji
   exact hy.wpOp hi trivial ⟨fun _ h => h, H⟩
  ·have := ready_mono hj hji
   rw [H.1] at this
   cases this
 | succ fuel ih =>
  intro listed a w hfree hr hy H
  refine ⟨fun h => (by rw [h] at hr; cases hr), fun j hj => ?_⟩
  by_cases hji : j = i
  ·subst hji
   exact hy.wpOp hi trivial ⟨fun _ h => h, H⟩
  ·have h1 := H.2 j (ready_mono hj hji)
   obtain ⟨hjun, oj, hoj, hall⟩ := mem_ready.1 hj
   have hun := getD_both (mem_ready.1 hr).1
   have hnot : ∀ e ∈ oj.after, Region.binds md e = true → e.on ≠ i := fun e he hb heq => by
    have h1 := hall e he hb
    rw [heq, hun] at h1
    cases h1
   have h2 := wpOp_putIf hoj (hfree j oj hoj hji hjun hnot) (fun cs b => hsel i oi cs b hi) (fun cs b => hsel j oj cs b hoj) hQ hy h1
   have hfree' : ∀ k ok, ops[k]? = some ok → k ≠ i → (listed.setIfInBounds j true).getD k true = false →
     (∀ e ∈ ok.after, Region.binds md e = true → e.on ≠ i) → oi.apart ops ok = true := fun k ok hk hki hun hno => by
    refine hfree k ok hk hki ?_ hno
    by_cases hjk : j = k
    ·subst hjk
     exact hjun
    ·rw [_root_.Go.getD_set_ne true hjk] at hun
     exact hun
   refine wpOp_mono (fun a' w' h3 => ⟨h3.2.1, ih (listed.setIfInBounds j true) a' w' hfree' (ready_mono hr (Ne.symm hji)) h3.1 ?_⟩) h2
   rw [Array.setIfInBounds_comm _ _ hji]
   exact h3.2.2
def closedB (md : Region.Mode) (ops : Array Oper) (listed : Array Bool) : Bool :=
 (List.range ops.size).all fun j => match ops[j]? with
  | some oj => !(listed.getD j false) || oj.after.all fun e => !Region.binds md e || listed.getD e.on false
  | none => true
theorem closedB_spec {listed : Array Bool} (h : closedB md ops listed = true) : Closed md ops listed := by
 intro j oj hj hl e he hb
 have h1 := List.all_eq_true.1 h j (List.mem_range.2 (Array.getElem?_eq_some_iff.1 hj).1)
 rw [hj] at h1
 simp only [hl, Bool.not_true, Bool.false_or] at h1
 have h2 := Array.all_eq_true'.1 h1 e he
 rw [hb] at h2
 simpa using h2
def takeB (md : Region.Mode) (ops : Array Oper) (T : Nat → Bool) (listed : Array Bool) (i : Nat) : Bool :=
 Region.noSelect ops && Region.free md ops listed i && (Region.ready md ops listed).contains i && closedB md ops listed && (List.range ops.size).all fun t => !T t || needs md ops ops.size t i
theorem drop_at {l : List Oper} {i : Nat} {o : Oper} {rest : List Oper} (h : l.drop i = o :: rest) : l.toArray[i]? = some o := by
 have := congrArg (fun x : List Oper => x[0]?) h
 simpa [List.getElem?_drop] using this
theorem until_take {l : List Oper} (i : Nat) {oi : Oper} {rest : List Oper} {v : Value} {fuel : Nat} {listed : Array Bool} {a : Act} {w : World} (hd : l.drop i = oi :: rest) (hB : takeB md l.toArray T listed i = true)
  (hQ : ∀ c a w, Q (.panic c) (a.put oi.dst v) w → Q (.panic c) a w) (hw : Region.wanted oi (yielded l.toArray a.tmps) = true) (hy : ∀ w, S w → (execOp a.eval oi).run P w = .ok (.value v) w) (hS : S w)
  (h : wpUntil P md l.toArray Q S T fuel (listed.setIfInBounds i true) (a.put oi.dst v) w) : wpUntil P md l.toArray Q S T (fuel + 1) listed a w := by
 unfold takeB at hB
 simp only [Bool.and_eq_true] at hB
 obtain ⟨⟨⟨⟨hs, hf⟩, hr⟩, hc⟩, ht⟩ := hB
 refine wpUntil_first (drop_at hd) (Region.noSelect_spec hs) hQ (fun t htl htt => ?_) fuel listed a w (closedB_spec hc) (Region.free_spec (drop_at hd) hf) (by simpa using hr) (.inl ⟨hw, hy⟩) hS h
 have := List.all_eq_true.1 ht t (List.mem_range.2 htl)
 rw [htt] at this
 simpa using this
def pureB (md : Region.Mode) (ops : Array Oper) (listed : Array Bool) (i : Nat) : Bool := Region.noSelect ops && Region.free md ops listed i && (Region.ready md ops listed).contains i
theorem until_pure {l : List Oper} (i : Nat) {oi : Oper} {rest : List Oper} {v : Value} {fuel : Nat} {listed : Array Bool} {a : Act} {w : World} (hd : l.drop i = oi :: rest) (hB : pureB md l.toArray listed i = true)
  (hQ : ∀ c a w, Q (.panic c) (a.put oi.dst v) w → Q (.panic c) a w) (hw : Region.wanted oi (yielded l.toArray a.tmps) = true) (hy : ∀ w, (execOp a.eval oi).run P w = .ok (.value v) w)
  (h : wpUntil P md l.toArray Q S T fuel (listed.setIfInBounds i true) (a.put oi.dst v) w) : wpUntil P md l.toArray Q S T (fuel + 1) listed a w := by
 unfold pureB at hB
 simp only [Bool.and_eq_true] at hB
 obtain ⟨⟨hs, hf⟩, hr⟩ := hB
 exact wpUntil_pure (drop_at hd) (Region.noSelect_spec hs) hQ fuel listed a w (Region.free_spec (drop_at hd) hf) (by simpa using hr) (.inl ⟨hw, fun w _ => hy w⟩) h
theorem until_one {l : List Oper} (i : Nat) {oi : Oper} {rest : List Oper} {fuel : Nat} {listed : Array Bool} {a : Act} {w : World} (hd : l.drop i = oi :: rest) (hr : Region.ready md l.toArray listed = [i])
  (h : ∀ K : Act → World → Prop, Shut (∀ a' w', (T i = false → S w → S w') → wpUntil P md l.toArray Q S T fuel (listed.setIfInBounds i true) a' w' → K a' w') → if Region.wanted oi (yielded l.toArray a.tmps) = true then Oper.wp P oi a w K Q else K (a.put oi.dst undef) w) :
  wpUntil P md l.toArray Q S T (fuel + 1) listed a w := by
 refine ⟨fun h0 => (by rw [hr] at h0; cases h0), fun j hj => ?_⟩
 rw [hr] at hj
 obtain rfl : j = i := by simpa using hj
 exact wpOp_step (drop_at hd) (fun K hK => h K (fun a w h1 h2 => hK a w ⟨h1, h2⟩))
theorem until_done {listed : Array Bool} {a : Act} {w : World} (hr : Region.ready md ops listed = []) (h : Q .normal a w) : ∀ fuel, wpUntil P md ops Q S T fuel listed a w
 | 0 => ⟨hr, h⟩
 | _ + 1 => ⟨fun _ => h, by rw [hr]; simp⟩
theorem wp_region_until {id : Nat} {l : List Oper} {a : Act} {w : World} (S : World → Prop) (T : Nat → Bool) (n : Nat) (hn : l.length = n) (hm : P.follows .mixedOrders = true)
  (h : wpUntil P .any l.toArray Q S T n (Array.replicate n false) a w.drew) : (Code.region id l.toArray true).wp P Q a w := by
 subst hn
 exact wp_region_any hm (wpAny_of_until _ _ _ _ (by simpa using h))
end
end Go.Proofs.YtgillglkmnocaaaDoor
namespace Go.Proofs.YtgillglkmnocaaaDoor
open Go.ChangeShapes Go.WideShapes Go.ChangeAt Go.RowKit Go.PlainAid
set_option linter.unusedVariables false
def showB (r : Rcd) : ByteArray := txt [byt r.kind.toNat] ++ txt (vF 6 r.term.toNat) ++ txt (vF 6 r.index.toNat) ++ txt (vF 6 (r.vote + 1).toNat) ++ r.data
def showR (r : Rcd) : ByteArray := if recOk r = true then showB r else ⟨#[]⟩
theorem recOk_in (k t i v : Int) (d : ByteArray) (h : recOk ⟨k, t, i, v, d⟩ = true) : (1 ≤ k ∧ k ≤ 4) ∧ (0 ≤ t ∧ t ≤ 100000) ∧ (0 ≤ i ∧ i ≤ 100000) ∧ (-1 ≤ v ∧ v ≤ 4) ∧ d.size ≤ 900 := by
 have he : d = ByteArray.empty → d.size = 0 := fun h => by subst h; rfl
 rw [recOk_iff, Bool.and_eq_true] at h
 obtain ⟨h1, h2⟩ := h
 have h1 := of_decide_eq_true h1
 unfold rest0 at h2
 rcases (show k = 1 ∨ k = 2 ∨ k = 3 ∨ k = 4 by omega) with rfl | rfl | rfl | rfl
 ·simp at h2
  have := he h2.2
  omega
 ·simp at h2
  omega
 ·simp at h2
  have := he h2.2
  omega
 ·simp at h2
  have := he h2.2
  omega
theorem fixed_one (n : Nat) (h : n < 256) : fixed n 1 = txt [byt n] := by
 unfold fixed
 rw [if_pos (by rw [Nat.pow_one]; exact Nat.div_eq_of_lt h)]
 simp [low]
theorem vsize (n : Nat) : (txt (vF 6 n)).size ≤ 7 := by rw [txt_size]; exact vF_length 6 n
theorem conv_one (kn g cap : Nat) (w : World) (h : w.cell? ⟨g, 0, none⟩ = some (.int .u8 (kn : Int))) (hk : kn < 256) : (convert 22 9 (.slice (some ⟨g, 0, none⟩) 1 cap)).run Tryd.prog w = .ok (.string (txt [byt kn])) w := by
 refine run_convert_bytes_back (P := Tryd.prog) w 22 9 5 ⟨g, 0, none⟩ cap [byt kn] Tryd.underlying22 Tryd.underlying5 Tryd.underlying9 ?_
 intro j hj
 obtain rfl : j = 0 := by simp at hj; omega
 show w.cell? ⟨g, 0, none⟩ = _
 rw [h]
 have : (byt kn).toNat = kn := by rw [byt_toNat]; omega
 simp [this]
theorem byt_one (n : Nat) (h : n < 256) : IntKind.u8.wrap (n : Int) = (n : Int) := by rw [IntKind.wrap_u8']; omega
set_option maxHeartbeats 2000000 in
theorem implShowRec (r : Rcd) (w : World) (hd : r.data.size ≤ 1048576) : Calls Tryd.prog 17 #[vRcd r] w fun e w' => e = .returned (.string (showR r)) ∧ Below w.heap.size w w' := by
 have c1 := fun wx => implRecOk r wx (by unfold maxLen; omega)
 obtain ⟨k, t, i, v, d⟩ := r
 unfold vRcd at *
 simp only at hd c1 ⊢
 have hb0 : Below w.heap.size w (w.alloc (.cells #[.int .i64 k, .int .i64 t, .int .i64 i, .int .i64 v, .string d] 55)) := (Below.refl _ _).alloc (Nat.le_refl _) _
 have k0 := Blk.new w #[.int .i64 k, .int .i64 t, .int .i64 i, .int .i64 v, .string d] 55
 have HE : Hid (showR ⟨k, t, i, v, d⟩ = if recOk ⟨k, t, i, v, d⟩ = true then showB ⟨k, t, i, v, d⟩ else ⟨#[]⟩) := rfl
 cases ho : recOk ⟨k, t, i, v, d⟩ <;> rw [ho] at c1 HE
 ·clear ho
  go_enter Tryd.func17, Tryd.ntmps17
  go_wp2_with fail
  generalize w.alloc (.cells #[.int .i64 k, .int .i64 t, .int .i64 i, .int .i64 v, .string d] 55) = W at *
  refine (c1 _).mono ?_
  rintro e w1 ⟨rfl, hb1⟩
  have B1 : Hid (Below w.heap.size w w1) := hb0.trans (hb1.mono hb0.size)
  clear hb0 hb1 c1 k0
  go_wp2_with fail
  go_ret
  exact ⟨by rw [HE.out]; rfl, B1.out⟩
 ·obtain ⟨⟨k1, k2⟩, ⟨t1, t2⟩, ⟨i1, i2⟩, ⟨v1, v2⟩, d1⟩ := recOk_in k t i v d ho
  clear ho
  have HE : Hid (showR ⟨k, t, i, v, d⟩ = txt [byt k.toNat] ++ txt (vF 6 t.toNat) ++ txt (vF 6 i.toNat) ++ txt (vF 6 (v + 1).toNat) ++ d) := by unfold Hid; rw [HE.out]; rfl
  obtain ⟨kn, rfl⟩ : ∃ n : Nat, k = (n : Int) := ⟨k.toNat, by omega⟩
  obtain ⟨tn, rfl⟩ : ∃ n : Nat, t = (n : Int) := ⟨t.toNat, by omega⟩
  obtain ⟨jn, rfl⟩ : ∃ n : Nat, i = (n : Int) := ⟨i.toNat, by omega⟩
  obtain ⟨vn, hvn⟩ : ∃ n : Nat, v + 1 = (n : Int) := ⟨(v + 1).toNat, by omega⟩
  rw [hvn, Int.toNat_natCast, Int.toNat_natCast, Int.toNat_natCast, Int.toNat_natCast] at HE
  have hw1 : IntKind.i64.wrap (v + 1) = (vn : Int) := by rw [IntKind.wrap_i64]; omega
  have hw2 : wrap64 (v + 1) = (vn : Int) := by unfold wrap64; omega
  have hfx := fixed_one kn (by omega)
  have HK : Hid (kn < 256) := by unfold Hid; omega
  have n1 : kn ≤ 4 := by omega
  have n2 : tn ≤ 100000 := by omega
  have n3 : jn ≤ 100000 := by omega
  have n4 : vn ≤ 5 := by omega
  have s0 : (txt [byt kn]).size = 1 := by rw [txt_size]; rfl
  have s1 := vsize tn
  have s2 := vsize jn
  have s3 := vsize vn
  have hu8 := byt_one kn (by omega)
  have hcell := one_cell (kn : Int) kn rfl (by omega)
  clear k1 k2 t1 t2 i1 i2 v1 v2
  go_enter Tryd.func17, Tryd.ntmps17
  go_wp2_with fail
  generalize w.alloc (.cells #[.int .i64 (kn : Int), .int .i64 (tn : Int), .int .i64 (jn : Int), .int .i64 v, .string d] 55) = W at *
  refine (c1 _).mono ?_
  rintro e w1 ⟨rfl, hb1⟩
  have B1 : Hid (Below w.heap.size w w1) := hb0.trans (hb1.mono hb0.size)
  have k1 := k0.on hb1 k0.lt
  have HW : Hid (w.heap.size < w1.drew.heap.size) := k1.lt
  have Z1 : Hid (w.heap.size ≤ w1.heap.size) := B1.out.size
  clear hb0 hb1 c1 k0
  have e0 : w1.drew.cell? ⟨w.heap.size, 0, none⟩ = some (.int .i64 (kn : Int)) := k1.cell 0 _ rfl
  have e1 : w1.drew.cell? ⟨w.heap.size, 1, none⟩ = some (.int .i64 (tn : Int)) := k1.cell 1 _ rfl
  have e2 : w1.drew.cell? ⟨w.heap.size, 2, none⟩ = some (.int .i64 (jn : Int)) := k1.cell 2 _ rfl
  have e3 : w1.drew.cell? ⟨w.heap.size, 3, none⟩ = some (.int .i64 v) := k1.cell 3 _ rfl
  have e4 : w1.drew.cell? ⟨w.heap.size, 4, none⟩ = some (.string d) := k1.cell 4 _ rfl
  have S0 : Hid (w1.drew.cell? ⟨w.heap.size, 0, none⟩ = some (.int .i64 (kn : Int)) ∧ w1.drew.cell? ⟨w.heap.size, 1, none⟩ = some (.int .i64 (tn : Int)) ∧ w1.drew.cell? ⟨w.heap.size, 2, none⟩ = some (.int .i64 (jn : Int)) ∧ w1.drew.cell? ⟨w.heap.size, 3, none⟩ = some (.int .i64 v) ∧ w1.drew.cell? ⟨w.heap.size, 4, none⟩ = some (.string d)) := ⟨e0, e1, e2, e3, e4⟩
  have KK : Hid (Blk w1 w.heap.size _ _) := k1
  clear k1
  have cF : ∀ wx, Calls Tryd.prog 32 #[.int .i64 (kn : Int), .int .i64 1] wx fun e w' => e = .returned (.string (txt [byt kn])) ∧ Below wx.heap.size wx w' := fun wx => by
   have h := impl_fixed kn 1 wx (by omega) (by omega) (by omega)
   rw [hfx] at h
   exact h
  have cC : ∀ g wx, wx.cell? ⟨g, 0, none⟩ = some (.int .u8 (kn : Int)) → (convert 22 9 (.slice (some ⟨g, 0, none⟩) 1 1)).run Tryd.prog wx = .ok (.string (txt [byt kn])) wx := fun g wx h => conv_one kn g 1 wx h HK.out
  have cT := fun wx => impl_var tn wx (by omega)
  have cJ := fun wx => impl_var jn wx (by omega)
  have cV : ∀ x wx, x = (vn : Int) → Calls Tryd.prog 34 #[.int .i64 x] wx fun e w' => e = .returned (.string (txt (vF 6 vn))) ∧ Below wx.heap.size wx w' := fun x wx hx => by rw [hx]; exact impl_var vn wx (by omega)
  generalize txt [byt kn] = a0 at *
  generalize txt (vF 6 tn) = a1 at *
  generalize txt (vF 6 jn) = a2 at *
  generalize txt (vF 6 vn) = a3 at *
  have g1 : ¬ 9223372036854775807 < a0.size + a1.size := by omega
  have g2 : ¬ 9223372036854775807 < (a0 ++ a1).size + a2.size := by rw [ByteArray.size_append]; omega
  have g2' : ¬ 9223372036854775807 < a0.size + a1.size + a2.size := by omega
  have g3 : ¬ 9223372036854775807 < (a0 ++ a1 ++ a2).size + a3.size := by rw [ByteArray.size_append, ByteArray.size_append]; omega
  have g3' : ¬ 9223372036854775807 < a0.size + a1.size + a2.size + a3.size := by omega
  have g4 : ¬ 9223372036854775807 < (a0 ++ a1 ++ a2 ++ a3).size + d.size := by rw [ByteArray.size_append, ByteArray.size_append, ByteArray.size_append]; omega
  have g4' : ¬ 9223372036854775807 < a0.size + a1.size + a2.size + a3.size + d.size := by omega
  clear hfx s0 s1 s2 s3 hcell
  clear e0 e1 e2 e3 e4
  have K0 : Hid (Blk w1.drew w.heap.size #[.int .i64 (kn : Int), .int .i64 (tn : Int), .int .i64 (jn : Int), .int .i64 v, .string d] 55) := KK.out
  have D0 : Hid (Below w.heap.size w w1.drew) := B1.out.drew
  go_wp2_with fail
  refine wp_region_until (fun w' => w'.cell? ⟨w.heap.size, 0, none⟩ = some (.int .i64 (kn : Int)) ∧ w'.cell? ⟨w.heap.size, 1, none⟩ = some (.int .i64 (tn : Int)) ∧ w'.cell? ⟨w.heap.size, 2, none⟩ = some (.int .i64 (jn : Int)) ∧ w'.cell? ⟨w.heap.size, 3, none⟩ = some (.int .i64 v) ∧ w'.cell? ⟨w.heap.size, 4, none⟩ = some (.string d)) (fun i => false) 20 (by rfl) (by kernel_rfl) ?_
  generalize w1.drew = X at *
  refine until_take 0 (v := ?vq1) (by rfl) (by kernel_rfl) (by exact fun _ _ _ h => h) (by rfl) ?hyq1 S0.out ?rq1
  case hyq1 =>
   intro w hSw
   try dsimp only at hSw
   go_simp
   try with_reducible rfl
  try simp only [Act.put, setIfInBounds_toArray, set_cons_zero, set_cons_succ]
  refine until_take 1 (v := ?vq2) (by rfl) (by kernel_rfl) (by exact fun _ _ _ h => h) (by rfl) ?hyq2 S0.out ?rq2
  case hyq2 =>
   intro w hSw
   try dsimp only at hSw
   go_simp
   try with_reducible rfl
  try simp only [Act.put, setIfInBounds_toArray, set_cons_zero, set_cons_succ]
  refine until_take 3 (v := ?vq3) (by rfl) (by kernel_rfl) (by exact fun _ _ _ h => h) (by rfl) ?hyq3 S0.out ?rq3
  case hyq3 =>
   intro w hSw
   try dsimp only at hSw
   go_simp
   try with_reducible rfl
  try simp only [Act.put, setIfInBounds_toArray, set_cons_zero, set_cons_succ]
  refine until_take 4 (v := ?vq4) (by rfl) (by kernel_rfl) (by exact fun _ _ _ h => h) (by rfl) ?hyq4 S0.out ?rq4
  case hyq4 =>
   intro w hSw
   try dsimp only at hSw
   go_simp
   try with_reducible rfl
  try simp only [Act.put, setIfInBounds_toArray, set_cons_zero, set_cons_succ]
  refine until_take 7 (v := ?vq5) (by rfl) (by kernel_rfl) (by exact fun _ _ _ h => h) (by rfl) ?hyq5 S0.out ?rq5
  case hyq5 =>
   intro w hSw
   try dsimp only at hSw
   go_simp
   try with_reducible rfl
  try simp only [Act.put, setIfInBounds_toArray, set_cons_zero, set_cons_succ]
  refine until_take 8 (v := ?vq6) (by rfl) (by kernel_rfl) (by exact fun _ _ _ h => h) (by rfl) ?hyq6 S0.out ?rq6
  case hyq6 =>
   intro w hSw
   try dsimp only at hSw
   go_simp
   try with_reducible rfl
  try simp only [Act.put, setIfInBounds_toArray, set_cons_zero, set_cons_succ]
  refine until_take 11 (v := ?vq7) (by rfl) (by kernel_rfl) (by exact fun _ _ _ h => h) (by rfl) ?hyq7 S0.out ?rq7
  case hyq7 =>
   intro w hSw
   try dsimp only at hSw
   go_simp
   try with_reducible rfl
  try simp only [Act.put, setIfInBounds_toArray, set_cons_zero, set_cons_succ]
  refine until_take 12 (v := ?vq8) (by rfl) (by kernel_rfl) (by exact fun _ _ _ h => h) (by rfl) ?hyq8 S0.out ?rq8
  case hyq8 =>
   intro w hSw
   try dsimp only at hSw
   go_simp
   try with_reducible rfl
  try simp only [Act.put, setIfInBounds_toArray, set_cons_zero, set_cons_succ]
  refine until_pure 13 (v := ?vq9) (by rfl) (by kernel_rfl) (by exact fun _ _ _ h => h) (by rfl) ?hyq9 ?rq9
  case hyq9 =>
   intro w
   go_simp
   try with_reducible rfl
  try simp only [Act.put, setIfInBounds_toArray, set_cons_zero, set_cons_succ]
  refine until_take 16 (v := ?vq10) (by rfl) (by kernel_rfl) (by exact fun _ _ _ h => h) (by rfl) ?hyq10 S0.out ?rq10
  case hyq10 =>
   intro w hSw
   try dsimp only at hSw
   go_simp
   try with_reducible rfl
  try simp only [Act.put, setIfInBounds_toArray, set_cons_zero, set_cons_succ]
  refine until_take 17 (v := ?vq11) (by rfl) (by kernel_rfl) (by exact fun _ _ _ h => h) (by rfl) ?hyq11 S0.out ?rq11
  case hyq11 =>
   intro w hSw
   try dsimp only at hSw
   go_simp
   try with_reducible rfl
  try simp only [Act.put, setIfInBounds_toArray, set_cons_zero, set_cons_succ]
  refine until_one 2 (by rfl) (by kernel_rfl) (fun K hK => ?_)
  go_simp
  refine (cF _).mono ?_
  rintro e X1 ⟨rfl, hb1⟩
  have K1 : Hid (Blk X1 w.heap.size #[.int .i64 (kn : Int), .int .i64 (tn : Int), .int .i64 (jn : Int), .int .i64 v, .string d] 55) := K0.out.on hb1 K0.out.lt
  have D1 : Hid (Below w.heap.size w X1) := D0.out.trans (hb1.mono D0.out.size)
  clear hb1
  go_wp2_with fail
  refine hK.out _ _ (fun _ _ => ⟨K1.out.cell 0 _ rfl, K1.out.cell 1 _ rfl, K1.out.cell 2 _ rfl, K1.out.cell 3 _ rfl, K1.out.cell 4 _ rfl⟩) ?_
  clear hK K
  try simp only [Act.put, setIfInBounds_toArray, set_cons_zero, set_cons_succ]
  refine until_one 5 (by rfl) (by kernel_rfl) (fun K hK => ?_)
  go_simp
  refine (cT _).mono ?_
  rintro e X2 ⟨rfl, hb2⟩
  have K2 : Hid (Blk X2 w.heap.size #[.int .i64 (kn : Int), .int .i64 (tn : Int), .int .i64 (jn : Int), .int .i64 v, .string d] 55) := K1.out.on hb2 K1.out.lt
  have D2 : Hid (Below w.heap.size w X2) := D1.out.trans (hb2.mono D1.out.size)
  clear hb2
  go_wp2_with fail
  refine hK.out _ _ (fun _ _ => ⟨K2.out.cell 0 _ rfl, K2.out.cell 1 _ rfl, K2.out.cell 2 _ rfl, K2.out.cell 3 _ rfl, K2.out.cell 4 _ rfl⟩) ?_
  clear hK K
  try simp only [Act.put, setIfInBounds_toArray, set_cons_zero, set_cons_succ]
  refine until_pure 6 (v := ?vq12) (by rfl) (by kernel_rfl) (by exact fun _ _ _ h => h) (by rfl) ?hyq12 ?rq12
  case hyq12 =>
   intro w
   go_simp
   try with_reducible rfl
  try simp only [Act.put, setIfInBounds_toArray, set_cons_zero, set_cons_succ]
  refine until_one 9 (by rfl) (by kernel_rfl) (fun K hK => ?_)
  go_simp
  refine (cJ _).mono ?_
  rintro e X3 ⟨rfl, hb3⟩
  have K3 : Hid (Blk X3 w.heap.size #[.int .i64 (kn : Int), .int .i64 (tn : Int), .int .i64 (jn : Int), .int .i64 v, .string d] 55) := K2.out.on hb3 K2.out.lt
  have D3 : Hid (Below w.heap.size w X3) := D2.out.trans (hb3.mono D2.out.size)
  clear hb3
  go_wp2_with fail
  refine hK.out _ _ (fun _ _ => ⟨K3.out.cell 0 _ rfl, K3.out.cell 1 _ rfl, K3.out.cell 2 _ rfl, K3.out.cell 3 _ rfl, K3.out.cell 4 _ rfl⟩) ?_
  clear hK K
  try simp only [Act.put, setIfInBounds_toArray, set_cons_zero, set_cons_succ]
  refine until_pure 10 (v := ?vq13) (by rfl) (by kernel_rfl) (by exact fun _ _ _ h => h) (by rfl) ?hyq13 ?rq13
  case hyq13 =>
   intro w
   go_simp
   try with_reducible rfl
  try simp only [Act.put, setIfInBounds_toArray, set_cons_zero, set_cons_succ]
  refine until_one 14 (by rfl) (by kernel_rfl) (fun K hK => ?_)
  go_simp
  refine (cV _ _ (by first | exact hw1 | exact hw2 | exact hvn | (rw [IntKind.wrap_i64]; omega) | omega)).mono ?_
  rintro e X4 ⟨rfl, hb4⟩
  have K4 : Hid (Blk X4 w.heap.size #[.int .i64 (kn : Int), .int .i64 (tn : Int), .int .i64 (jn : Int), .int .i64 v, .string d] 55) := K3.out.on hb4 K3.out.lt
  have D4 : Hid (Below w.heap.size w X4) := D3.out.trans (hb4.mono D3.out.size)
  clear hb4
  go_wp2_with fail
  refine hK.out _ _ (fun _ _ => ⟨K4.out.cell 0 _ rfl, K4.out.cell 1 _ rfl, K4.out.cell 2 _ rfl, K4.out.cell 3 _ rfl, K4.out.cell 4 _ rfl⟩) ?_
  clear hK K
  try simp only [Act.put, setIfInBounds_toArray, set_cons_zero, set_cons_succ]
  refine until_pure 15 (v := ?vq14) (by rfl) (by kernel_rfl) (by exact fun _ _ _ h => h) (by rfl) ?hyq14 ?rq14
  case hyq14 =>
   intro w
   go_simp
   try with_reducible rfl
  try simp only [Act.put, setIfInBounds_toArray, set_cons_zero, set_cons_succ]
  refine until_pure 18 (v := ?vq15) (by rfl) (by kernel_rfl) (by exact fun _ _ _ h => h) (by rfl) ?hyq15 ?rq15
  case hyq15 =>
   intro w
   go_simp
   try with_reducible rfl
  try simp only [Act.put, setIfInBounds_toArray, set_cons_zero, set_cons_succ]
  refine until_pure 19 (v := ?vq16) (by rfl) (by kernel_rfl) (by exact fun _ _ _ h => h) (by rfl) ?hyq16 ?rq16
  case hyq16 =>
   intro w
   go_simp
   try with_reducible rfl
  try simp only [Act.put, setIfInBounds_toArray, set_cons_zero, set_cons_succ]
  refine until_done (by kernel_rfl) ?_ _
  go_wp2_with fail
  go_ret
  exact ⟨by rw [HE.out]; rfl, D4.out⟩
end Go.Proofs.YtgillglkmnocaaaDoor
namespace Go.Proofs.YtgillglkmnocaaaDoor
open Go.ChangeShapes Go.WideShapes Go.ChangeAt Go.RowKit Go.PlainAid
set_option linter.unusedVariables false
def ReadV (s : ByteArray) (e : Ending) : Prop :=
 (∃ k : Nat, FindV s k ∧ e = .returned (.tuple #[.int .i64 (vvS s 0 k : Int), .int .i64 (k : Int)])) ∨ ((∀ k, ¬ FindV s k) ∧ e = .returned (.tuple #[.int .i64 0, .int .i64 0]))
theorem vvS_or (s : ByteArray) (k : Nat) (h : k < 7) : bits .or .i64 (vvS s 0 k : Int) (wrap64 ((bn s k : Int) % 128 * 2 ^ (7 * k))) = (vvS s 0 (k + 1) : Int) := by
 have h1 := vvS_lt s k 0
 have h2 := vvS_le s (k + 1) (by omega) 0
 have e := vvS_snoc s k 0
 rw [Nat.zero_add] at e
 have e2 : (128 : Nat) ^ k = 2 ^ (7 * k) := by rw [Nat.pow_mul]
 have c : (bn s k : Int) % 128 * 2 ^ (7 * k) = ((bn s k % 128 * 2 ^ (7 * k) : Nat) : Int) := by norm_cast
 rw [e2] at e h1
 rw [c, IntWalk.wrap64_in _ ⟨by omega, by omega⟩]
 have j := or_join (7 * k) (bn s k % 128 * 2 ^ (7 * k)) (vvS s 0 k) (Nat.mul_mod_left _ _) h1 (by omega)
 have comm : bits .or .i64 (vvS s 0 k : Int) ((bn s k % 128 * 2 ^ (7 * k) : Nat) : Int) = bits .or .i64 ((bn s k % 128 * 2 ^ (7 * k) : Nat) : Int) (vvS s 0 k : Int) := by
  show IntKind.i64.wrap ((BitVec.ofInt 64 _ ||| BitVec.ofInt 64 _).toNat : Int) = IntKind.i64.wrap ((BitVec.ofInt 64 _ ||| BitVec.ofInt 64 _).toNat : Int)
  rw [BitVec.or_comm]
 rw [comm, j, e, Nat.add_comm]
theorem find_stop (s : ByteArray) (k : Nat) (hk : k < 7) (hs : k < s.size) (hj : ∀ j, j < k → 128 ≤ bn s j) (hc : bn s k < 128) (hz : k = 0 ∨ bn s k ≠ 0) : FindV s (k + 1) :=
 ⟨by omega, by omega, by omega, (canonS_char s k 0).2 ⟨by intro j h; rw [Nat.zero_add]; exact hj j h, by rw [Nat.zero_add]; exact hc, by rw [Nat.zero_add]; exact hz⟩⟩
theorem find_zero (s : ByteArray) (k : Nat) (hj : ∀ j, j < k → 128 ≤ bn s j) (hc : bn s k = 0) (hk : 0 < k) : ∀ m, ¬ FindV s m := by
 rintro m ⟨h1, h2, h3, h4⟩
 obtain ⟨d, rfl⟩ : ∃ d, m = d + 1 := ⟨m - 1, by omega⟩
 obtain ⟨c1, c2, c3⟩ := (canonS_char s d 0).1 h4
 rw [Nat.zero_add] at c2 c3
 rcases Nat.lt_trichotomy d k with h | h | h
 ·have := hj d h; omega
 ·subst h; omega
 ·have := c1 k h; rw [Nat.zero_add] at this; omega
theorem find_end (s : ByteArray) (L : Nat) (hj : ∀ j, j < L → 128 ≤ bn s j) (hL : 7 ≤ L ∨ s.size ≤ L) : ∀ m, ¬ FindV s m := by
 rintro m ⟨h1, h2, h3, h4⟩
 obtain ⟨d, rfl⟩ : ∃ d, m = d + 1 := ⟨m - 1, by omega⟩
 obtain ⟨c1, c2, c3⟩ := (canonS_char s d 0).1 h4
 rw [Nat.zero_add] at c2
 have := hj d (by omega)
 omega
theorem ret_ints {a b c d : Int} (h : a = b) (h' : c = d) : Ending.returned (.tuple #[.int .i64 a, .int .i64 c]) = .returned (.tuple #[.int .i64 b, .int .i64 d]) := by rw [h, h']
set_option maxHeartbeats 1000000 in
theorem impl_readVar_long (s : ByteArray) (w : World) (hs : s.size ≤ 1048576) (h7 : (7 : Int) < (s.size : Int)) :
  Calls Tryd.prog 37 #[.string s] w fun e w' => ReadV s e ∧ w = w' := by
 have q1 : (s.size : Int) ≤ 1048576 := by omega
 have hbt := get_bn s
 go_enter Tryd.func37, Tryd.ntmps37
 go_wp2
 go_loop [4, 10] (fun v4 v10 => ∃ k : Nat, k ≤ 7 ∧ v10 = .int .i64 k ∧ v4 = .int .i64 (vvS s 0 k) ∧ Hid (∀ j, j < k → 128 ≤ bn s j)) (fun _ i => 7 - (intOf i).toNat)
 case atStart => exact ⟨0, by omega, rfl, rfl, fun j hj => absurd hj (by omega)⟩
 case round =>
  obtain ⟨k, hk, rfl, rfl, HJ⟩ := hrel
  by_cases hlt : k < 7
  ·have r1 := bn_lt s k
   have HO : Hid (bits .or .i64 (vvS s 0 k : Int) (wrap64 ((bn s k : Int) % 128 * 2 ^ (7 * k))) = (vvS s 0 (k + 1) : Int)) := vvS_or s k (by omega)
   by_cases hc : (128 : Int) ≤ (bn s k : Int)
   ·go_wp2
    go_round
    case rel =>
     refine ⟨k + 1, by omega, by go_num, by rw [HO.out], ?_⟩
     intro j hj
     by_cases e : j = k
     ·subst e; omega
     ·exact HJ.out j (by omega)
    case measure => simp [intOf]; omega
   ·by_cases hz : bn s k = 0
    ·by_cases hk0 : k = 0
     ·have HF : Hid (FindV s (k + 1)) := find_stop s k (by omega) (by omega) HJ.out (by omega) (.inl hk0)
      have z1 : ((bn s k : Int) == 0) = true := by simp; omega
      have z2 : (k : Int) ≤ 0 := by omega
      clear hk0 hz
      go_wp2
      go_ret2
      exact ⟨.inl ⟨k + 1, HF.out, ret_ints HO.out (by omega)⟩, rfl⟩
     ·have HF : Hid (∀ m, ¬ FindV s m) := find_zero s k HJ.out hz (by omega)
      have z1 : ((bn s k : Int) == 0) = true := by simp; omega
      have z2 : (0 : Int) < (k : Int) := by omega
      clear hz
      go_wp2
      go_ret2
      exact ⟨.inr ⟨HF.out, rfl⟩, rfl⟩
    ·have HF : Hid (FindV s (k + 1)) := find_stop s k (by omega) (by omega) HJ.out (by omega) (.inr hz)
     have z1 : ((bn s k : Int) == 0) = false := by simp; omega
     go_wp2
     go_ret2
     exact ⟨.inl ⟨k + 1, HF.out, ret_ints HO.out (by omega)⟩, rfl⟩
  ·have HF : Hid (∀ m, ¬ FindV s m) := find_end s k HJ.out (by omega)
   go_wp2
   go_ret2
   exact ⟨.inr ⟨HF.out, rfl⟩, rfl⟩
set_option maxHeartbeats 1000000 in
theorem impl_readVar_short (s : ByteArray) (w : World) (hs : s.size ≤ 1048576) (h7 : (s.size : Int) ≤ 7) :
  Calls Tryd.prog 37 #[.string s] w fun e w' => ReadV s e ∧ w = w' := by
 have q1 : (s.size : Int) ≤ 1048576 := by omega
 have hbt := get_bn s
 go_enter Tryd.func37, Tryd.ntmps37
 go_wp2
 go_loop [4, 10] (fun v4 v10 => ∃ k : Nat, k ≤ s.size ∧ v10 = .int .i64 k ∧ v4 = .int .i64 (vvS s 0 k) ∧ Hid (∀ j, j < k → 128 ≤ bn s j)) (fun _ i => s.size - (intOf i).toNat)
 case atStart => exact ⟨0, by omega, rfl, rfl, fun j hj => absurd hj (by omega)⟩
 case round =>
  obtain ⟨k, hk, rfl, rfl, HJ⟩ := hrel
  by_cases hlt : k < s.size
  ·have r1 := bn_lt s k
   have HO : Hid (bits .or .i64 (vvS s 0 k : Int) (wrap64 ((bn s k : Int) % 128 * 2 ^ (7 * k))) = (vvS s 0 (k + 1) : Int)) := vvS_or s k (by omega)
   by_cases hc : (128 : Int) ≤ (bn s k : Int)
   ·go_wp2
    go_round
    case rel =>
     refine ⟨k + 1, by omega, by go_num, by rw [HO.out], ?_⟩
     intro j hj
     by_cases e : j = k
     ·subst e; omega
     ·exact HJ.out j (by omega)
    case measure => simp [intOf]; omega
   ·by_cases hz : bn s k = 0
    ·by_cases hk0 : k = 0
     ·have HF : Hid (FindV s (k + 1)) := find_stop s k (by omega) (by omega) HJ.out (by omega) (.inl hk0)
      have z1 : ((bn s k : Int) == 0) = true := by simp; omega
      have z2 : (k : Int) ≤ 0 := by omega
      clear hk0 hz
      go_wp2
      go_ret2
      exact ⟨.inl ⟨k + 1, HF.out, ret_ints HO.out (by omega)⟩, rfl⟩
     ·have HF : Hid (∀ m, ¬ FindV s m) := find_zero s k HJ.out hz (by omega)
      have z1 : ((bn s k : Int) == 0) = true := by simp; omega
      have z2 : (0 : Int) < (k : Int) := by omega
      clear hz
      go_wp2
      go_ret2
      exact ⟨.inr ⟨HF.out, rfl⟩, rfl⟩
    ·have HF : Hid (FindV s (k + 1)) := find_stop s k (by omega) (by omega) HJ.out (by omega) (.inr hz)
     have z1 : ((bn s k : Int) == 0) = false := by simp; omega
     go_wp2
     go_ret2
     exact ⟨.inl ⟨k + 1, HF.out, ret_ints HO.out (by omega)⟩, rfl⟩
  ·have HF : Hid (∀ m, ¬ FindV s m) := find_end s k HJ.out (by omega)
   go_wp2
   go_ret2
   exact ⟨.inr ⟨HF.out, rfl⟩, rfl⟩
theorem impl_readVar (s : ByteArray) (w : World) (hs : s.size ≤ 1048576) :
  Calls Tryd.prog 37 #[.string s] w fun e w' => ReadV s e ∧ w = w' := by
 by_cases h : (7 : Int) < (s.size : Int)
 ·exact impl_readVar_long s w hs h
 ·exact impl_readVar_short s w hs (by omega)
end Go.Proofs.YtgillglkmnocaaaDoor
namespace Go.Proofs.YtgillglkmnocaaaDoor
open Go.RowKit
def cloneRen : Go.Shelf.Ren := ⟨fun _ => 50, fun | 37 => 22 | 47 => 81 | t => t, fun g => g⟩
theorem clone_lays : Go.Proofs.LaysPu.n25 Tryd.prog cloneRen where
 mixed := by kernel_rfl
 f25 := Tryd.func50.trans (congrArg some (by kernel_rfl))
 t0 := Tryd.underlying0
 a0 := Tryd.isAgg0
 z0 := Tryd.sizeOf0
 v0 := Tryd.zeroValue0
 i0 := by kernel_rfl
 t3 := Tryd.underlying3
 a3 := Tryd.isAgg3
 z3 := Tryd.sizeOf3
 v3 := Tryd.zeroValue3
 i3 := by kernel_rfl
 t4 := Tryd.underlying4
 a4 := Tryd.isAgg4
 z4 := Tryd.sizeOf4
 v4 := Tryd.zeroValue4
 i4 := by kernel_rfl
 t5 := Tryd.underlying5
 a5 := Tryd.isAgg5
 z5 := Tryd.sizeOf5
 v5 := Tryd.zeroValue5
 i5 := by kernel_rfl
 t9 := Tryd.underlying9
 a9 := Tryd.isAgg9
 z9 := Tryd.sizeOf9
 v9 := Tryd.zeroValue9
 i9 := by kernel_rfl
 t37 := Tryd.underlying22
 a37 := Tryd.isAgg22
 z37 := Tryd.sizeOf22
 v37 := Tryd.zeroValue22
 i37 := by kernel_rfl
 t47 := Tryd.underlying81
 a47 := Tryd.isAgg81
 z47 := Tryd.sizeOf81
 v47 := Tryd.zeroValue81
 i47 := by kernel_rfl
theorem clone (s : ByteArray) (w : World) (hs : s.size ≤ 281474976710656) :
  Calls Tryd.prog 41 #[.string s] w fun e w' => e = .returned (.string s) ∧ Below w.heap.size w w' := by
 have c1 : Calls Tryd.prog 50 #[.string s] w fun e w' => e = .returned (.string s) ∧ Below w.heap.size w w' := AnyPu.stringslite_Clone clone_lays s w hs
 clear hs
 go_enter Tryd.func41, Tryd.ntmps41
 go_wp2_with fail
 refine c1.mono ?_
 rintro e w1 ⟨rfl, hb1⟩
 go_wp2_with fail
 go_ret
 exact ⟨rfl, hb1⟩
end Go.Proofs.YtgillglkmnocaaaDoor
namespace Go.Proofs.YtgillglkmnocaaaDoor
open Go.ChangeShapes Go.WideShapes Go.ChangeAt Go.RowKit Go.PlainAid
set_option linter.unusedVariables false
theorem irv_yes (s : ByteArray) (k : Nat) (hs : s.size ≤ 1048576) (h : FindV s k) (w : World) : Calls Tryd.prog 37 #[.string s] w fun e w' => e = .returned (.tuple #[.int .i64 (vvS s 0 k : Int), .int .i64 (k : Int)]) ∧ w = w' := by
 refine (impl_readVar s w hs).mono ?_
 rintro e w' ⟨⟨k', hk', rfl⟩ | ⟨hn, rfl⟩, rfl⟩
 ·obtain rfl := FindV.one h hk'
  exact ⟨rfl, rfl⟩
 ·exact absurd h (hn k)
theorem irv_no (s : ByteArray) (hs : s.size ≤ 1048576) (h : ∀ k, ¬ FindV s k) (w : World) : Calls Tryd.prog 37 #[.string s] w fun e w' => e = .returned (.tuple #[.int .i64 0, .int .i64 0]) ∧ w = w' := by
 refine (impl_readVar s w hs).mono ?_
 rintro e w' ⟨⟨k', hk', rfl⟩ | ⟨hn, rfl⟩, rfl⟩
 ·exact absurd hk' (h k')
 ·exact ⟨rfl, rfl⟩
theorem rdv_one (s : ByteArray) : rdv s 1 = bn s 0 := by simp [rdv]
structure Parts (s s1 s2 s3 s4 : ByteArray) (k1 k2 k3 : Nat) : Prop where
 h0 : 1 ≤ s.size
 e1 : s1 = s.extract 1 s.size
 f1 : FindV s1 k1
 e2 : s2 = s1.extract k1 s1.size
 f2 : FindV s2 k2
 e3 : s3 = s2.extract k2 s2.size
 f3 : FindV s3 k3
 e4 : s4 = s3.extract k3 s3.size
def partsR (s s1 s2 s3 s4 : ByteArray) (k1 k2 k3 : Nat) : Rcd := ⟨bn s 0, vvS s1 0 k1, vvS s2 0 k2, (vvS s3 0 k3 : Int) - 1, s4⟩
def NoParts (s : ByteArray) : Prop := s.size = 0 ∨ (1 ≤ s.size ∧ ((∀ k, ¬ FindV (s.extract 1 s.size) k) ∨ ∃ s1 k1, s1 = s.extract 1 s.size ∧ FindV s1 k1 ∧ ((∀ k, ¬ FindV (s1.extract k1 s1.size) k) ∨ ∃ s2 k2, s2 = s1.extract k1 s1.size ∧ FindV s2 k2 ∧ ∀ k, ¬ FindV (s2.extract k2 s2.size) k)))
theorem parts_or (s : ByteArray) : NoParts s ∨ ∃ s1 s2 s3 s4 k1 k2 k3, Parts s s1 s2 s3 s4 k1 k2 k3 := by
 by_cases h0 : s.size = 0
 ·exact .inl (.inl h0)
 by_cases h1 : ∃ k, FindV (s.extract 1 s.size) k
 rotate_left
 ·exact .inl (.inr ⟨by omega, .inl fun k h => h1 ⟨k, h⟩⟩)
 obtain ⟨k1, h1⟩ := h1
 by_cases h2 : ∃ k, FindV ((s.extract 1 s.size).extract k1 (s.extract 1 s.size).size) k
 rotate_left
 ·exact .inl (.inr ⟨by omega, .inr ⟨_, k1, rfl, h1, .inl fun k h => h2 ⟨k, h⟩⟩⟩)
 obtain ⟨k2, h2⟩ := h2
 by_cases h3 : ∃ k, FindV (((s.extract 1 s.size).extract k1 (s.extract 1 s.size).size).extract k2 ((s.extract 1 s.size).extract k1 (s.extract 1 s.size).size).size) k
 rotate_left
 ·exact .inl (.inr ⟨by omega, .inr ⟨_, k1, rfl, h1, .inr ⟨_, k2, rfl, h2, fun k h => h3 ⟨k, h⟩⟩⟩⟩)
 obtain ⟨k3, h3⟩ := h3
 exact .inr ⟨_, _, _, _, k1, k2, k3, by omega, rfl, h1, rfl, h2, rfl, h3, rfl⟩
theorem ext_size (s : ByteArray) (k : Nat) : (s.extract k s.size).size = s.size - k := by simp
set_option maxHeartbeats 1000000 in
theorem readRecord_yes (s s1 s2 s3 s4 : ByteArray) (k1 k2 k3 : Nat) (w : World) (hs : s.size ≤ 1048576) (h : Parts s s1 s2 s3 s4 k1 k2 k3) :
  Calls Tryd.prog 23 #[.string s] w fun e w' => e = .returned (recV (partsR s s1 s2 s3 s4 k1 k2 k3)) ∧ Below w.heap.size w w' := by
 obtain ⟨h0, e1, f1, e2, f2, e3, f3, e4⟩ := h
 have z1 : s1.size = s.size - 1 := by rw [e1, ext_size]
 have z2 : s2.size = s1.size - k1 := by rw [e2, ext_size]
 have z3 : s3.size = s2.size - k2 := by rw [e3, ext_size]
 have z4 : s4.size = s3.size - k3 := by rw [e4, ext_size]
 have c0 := fun wx => impl_readFixed s 1 wx (by unfold maxLen; omega) (by omega) (by omega) h0
 rw [rdv_one] at c0
 have c1 := irv_yes s1 k1 (by omega) f1
 have c2 := irv_yes s2 k2 (by omega) f2
 have c3 := irv_yes s3 k3 (by omega) f3
 have u1 := f1.2.2.1
 have u2 := f2.2.2.1
 have u3 := f3.2.2.1
 have p1 : (0 : Int) < (k1 : Int) := by have := f1.1; omega
 have p2 : (0 : Int) < (k2 : Int) := by have := f2.1; omega
 have p3 : (0 : Int) < (k3 : Int) := by have := f3.1; omega
 have n1 : ((k1 : Int) == 0) = false := by simp; omega
 have n2 : ((k2 : Int) == 0) = false := by simp; omega
 have n3 : ((k3 : Int) == 0) = false := by simp; omega
 have i0 : (1 : Int) ≤ (s.size : Int) := by omega
 have i1 : (k1 : Int) ≤ (s1.size : Int) := by omega
 have i2 : (k2 : Int) ≤ (s2.size : Int) := by omega
 have i3 : (k3 : Int) ≤ (s3.size : Int) := by omega
 have v3 := vvS_le s3 k3 (by have := f3.2.1; omega) 0
 have HR : Hid (partsR s s1 s2 s3 s4 k1 k2 k3 = ⟨bn s 0, vvS s1 0 k1, vvS s2 0 k2, (vvS s3 0 k3 : Int) - 1, s4⟩) := rfl
 have c4 := fun wx => recordOfV ⟨bn s 0, vvS s1 0 k1, vvS s2 0 k2, (vvS s3 0 k3 : Int) - 1, s4⟩ wx (by simp only; unfold maxLen; omega)
 unfold vRcd at c4
 simp only at c4
 generalize vvS s1 0 k1 = a1 at *
 generalize vvS s2 0 k2 = a2 at *
 generalize vvS s3 0 k3 = a3 at *
 have hw : IntKind.i64.wrap ((a3 : Int) - 1) = (a3 : Int) - 1 := by rw [IntKind.wrap_i64]; omega
 have E1 : Hid (s1 = s.extract 1 s.size) := e1
 have E2 : Hid (s2 = s1.extract k1 s1.size) := e2
 have E3 : Hid (s3 = s2.extract k2 s2.size) := e3
 have E4 : Hid (s4 = s3.extract k3 s3.size) := e4
 clear f1 f2 f3 e1 e2 e3 e4 z1 z2 z3 z4
 go_enter Tryd.func23, Tryd.ntmps23
 go_wp2_with fail
 refine (c0 _).mono ?_
 rintro e w0 ⟨rfl, h0w⟩
 obtain rfl : w0 = w := by first | exact h0w | exact h0w.symm
 go_wp2_with fail
 refine wp_loop_rounds 4 ?_
 rw [rounds_succ]
 go_wp2_with fail
 rw [← E1.out]
 refine (c1 _).mono ?_
 rintro e w' ⟨rfl, rfl⟩
 go_wp2_with fail
 rw [rounds_succ]
 go_wp2_with fail
 rw [← E2.out]
 refine (c2 _).mono ?_
 rintro e w' ⟨rfl, rfl⟩
 go_wp2_with fail
 rw [rounds_succ]
 go_wp2_with fail
 rw [← E3.out]
 refine (c3 _).mono ?_
 rintro e w' ⟨rfl, rfl⟩
 go_wp2_with fail
 rw [rounds_succ]
 go_wp2_with fail
 rw [← E4.out]
 have hb0 : Below w0.heap.size w0 (w0.alloc (.cells #[.int .i64 (a1 : Int), .int .i64 (a2 : Int), .int .i64 (a3 : Int)] 86)) := (Below.refl _ _).alloc (Nat.le_refl _) _
 refine (c4 _).mono ?_
 rintro e w5 ⟨rfl, hb5⟩
 have B5 : Hid (Below w0.heap.size w0 w5) := hb0.trans (hb5.mono hb0.size)
 clear hb0 hb5 c4
 generalize hrv : recV ⟨(bn s 0 : Int), (a1 : Int), (a2 : Int), (a3 : Int) - 1, s4⟩ = rv at *
 go_wp2_with fail
 go_ret
 exact ⟨by rw [HR.out, hrv]; rfl, B5.out⟩
theorem readRecord_no0 (s : ByteArray) (w : World) (h : s.size = 0) : Calls Tryd.prog 23 #[.string s] w fun e w' => e = .returned .nilIface ∧ Below w.heap.size w w' := by
 have c0 := fun wx => impl_readFixed_no s 1 wx (by unfold maxLen; omega) (by omega)
 clear h
 go_enter Tryd.func23, Tryd.ntmps23
 go_wp2_with fail
 refine (c0 _).mono ?_
 rintro e w0 ⟨rfl, rfl⟩
 go_wp2_with fail
 go_ret
 exact ⟨rfl, Below.refl _ _⟩
set_option maxHeartbeats 1000000 in
theorem readRecord_no1 (s : ByteArray) (w : World) (hs : s.size ≤ 1048576) (h0 : 1 ≤ s.size) (hn : ∀ k, ¬ FindV (s.extract 1 s.size) k) : Calls Tryd.prog 23 #[.string s] w fun e w' => e = .returned .nilIface ∧ Below w.heap.size w w' := by
 obtain ⟨s1, e1⟩ : ∃ y, y = s.extract 1 s.size := ⟨_, rfl⟩
 rw [← e1] at hn
 have c0 := fun wx => impl_readFixed s 1 wx (by unfold maxLen; omega) (by omega) (by omega) h0
 have z1 : s1.size = s.size - 1 := by rw [e1, ext_size]
 have c1 := irv_no s1 (by omega) hn
 have i0 : (1 : Int) ≤ (s.size : Int) := by omega
 have E1 : Hid (s1 = s.extract 1 s.size) := e1
 clear hn e1 z1 
 go_enter Tryd.func23, Tryd.ntmps23
 go_wp2_with fail
 refine (c0 _).mono ?_
 rintro e w0 ⟨rfl, rfl⟩
 go_wp2_with fail
 refine wp_loop_rounds 4 ?_
 rw [rounds_succ]
 go_wp2_with fail
 rw [← E1.out]
 refine (c1 _).mono ?_
 rintro e w' ⟨rfl, rfl⟩
 go_wp2_with fail
 go_ret
 exact ⟨rfl, (Below.refl _ _).alloc (Nat.le_refl _) _⟩
set_option maxHeartbeats 1000000 in
theorem readRecord_no2 (s s1 : ByteArray) (k1 : Nat) (w : World) (hs : s.size ≤ 1048576) (h0 : 1 ≤ s.size) (e1 : s1 = s.extract 1 s.size) (f1 : FindV s1 k1) (hn : ∀ k, ¬ FindV (s1.extract k1 s1.size) k) : Calls Tryd.prog 23 #[.string s] w fun e w' => e = .returned .nilIface ∧ Below w.heap.size w w' := by
 obtain ⟨s2, e2⟩ : ∃ y, y = s1.extract k1 s1.size := ⟨_, rfl⟩
 rw [← e2] at hn
 have c0 := fun wx => impl_readFixed s 1 wx (by unfold maxLen; omega) (by omega) (by omega) h0
 have z1 : s1.size = s.size - 1 := by rw [e1, ext_size]
 have z2 : s2.size = s1.size - k1 := by rw [e2, ext_size]
 have c1 := irv_yes s1 k1 (by omega) f1
 have p1 : (0 : Int) < (k1 : Int) := by have := f1.1; omega
 have n1 : ((k1 : Int) == 0) = false := by simp; omega
 have i1 : (k1 : Int) ≤ (s1.size : Int) := by have := f1.2.2.1; omega
 have c2 := irv_no s2 (by omega) hn
 have i0 : (1 : Int) ≤ (s.size : Int) := by omega
 have E1 : Hid (s1 = s.extract 1 s.size) := e1
 have E2 : Hid (s2 = s1.extract k1 s1.size) := e2
 clear hn e1 z1 e2 z2 f1
 generalize vvS s1 0 k1 = a1 at *
 go_enter Tryd.func23, Tryd.ntmps23
 go_wp2_with fail
 refine (c0 _).mono ?_
 rintro e w0 ⟨rfl, rfl⟩
 go_wp2_with fail
 refine wp_loop_rounds 4 ?_
 rw [rounds_succ]
 go_wp2_with fail
 rw [← E1.out]
 refine (c1 _).mono ?_
 rintro e w' ⟨rfl, rfl⟩
 go_wp2_with fail
 rw [rounds_succ]
 go_wp2_with fail
 rw [← E2.out]
 refine (c2 _).mono ?_
 rintro e w' ⟨rfl, rfl⟩
 go_wp2_with fail
 go_ret
 exact ⟨rfl, (Below.refl _ _).alloc (Nat.le_refl _) _⟩
set_option maxHeartbeats 1000000 in
theorem readRecord_no3 (s s1 s2 : ByteArray) (k1 k2 : Nat) (w : World) (hs : s.size ≤ 1048576) (h0 : 1 ≤ s.size) (e1 : s1 = s.extract 1 s.size) (f1 : FindV s1 k1) (e2 : s2 = s1.extract k1 s1.size) (f2 : FindV s2 k2) (hn : ∀ k, ¬ FindV (s2.extract k2 s2.size) k) : Calls Tryd.prog 23 #[.string s] w fun e w' => e = .returned .nilIface ∧ Below w.heap.size w w' := by
 obtain ⟨s3, e3⟩ : ∃ y, y = s2.extract k2 s2.size := ⟨_, rfl⟩
 rw [← e3] at hn
 have c0 := fun wx => impl_readFixed s 1 wx (by unfold maxLen; omega) (by omega) (by omega) h0
 have z1 : s1.size = s.size - 1 := by rw [e1, ext_size]
 have z2 : s2.size = s1.size - k1 := by rw [e2, ext_size]
 have z3 : s3.size = s2.size - k2 := by rw [e3, ext_size]
 have c1 := irv_yes s1 k1 (by omega) f1
 have p1 : (0 : Int) < (k1 : Int) := by have := f1.1; omega
 have n1 : ((k1 : Int) == 0) = false := by simp; omega
 have i1 : (k1 : Int) ≤ (s1.size : Int) := by have := f1.2.2.1; omega
 have c2 := irv_yes s2 k2 (by omega) f2
 have p2 : (0 : Int) < (k2 : Int) := by have := f2.1; omega
 have n2 : ((k2 : Int) == 0) = false := by simp; omega
 have i2 : (k2 : Int) ≤ (s2.size : Int) := by have := f2.2.2.1; omega
 have c3 := irv_no s3 (by omega) hn
 have i0 : (1 : Int) ≤ (s.size : Int) := by omega
 have E1 : Hid (s1 = s.extract 1 s.size) := e1
 have E2 : Hid (s2 = s1.extract k1 s1.size) := e2
 have E3 : Hid (s3 = s2.extract k2 s2.size) := e3
 clear hn e1 z1 e2 z2 e3 z3 f1 f2
 generalize vvS s1 0 k1 = a1 at *
 generalize vvS s2 0 k2 = a2 at *
 go_enter Tryd.func23, Tryd.ntmps23
 go_wp2_with fail
 refine (c0 _).mono ?_
 rintro e w0 ⟨rfl, rfl⟩
 go_wp2_with fail
 refine wp_loop_rounds 4 ?_
 rw [rounds_succ]
 go_wp2_with fail
 rw [← E1.out]
 refine (c1 _).mono ?_
 rintro e w' ⟨rfl, rfl⟩
 go_wp2_with fail
 rw [rounds_succ]
 go_wp2_with fail
 rw [← E2.out]
 refine (c2 _).mono ?_
 rintro e w' ⟨rfl, rfl⟩
 go_wp2_with fail
 rw [rounds_succ]
 go_wp2_with fail
 rw [← E3.out]
 refine (c3 _).mono ?_
 rintro e w' ⟨rfl, rfl⟩
 go_wp2_with fail
 go_ret
 exact ⟨rfl, (Below.refl _ _).alloc (Nat.le_refl _) _⟩
theorem readRecordV (s : ByteArray) (w : World) (hs : s.size ≤ 1048576) :
  (NoParts s → Calls Tryd.prog 23 #[.string s] w fun e w' => e = .returned .nilIface ∧ Below w.heap.size w w') := by
 rintro (h | ⟨h0, h | ⟨s1, k1, e1, f1, h | ⟨s2, k2, e2, f2, h⟩⟩⟩)
 ·exact readRecord_no0 s w h
 ·exact readRecord_no1 s w hs h0 h
 ·exact readRecord_no2 s s1 k1 w hs h0 e1 f1 h
 ·exact readRecord_no3 s s1 s2 k1 k2 w hs h0 e1 f1 e2 f2 h
end Go.Proofs.YtgillglkmnocaaaDoor
namespace Go.Proofs.YtgillglkmnocaaaDoor
open Go.ChangeShapes Go.WideShapes Go.ChangeAt Go.RowKit Go.PlainAid
set_option linter.unusedVariables false
theorem rest0_of (k t i v : Int) (d : ByteArray) (h : recOk ⟨k, t, i, v, d⟩ = true) : (k = 1 ∧ i = 0 ∧ d = ⟨#[]⟩) ∨ (k = 2 ∧ v = 0) ∨ (k = 3 ∧ t = 0 ∧ v = 0 ∧ d = ⟨#[]⟩) ∨ (k = 4 ∧ v = 0 ∧ d = ⟨#[]⟩) := by
 rw [recOk_iff, Bool.and_eq_true] at h
 obtain ⟨h1, h2⟩ := h
 have h1 := of_decide_eq_true h1
 unfold rest0 at h2
 rcases (show k = 1 ∨ k = 2 ∨ k = 3 ∨ k = 4 by omega) with rfl | rfl | rfl | rfl
 ·simp at h2
  exact .inl ⟨rfl, h2⟩
 ·simp at h2
  exact .inr (.inl ⟨rfl, h2⟩)
 ·simp at h2
  exact .inr (.inr (.inl ⟨rfl, h2.1.1, h2.1.2, h2.2⟩))
 ·simp at h2
  exact .inr (.inr (.inr ⟨rfl, h2⟩))
end Go.Proofs.YtgillglkmnocaaaDoor
namespace Go.Proofs.YtgillglkmnocaaaDoor
open Go.ChangeShapes Go.WideShapes Go.ChangeAt Go.RowKit Go.PlainAid
set_option linter.unusedVariables false
def ReadA (s : ByteArray) (r : Option Rcd) : Prop := (NoParts s ∧ r = none) ∨ ∃ s1 s2 s3 s4 k1 k2 k3, Parts s s1 s2 s3 s4 k1 k2 k3 ∧ r = if recOk (partsR s s1 s2 s3 s4 k1 k2 k3) = true then some (partsR s s1 s2 s3 s4 k1 k2 k3) else none
theorem readA_has (s : ByteArray) : ∃ r, ReadA s r := by
 rcases parts_or s with h | ⟨s1, s2, s3, s4, k1, k2, k3, h⟩
 ·exact ⟨none, .inl ⟨h, rfl⟩⟩
 ·exact ⟨_, .inr ⟨s1, s2, s3, s4, k1, k2, k3, h, rfl⟩⟩
end Go.Proofs.YtgillglkmnocaaaDoor
