/-
  A region that draws its order, in a round of a range over a function at the wide fence: walked as anywhere (no program in sight, no condition).
-/
import Derived.RangeFuncNested
import Derived.RangeFuncBound
import Derived.RangeFuncCalls
import Derived.RangeFuncLeaves
import Derived.OrdersIn
import Derived.OwnWalkIn
import Derived.Test.YtfkgaoegdnkfcaaUntil
namespace Go.Proofs.Ytfkgaoegdnkfcaa
open Go

theorem op_round {P : Program} {o : Oper} {a : Act} {w : World} {K : Act → World → Prop} {Q : Exit → Act → World → Prop} (l n : Nat) (hd : ∀ c, o.op ≠ .defer c) (h : o.wp P a w K Q) : o.wpIn (Fence.wide.inRound l) n P a w K Q := by
  unfold Oper.wpIn
  refine ⟨fun _ _ => trivial, ?_⟩
  rw [Oper.semAt_plain _ _ _ hd]
  unfold Oper.wp at h
  generalize (execOp a.eval o).run P w = r at *
  cases r with
  | ok x w' =>
    cases x with
    | enter f args =>
      simp only [Oper.upon, Oper.uponIn] at h ⊢
      exact ⟨fun e => absurd e (by rw [Fence.inRound_depth]; decide), CallsIn.inRound l (callsIn_wide.2 h)⟩
    | row r args =>
      simp only [Oper.upon, Oper.uponIn] at h ⊢
      exact ⟨fun e => absurd e (by rw [Fence.inRound_depth]; decide), fun c cs _ => let ⟨v, w', r, s⟩ := h c cs; ⟨v, w', r, stepsIn_wide.2 s⟩⟩
    | round => simp only [Oper.upon] at h
    | _ => simp only [Oper.upon, Oper.uponIn] at h ⊢ <;> exact h
  | halt x w' => cases x <;> simp only [Oper.upon, Oper.uponIn] at h ⊢ <;> exact h
theorem opAt_round {P : Program} {ops : Array Oper} {i : Nat} {a : Act} {w : World} {K : Act → World → Prop} {Q : Exit → Act → World → Prop} (l n : Nat) (hQ : ¬ LetsOut Q) (hd : ∀ (j : Nat) (o : Oper) c, ops[j]? = some o → o.op ≠ .defer c) (h : wpOp P ops Q i K a w) : wpOpIn (Fence.wide.inRound l) n P ops Q i K a w := by
  unfold wpOp at h
  unfold wpOpIn
  cases ho : ops[i]? with
  | none => simp only [ho] at h ⊢; exact h
  | some o =>
    simp only [ho] at h ⊢
    split
    · rename_i hw; simp only [hw, if_true] at h; exact op_round l n (fun c => hd i o c ho) (h.resolve_right fun x => hQ x.2)
    · rename_i hw; simp only [hw] at h; exact ⟨fun _ _ => trivial, h⟩
theorem any_round {P : Program} {md : Region.Mode} {ops : Array Oper} {Q : Exit → Act → World → Prop} (l n : Nat) (hQ : ¬ LetsOut Q) (hd : ∀ (j : Nat) (o : Oper) c, ops[j]? = some o → o.op ≠ .defer c) : ∀ (fuel : Nat) (listed : Array Bool) (a : Act) (w : World), wpAny P md ops Q fuel listed a w → wpAnyIn (Fence.wide.inRound l) n P md ops Q fuel listed a w
  | 0, _, _, _, h => h
  | fuel + 1, _, _, _, h => ⟨h.1, fun i hi => opAt_round l n hQ hd (wpOp_mono (fun a' w' h' => any_round l n hQ hd fuel _ a' w' h') (h.2 i hi))⟩
/-- It is no defer statement. -/
def noDefer (o : Oper) : Bool := match o.op with | .defer _ => false | _ => true
theorem noDefer_all {l : List Oper} (h : l.all noDefer = true) (j : Nat) (o : Oper) c (hj : l.toArray[j]? = some o) : o.op ≠ .defer c := fun e => by
  have hm : o ∈ l := by rw [List.getElem?_toArray] at hj; exact List.mem_of_getElem? hj
  have := List.all_eq_true.1 h o hm
  unfold noDefer at this
  rw [e] at this
  cases this
/-- The beginning, in a round. -/
theorem round_until {P : Program} {Q : Exit → Act → World → Prop} {id l n : Nat} {ops : List Oper} {a : Act} {w : World} (S : World → Prop) (T : Nat → Bool) (m : Nat) (hn : ops.length = m) (hm : P.follows .mixedOrders = true) (hQ : ¬ LetsOut Q) (hd : ops.all noDefer = true)
    (h : wpUntil P .any ops.toArray Q S T m (Array.replicate m false) a w.drew) : (Code.region id ops.toArray true).wpIn (Fence.wide.inRound l) n P Q a w := by
  subst hn
  exact wpIn_region_any hm (any_round l n hQ (noDefer_all hd) _ _ _ _ (by simpa using wpAny_of_until _ _ _ _ h))
end Go.Proofs.Ytfkgaoegdnkfcaa
