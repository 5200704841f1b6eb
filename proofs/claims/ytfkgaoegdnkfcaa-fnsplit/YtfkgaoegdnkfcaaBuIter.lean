/-
  impl.bucketed's iterator: each run of points of one bucket, with the piece of the slice that holds it.
-/
import Derived.RangeFuncNested
import Derived.RangeFuncBound
import Derived.RangeFuncCalls
import Derived.RangeFuncLeaves
import Derived.Shelf.Abstract
import Derived.Shelf.RegionOpen
import Derived.OwnWalkIn
import Derived.TacticsInMore
import Derived.LoopNIn
import Derived.LoopIn
import Derived.Maps.AppendAt
import Derived.Test.YtfkgaoegdnkfcaaBuPut
namespace Go.Proofs.Ytfkgaoegdnkfcaa
open Go.ChangeShapes Go.WideShapes Go.ChangeAt Go.RowKit Go.PlainAid Go.Shelf
set_option linter.unusedVariables false
attribute [local go_sem] Oper.semAt_some

theorem elem_ptsB : Try.prog.elem 24 = 33 := by kernel_rfl
theorem size_ptB : (Try.prog.info? 33).map (·.size) = some 2 := by kernel_rfl
set_option maxRecDepth 100000 in
/-- 's[a:b]' of a slice of points. -/
theorem cut_mid (g off n c a b : Nat) (hab : a < b) (hbc : b ≤ c) (wx : World) : (Instr.sliceAt 24 (.slice (some ⟨g, off, none⟩) n c) (some (.int .i64 (a : Int))) (some (.int .i64 (b : Int))) none).run Try.prog wx = .ok (.slice (some ⟨g, off + a * 2, none⟩) (b - a) (c - a)) wx := by
  have hu : Try.prog.underlying 24 = some (.slice (Try.prog.elem 24)) := by rw [elem_ptsB]; exact Try.underlying24
  have hz := size_ptB
  cases hq : Try.prog.info? 33 with
  | none => rw [hq] at hz; simp at hz
  | some i =>
    rw [hq] at hz
    have hi : i.size = 2 := by simpa using hz
    have e1 : (⟨g, off, none⟩ : Addr).add (a * 2) = ⟨g, off + a * 2, none⟩ := by
      generalize a * 2 = j
      cases j <;> simp [Addr.add]
    rw [run_sliceAt_slice wx 24 _ _ _ _ hu, run_slice_lh wx 24 _ n c hu .i64 .i64 (a : Int) (b : Int) (by omega) (by omega) (by omega), elem_ptsB]
    have hca : ¬ c = a := by omega
    simp [sizeOf, typeInfo, hq, hi, sliced, e1, hca]
    try omega

/-- A run: where it begins, where it ends, its bucket. -/
abbrev Run (n : Nat) := { q : Nat × Nat × Int // q.1 < q.2.1 ∧ q.2.1 ≤ n }
def runV (g off c : Nat) {n : Nat} (q : Run n) : Value := .slice (some ⟨g, off + q.1.1 * 2, none⟩) (q.1.2.1 - q.1.1) (c - q.1.1)
def runE (g off c : Nat) {n : Nat} (q : Run n) : Array Value := #[.int .i64 q.1.2.2, runV g off c q]
def runP (l : List Pnt) {n : Nat} (q : Run n) : Prt := ⟨q.1.2.2, (l.take q.1.2.1).drop q.1.1⟩
/-- What a round that goes on keeps: what lay below, and the box of the slice. -/
def KeepsL (n₀ Bx : Nat) (W W' : World) : Prop := Below n₀ W W' ∧ ∀ v, Boxed W Bx 24 v → Boxed W' Bx 24 v
theorem keepsL_t {n₀ Bx : Nat} {A B C : World} (h : KeepsL n₀ Bx A B) (k : KeepsL n₀ Bx B C) : KeepsL n₀ Bx A C := ⟨h.1.trans k.1, fun v hv => k.2 v (h.2 v hv)⟩
theorem keepsL_b {n₀ Bx : Nat} (W : World) (l : Nat) (o o' : Obj) (hn : n₀ ≤ l) (hl : W.heap[l]? = some o) (hc : o.isCells = false) : KeepsL n₀ Bx W (W.putObj l o') := by
  have hlt := (Array.getElem?_eq_some_iff.1 hl).1
  refine ⟨(Below.refl n₀ W).grown (grownBy_putObj' W l o') (by omega) (fun k e => by cases e; exact hn), fun v hv => ?_⟩
  refine hv.kept (grownBy_putObj' W l o') (fun e => ?_)
  cases e
  rw [show W.heap[Bx]? = _ from hv] at hl
  cases hl
  cases hc

set_option maxRecDepth 100000 in
set_option maxHeartbeats 4000000 in
theorem runs1_in (ll Bx n₀ g off c n : Nat) (l : List Pnt) (hN : l.length = n) (hlen : n ≤ 60) (hcap : n ≤ c) (hg : g < n₀) (J Jx : List (Run n) → World → Prop)
    (hY : ∀ pre x W, J pre W → pre.length < n → YieldAt Fence.wide 0 Try.prog ll (runE g off c x) W fun e W' =>
      (e = .returned (.bool true) ∧ J (pre ++ [x]) W' ∧ KeepsL n₀ Bx W W') ∨ (e = .returned (.bool false) ∧ Jx (pre ++ [x]) W'))
    (W : World) (hX : Boxed W Bx 24 (.slice (some ⟨g, off, none⟩) n c)) (hc : ∀ j, j < n → W.cell? ⟨g, off + j * 2, none⟩ = some (.int .i64 (tAt l j))) (h0 : J [] W) :
    CallsIn Fence.wide 1 Try.prog 45 #[.func (.yield ll) #[] #[], .pointer (some ⟨Bx, 0, none⟩)] W fun e W' => (∃ v, e = .returned v) ∧
      ((∃ ys, ys.map (runP l) = spl l ∧ J ys W') ∨ (∃ pre, True ∧ Jx pre W')) := by
  have q0 : (n : Int) ≤ 60 := by omega
  have HSR : Hid (∀ (B : Int) (b e : Nat), b < e → e ≤ n → (∀ j, b ≤ j → j < e → bkt (tAt l j) = B) → (b = 0 ∨ bkt (tAt l (b - 1)) ≠ B) → spl (l.take e) = spl (l.take b) ++ [⟨B, (l.take e).drop b⟩]) := fun B b e h1 h2 => spl_run l B b e h1 (by rw [hN]; exact h2)
  have HSL : Hid (∀ b, b ≤ n → (spl (l.take b)).length ≤ b) := fun b hb => (spl_short (l.take b) b (by rw [List.length_take]; omega)).1
  have HCM : Hid (∀ a b, a < b → b ≤ n → ∀ wx, (Instr.sliceAt 24 (.slice (some ⟨g, off, none⟩) n c) (some (.int .i64 (a : Int))) (some (.int .i64 (b : Int))) none).run Try.prog wx = .ok (.slice (some ⟨g, off + a * 2, none⟩) (b - a) (c - a)) wx) := fun a b h1 h2 => cut_mid g off n c a b h1 (by omega)
  have HFin : Hid (l.take n = l) := List.take_of_length_le (by rw [hN]; exact Nat.le_refl _)
  have HC : Hid (∀ j, j < n → W.cell? ⟨g, off + j * 2, none⟩ = some (.int .i64 (tAt l j))) := hc
  have HG : Hid (g < n₀) := hg
  have HY : Hid (∀ pre x W, J pre W → pre.length < n → YieldAt Fence.wide 0 Try.prog ll (runE g off c x) W fun e W' =>
      (e = .returned (.bool true) ∧ J (pre ++ [x]) W' ∧ KeepsL n₀ Bx W W') ∨ (e = .returned (.bool false) ∧ Jx (pre ++ [x]) W')) := hY
  clear hc hg hlen hcap hY hN
  refine callsIn_of_wp Try.func45 rfl trivial ?_ rfl
  simp only [Try.ntmps45, List.size_toArray, List.length_cons, List.length_nil, Nat.reduceAdd, Nat.reduceSub, Array.replicate_succ, Array.replicate_zero, List.push_toArray, List.append_toArray, List.nil_append, List.cons_append]
  gi_wp2
  gi_loopw [3] (fun v3 wr => ∃ (b : Nat) (ys : List (Run n)), b ≤ n ∧ v3 = .int .i64 (b : Int) ∧ ys.map (runP l) = spl (l.take b) ∧ (b = 0 ∨ b = n ∨ bkt (tAt l (b - 1)) ≠ bkt (tAt l b)) ∧ J ys wr ∧ Below n₀ W wr ∧ Boxed wr Bx 24 (.slice (some ⟨g, off, none⟩) n c)) (fun v _ => n - (intOf v).toNat)
  case atStart => exact ⟨0, [], by omega, rfl, rfl, .inl rfl, h0, Below.refl _ _, hX⟩
  case round =>
    obtain ⟨b, ys, hb, rfl, hM0, hfr0, hJ, hB, hXr⟩ := hrel
    have hM : Hid (ys.map (runP l) = spl (l.take b)) := hM0
    have HBr : Hid (Below n₀ W wr) := hB
    have hcx := hXr.cell
    clear hM0 hB
    by_cases hlt : b < n
    · have q1 : (b : Int) < (n : Int) := by omega
      have hcb : wr.cell? ⟨g, off + b * 2, none⟩ = some (.int .i64 (tAt l b)) := (HBr.out.cell (p := ⟨g, off + b * 2, none⟩) HG.out).trans (HC.out b hlt)
      have hfr : Hid (b = 0 ∨ bkt (tAt l (b - 1)) ≠ bkt (tAt l b)) := by
        rcases hfr0 with h | h | h
        · exact .inl h
        · omega
        · exact .inr h
      have cB := implBucket (tAt l b)
      have HBB0 : Hid (∀ j, b ≤ j → j < b + 1 → bkt (tAt l j) = bkt (tAt l b)) := fun j h1 h2 => by rw [show j = b by omega]
      clear hfr0
      generalize bkt (tAt l b) = bb at *
      generalize tAt l b = tb at *
      have g3 : IntKind.i64.wrap ((b : Int) + 1) = ((b + 1 : Nat) : Int) := by rw [IntKind.wrap_i64]; omega
      gi_wp2_with (refine ⟨trivial, ?_⟩; gi_at_call 11; refine (callsIn_wide.2 (cB _)).mono ?_; rintro _ _ ⟨rfl, rfl⟩)
      gi_loopw [5] (fun v5 wx => ∃ e : Nat, b < e ∧ e ≤ n ∧ v5 = .int .i64 (e : Int) ∧ (∀ j, b ≤ j → j < e → bkt (tAt l j) = bb) ∧ wx = wr) (fun v _ => n - (intOf v).toNat)
      case atStart => exact ⟨b + 1, by omega, by omega, rfl, HBB0.out, rfl⟩
      case round =>
        obtain ⟨e, hbe, hen, rfl, hall0, rfl⟩ := hrel
        have hall : Hid (∀ j, b ≤ j → j < e → bkt (tAt l j) = bb) := hall0
        clear hall0
        by_cases hlt2 : e < n
        · have q2 : (e : Int) < (n : Int) := by omega
          have hce := (HBr.out.cell (p := ⟨g, off + e * 2, none⟩) HG.out).trans (HC.out e hlt2)
          have cE := implBucket (tAt l e)
          have g4 : IntKind.i64.wrap ((e : Int) + 1) = ((e + 1 : Nat) : Int) := by rw [IntKind.wrap_i64]; omega
          obtain ⟨be, hbe0⟩ : ∃ be, be = bkt (tAt l e) := ⟨_, rfl⟩
          have HBE : Hid (bkt (tAt l e) = be) := hbe0.symm
          rw [← hbe0] at cE
          clear hbe0
          generalize hte : tAt l e = te at hce cE
          clear hte
          by_cases heq : be = bb
          · have hq : (be == bb) = true := by simp [heq]
            have HEQ : Hid (be = bb) := heq
            clear heq
            gi_wp2_with (refine ⟨trivial, ?_⟩; gi_at_call 11; refine (callsIn_wide.2 (cE _)).mono ?_; rintro _ _ ⟨rfl, rfl⟩)
            go_roundw
            case rel =>
              refine ⟨e + 1, by omega, by omega, rfl, fun j h1 h2 => ?_, trivial⟩
              by_cases hj : j = e
              · rw [hj, HBE.out, HEQ.out]
              · exact hall.out j h1 (by omega)
            case measure => simp [intOf]; omega
          · have hq : (be == bb) = false := by simp [heq]
            have HNE : Hid (be ≠ bb) := heq
            clear heq
            have hcm := HCM.out b e hbe hen
            have hqb : (b : Int) ≤ (e : Int) := by omega
            obtain ⟨fn, tmps, assign, body, hy, hR⟩ := HY.out ys ⟨(b, e, bb), hbe, hen⟩ wr hJ (by have h1 := congrArg List.length hM.out; rw [List.length_map] at h1; have h2 := HSL.out b hb; omega)
            dsimp only [runE, runV] at hy
            have HM2 : Hid ((ys ++ [(⟨(b, e, bb), hbe, hen⟩ : Run n)]).map (runP l) = spl (l.take e)) := by
              unfold Hid
              rw [HSR.out bb b e hbe hen hall.out hfr.out, List.map_append, hM.out]
              rfl
            have HFr2 : Hid (e = 0 ∨ e = n ∨ bkt (tAt l (e - 1)) ≠ bkt (tAt l e)) := .inr (.inr (by rw [hall.out (e - 1) (by omega) (by omega), HBE.out]; exact fun h => HNE.out h.symm))
            gi_wp2_with (refine ⟨trivial, ?_⟩; gi_at_call 11; refine (callsIn_wide.2 (cE _)).mono ?_; rintro _ _ ⟨rfl, rfl⟩)
            refine hR.mono ?_
            rintro e3 W3 (⟨rfl, hJ3, hk3⟩ | ⟨rfl, hJx3⟩)
            · gi_wp2
              go_roundw
              case rel => exact ⟨e, _, hen, rfl, HM2.out, HFr2.out, hJ3, HBr.out.trans hk3.1, hk3.2 _ hXr⟩
              case measure => simp [intOf]; omega
            · gi_wp2
              refine bodyPost_ret (results_none rfl _ _ _) rfl ?_
              exact ⟨⟨_, rfl⟩, .inr ⟨_, trivial, hJx3⟩⟩
        · have HEN : Hid (e = n) := by unfold Hid; omega
          have q2 : decide ((e : Int) < (n : Int)) = false := by simp; omega
          have hcm := HCM.out b e hbe hen
          have hqb : (b : Int) ≤ (e : Int) := by omega
          obtain ⟨fn, tmps, assign, body, hy, hR⟩ := HY.out ys ⟨(b, e, bb), hbe, hen⟩ wr hJ (by have h1 := congrArg List.length hM.out; rw [List.length_map] at h1; have h2 := HSL.out b hb; omega)
          dsimp only [runE, runV] at hy
          have HM2 : Hid ((ys ++ [(⟨(b, e, bb), hbe, hen⟩ : Run n)]).map (runP l) = spl (l.take e)) := by
            unfold Hid
            rw [HSR.out bb b e hbe hen hall.out hfr.out, List.map_append, hM.out]
            rfl
          have HFr2 : Hid (e = 0 ∨ e = n ∨ bkt (tAt l (e - 1)) ≠ bkt (tAt l e)) := .inr (.inl HEN.out)
          gi_wp2
          refine ⟨trivial, ?_⟩
          gi_wp2
          refine hR.mono ?_
          rintro e3 W3 (⟨rfl, hJ3, hk3⟩ | ⟨rfl, hJx3⟩)
          · gi_wp2
            go_roundw
            case rel => exact ⟨e, _, hen, rfl, HM2.out, HFr2.out, hJ3, HBr.out.trans hk3.1, hk3.2 _ hXr⟩
            case measure => simp [intOf]; omega
          · gi_wp2
            refine bodyPost_ret (results_none rfl _ _ _) rfl ?_
            exact ⟨⟨_, rfl⟩, .inr ⟨_, trivial, hJx3⟩⟩
    · obtain rfl : b = n := by omega
      have HM3 : Hid (ys.map (runP l) = spl l) := by
        have := hM.out
        rw [HFin.out] at this
        exact this
      gi_wp2
      go_end0
      exact ⟨⟨_, rfl⟩, .inl ⟨_, HM3.out, hJ⟩⟩

set_option maxHeartbeats 1000000 in
theorem runs_in (v : Value) (A : Option Addr) (m c n : Nat) (w : World) :
    CallsIn Fence.wide n Try.prog 32 #[.slice A m c] w fun e w' => e = .returned (.func (.func 45) #[] #[.pointer (some ⟨w.heap.size, 0, none⟩)]) ∧ w' = w.alloc (.cells #[.slice A m c] 24) := by
  refine callsIn_of_wp Try.func32 rfl trivial ?_ rfl
  simp only [Try.ntmps32, List.size_toArray, List.length_cons, List.length_nil, Nat.reduceAdd, Nat.reduceSub, Array.replicate_succ, Array.replicate_zero, List.push_toArray, List.append_toArray, List.nil_append, List.cons_append]
  gi_wp2
  go_ret
  exact ⟨rfl, rfl⟩

theorem runs_stops (Bx n₀ g off c n : Nat) (l : List Pnt) (hN : l.length = n) (hlen : n ≤ 60) (hcap : n ≤ c) (hg : g < n₀) (w : World) (hn₀ : n₀ ≤ w.heap.size) (hX : Boxed w Bx 24 (.slice (some ⟨g, off, none⟩) n c)) (hc : ∀ j, j < n → w.cell? ⟨g, off + j * 2, none⟩ = some (.int .i64 (tAt l j))) :
    SeqStopsK Fence.wide 1 Try.prog 45 #[.pointer (some ⟨Bx, 0, none⟩)] (fun x : Run n => runE g off c x) (KeepsL n₀ Bx) (fun ys => ys.map (runP l) = spl l) (fun _ => True) n w := fun ll J Jx W hW _ _ hY h0 =>
  runs1_in ll Bx n₀ g off c n l hN hlen hcap hg J Jx hY W ((hW.block Bx hX.lt).trans hX) (fun j hj => (hW.cell (p := ⟨g, off + j * 2, none⟩) (Nat.lt_of_lt_of_le hg hn₀)).trans (hc j hj)) h0
end Go.Proofs.Ytfkgaoegdnkfcaa
