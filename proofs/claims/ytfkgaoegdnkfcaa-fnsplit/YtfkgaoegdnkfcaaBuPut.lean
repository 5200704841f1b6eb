/-
  Rows of parts that grow: a part more, a point more in the last one (no program in sight, no condition).
-/
import Derived.Test.YtfkgaoegdnkfcaaBuMath
import Derived.Test.YtfkgaoegdnkfcaaPtRun
namespace Go.Proofs.Ytfkgaoegdnkfcaa
open Go.RowKit Go.PlainAid
set_option linter.unusedVariables false

/-- A part more, without points. -/
theorem PrtO.more {w w' : World} {base : Nat} {v v' : Value} {L : List (Prt × Value)} (h : PrtO w base v L) (b : Int) (x : Prt) (u : Value)
    (hO : Owns w' base 30 2 v' (prR L ++ [[.int .i64 x.num, u]])) (hk : ∀ g, g < w.heap.size → v.ownBlock ≠ some g → w'.heap[g]? = w.heap[g]?) (hu : Owns w' base 33 2 u (ptR x.pts)) (ha : ∀ p ∈ L, Apart p.2 u) : PrtO w' base v' (L ++ [(x, u)]) := by
  have hL : ∀ p ∈ L, Owns w' base 33 2 p.2 (ptR p.1.pts) := fun p hp => (h.2.1 p hp).kept fun g hg hv => hk g hg (fun e => (h.2.1 p hp).apartT h.1 (by decide) g hv e)
  refine ⟨by rw [prR_append]; exact hO, ?_, ?_⟩
  · intro p hp
    rcases List.mem_append.1 hp with hp | hp
    · exact hL p hp
    · rw [List.mem_singleton.1 hp]; exact hu
  · rw [List.pairwise_append]
    refine ⟨h.2.2, List.pairwise_singleton _ _, fun p hp q hq => ?_⟩
    rw [List.mem_singleton.1 hq]
    exact ha p hp
theorem apart_nil (u : Value) : Apart u (.slice none 0 0) := fun g _ h => by cases h

/-- A point more in the last part. -/
theorem PrtO.put {w Y : World} {base g c m : Nat} {X : List (Prt × Value)} {x : Prt} {u u' : Value} {r : Prt} (h : PrtO w base (.slice (some ⟨g, 0, none⟩) m c) (X ++ [(x, u)])) (hm : m = X.length + 1) (hn : r.num = x.num)
    (hO : Owns Y base 33 2 u' (ptR r.pts)) (hk : ∀ g, g < w.heap.size → u.ownBlock ≠ some g → Y.heap[g]? = w.heap[g]?) (hw : u'.ownBlock = u.ownBlock ∨ ∀ g, u'.ownBlock = some g → w.heap.size ≤ g) :
    PrtO (Y.setCell ⟨g, X.length * 2 + 1, none⟩ u') base (.slice (some ⟨g, 0, none⟩) m c) (X ++ [(r, u')]) := by
  subst hm
  have hu := h.2.1 (x, u) (by simp)
  have hgu : u.ownBlock ≠ some g := fun e => hu.apartT h.1 (by decide) g e rfl
  have hg := (h.1.lt g rfl).2
  have hR : Owns Y base 30 2 (.slice (some ⟨g, 0, none⟩) (X.length + 1) c) (prR (X ++ [(x, u)])) := h.1.kept fun k hk' hv => hk k hk' (fun e => hu.apartT h.1 (by decide) k e hv)
  have hpw := List.pairwise_append.1 h.2.2
  have hX : ∀ p ∈ X, Owns Y base 33 2 p.2 (ptR p.1.pts) := fun p hp => (h.2.1 p (by simp [hp])).kept fun k hk' hv => hk k hk' (fun e => hpw.2.2 p hp (x, u) (by simp) k hv e)
  have hXg : ∀ p ∈ X, p.2.ownBlock ≠ some g := fun p hp e => (h.2.1 p (by simp [hp])).apartT h.1 (by decide) g e rfl
  have hu'g : u'.ownBlock ≠ some g := by
    rcases hw with e | e
    · rw [e]; exact hgu
    · intro e'; have := e g e'; omega
  refine ⟨?_, ?_, ?_⟩
  · have hl : (prR (X ++ [(x, u)])).length = X.length + 1 := by rw [prR_length]; simp
    have hp := hR
    rw [← set_self X.length (by rw [hl]; omega : X.length < (prR (X ++ [(x, u)])).length)] at hp
    have h2 := hp.pokeAt hl (by omega) 1 (by omega) u'
    have e : (prR (X ++ [(x, u)])).set X.length (((prR (X ++ [(x, u)]))[X.length]'(by rw [hl]; omega)).set 1 u') = prR (X ++ [(r, u')]) := by
      simp [prR, prC, hn]
    rw [e] at h2
    exact h2
  · intro p hp
    rcases List.mem_append.1 hp with hp | hp
    · exact (hX p hp).other (hXg p hp) _ _
    · rw [List.mem_singleton.1 hp]; exact hO.other hu'g _ _
  · rw [List.pairwise_append]
    refine ⟨hpw.1, List.pairwise_singleton _ _, fun p hp q hq => ?_⟩
    rw [List.mem_singleton.1 hq]
    intro k h1 h2
    rcases hw with e | e
    · exact hpw.2.2 p hp (x, u) (by simp) k h1 (e.symm.trans h2)
    · have := ((h.2.1 p (by simp [hp])).lt k h1).2
      have := e k h2
      omega
theorem Try.infoPart : (Try.prog.info? 30).map (fun i => (i.zero, i.size, i.bytes)) = some (some (.agg #[.int .i64 0, .slice none 0 0]), 2, 32) := by kernel_rfl
end Go.Proofs.Ytfkgaoegdnkfcaa
