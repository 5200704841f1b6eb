/-
  The three sentinels of the package, where they lie apart; the contracts of impl.frameCode: the code of a wrapped sentinel.
-/
import Derived.Test.YthgiekeiljflaaaDoorRows
import Derived.Test.YthgiekeiljflaaaDoorErrIs
import Derived.WalkKit
import Derived.Below
import Derived.PlainAid
import Derived.WalkSmall
namespace Go.Proofs.YthgiekeiljflaaaDoor
open Go.RowKit Go.PlainAid
set_option linter.unusedVariables false

/-! ### The three sentinels -/
/-- The three package errors lie at a0, a1, a2, the first apart from the others. -/
structure Errs (w : World) (a0 a1 a2 : Addr) : Prop where
  v0 : w.var? Tryd.prog "loop.example/g00360/impl.errFrameShort" = some #[.iface 157 (.pointer (some a0))]
  v1 : w.var? Tryd.prog "loop.example/g00360/impl.errFrameLength" = some #[.iface 157 (.pointer (some a1))]
  v2 : w.var? Tryd.prog "loop.example/g00360/impl.errFrameSum" = some #[.iface 157 (.pointer (some a2))]
  n1 : a1 ≠ a0
  n2 : a2 ≠ a0
  h0 : ∃ c t, w.heap[a0.block]? = some (.cells c t (0, 0))
  h1 : ∃ c t, w.heap[a1.block]? = some (.cells c t (0, 0))
  h2 : ∃ c t, w.heap[a2.block]? = some (.cells c t (0, 0))
theorem gShort : Tryd.prog.globalNamed "loop.example/g00360/impl.errFrameShort" = some 1 := by kernel_rfl
theorem gLen : Tryd.prog.globalNamed "loop.example/g00360/impl.errFrameLength" = some 2 := by kernel_rfl
theorem gBad : Tryd.prog.globalNamed "loop.example/g00360/impl.errFrameSum" = some 3 := by kernel_rfl
theorem Errs.c0 {w : World} {a0 a1 a2 : Addr} (h : Errs w a0 a1 a2) : w.cell? ⟨1, 0, none⟩ = some (.iface 157 (.pointer (some a0))) := by simpa using World.var?_cell gShort h.v0 0
theorem Errs.c1 {w : World} {a0 a1 a2 : Addr} (h : Errs w a0 a1 a2) : w.cell? ⟨2, 0, none⟩ = some (.iface 157 (.pointer (some a1))) := by simpa using World.var?_cell gLen h.v1 0
theorem Errs.c2 {w : World} {a0 a1 a2 : Addr} (h : Errs w a0 a1 a2) : w.cell? ⟨3, 0, none⟩ = some (.iface 157 (.pointer (some a2))) := by simpa using World.var?_cell gBad h.v2 0

theorem lt_of_some {w : World} {k : Nat} {x : Obj} (h : w.heap[k]? = some x) : k < w.heap.size := by
  rcases Nat.lt_or_ge k w.heap.size with h' | h'
  · exact h'
  · rw [Array.getElem?_eq_none h'] at h
    cases h
theorem Errs.on {w w' : World} {a0 a1 a2 : Addr} (h : Errs w a0 a1 a2) (hb : Below w.heap.size w w') : Errs w' a0 a1 a2 where
  v0 := var?_below hb gShort (World.block_lt_of_cell? _ _ h.c0) h.v0
  v1 := var?_below hb gLen (World.block_lt_of_cell? _ _ h.c1) h.v1
  v2 := var?_below hb gBad (World.block_lt_of_cell? _ _ h.c2) h.v2
  n1 := h.n1
  n2 := h.n2
  h0 := by obtain ⟨c, t, e⟩ := h.h0; exact ⟨c, t, by rw [hb.block _ (lt_of_some e)]; exact e⟩
  h1 := by obtain ⟨c, t, e⟩ := h.h1; exact ⟨c, t, by rw [hb.block _ (lt_of_some e)]; exact e⟩
  h2 := by obtain ⟨c, t, e⟩ := h.h2; exact ⟨c, t, by rw [hb.block _ (lt_of_some e)]; exact e⟩

set_option maxHeartbeats 400000 in
theorem code_short (p : Int) (a0 a1 a2 : Addr) (w : World) (h : Errs w a0 a1 a2) :
    Calls Tryd.prog 94 #[wrapped p a0] w fun e w' => e = .returned (.int .i64 1) ∧ Below w.heap.size w w' := by
  have hc := h.c0
  have c1 := is_wrap_same p a0 w
  clear h
  go_enter Tryd.func94, Tryd.ntmps94
  go_wp2_with fail
  refine c1.mono ?_
  rintro e w1 ⟨rfl, hb1⟩
  go_wp2_with fail
  go_ret
  exact ⟨rfl, hb1⟩

set_option maxHeartbeats 400000 in
theorem code_bad (p : Int) (a a0 a1 a2 : Addr) (w : World) (h : Errs w a0 a1 a2) (ha : a = a1 ∨ a = a2) :
    Calls Tryd.prog 94 #[wrapped p a] w fun e w' => e = .returned (.int .i64 2) ∧ Below w.heap.size w w' := by
  have hc := h.c0
  have c1 : Calls Tryd.prog 99 #[wrapped p a, .iface 157 (.pointer (some a0))] w fun e w' => e = .returned (.bool false) ∧ Below w.heap.size w w' := by
    obtain ⟨c, t, e⟩ := h.h0
    rcases ha with rfl | rfl
    · obtain ⟨c', t', e'⟩ := h.h1
      exact is_wrap_other p a a0 c' c t' t w h.n1 e' e
    · obtain ⟨c', t', e'⟩ := h.h2
      exact is_wrap_other p a a0 c' c t' t w h.n2 e' e
  clear h ha
  go_enter Tryd.func94, Tryd.ntmps94
  go_wp2_with fail
  refine c1.mono ?_
  rintro e w1 ⟨rfl, hb1⟩
  go_wp2_with fail
  go_ret
  exact ⟨rfl, hb1⟩
end Go.Proofs.YthgiekeiljflaaaDoor
