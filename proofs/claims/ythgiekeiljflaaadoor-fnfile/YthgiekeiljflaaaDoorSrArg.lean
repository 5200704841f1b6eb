/-
  An argument that is a slice of series, as it came in (no condition).
-/
import Derived.Test.YthgiekeiljflaaaDoorGA
namespace Go.Proofs.YthgiekeiljflaaaDoor
open Go.ChangeShapes Go.WideShapes Go.ChangeAt Go.RowKit Go.PlainAid
set_option linter.unusedVariables false

theorem cSr : Tryd.prog.cellsOf 73 = 2 := by kernel_rfl
/-- The parts of series are no longer than anything can be. -/
def SFits (l : List Ser) : Prop := l.length ≤ maxLen ∧ ∀ x ∈ l, x.key.size ≤ maxLen ∧ x.pts.length ≤ maxLen
section
variable {H : Type} {enc : TypeId × Value → H} {w : World} {base : Nat} {spare : Nat → Bool} {held : Bool}

set_option maxRecDepth 100000 in
theorem open_sr (n : Nat) (cs : List Value) (y : DataW H × List MemPlace) (h : DataW.trod enc Tryd.prog w base spare held n 73 cs = some y) : ∃ z : Ser × Value, cs = srC z ∧ (Lies w w.heap.size 2 z.2 (ptR z.1.pts) ∧ z.1.key.size ≤ maxLen ∧ z.1.pts.length ≤ maxLen) := by
  obtain ⟨xs, m, _, _, hl, hlen, hf⟩ := DataW.trod_struct Tryd.underlying73 h
  rw [cSr] at hl
  obtain ⟨a, b, rfl⟩ := list2 hl
  obtain ⟨x0, x1, rfl⟩ := list2 (show xs.length = 2 from hlen)
  have f0 := hf 0 _ rfl
  have f1 := hf 1 _ rfl
  simp only [List.getElem?_cons_zero, List.getElem?_cons_succ] at f0 f1
  obtain ⟨s0, e0, _, hs⟩ := DataW.trod_string Tryd.underlying9 f0
  cases e0
  obtain ⟨ls, l1, l2, _⟩ := open_rows Tryd.underlying71 2 cPt (by omega) ptC (fun _ => rfl) _ open_pt f1
  exact ⟨⟨⟨s0, ls⟩, b⟩, rfl, l1, hs, l2⟩
set_option maxRecDepth 100000 in
/-- Series that came in. -/
theorem open_srs {r : Reach} {b0 : Nat} {v : Value} {dd : DataW H} {ps : List MemPlace} (hval : Value.okWide Tryd.prog w r b0 42 v) (hd : DataW.Trod enc Tryd.prog w base spare held 42 v dd ps) : ∃ l : List Ser, SerV w w.heap.size v l ∧ SFits l := by
  obtain ⟨a0, len0, cap0, rfl⟩ := okWide_slice Tryd.underlying42 hval
  obtain ⟨fuel, hf⟩ := hd
  obtain ⟨ls, l1, l2, l3⟩ := open_rows Tryd.underlying42 2 cSr (by omega) srC (fun _ => rfl) _ open_sr hf
  refine ⟨ls.map Prod.fst, ⟨ls, rfl, l1, fun p hp => (l3 p hp).1⟩, by rw [List.length_map]; exact l2, fun x hx => ?_⟩
  obtain ⟨p, hp, rfl⟩ := List.mem_map.1 hx
  exact (l3 p hp).2
end
end Go.Proofs.YthgiekeiljflaaaDoor
