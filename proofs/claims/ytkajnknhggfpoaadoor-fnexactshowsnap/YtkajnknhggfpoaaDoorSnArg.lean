/-
  A snapshot that came in as an argument: what is told of it.
-/
import Derived.Test.YtkajnknhggfpoaaDoorRows
import Derived.Test.YtkajnknhggfpoaaDoorSnAid
import Derived.Deep.Slices
import Derived.ChangeArms
import Derived.OpenShut
namespace Go.Proofs.YtkajnknhggfpoaaDoor
open Go.ChangeShapes Go.WideShapes Go.ChangeAt Go.RowKit Go.PlainAid
set_option linter.unusedVariables false

theorem list3 {α : Type} {l : List α} (h : l.length = 3) : ∃ a b c, l = [a, b, c] := by
  match l, h with
  | [a, b, c], _ => exact ⟨a, b, c, rfl⟩
/-- A number of 64 bits. -/
def IntOk (x : Int) : Prop := -9223372036854775808 ≤ x ∧ x ≤ 9223372036854775807
theorem cSnap : Tryd.prog.cellsOf 31 = 3 := by kernel_rfl
section
variable {H : Type} {enc : TypeId × Value → H} {w : World} {base : Nat} {spare : Nat → Bool} {held : Bool}
set_option maxRecDepth 100000 in
/-- A snapshot that came in. -/
theorem open_snap {r : Reach} {b0 : Nat} {v : Value} {dd : DataW H} {ps : List MemPlace} (hval : Value.okWide Tryd.prog w r b0 31 v) (hd : DataW.Trod enc Tryd.prog w base spare held 31 v dd ps) : ∃ x : Snp, v = vSnp x ∧ x.data.size ≤ maxLen ∧ (IntOk x.index ∧ IntOk x.term) := by
  obtain ⟨cs, rfl, hsz⟩ := okWide_struct Tryd.underlying31 hval
  rw [cSnap] at hsz
  obtain ⟨fuel, hf0⟩ := hd
  obtain ⟨xs, m, _, _, _, hlen, hf⟩ := DataW.trod_struct Tryd.underlying31 hf0
  obtain ⟨l⟩ := cs
  obtain ⟨a, b, c, rfl⟩ := list3 (show l.length = 3 from hsz)
  obtain ⟨x0, x1, x2, rfl⟩ := list3 (show xs.length = 3 from hlen)
  have f0 := hf 0 _ rfl
  have f1 := hf 1 _ rfl
  have f2 := hf 2 _ rfl
  simp only [Value.cells, List.getElem?_cons_zero, List.getElem?_cons_succ] at f0 f1 f2
  obtain ⟨i0, e0, _, w0⟩ := DataW.trod_int Tryd.underlying3 f0
  obtain ⟨i1, e1, _, w1⟩ := DataW.trod_int Tryd.underlying3 f1
  obtain ⟨s2, e2, _, hs⟩ := DataW.trod_string Tryd.underlying9 f2
  cases e0
  cases e1
  cases e2
  exact ⟨⟨i0, i1, s2⟩, rfl, hs, bounds_i64 w0, bounds_i64 w1⟩
end
end Go.Proofs.YtkajnknhggfpoaaDoor
