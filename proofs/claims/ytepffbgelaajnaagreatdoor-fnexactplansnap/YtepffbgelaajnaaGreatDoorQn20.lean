/- SnArg -/
import Derived.Test.YtepffbgelaajnaaGreatDoorQn9
import Derived.Test.YtepffbgelaajnaaGreatDoorQn1
import Derived.Test.YtepffbgelaajnaaGreatDoorRows
import Derived.Test.YtepffbgelaajnaaGreatDoorQn13
import Derived.Deep.Slices
import Derived.ChangeArms
import Derived.OpenShut
namespace Go.Proofs.YtepffbgelaajnaaGreatDoor
open Go.ChangeShapes Go.WideShapes Go.ChangeAt Go.RowKit Go.PlainAid
set_option linter.unusedVariables false
theorem cSnap : Tryz.prog.cellsOf 52 = 3 := by kernel_rfl
section
variable {H : Type} {enc : TypeId × Value → H} {w : World} {base : Nat} {spare : Nat → Bool} {held : Bool}
set_option maxRecDepth 100000 in
theorem open_snap {r : Reach} {b0 : Nat} {v : Value} {dd : DataW H} {ps : List MemPlace} (hval : Value.okWide Tryz.prog w r b0 52 v) (hd : DataW.Trod enc Tryz.prog w base spare held 52 v dd ps) : ∃ x : Snp, v = vSnp x ∧ x.data.size ≤ maxLen ∧ (IntOk x.index ∧ IntOk x.term) := by
 obtain ⟨cs, rfl, hsz⟩ := okWide_struct Tryz.underlying52 hval
 rw [cSnap] at hsz
 obtain ⟨fuel, hf0⟩ := hd
 obtain ⟨xs, m, _, _, _, hlen, hf⟩ := DataW.trod_struct Tryz.underlying52 hf0
 obtain ⟨l⟩ := cs
 obtain ⟨a, b, c, rfl⟩ := list3 (show l.length = 3 from hsz)
 obtain ⟨x0, x1, x2, rfl⟩ := list3 (show xs.length = 3 from hlen)
 have f0 := hf 0 _ rfl
 have f1 := hf 1 _ rfl
 have f2 := hf 2 _ rfl
 simp only [Value.cells, List.getElem?_cons_zero, List.getElem?_cons_succ] at f0 f1 f2
 obtain ⟨i0, e0, _, w0⟩ := DataW.trod_int Tryz.underlying3 f0
 obtain ⟨i1, e1, _, w1⟩ := DataW.trod_int Tryz.underlying3 f1
 obtain ⟨s2, e2, _, hs⟩ := DataW.trod_string Tryz.underlying9 f2
 cases e0
 cases e1
 cases e2
 exact ⟨⟨i0, i1, s2⟩, rfl, hs, bounds_i64 w0, bounds_i64 w1⟩
end
end Go.Proofs.YtepffbgelaajnaaGreatDoor
