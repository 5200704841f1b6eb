/- MgSM -/
import Derived.Test.YtimfnbnffibgpaaGreatDoorRows
import Derived.Test.YtimfnbnffibgpaaGreatDoorQg13
import Derived.Test.YtimfnbnffibgpaaGreatDoorQg14
import Derived.Laws.StructEq
import Derived.Laws.DeepStrings4
import Derived.Deep.Cut
import Derived.Deep.CutRange
import Derived.Handy
namespace Go.Proofs.YtimfnbnffibgpaaGreatDoor
open Go.ChangeShapes Go.WideShapes Go.ChangeAt Go.RowKit Go.PlainAid
set_option linter.unusedVariables false
theorem based_bits (i t : Int) : based i t = true ↔ (i = 0 ∧ t = 0) ∨ ((1 ≤ i ∧ i ≤ 100000) ∧ 1 ≤ t ∧ t ≤ 100000) := by
 unfold based inIt
 by_cases h : i = 0
 ·subst h; simp
 ·rw [if_neg h]; simp [h]
theorem ok1 (f d t i it c : Int) (y : Bool) (es : List Ent) (da : ByteArray) : msgOk ⟨1, f, d, t, i, it, c, y, es, da⟩ = (svB ⟨1, f, d, t, i, it, c, y, es, da⟩ && inRg t 1 100000 && based i it && decide (it ≤ t) && samB ⟨1, f, d, t, i, it, c, y, es, da⟩ ⟨1, f, d, (if svB ⟨1, f, d, t, i, it, c, y, es, da⟩ = true then t else 0), i, it, 0, false, [], ⟨#[]⟩⟩) := by
 rw [Bool.eq_iff_iff]
 simp only [msgOk, endB, namB, unn, unT, nonB, samB, walOk, mgW, inRg, inIt, Bool.and_eq_true, decide_eq_true_eq, based_bits, List.length_nil]
 simp [entsOk]
 rw [show ByteArray.empty = (⟨#[]⟩ : ByteArray) from rfl]
 generalize svB _ = sv
 simp only [based_bits]
 grind
theorem ok2 (f d t i it c : Int) (y : Bool) (es : List Ent) (da : ByteArray) : msgOk ⟨2, f, d, t, i, it, c, y, es, da⟩ = (svB ⟨2, f, d, t, i, it, c, y, es, da⟩ && inRg t 1 100000 && samB ⟨2, f, d, t, i, it, c, y, es, da⟩ ⟨2, f, d, (if svB ⟨2, f, d, t, i, it, c, y, es, da⟩ = true then t else 0), 0, 0, 0, y, [], ⟨#[]⟩⟩) := by
 rw [Bool.eq_iff_iff]
 simp only [msgOk, endB, namB, unn, unT, nonB, samB, walOk, mgW, inRg, inIt, Bool.and_eq_true, decide_eq_true_eq, List.length_nil]
 simp
 rw [show ByteArray.empty = (⟨#[]⟩ : ByteArray) from rfl]
 generalize svB _ = sv
 grind
theorem ok3 (f d t i it c : Int) (y : Bool) (es : List Ent) (da : ByteArray) : msgOk ⟨3, f, d, t, i, it, c, y, es, da⟩ = (svB ⟨3, f, d, t, i, it, c, y, es, da⟩ && inRg t 1 100000 && based i it && decide (it ≤ t) && inRg c 0 100000 && decide (es.length ≤ 4) && entsOk t it es && decide (i + (es.length : Int) ≤ 100000) && samB ⟨3, f, d, t, i, it, c, y, es, da⟩ ⟨3, f, d, (if svB ⟨3, f, d, t, i, it, c, y, es, da⟩ = true then t else 0), i, it, c, false, es, ⟨#[]⟩⟩) := by
 rw [Bool.eq_iff_iff]
 simp only [msgOk, endB, namB, unn, unT, nonB, samB, walOk, mgW, inRg, inIt, Bool.and_eq_true, decide_eq_true_eq, based_bits, List.length_nil]
 simp
 rw [show ByteArray.empty = (⟨#[]⟩ : ByteArray) from rfl]
 generalize svB _ = sv
 simp only [based_bits]
 grind
theorem ok4 (f d t i it c : Int) (y : Bool) (es : List Ent) (da : ByteArray) : msgOk ⟨4, f, d, t, i, it, c, y, es, da⟩ = (svB ⟨4, f, d, t, i, it, c, y, es, da⟩ && inRg t 1 100000 && inRg i 0 100000 && samB ⟨4, f, d, t, i, it, c, y, es, da⟩ ⟨4, f, d, (if svB ⟨4, f, d, t, i, it, c, y, es, da⟩ = true then t else 0), i, 0, 0, y, [], ⟨#[]⟩⟩) := by
 rw [Bool.eq_iff_iff]
 simp only [msgOk, endB, namB, unn, unT, nonB, samB, walOk, mgW, inRg, inIt, Bool.and_eq_true, decide_eq_true_eq, List.length_nil]
 simp
 rw [show ByteArray.empty = (⟨#[]⟩ : ByteArray) from rfl]
 generalize svB _ = sv
 grind
theorem ok5 (f d t i it c : Int) (y : Bool) (es : List Ent) (da : ByteArray) : msgOk ⟨5, f, d, t, i, it, c, y, es, da⟩ = (svB ⟨5, f, d, t, i, it, c, y, es, da⟩ && inRg t 1 100000 && inRg i 1 100000 && inRg it 1 t && decide (da.size ≤ 30000) && samB ⟨5, f, d, t, i, it, c, y, es, da⟩ ⟨5, f, d, (if svB ⟨5, f, d, t, i, it, c, y, es, da⟩ = true then t else 0), i, it, 0, false, [], da⟩) := by
 rw [Bool.eq_iff_iff]
 simp only [msgOk, endB, namB, unn, unT, nonB, samB, walOk, mgW, inRg, inIt, Bool.and_eq_true, decide_eq_true_eq, List.length_nil]
 simp [entsOk]
 rw [show ByteArray.empty = (⟨#[]⟩ : ByteArray) from rfl]
 generalize svB _ = sv
 simp only [based_bits]
 grind
theorem ok6 (f d t i it c : Int) (y : Bool) (es : List Ent) (da : ByteArray) : msgOk ⟨6, f, d, t, i, it, c, y, es, da⟩ = (askB ⟨6, f, d, t, i, it, c, y, es, da⟩ && inRg i 1 1000000 && opB da && samB ⟨6, f, d, t, i, it, c, y, es, da⟩ ⟨6, f, d, (if svB ⟨6, f, d, t, i, it, c, y, es, da⟩ = true then t else 0), i, 0, 0, false, [], da⟩) := by
 rw [Bool.eq_iff_iff]
 simp only [msgOk, endB, askB, svB, srvB, cliB, namB, unn, unT, nonB, samB, walOk, mgW, inRg, inIt, Bool.and_eq_true, decide_eq_true_eq, List.length_nil]
 simp
 rw [show ByteArray.empty = (⟨#[]⟩ : ByteArray) from rfl]
 grind
theorem ok7 (f d t i it c : Int) (y : Bool) (es : List Ent) (da : ByteArray) : msgOk ⟨7, f, d, t, i, it, c, y, es, da⟩ = (telB ⟨7, f, d, t, i, it, c, y, es, da⟩ && inRg i 1 1000000 && ansB da && samB ⟨7, f, d, t, i, it, c, y, es, da⟩ ⟨7, f, d, (if svB ⟨7, f, d, t, i, it, c, y, es, da⟩ = true then t else 0), i, 0, 0, false, [], da⟩) := by
 rw [Bool.eq_iff_iff]
 simp only [msgOk, endB, telB, svB, srvB, cliB, namB, unn, unT, nonB, samB, walOk, mgW, inRg, inIt, Bool.and_eq_true, decide_eq_true_eq, List.length_nil]
 simp
 rw [show ByteArray.empty = (⟨#[]⟩ : ByteArray) from rfl]
 grind
theorem okx (k : Int) (f d t i it c : Int) (y : Bool) (es : List Ent) (da : ByteArray) (h : k ≠ 1 ∧ k ≠ 2 ∧ k ≠ 3 ∧ k ≠ 4 ∧ k ≠ 5 ∧ k ≠ 6 ∧ k ≠ 7) : msgOk ⟨k, f, d, t, i, it, c, y, es, da⟩ = false := by
 obtain ⟨n1, n2, n3, n4, n5, n6, n7⟩ := h
 simp [msgOk, namB, n1, n2, n3, n4, n5, n6, n7]
end Go.Proofs.YtimfnbnffibgpaaGreatDoor
