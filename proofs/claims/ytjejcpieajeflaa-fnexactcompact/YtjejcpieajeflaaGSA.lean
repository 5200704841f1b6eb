/-
  A core that came in as an argument: what is told of it.
-/
import Derived.Test.YtjejcpieajeflaaRows
import Derived.Test.YtjejcpieajeflaaCoVal
import Derived.Test.YtjejcpieajeflaaWkArg
import Derived.ChangeSlices
import Derived.ChangeArms
import Derived.OpenShut
import Derived.Handy
import Derived.Deep.Cut
namespace Go.Proofs.Ytjejcpieajeflaa
open Go.ChangeShapes Go.WideShapes Go.ChangeAt Go.RowKit Go.PlainAid
set_option linter.unusedVariables false

theorem cCore : Try.prog.cellsOf 25 = 13 := by kernel_rfl
theorem cIntC : Try.prog.cellsOf 3 = 1 := by kernel_rfl
/-- Its numbers are of 64 bits. -/
structure IntsC (x : Cor) : Prop where
  i : IntOk x.id
  p : IntOk x.peers
  t : IntOk x.term
  b : IntOk x.base
  c : IntOk x.commit
theorem list13 {α : Type} {l : List α} (h : l.length = 13) : ∃ a0 a1 a2 a3 a4 a5 a6 a7 a8 a9 a10 a11 a12, l = [a0, a1, a2, a3, a4, a5, a6, a7, a8, a9, a10, a11, a12] := by
  match l, h with
  | [a0, a1, a2, a3, a4, a5, a6, a7, a8, a9, a10, a11, a12], _ => exact ⟨a0, a1, a2, a3, a4, a5, a6, a7, a8, a9, a10, a11, a12, rfl⟩
section
variable {H : Type} {enc : TypeId × Value → H} {w : World} {base : Nat} {spare : Nat → Bool} {held : Bool}
theorem open_numsF {fuel : Nat} {v : Value} {x : DataW H × List MemPlace} (h : DataW.trod enc Try.prog w base spare held fuel 23 [v] = some x) : ∃ l : List Int, NumsV w w.heap.size v l ∧ l.length ≤ maxLen := by
  rcases open_ints Try.underlying23 Try.underlying3 cIntC h with ⟨hcs, _⟩ | ⟨a, len, cap, zs, hcs, _, hl, hm, hz, _, hcell, hwz⟩
  · obtain rfl : v = .slice none 0 0 := by simpa using hcs
    exact ⟨[], ⟨none, 0, rfl, Nat.le_refl _, by unfold maxLen; omega, fun j hj => by simp at hj⟩, by simp⟩
  · obtain rfl : v = .slice (some a) len cap := by simpa using hcs
    have hzl : len ≤ zs.length := by rw [hz]; split <;> omega
    have hlen : (zs.take len).length = len := by rw [List.length_take]; omega
    refine ⟨zs.take len, ⟨some a, cap, by rw [hlen], by rw [hlen]; exact hl, hm, fun j hj => ?_⟩, by rw [hlen]; omega⟩
    rw [hlen] at hj
    have hc := hcell j (by omega)
    obtain ⟨b, off, spot⟩ := a
    have hspot : spot = none := by simpa [Addr.add] using World.cell?_spot (hcell 0 (by omega))
    subst hspot
    have hadd : (⟨b, off, none⟩ : Addr).add j = ⟨b, off + j, none⟩ := by cases j <;> simp [Addr.add]
    rw [hadd] at hc
    refine ⟨b, off, rfl, World.block_lt_of_cell? _ _ hc, ?_⟩
    rw [hc]
    congr 2
    simp [List.getD, hj]
set_option maxRecDepth 100000 in
/-- A core that came in. -/
theorem open_core {r : Reach} {b0 : Nat} {v : Value} {dd : DataW H} {ps : List MemPlace} (hval : Value.okWide Try.prog w r b0 25 v) (hd : DataW.Trod enc Try.prog w base spare held 25 v dd ps) : ∃ x : Cor, CorV w w.heap.size v x ∧ FitsC x ∧ IntsC x := by
  obtain ⟨cs, rfl, hsz⟩ := okWide_struct Try.underlying25 hval
  rw [cCore] at hsz
  obtain ⟨fuel, hf0⟩ := hd
  obtain ⟨xs, m, _, _, _, hlen, hf⟩ := DataW.trod_struct Try.underlying25 hf0
  obtain ⟨l⟩ := cs
  obtain ⟨a0, a1, a2, a3, a4, a5, a6, a7, a8, a9, a10, a11, a12, rfl⟩ := list13 (show l.length = 13 from hsz)
  obtain ⟨x0, x1, x2, x3, x4, x5, x6, x7, x8, x9, x10, x11, x12, rfl⟩ := list13 (show xs.length = 13 from hlen)
  have f0 := hf 0 _ rfl
  have f1 := hf 1 _ rfl
  have f2 := hf 2 _ rfl
  have f3 := hf 3 _ rfl
  have f4 := hf 4 _ rfl
  have f5 := hf 5 _ rfl
  have f6 := hf 6 _ rfl
  have f7 := hf 7 _ rfl
  have f8 := hf 8 _ rfl
  have f9 := hf 9 _ rfl
  have f10 := hf 10 _ rfl
  have f11 := hf 11 _ rfl
  have f12 := hf 12 _ rfl
  simp only [Value.cells, List.getElem?_cons_zero, List.getElem?_cons_succ] at f0 f1 f2 f3 f4 f5 f6 f7 f8 f9 f10 f11 f12
  obtain ⟨i0, e0, _, w0⟩ := DataW.trod_int Try.underlying3 f0
  obtain ⟨i1, e1, _, w1⟩ := DataW.trod_int Try.underlying3 f1
  obtain ⟨i2, e2, _, w2⟩ := DataW.trod_int Try.underlying3 f2
  obtain ⟨i3, e3, _, w3⟩ := DataW.trod_int Try.underlying3 f3
  obtain ⟨i4, e4, _, w4⟩ := DataW.trod_int Try.underlying3 f4
  obtain ⟨i5, e5, _, w5⟩ := DataW.trod_int Try.underlying3 f5
  obtain ⟨i6, e6, _, w6⟩ := DataW.trod_int Try.underlying3 f6
  obtain ⟨i7, e7, _, w7⟩ := DataW.trod_int Try.underlying3 f7
  obtain ⟨i9, e9, _, w9⟩ := DataW.trod_int Try.underlying3 f9
  cases e0
  cases e1
  cases e2
  cases e3
  cases e4
  cases e5
  cases e6
  cases e7
  cases e9
  obtain ⟨ls, l1, l2, l3⟩ := open_rows Try.underlying22 2 cEnt (by omega) entC (fun _ => rfl) _ open_ent f8
  obtain ⟨ys, y1, y2⟩ := open_numsF f10
  obtain ⟨ns, n1, n2⟩ := open_numsF f11
  obtain ⟨ms, m1, m2⟩ := open_numsF f12
  exact ⟨⟨i0, i1, i2, i3, i4, i5, i6, i7, ls, i9, ys, ns, ms⟩, ⟨a8, a10, a11, a12, rfl, l1, y1, n1, m1⟩, ⟨l2, fun x hx => (l3 x hx).1, y2, n2, m2⟩, ⟨bounds_i64 w0, bounds_i64 w1, bounds_i64 w2, bounds_i64 w6, bounds_i64 w9⟩⟩
end
end Go.Proofs.Ytjejcpieajeflaa

/-
  What weighs little is short.
-/
namespace Go.Proofs.Ytjejcpieajeflaa
open Go.ChangeShapes Go.WideShapes Go.ChangeAt Go.RowKit Go.PlainAid
set_option linter.unusedVariables false

theorem ShortC.of {x : Cor} (h : wtC x ≤ 1048576) : ShortC x := by
  unfold wtC at h
  exact ⟨by omega, fun y hy => by have := wtE_mem x.log y hy; omega, by omega, by omega, by omega⟩
end Go.Proofs.Ytjejcpieajeflaa
