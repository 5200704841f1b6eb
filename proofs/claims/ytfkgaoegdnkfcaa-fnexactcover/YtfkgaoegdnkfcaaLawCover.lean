/-
  The walk of FnExactCover.
-/
import Derived.Test.YtfkgaoegdnkfcaaRows
import Derived.Test.YtfkgaoegdnkfcaaBuCovI
import Derived.BigQuiet
import Derived.Deep.QuietTactic
namespace Go.Proofs.Ytfkgaoegdnkfcaa
open Go.ChangeShapes Go.WideShapes Go.ChangeAt Go.RowKit Go.PlainAid
set_option linter.unusedVariables false

set_option maxHeartbeats 1000000 in
theorem law_fnExactCover (f t : Int) (w : World) (hf1 : -9223372036854775808 ≤ f) (hf2 : f ≤ 9223372036854775807) (ht1 : -9223372036854775808 ≤ t) (ht2 : t ≤ 9223372036854775807) : Calls Try.prog 5 #[.int .i64 f, .int .i64 t] w fun e w' => e = .returned (.bool true) ∧ Below w.heap.size w w' := by
  have cS := fun wx => specCover f t wx hf1 ht2
  have cI := fun wx => implCover f t wx
  have HL : Hid ((cov f t).length ≤ 60) := Nat.le_trans (cov_length f t) (by omega)
  generalize cov f t = l at *
  go_enter Try.func5, Try.ntmps5
  go_wp2_with fail
  refine (cS _).mono ?_
  rintro e w1 ⟨u1, rfl, hN1, hb1⟩
  have B1 : Hid (Below w.heap.size w w1) := hb1
  have N1 : Hid (Nums w1 w.heap.size u1 l) := hN1
  clear hb1 hN1 cS
  go_wp2_with fail
  refine (cI _).mono ?_
  rintro e w2 ⟨u2, rfl, hN2, hb2⟩
  have B2 : Hid (Below w.heap.size w w2) := B1.out.trans (hb2.mono B1.out.size)
  have N1' : Hid (Nums w2 w.heap.size u1 l) := N1.out.on hb2
  have N2 : Hid (Nums w2 w1.heap.size u2 l) := hN2
  have Z1 : Hid (w.heap.size ≤ w1.heap.size) := B1.out.size
  have Z2 : Hid (w1.heap.size ≤ w2.heap.size) := hb2.size
  have G1 : Hid (∀ g, u1.ownBlock = some g → g < w1.heap.size) := fun g hg => (N1.out.lt g hg).2
  clear hb2 hN2 N1
  have cE := eqIntS l u2 u1 w2 w2.heap.size N2.out.lies N1'.out.lies (by have := HL.out; omega)
  go_wp2_with fail
  refine cE.mono ?_
  rintro e w3 ⟨rfl, hL3⟩
  have B3 : Hid (Below w.heap.size w w3) := B2.out.trans (hL3.below.mono B2.out.size)
  have N13 : Hid (Nums w3 w.heap.size u1 l) := N1'.out.on hL3.below
  have N23 : Hid (Nums w3 w1.heap.size u2 l) := N2.out.on hL3.below
  clear hL3 cE N1' N2
  have cM := markIntS 1 w1.heap.size u2 l w3 N23.out (by have := HL.out; omega) (by omega)
  go_wp2_with fail
  refine cM.mono ?_
  rintro e w4 ⟨rfl, hN4, hb4⟩
  have B4 : Hid (Below w.heap.size w w4) := B3.out.trans (hb4.mono Z1.out)
  have N14 : Hid (Nums w4 w.heap.size u1 l) := N13.out.kept fun g _ ho => hb4.block g (G1.out g ho)
  have N24 : Hid (Nums w4 w1.heap.size u2 (nmarks 1 l.length)) := hN4
  clear hN4 hb4 cM N13 N23
  have q3 : (l.length : Int) ≤ 60 := by have := HL.out; omega
  have cH := fun wx hx => heldIntS 1 w1.heap.size l.length u2 wx hx (by have := HL.out; omega) (by omega)
  generalize hln : l.length = ln at *
  go_wp2_with fail
  refine (cH w4 N24.out).mono ?_
  rintro e w5 ⟨rfl, rfl⟩
  go_wp2_with fail
  refine (cI _).mono ?_
  rintro e w6 ⟨u6, rfl, hN6, hb6⟩
  have B6 : Hid (Below w.heap.size w w6) := B4.out.trans (hb6.mono B4.out.size)
  have N16 : Hid (Nums w6 w.heap.size u1 l) := N14.out.on hb6
  have N26 : Hid (Nums w6 w1.heap.size u2 (nmarks 1 ln)) := N24.out.on hb6
  have cE := eqIntS l u6 u1 w6 w6.heap.size hN6.lies N16.out.lies (by omega)
  clear hN6 hb6
  go_wp2_with fail
  refine cE.mono ?_
  rintro e w7 ⟨rfl, hL7⟩
  have B7 : Hid (Below w.heap.size w w7) := B6.out.trans (hL7.below.mono B6.out.size)
  have N27 : Hid (Nums w7 w1.heap.size u2 (nmarks 1 ln)) := N26.out.on hL7.below
  clear hL7 cE
  go_wp2_with fail
  refine (cH w7 N27.out).mono ?_
  rintro e w8 ⟨rfl, rfl⟩
  go_wp2_with fail
  go_ret
  exact ⟨rfl, B7.out⟩
end Go.Proofs.Ytfkgaoegdnkfcaa
