/-
  The walk of FnExactReadTimes.
-/
import Derived.Test.YtmkljninndffcaaRows
import Derived.Test.YtmkljninndffcaaBtReadTS
import Derived.Test.YtmkljninndffcaaBtReadTI
namespace Go.Proofs.Ytmkljninndffcaa
open Go.ChangeShapes Go.WideShapes Go.ChangeAt Go.RowKit Go.PlainAid
set_option linter.unusedVariables false

theorem specReadTimesA (s : ByteArray) (n : Int) (w : World) (hs : s.size ≤ 1048576) : Calls Try.prog 29 #[.string s, .int .i64 n] w fun e w' => (∃ l k u, RdAns showT rowT s n l k ∧ e = .returned (.tuple #[u, .int .i64 (k : Int)]) ∧ Nums w' w.heap.size u l) ∧ Below w.heap.size w w' := by
  by_cases h : n < 1 ∨ 60 < n
  · exact specReadTimes_no s n w h
  · obtain ⟨m, rfl⟩ : ∃ m : Nat, n = (m : Int) := ⟨n.toNat, by omega⟩
    exact specReadTimes s m w hs (by omega) (by omega)
theorem implReadTimesA (s : ByteArray) (n : Int) (w : World) (hs : s.size ≤ 1048576) : Calls Try.prog 14 #[.string s, .int .i64 n] w fun e w' => (∃ l k u, RdAns showT rowT s n l k ∧ e = .returned (.tuple #[u, .int .i64 (k : Int)]) ∧ Nums w' w.heap.size u l) ∧ Below w.heap.size w w' := by
  by_cases h : n < 1 ∨ 60 < n
  · exact implReadTimes_no s n w h
  · obtain ⟨m, rfl⟩ : ∃ m : Nat, n = (m : Int) := ⟨n.toNat, by omega⟩
    exact implReadTimes s m w hs (by omega) (by omega)

set_option maxHeartbeats 1000000 in
theorem law_fnExactReadTimes (s : ByteArray) (n : Int) (w : World) (hs : s.size ≤ maxLen) (hn1 : -9223372036854775808 ≤ n) (hn2 : n ≤ 9223372036854775807) : Calls Try.prog 7 #[.string s, .int .i64 n] w fun e w' => e = .returned (.bool true) ∧ Below w.heap.size w w' := by
  unfold maxLen at hs
  by_cases hbig : (1048576 : Int) < (s.size : Int)
  · go_enter Try.func7, Try.ntmps7
    go_wp2_with fail
    go_ret
    exact ⟨rfl, Below.refl _ _⟩
  have cS := fun wx => specReadTimesA s n wx (by omega)
  have cI := fun wx => implReadTimesA s n wx (by omega)
  have q1 : (s.size : Int) ≤ 1048576 := by omega
  clear hbig
  go_enter Try.func7, Try.ntmps7
  go_wp2_with fail
  refine (cS _).mono ?_
  rintro e w1 ⟨⟨l, k, u1, hA1, rfl, hN1⟩, hb1⟩
  have HA : Hid (RdAns showT rowT s n l k) := hA1
  have hsh := hA1.short rowT_length
  have HL : Hid (l.length ≤ 60) := hsh.1
  have q2 : (k : Int) ≤ 1048576 := by omega
  have B1 : Hid (Below w.heap.size w w1) := hb1
  have N1 : Hid (Nums w1 w.heap.size u1 l) := hN1
  clear hA1 hsh hb1 hN1 cS
  go_wp2_with fail
  refine (cI _).mono ?_
  rintro e w2 ⟨⟨l2, k2, u2, hA2, rfl, hN2⟩, hb2⟩
  obtain ⟨rfl, rfl⟩ := HA.out.one hA2
  have B2 : Hid (Below w.heap.size w w2) := B1.out.trans (hb2.mono B1.out.size)
  have N1' : Hid (Nums w2 w.heap.size u1 l) := N1.out.on hb2
  have N2 : Hid (Nums w2 w1.heap.size u2 l) := hN2
  have Z1 : Hid (w.heap.size ≤ w1.heap.size) := B1.out.size
  have Z2 : Hid (w1.heap.size ≤ w2.heap.size) := hb2.size
  have G1 : Hid (∀ g, u1.ownBlock = some g → g < w1.heap.size) := fun g hg => (N1.out.lt g hg).2
  clear hb2 hN2 hA2 N1
  have cE := eqIntS l u2 u1 w2 w2.heap.size N2.out.lies N1'.out.lies (by have := HL.out; omega)
  go_wp2_with fail
  refine cE.mono ?_
  rintro e w3 ⟨rfl, hL3⟩
  have B3 : Hid (Below w.heap.size w w3) := B2.out.trans (hL3.below.mono B2.out.size)
  have N13 : Hid (Nums w3 w.heap.size u1 l) := N1'.out.on hL3.below
  have N23 : Hid (Nums w3 w1.heap.size u2 l) := N2.out.on hL3.below
  clear hL3 cE N1' N2
  have cM := markIntS 1 w1.heap.size u2 l w3 N23.out (by have := HL.out; omega) (by omega)
  go_wp2_with fail
  refine cM.mono ?_
  rintro e w4 ⟨rfl, hN4, hb4⟩
  have B4 : Hid (Below w.heap.size w w4) := B3.out.trans (hb4.mono Z1.out)
  have N14 : Hid (Nums w4 w.heap.size u1 l) := N13.out.kept fun g _ ho => hb4.block g (G1.out g ho)
  have N24 : Hid (Nums w4 w1.heap.size u2 (nmarks 1 l.length)) := hN4
  clear hN4 hb4 cM N13 N23
  have q3 : (l.length : Int) ≤ 60 := by have := HL.out; omega
  have cH := fun wx hx => heldIntS 1 w1.heap.size l.length u2 wx hx (by have := HL.out; omega) (by omega)
  generalize hln : l.length = ln at *
  go_wp2_with fail
  refine (cH w4 N24.out).mono ?_
  rintro e w5 ⟨rfl, rfl⟩
  go_wp2_with fail
  refine (cI _).mono ?_
  rintro e w6 ⟨⟨l6, k6, u6, hA6, rfl, hN6⟩, hb6⟩
  obtain ⟨rfl, rfl⟩ := HA.out.one hA6
  have B6 : Hid (Below w.heap.size w w6) := B4.out.trans (hb6.mono B4.out.size)
  have N16 : Hid (Nums w6 w.heap.size u1 l) := N14.out.on hb6
  have N26 : Hid (Nums w6 w1.heap.size u2 (nmarks 1 ln)) := N24.out.on hb6
  have cE := eqIntS l u6 u1 w6 w6.heap.size hN6.lies N16.out.lies (by omega)
  clear hA6 hN6 hb6
  go_wp2_with fail
  refine cE.mono ?_
  rintro e w7 ⟨rfl, hL7⟩
  have B7 : Hid (Below w.heap.size w w7) := B6.out.trans (hL7.below.mono B6.out.size)
  have N27 : Hid (Nums w7 w1.heap.size u2 (nmarks 1 ln)) := N26.out.on hL7.below
  clear hL7 cE
  go_wp2_with fail
  refine (cH w7 N27.out).mono ?_
  rintro e w8 ⟨rfl, rfl⟩
  go_wp2_with fail
  go_ret
  exact ⟨rfl, B7.out⟩
end Go.Proofs.Ytmkljninndffcaa
