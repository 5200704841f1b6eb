/-
  What is drawn: contracts of spec.l1Size, spec.DrawShowTimes, spec.DrawShowValues, spec.DrawReadTimes, spec.DrawZigZag, and of laws.sameInts where both are the same.
-/
import Derived.Test.YtmkljninndffcaaRows
import Derived.Test.YtmkljninndffcaaBtDrawT
import Derived.Test.YtmkljninndffcaaBtMath
import Derived.Test.YtmkljninndffcaaBtTim
namespace Go.Proofs.Ytmkljninndffcaa
open Go.ChangeShapes Go.WideShapes Go.ChangeAt Go.RowKit Go.PlainAid
set_option linter.unusedVariables false

set_option maxHeartbeats 400000 in
theorem size_any (w : World) (ao : Option Addr) (len cap : Nat) (most : Nat) (hl : len ≤ 1048576) (h1 : 2 ≤ most) (h2 : most ≤ 500) :
    Calls Try.prog 35 #[.slice ao len cap, .int .i64 (most : Int)] w fun e w' => (∃ v : Int, e = .returned (.int .i64 v) ∧ 1 ≤ v ∧ v ≤ 500) ∧ w = w' := by
  have q1 : (len : Int) ≤ 1048576 := by omega
  have q2 : (most : Int) ≤ 500 := by omega
  by_cases hc : (most : Int) < 2 + (len : Int) / 20
  · go_enter Try.func35, Try.ntmps35
    go_wp2_with fail
    go_ret
    exact ⟨⟨_, rfl, by omega, by omega⟩, rfl⟩
  · go_enter Try.func35, Try.ntmps35
    go_wp2_with fail
    go_ret
    exact ⟨⟨2 + (len : Int) / 20, by go_num, by omega, by omega⟩, rfl⟩

set_option maxHeartbeats 1000000 in
theorem drawTimes (w : World) (ao : Option Addr) (len cap : Nat) (cs : Nat → Nat) (hl : len ≤ 1048576) (h : CodeIs w w.heap.size ao len cs) :
    Calls Try.prog 11 #[.slice ao len cap] w fun e w' => (∃ u l, e = .returned u ∧ Nums w' w.heap.size u l ∧ l.length ≤ 1000) ∧ Below w.heap.size w w' := by
  have HC : Hid (CodeIs w w.heap.size ao len cs) := h
  have cZ := fun wx => size_any wx ao len cap 20 hl (by omega) (by omega)
  clear h
  go_enter Try.func11, Try.ntmps11
  go_wp2_with fail
  refine (new_any _ ao len cap cs hl HC.out).mono ?_
  rintro e w1 ⟨rfl, hA1, hb1⟩
  have A1 : Hid (AtS w1 w.heap.size) := ⟨_, _, _, _, _, hA1⟩
  have B1 : Hid (Below w.heap.size w w1) := hb1
  clear hA1 hb1
  go_wp2_with fail
  refine (cZ _).mono ?_
  rintro e w2 ⟨⟨v, rfl, hv1, hv2⟩, rfl⟩
  go_wp2_with fail
  refine (times_any w1 w.heap.size v hv1 hv2 A1.out).mono ?_
  rintro e w3 ⟨u, l, rfl, hN, hl3, hA3, hm3⟩
  have B3 : Hid (Below w.heap.size w w3) := B1.out.trans ((hm3.mono B1.out.size).below (Nat.le_refl _))
  have N3 : Hid (Nums w3 w.heap.size u l) := hN.mono B1.out.size
  clear hN hA3 hm3
  go_wp2_with fail
  go_ret
  exact ⟨⟨u, l, rfl, N3.out, hl3⟩, B3.out⟩

set_option maxHeartbeats 1000000 in
theorem drawValues (w : World) (ao : Option Addr) (len cap : Nat) (cs : Nat → Nat) (hl : len ≤ 1048576) (h : CodeIs w w.heap.size ao len cs) :
    Calls Try.prog 16 #[.slice ao len cap] w fun e w' => (∃ u l, e = .returned u ∧ Nums w' w.heap.size u l ∧ l.length ≤ 1000) ∧ Below w.heap.size w w' := by
  have HC : Hid (CodeIs w w.heap.size ao len cs) := h
  have cZ := fun wx => size_any wx ao len cap 20 hl (by omega) (by omega)
  clear h
  go_enter Try.func16, Try.ntmps16
  go_wp2_with fail
  refine (new_any _ ao len cap cs hl HC.out).mono ?_
  rintro e w1 ⟨rfl, hA1, hb1⟩
  have A1 : Hid (AtS w1 w.heap.size) := ⟨_, _, _, _, _, hA1⟩
  have B1 : Hid (Below w.heap.size w w1) := hb1
  clear hA1 hb1
  go_wp2_with fail
  refine (cZ _).mono ?_
  rintro e w2 ⟨⟨v, rfl, hv1, hv2⟩, rfl⟩
  go_wp2_with fail
  refine (ints_any w1 w.heap.size v hv1 hv2 A1.out).mono ?_
  rintro e w3 ⟨u, l, rfl, hN, hl3, hA3, hm3⟩
  have B3 : Hid (Below w.heap.size w w3) := B1.out.trans ((hm3.mono B1.out.size).below (Nat.le_refl _))
  have N3 : Hid (Nums w3 w.heap.size u l) := hN.mono B1.out.size
  clear hN hA3 hm3
  go_wp2_with fail
  go_ret
  exact ⟨⟨u, l, rfl, N3.out, hl3⟩, B3.out⟩

set_option maxHeartbeats 1000000 in
theorem drawZig (w : World) (ao : Option Addr) (len cap : Nat) (cs : Nat → Nat) (hl : len ≤ 1048576) (h : CodeIs w w.heap.size ao len cs) :
    Calls Try.prog 21 #[.slice ao len cap] w fun e w' => (∃ z : Int, e = .returned (.int .i64 z) ∧ -9223372036854775808 ≤ z ∧ z ≤ 9223372036854775807) ∧ Below w.heap.size w w' := by
  have HC : Hid (CodeIs w w.heap.size ao len cs) := h
  clear h
  go_enter Try.func21, Try.ntmps21
  go_wp2_with fail
  refine (new_any _ ao len cap cs hl HC.out).mono ?_
  rintro e w1 ⟨rfl, hA1, hb1⟩
  have A1 : Hid (AtS w1 w.heap.size) := ⟨_, _, _, _, _, hA1⟩
  have B1 : Hid (Below w.heap.size w w1) := hb1
  clear hA1 hb1
  go_wp2_with fail
  refine (once_some w1 w.heap.size 4 (by omega) A1.out).mono ?_
  rintro e w2 ⟨b2, rfl, hA, hm⟩
  have A2 : Hid (AtS w2 w.heap.size) := hA
  have B2 : Hid (Below w.heap.size w w2) := B1.out.trans ((hm.mono B1.out.size).below (Nat.le_refl _))
  clear hA hm
  cases b2
  · go_wp2_with fail
    refine (belowS w2 w.heap.size 2000 (by omega) (by omega) A2.out).mono ?_
    rintro e w3 ⟨v3, rfl, ⟨v30, v31⟩, hA, hm⟩
    have B3 : Hid (Below w.heap.size w w3) := B2.out.trans ((hm.mono B2.out.size).below (Nat.le_refl _))
    clear hA hm
    have z1 : wrap64 (v3 - 1000) = v3 - 1000 := by unfold wrap64; omega
    go_wp2_with fail
    go_ret
    exact ⟨⟨v3 - 1000, rfl, by omega, by omega⟩, B3.out⟩
  · have hal : Below w2.heap.size w2 (w2.alloc (.cells #[.int .i64 0, .int .i64 (-1), .int .i64 140737488355328, .int .i64 140737488355329, .int .i64 (-140737488355328), .int .i64 (-140737488355329), .int .i64 9223372036854775807, .int .i64 (-9223372036854775808)] 3)) := (Below.refl _ _).alloc (Nat.le_refl _) _
    have K3 : Hid (Blk (w2.alloc (.cells #[.int .i64 0, .int .i64 (-1), .int .i64 140737488355328, .int .i64 140737488355329, .int .i64 (-140737488355328), .int .i64 (-140737488355329), .int .i64 9223372036854775807, .int .i64 (-9223372036854775808)] 3)) w2.heap.size #[.int .i64 0, .int .i64 (-1), .int .i64 140737488355328, .int .i64 140737488355329, .int .i64 (-140737488355328), .int .i64 (-140737488355329), .int .i64 9223372036854775807, .int .i64 (-9223372036854775808)] 3) := Blk.new _ _ _
    have A3 : Hid (AtS (w2.alloc (.cells #[.int .i64 0, .int .i64 (-1), .int .i64 140737488355328, .int .i64 140737488355329, .int .i64 (-140737488355328), .int .i64 (-140737488355329), .int .i64 9223372036854775807, .int .i64 (-9223372036854775808)] 3)) w.heap.size) := A2.out.below hal A2.out.lt
    have B3 : Hid (Below w.heap.size w (w2.alloc (.cells #[.int .i64 0, .int .i64 (-1), .int .i64 140737488355328, .int .i64 140737488355329, .int .i64 (-140737488355328), .int .i64 (-140737488355329), .int .i64 9223372036854775807, .int .i64 (-9223372036854775808)] 3))) := B2.out.alloc B2.out.size _
    have Z3 : Hid (w2.heap.size ≠ w.heap.size) := by have := A2.out.lt; unfold Hid; omega
    go_wp2_with fail
    generalize w2.alloc (.cells #[.int .i64 0, .int .i64 (-1), .int .i64 140737488355328, .int .i64 140737488355329, .int .i64 (-140737488355328), .int .i64 (-140737488355329), .int .i64 9223372036854775807, .int .i64 (-9223372036854775808)] 3) = w3 at *
    refine (pickS w3 w.heap.size w2.heap.size [0, -1, 140737488355328, 140737488355329, -140737488355328, -140737488355329, 9223372036854775807, -9223372036854775808] 8 rfl (by omega) (by omega) (fun z => -9223372036854775808 ≤ z ∧ z ≤ 9223372036854775807) (by omega) (by intro z hz; simp at hz; omega) A3.out Z3.out K3.out).mono ?_
    rintro e w4 ⟨v4, rfl, hv4, hA, hm⟩
    have B4 : Hid (Below w.heap.size w w4) := B3.out.trans ((hm.mono B3.out.size).below (Nat.le_refl _))
    clear hA hm A3 B3 K3 hal
    go_wp2_with fail
    go_ret
    exact ⟨⟨v4, rfl, hv4.1, hv4.2⟩, B4.out⟩

/-- spec.l1Spoil: some text that is little longer. -/
theorem spoilS (w : World) (p : Nat) (t : ByteArray) (ht : t.size ≤ 1000) (h : AtS w p) :
    Calls Try.prog 53 #[.pointer (some ⟨p, 0, none⟩), .string t] w fun e w' => ∃ d : ByteArray, e = .returned (.string d) ∧ d.size ≤ 1003 ∧ AtS w' p ∧ Mod w.heap.size p w w' := by
  by_cases h0 : t.size = 0
  · have HA : Hid (AtS w p) := h
    clear h
    have z0 : ((t.size : Int) == 0) = true := beq_iff_eq.2 (by omega)
    clear h0
    go_enter Try.func53, Try.ntmps53
    go_wp2_with fail
    refine (text_some _ p 3 (by omega) (by omega) HA.out).mono ?_
    rintro e w1 ⟨d, rfl, hd, hA1, hm1⟩
    go_wp2_with fail
    go_ret
    exact ⟨d, rfl, by omega, hA1, hm1⟩
  · obtain ⟨ao, len, cap, cs, s, h⟩ := h
    refine (spoil_some w p ao len cap cs s t (by omega) ht h).mono ?_
    rintro e w' ⟨he, hA, hm⟩
    have := spT_size len cs t s (by omega)
    exact ⟨_, he, by omega, ⟨_, _, _, _, _, hA⟩, hm⟩

set_option maxHeartbeats 1000000 in
theorem sameInts (l : List Int) (va vb : Value) (w : World) (B : Nat) (ha : NumsV w B va l) (hb : NumsV w B vb l) (hl : l.length ≤ 2097152) :
    Calls Try.prog 15 #[va, vb] w fun e w' => e = .returned (.bool true) ∧ Like w w' := by
  obtain ⟨A, ca, rfl, _, _, ha⟩ := ha
  obtain ⟨A', cb, rfl, _, _, hb⟩ := hb
  have HA : Hid (∀ j, j < l.length → ∃ g off, A = some ⟨g, off, none⟩ ∧ g < B ∧ _) := ha
  have HB : Hid (∀ j, j < l.length → ∃ g off, A' = some ⟨g, off, none⟩ ∧ g < B ∧ _) := hb
  have q1 : (l.length : Int) ≤ 2097152 := by omega
  clear ha hb hl
  generalize hn : l.length = n at *
  clear hn
  go_enter Try.func15, Try.ntmps15
  go_wp2
  go_loopw [5] (fun v5 wr => ∃ k : Nat, k ≤ n ∧ v5 = .int .i64 k ∧ Like w wr) (fun i _ => n - (intOf i).toNat)
  case atStart => exact ⟨0, by omega, rfl, Like.refl _⟩
  case round =>
    obtain ⟨k, hk, rfl, hL⟩ := hrel
    by_cases hlt : k < n
    · have q2 : (k : Int) < (n : Int) := by omega
      obtain ⟨g, off, rfl, _, e1⟩ := HA.out k hlt
      obtain ⟨g', off', rfl, _, e2⟩ := HB.out k hlt
      rw [← cell?_heap hL.1] at e1 e2
      generalize l.getD k 0 = x at *
      go_wp2
      go_quiet (fail)
      go_wp2
      go_roundw
      case rel => exact ⟨k + 1, by omega, by go_num, hL.drewN _⟩
      case measure => simp [intOf]; omega
    · have hkk : k = n := by omega
      subst hkk
      go_wp2
      go_ret
      exact ⟨rfl, hL⟩
end Go.Proofs.Ytmkljninndffcaa
