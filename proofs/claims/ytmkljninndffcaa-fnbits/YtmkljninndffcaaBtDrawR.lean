/-
  What is drawn: contract of spec.DrawReadTimes: some text and some number.
-/
import Derived.Test.YtmkljninndffcaaRows
import Derived.Test.YtmkljninndffcaaBtDrawF
namespace Go.Proofs.Ytmkljninndffcaa
open Go.ChangeShapes Go.WideShapes Go.ChangeAt Go.RowKit Go.PlainAid
set_option linter.unusedVariables false

theorem textS (w : World) (p : Nat) (n : Int) (h0 : 0 ≤ n) (h1 : n ≤ 1000) (h : AtS w p) :
    Calls Try.prog 36 #[.pointer (some ⟨p, 0, none⟩), .int .i64 n] w fun e w' => ∃ d : ByteArray, e = .returned (.string d) ∧ (d.size : Int) ≤ n ∧ AtS w' p ∧ Mod w.heap.size p w w' := by
  obtain ⟨ao, len, cap, cs, s, h⟩ := h
  have hl := textV_length len cs n s h0
  exact (text_any w p ao len cap cs s n h0 h1 h).mono fun e w' k => ⟨_, k.1, by rw [txt_size]; omega, ⟨_, _, _, _, _, k.2.1⟩, k.2.2⟩

set_option maxHeartbeats 4000000 in
theorem drawRead (w : World) (ao : Option Addr) (len cap : Nat) (cs : Nat → Nat) (hl : len ≤ 1048576) (h : CodeIs w w.heap.size ao len cs) :
    Calls Try.prog 20 #[.slice ao len cap] w fun e w' => (∃ (s : ByteArray) (n : Int), e = .returned (.tuple #[.string s, .int .i64 n]) ∧ s.size ≤ 2000 ∧ -1 ≤ n ∧ n ≤ 2000) ∧ Below w.heap.size w w' := by
  have HC : Hid (CodeIs w w.heap.size ao len cs) := h
  have cZ := fun wx => size_any wx ao len cap 12 hl (by omega) (by omega)
  clear h
  go_enter Try.func20, Try.ntmps20
  go_wp2_with fail
  refine (new_any _ ao len cap cs hl HC.out).mono ?_
  rintro e w1 ⟨rfl, hA1, hb1⟩
  have A1 : Hid (AtS w1 w.heap.size) := ⟨_, _, _, _, _, hA1⟩
  have B1 : Hid (Below w.heap.size w w1) := hb1
  clear hA1 hb1
  go_wp2_with fail
  refine (cZ _).mono ?_
  rintro e w2 ⟨⟨v, rfl, hv1, hv2⟩, rfl⟩
  go_wp2_with fail
  refine (times_any w1 w.heap.size v hv1 hv2 A1.out).mono ?_
  rintro e w3 ⟨u, l, rfl, hN, hl3, hA3, hm3⟩
  have B3 : Hid (Below w.heap.size w w3) := B1.out.trans ((hm3.mono B1.out.size).below (Nat.le_refl _))
  have A3 : Hid (AtS w3 w.heap.size) := hA3
  have cS := specShowTimes l u w3 w3.heap.size hN.lies (by omega) (Nat.le_refl _)
  obtain ⟨Au, cu, rfl, _, _⟩ := hN.shape
  clear hN hA3 hm3
  have q1 : (l.length : Int) ≤ 1000 := by omega
  generalize l.length = ln at *
  go_wp2_with fail
  refine cS.mono ?_
  rintro e w4 ⟨rfl, hb4⟩
  have hsz := showT_size l
  have B4 : Hid (Below w.heap.size w w4) := B3.out.trans (hb4.mono B3.out.size)
  have A4 : Hid (AtS w4 w.heap.size) := A3.out.below hb4 A3.out.lt
  clear hb4 cS
  generalize showT l = st at *
  go_wp2_with fail
  refine (textS w4 w.heap.size 3 (by omega) (by omega) A4.out).mono ?_
  rintro e w5 ⟨d, rfl, hd, hA, hm⟩
  have A5 : Hid (AtS w5 w.heap.size) := hA
  have B5 : Hid (Below w.heap.size w w5) := B4.out.trans ((hm.mono B4.out.size).below (Nat.le_refl _))
  have hsum : st.size + d.size ≤ 9223372036854775807 := by omega
  have hs0 : (st ++ d).size ≤ 423 := by rw [ByteArray.size_append]; omega
  have HS0 : Hid ((st ++ d).size ≤ 423) := hs0
  clear hA hm hs0
  go_wp2_with fail
  refine (once_some w5 w.heap.size 4 (by omega) A5.out).mono ?_
  rintro e w6 ⟨b6, rfl, hA, hm⟩
  have A6 : Hid (AtS w6 w.heap.size) := hA
  have B6 : Hid (Below w.heap.size w w6) := B5.out.trans ((hm.mono B5.out.size).below (Nat.le_refl _))
  clear hA hm hsum hd hsz
  generalize st ++ d = s0 at *
  cases b6
  · have HS7 : Hid (s0.size ≤ 2000) := by have := HS0.out; unfold Hid; omega
    go_wp2_with fail
    refine (once_some w6 w.heap.size 6 (by omega) A6.out).mono ?_
    rintro e w8 ⟨b8, rfl, hA, hm⟩
    have A8 : Hid (AtS w8 w.heap.size) := hA
    have B8 : Hid (Below w.heap.size w w8) := B6.out.trans ((hm.mono B6.out.size).below (Nat.le_refl _))
    clear hA hm
    cases b8
    · go_wp2_with fail
      go_ret2
      exact ⟨⟨s0, _, rfl, HS7.out, by omega, by omega⟩, B8.out⟩
    · have z1 : wrap64 ((ln : Int) + 1) = (ln : Int) + 1 := by unfold wrap64; omega
      have hal : Below w8.heap.size w8 (w8.alloc (.cells #[.int .i64 (-1), .int .i64 0, .int .i64 1, .int .i64 ((ln : Int) + 1), .int .i64 61] 3)) := (Below.refl _ _).alloc (Nat.le_refl _) _
      have K9 : Hid (Blk (w8.alloc (.cells #[.int .i64 (-1), .int .i64 0, .int .i64 1, .int .i64 ((ln : Int) + 1), .int .i64 61] 3)) w8.heap.size #[.int .i64 (-1), .int .i64 0, .int .i64 1, .int .i64 ((ln : Int) + 1), .int .i64 61] 3) := Blk.new _ _ _
      have A9 : Hid (AtS (w8.alloc (.cells #[.int .i64 (-1), .int .i64 0, .int .i64 1, .int .i64 ((ln : Int) + 1), .int .i64 61] 3)) w.heap.size) := A8.out.below hal A8.out.lt
      have B9 : Hid (Below w.heap.size w (w8.alloc (.cells #[.int .i64 (-1), .int .i64 0, .int .i64 1, .int .i64 ((ln : Int) + 1), .int .i64 61] 3))) := B8.out.alloc B8.out.size _
      have Z9 : Hid (w8.heap.size ≠ w.heap.size) := by have := A8.out.lt; unfold Hid; omega
      go_wp2_with fail
      generalize w8.alloc (.cells #[.int .i64 (-1), .int .i64 0, .int .i64 1, .int .i64 ((ln : Int) + 1), .int .i64 61] 3) = w9 at *
      refine (pickS w9 w.heap.size w8.heap.size [-1, 0, 1, (ln : Int) + 1, 61] 5 rfl (by omega) (by omega) (fun z => -1 ≤ z ∧ z ≤ 2000) (by omega) (by intro z hz; simp at hz; omega) A9.out Z9.out K9.out).mono ?_
      rintro e wa ⟨va, rfl, hva, hA, hm⟩
      have Ba : Hid (Below w.heap.size w wa) := B9.out.trans ((hm.mono B9.out.size).below (Nat.le_refl _))
      clear hA hm A9 B9 K9 hal
      go_wp2_with fail
      go_ret2
      exact ⟨⟨s0, va, rfl, HS7.out, hva.1, hva.2⟩, Ba.out⟩
  · go_wp2_with fail
    refine (spoilS w6 w.heap.size s0 (by have := HS0.out; omega) A6.out).mono ?_
    rintro e w7 ⟨s7, rfl, hs7, hA, hm⟩
    have HS7 : Hid (s7.size ≤ 2000) := by unfold Hid; omega
    have A7 : Hid (AtS w7 w.heap.size) := hA
    have B7 : Hid (Below w.heap.size w w7) := B6.out.trans ((hm.mono B6.out.size).below (Nat.le_refl _))
    clear hA hm hs7
    go_wp2_with fail
    refine (once_some w7 w.heap.size 6 (by omega) A7.out).mono ?_
    rintro e w8 ⟨b8, rfl, hA, hm⟩
    have A8 : Hid (AtS w8 w.heap.size) := hA
    have B8 : Hid (Below w.heap.size w w8) := B7.out.trans ((hm.mono B7.out.size).below (Nat.le_refl _))
    clear hA hm
    cases b8
    · go_wp2_with fail
      go_ret2
      exact ⟨⟨s7, _, rfl, HS7.out, by omega, by omega⟩, B8.out⟩
    · have z1 : wrap64 ((ln : Int) + 1) = (ln : Int) + 1 := by unfold wrap64; omega
      have hal : Below w8.heap.size w8 (w8.alloc (.cells #[.int .i64 (-1), .int .i64 0, .int .i64 1, .int .i64 ((ln : Int) + 1), .int .i64 61] 3)) := (Below.refl _ _).alloc (Nat.le_refl _) _
      have K9 : Hid (Blk (w8.alloc (.cells #[.int .i64 (-1), .int .i64 0, .int .i64 1, .int .i64 ((ln : Int) + 1), .int .i64 61] 3)) w8.heap.size #[.int .i64 (-1), .int .i64 0, .int .i64 1, .int .i64 ((ln : Int) + 1), .int .i64 61] 3) := Blk.new _ _ _
      have A9 : Hid (AtS (w8.alloc (.cells #[.int .i64 (-1), .int .i64 0, .int .i64 1, .int .i64 ((ln : Int) + 1), .int .i64 61] 3)) w.heap.size) := A8.out.below hal A8.out.lt
      have B9 : Hid (Below w.heap.size w (w8.alloc (.cells #[.int .i64 (-1), .int .i64 0, .int .i64 1, .int .i64 ((ln : Int) + 1), .int .i64 61] 3))) := B8.out.alloc B8.out.size _
      have Z9 : Hid (w8.heap.size ≠ w.heap.size) := by have := A8.out.lt; unfold Hid; omega
      go_wp2_with fail
      generalize w8.alloc (.cells #[.int .i64 (-1), .int .i64 0, .int .i64 1, .int .i64 ((ln : Int) + 1), .int .i64 61] 3) = w9 at *
      refine (pickS w9 w.heap.size w8.heap.size [-1, 0, 1, (ln : Int) + 1, 61] 5 rfl (by omega) (by omega) (fun z => -1 ≤ z ∧ z ≤ 2000) (by omega) (by intro z hz; simp at hz; omega) A9.out Z9.out K9.out).mono ?_
      rintro e wa ⟨va, rfl, hva, hA, hm⟩
      have Ba : Hid (Below w.heap.size w wa) := B9.out.trans ((hm.mono B9.out.size).below (Nat.le_refl _))
      clear hA hm A9 B9 K9 hal
      go_wp2_with fail
      go_ret2
      exact ⟨⟨s7, va, rfl, HS7.out, hva.1, hva.2⟩, Ba.out⟩
end Go.Proofs.Ytmkljninndffcaa
