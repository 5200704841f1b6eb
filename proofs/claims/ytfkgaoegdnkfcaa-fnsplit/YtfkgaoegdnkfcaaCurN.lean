/-
  What is drawn: contract of spec.l7Ints: some row of one number at least, whatever the code.
-/
import Derived.Test.YtfkgaoegdnkfcaaRows
import Derived.Test.YtfkgaoegdnkfcaaCurP
namespace Go.Proofs.Ytfkgaoegdnkfcaa
open Go.ChangeShapes Go.WideShapes Go.ChangeAt Go.RowKit Go.PlainAid
set_option linter.unusedVariables false

set_option maxHeartbeats 2000000 in
theorem ints_any (w : World) (p : Nat) (most : Int) (hm0 : 1 ≤ most) (hm1 : most ≤ 600) (h : AtS w p) : Calls Try.prog 44 #[.pointer (some ⟨p, 0, none⟩), .int .i64 most] w (DrawnL w p) := by
  have HP : Hid (p < w.heap.size) := h.lt
  have hal : Below w.heap.size w (w.alloc (.cells #[] 3)) := (Below.refl _ _).alloc (Nat.le_refl _) _
  have N0 : Hid (Nums (w.alloc (.cells #[] 3)) w.heap.size (.slice (some ⟨w.heap.size, 0, none⟩) 0 0) []) := Nums.empty w w.heap.size (Nat.le_refl _)
  have A0 : Hid (AtS (w.alloc (.cells #[] 3)) p) := h.below hal h.lt
  have M0 : Hid (Mod w.heap.size p w (w.alloc (.cells #[] 3))) := Mod.of_below hal
  clear hal h
  go_enter Try.func44, Try.ntmps44
  go_wp2_with fail
  generalize w.alloc (.cells #[] 3) = w0 at *
  refine (belowS w0 p 100 (by omega) (by omega) A0.out).mono ?_
  rintro e w1 ⟨v1, rfl, ⟨v10, v11⟩, hA, hm⟩
  have A1 : Hid (AtS w1 p) := hA
  have M1 : Hid (Mod w.heap.size p w w1) := M0.out.trans (hm.mono M0.out.size)
  have N1 : Hid (Nums w1 w.heap.size (.slice (some ⟨w.heap.size, 0, none⟩) 0 0) []) := N0.out.mod hm HP.out (Nat.le_refl _)
  clear hA hm A0 M0 N0
  go_wp2_with fail
  refine (belowS w1 p most (by omega) (by omega) A1.out).mono ?_
  rintro e w2 ⟨v2, rfl, ⟨v20, v21⟩, hA, hm⟩
  have A2 : Hid (AtS w2 p) := hA
  have M2 : Hid (Mod w.heap.size p w w2) := M1.out.trans (hm.mono M1.out.size)
  have N2 : Hid (Nums w2 w.heap.size (.slice (some ⟨w.heap.size, 0, none⟩) 0 0) []) := N1.out.mod hm HP.out (Nat.le_refl _)
  obtain ⟨n2, rfl⟩ : ∃ n : Nat, v2 = (n : Int) := ⟨v2.toNat, by omega⟩
  clear hA hm A1 M1 N1
  go_wp2_with fail
  go_loopw [5, 6, 7] (fun v5 v6 v7 wr => ∃ (k : Nat) (t : Int) (l : List Int), (l.length + k ≤ 600 ∧ 1 ≤ l.length + k) ∧ v7 = .int .i64 (k : Int) ∧ v6 = .int .i64 t ∧ Nums wr w.heap.size v5 l ∧ AtS wr p ∧ Mod w.heap.size p w wr) (fun _ _ i _ => (intOf i).toNat)
  case atStart => exact ⟨n2 + 1, _, [], ⟨by simp; omega, by simp⟩, by go_num, rfl, N2.out, A2.out, M2.out⟩
  case round =>
    obtain ⟨k, t, l, hk, rfl, rfl, hN, hA, hM⟩ := hrel
    have HN : Hid (Nums wr w.heap.size _ l) := hN
    obtain ⟨A, c, rfl, _, _⟩ := hN.shape
    have AR : Hid (AtS wr p) := hA
    have MR : Hid (Mod w.heap.size p w wr) := hM
    have HK : Hid (l.length + k ≤ 600 ∧ 1 ≤ l.length + k) := hk
    have q1 : (k : Int) ≤ 600 := by omega
    clear hN hA hM hk
    by_cases hlt : 0 < k
    · have q2 : (0 : Int) < (k : Int) := by omega
      go_wp2_with (at_builtin; refine wpList_append_num rfl (.tmp 20) (.tmp 22) 36 rfl Try.underlying36 Try.infoInt w.heap.size _ l rfl HN.out t rfl (by have := HK.out; omega) MR.out.size ?_; intro v' w3 hN3 hb3 hk3)
      have A3 : Hid (AtS w3 p) := AR.out.below hb3 HP.out
      have M3 : Hid (Mod w.heap.size p w w3) := MR.out.trans (Mod.of_below hb3)
      have N3 : Hid (Nums w3 w.heap.size v' (l ++ [t])) := hN3
      clear hN3 hb3 hk3 AR MR HN
      refine (belowS w3 p 21 (by omega) (by omega) A3.out).mono ?_
      rintro e w4 ⟨v4, rfl, ⟨v40, v41⟩, hA, hm⟩
      have A4 : Hid (AtS w4 p) := hA
      have M4 : Hid (Mod w.heap.size p w w4) := M3.out.trans (hm.mono M3.out.size)
      have N4 : Hid (Nums w4 w.heap.size v' (l ++ [t])) := N3.out.mod hm HP.out (Nat.le_refl _)
      clear hA hm A3 M3 N3
      go_wp2_with fail
      refine (once_some w4 p 20 (by omega) A4.out).mono ?_
      rintro e w5 ⟨b5, rfl, hA, hm⟩
      have A5 : Hid (AtS w5 p) := hA
      have M5 : Hid (Mod w.heap.size p w w5) := M4.out.trans (hm.mono M4.out.size)
      have N5 : Hid (Nums w5 w.heap.size v' (l ++ [t])) := N4.out.mod hm HP.out (Nat.le_refl _)
      clear hA hm A4 M4 N4
      cases b5
      · go_wp2_with fail
        go_roundw
        case rel => exact ⟨k - 1, _, l ++ [t], ⟨by have := HK.out; simp; omega, by simp; omega⟩, by go_num, rfl, N5.out, A5.out, M5.out⟩
        case measure => simp [intOf]; omega
      · have hal : Below w5.heap.size w5 (w5.alloc (.cells #[.int .i64 1099511627776, .int .i64 (-1099511627776), .int .i64 1099511627777, .int .i64 0] 3)) := (Below.refl _ _).alloc (Nat.le_refl _) _
        have K6 : Hid (Blk (w5.alloc (.cells #[.int .i64 1099511627776, .int .i64 (-1099511627776), .int .i64 1099511627777, .int .i64 0] 3)) w5.heap.size #[.int .i64 1099511627776, .int .i64 (-1099511627776), .int .i64 1099511627777, .int .i64 0] 3) := Blk.new _ _ _
        have A6 : Hid (AtS (w5.alloc (.cells #[.int .i64 1099511627776, .int .i64 (-1099511627776), .int .i64 1099511627777, .int .i64 0] 3)) p) := A5.out.below hal A5.out.lt
        have M6 : Hid (Mod w.heap.size p w (w5.alloc (.cells #[.int .i64 1099511627776, .int .i64 (-1099511627776), .int .i64 1099511627777, .int .i64 0] 3))) := M5.out.alloc M5.out.size _
        have N6 : Hid (Nums (w5.alloc (.cells #[.int .i64 1099511627776, .int .i64 (-1099511627776), .int .i64 1099511627777, .int .i64 0] 3)) w.heap.size v' (l ++ [t])) := N5.out.alloc _
        have Z6 : Hid (w5.heap.size ≠ p) := by have := A5.out.lt; unfold Hid; omega
        go_wp2_with fail
        generalize w5.alloc (.cells #[.int .i64 1099511627776, .int .i64 (-1099511627776), .int .i64 1099511627777, .int .i64 0] 3) = w6 at *
        refine (pickS w6 p w5.heap.size [1099511627776, -1099511627776, 1099511627777, 0] 4 rfl (by omega) (by omega) (fun _ => True) True.intro (fun _ _ => True.intro) A6.out Z6.out K6.out).mono ?_
        rintro e w7 ⟨v7, rfl, _, hA, hm⟩
        have A7 : Hid (AtS w7 p) := hA
        have M7 : Hid (Mod w.heap.size p w w7) := M6.out.trans (hm.mono M6.out.size)
        have N7 : Hid (Nums w7 w.heap.size v' (l ++ [t])) := N6.out.mod hm HP.out (Nat.le_refl _)
        clear hA hm A6 M6 N6 K6 A5 M5 N5 hal
        go_wp2_with fail
        go_roundw
        case rel => exact ⟨k - 1, _, l ++ [t], ⟨by have := HK.out; simp; omega, by simp; omega⟩, by go_num, rfl, N7.out, A7.out, M7.out⟩
        case measure => simp [intOf]; omega
    · obtain rfl : k = 0 := by omega
      go_wp2_with fail
      go_ret
      exact ⟨_, l, rfl, HN.out, by have := HK.out; omega, AR.out, MR.out⟩
end Go.Proofs.Ytfkgaoegdnkfcaa
