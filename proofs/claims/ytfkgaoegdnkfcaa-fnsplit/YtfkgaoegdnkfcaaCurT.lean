/-
  What is drawn: contract of spec.l7Times: some row of one number at least, whatever the code.
-/
import Derived.Test.YtfkgaoegdnkfcaaRows
import Derived.Test.YtfkgaoegdnkfcaaCurP
namespace Go.Proofs.Ytfkgaoegdnkfcaa
open Go.ChangeShapes Go.WideShapes Go.ChangeAt Go.RowKit Go.PlainAid
set_option linter.unusedVariables false

/-- A slice's length. -/
def lenV : Value → Nat
  | .slice _ l _ => l
  | _ => 0
set_option maxHeartbeats 16000000 in
theorem times_any (w : World) (p : Nat) (most : Int) (hm0 : 1 ≤ most) (hm1 : most ≤ 500) (h : AtS w p) : Calls Try.prog 43 #[.pointer (some ⟨p, 0, none⟩), .int .i64 most] w (DrawnL w p) := by
  have HP : Hid (p < w.heap.size) := h.lt
  have hal : Below w.heap.size w (w.alloc (.cells #[] 3)) := (Below.refl _ _).alloc (Nat.le_refl _) _
  have N0 : Hid (Nums (w.alloc (.cells #[] 3)) w.heap.size (.slice (some ⟨w.heap.size, 0, none⟩) 0 0) []) := Nums.empty w w.heap.size (Nat.le_refl _)
  have A0 : Hid (AtS (w.alloc (.cells #[] 3)) p) := h.below hal h.lt
  have M0 : Hid (Mod w.heap.size p w (w.alloc (.cells #[] 3))) := Mod.of_below hal
  clear hal h
  go_enter Try.func43, Try.ntmps43
  go_wp2_with fail
  generalize w.alloc (.cells #[] 3) = w0 at *
  refine (belowS w0 p 400 (by omega) (by omega) A0.out).mono ?_
  rintro e w1 ⟨t1, rfl, ⟨v10, v11⟩, hA, hm⟩
  have A1 : Hid (AtS w1 p) := hA
  have M1 : Hid (Mod w.heap.size p w w1) := M0.out.trans (hm.mono M0.out.size)
  have N1 : Hid (Nums w1 w.heap.size (.slice (some ⟨w.heap.size, 0, none⟩) 0 0) []) := N0.out.mod hm HP.out (Nat.le_refl _)
  clear hA hm A0 M0 N0 v10 v11
  go_wp2_with fail
  refine (once_some w1 p 12 (by omega) A1.out).mono ?_
  rintro e w2 ⟨b2, rfl, hA, hm⟩
  have A2 : Hid (AtS w2 p) := hA
  have M2 : Hid (Mod w.heap.size p w w2) := M1.out.trans (hm.mono M1.out.size)
  have N2 : Hid (Nums w2 w.heap.size (.slice (some ⟨w.heap.size, 0, none⟩) 0 0) []) := N1.out.mod hm HP.out (Nat.le_refl _)
  clear hA hm A1 M1 N1
  cases b2
  rotate_left
  · go_wp2_with fail
    refine (belowS w2 p 300 (by omega) (by omega) A2.out).mono ?_
    rintro e w2' ⟨t2, rfl, _, hA, hm⟩
    have A2' : Hid (AtS w2' p) := hA
    have M2' : Hid (Mod w.heap.size p w w2') := M2.out.trans (hm.mono M2.out.size)
    have N2' : Hid (Nums w2' w.heap.size (.slice (some ⟨w.heap.size, 0, none⟩) 0 0) []) := N2.out.mod hm HP.out (Nat.le_refl _)
    clear hA hm A2 M2 N2
    go_wp2_with fail
    refine (belowS w2' p 40 (by omega) (by omega) A2'.out).mono ?_
    rintro e w3 ⟨v3, rfl, _, hA, hm⟩
    have A3 : Hid (AtS w3 p) := hA
    have M3 : Hid (Mod w.heap.size p w w3) := M2'.out.trans (hm.mono M2'.out.size)
    have N3 : Hid (Nums w3 w.heap.size (.slice (some ⟨w.heap.size, 0, none⟩) 0 0) []) := N2'.out.mod hm HP.out (Nat.le_refl _)
    clear hA hm A2' M2' N2'
    go_wp2_with fail
    refine (belowS w3 p most (by omega) (by omega) A3.out).mono ?_
    rintro e w4 ⟨v4, rfl, ⟨v40, v41⟩, hA, hm⟩
    have A4 : Hid (AtS w4 p) := hA
    have M4 : Hid (Mod w.heap.size p w w4) := M3.out.trans (hm.mono M3.out.size)
    have N4 : Hid (Nums w4 w.heap.size (.slice (some ⟨w.heap.size, 0, none⟩) 0 0) []) := N3.out.mod hm HP.out (Nat.le_refl _)
    obtain ⟨n4, rfl⟩ : ∃ n : Nat, v4 = (n : Int) := ⟨v4.toNat, by omega⟩
    clear hA hm A3 M3 N3
    go_wp2_with fail
    go_loopw [5, 6, 8] (fun v5 v6 v8 wr => ∃ (k : Nat) (t : Int) (l : List Int), l.length + k ≤ 501 ∧ 1 ≤ l.length + k ∧ v8 = .int .i64 (k : Int) ∧ v6 = .int .i64 t ∧ Nums wr w.heap.size v5 l ∧ AtS wr p ∧ Mod w.heap.size p w wr) (fun _ _ i _ => (intOf i).toNat)
    case atStart => exact ⟨n4 + 1, _, [], by simp; omega, by simp, by go_num, rfl, N4.out, A4.out, M4.out⟩
    case round =>
      obtain ⟨k, t, l, hk, hk1, rfl, rfl, hN, hA, hM⟩ := hrel
      have HN : Hid (Nums wr w.heap.size _ l) := hN
      obtain ⟨A, c, rfl, _, _⟩ := hN.shape
      have AR : Hid (AtS wr p) := hA
      have MR : Hid (Mod w.heap.size p w wr) := hM
      have HK : Hid (l.length + k ≤ 501 ∧ 1 ≤ l.length + k) := ⟨hk, hk1⟩
      have q1 : (k : Int) ≤ 501 := by omega
      clear hN hA hM hk hk1
      by_cases hlt : 0 < k
      · have q2 : (0 : Int) < (k : Int) := by omega
        go_wp2_with (at_builtin; refine wpList_append_num rfl (.tmp 29) (.tmp 31) 36 rfl Try.underlying36 Try.infoInt w.heap.size _ l rfl HN.out t rfl (by have := HK.out; omega) MR.out.size ?_; intro v' w5 hN5 hb5 hk5)
        have A5 : Hid (AtS w5 p) := AR.out.below hb5 HP.out
        have M5 : Hid (Mod w.heap.size p w w5) := MR.out.trans (Mod.of_below hb5)
        have N5 : Hid (Nums w5 w.heap.size v' (l ++ [t])) := hN5
        clear hN5 hb5 hk5 AR MR HN
        refine (once_some w5 p 3 (by omega) A5.out).mono ?_
        rintro e w6 ⟨b6, rfl, hA, hm⟩
        have A6 : Hid (AtS w6 p) := hA
        have M6 : Hid (Mod w.heap.size p w w6) := M5.out.trans (hm.mono M5.out.size)
        have N6 : Hid (Nums w6 w.heap.size v' (l ++ [t])) := N5.out.mod hm HP.out (Nat.le_refl _)
        clear hA hm A5 M5 N5
        cases b6
        · go_wp2_with fail
          go_roundw
          case rel => exact ⟨k - 1, _, l ++ [t], by have := HK.out; simp; omega, by simp; omega, by go_num, rfl, N6.out, A6.out, M6.out⟩
          case measure => simp [intOf]; omega
        · go_wp2_with fail
          refine (belowS w6 p 60 (by omega) (by omega) A6.out).mono ?_
          rintro e w7 ⟨v7, rfl, _, hA, hm⟩
          have A7 : Hid (AtS w7 p) := hA
          have M7 : Hid (Mod w.heap.size p w w7) := M6.out.trans (hm.mono M6.out.size)
          have N7 : Hid (Nums w7 w.heap.size v' (l ++ [t])) := N6.out.mod hm HP.out (Nat.le_refl _)
          clear hA hm A6 M6 N6
          go_wp2_with fail
          go_roundw
          case rel => exact ⟨k - 1, _, l ++ [t], by have := HK.out; simp; omega, by simp; omega, by go_num, rfl, N7.out, A7.out, M7.out⟩
          case measure => simp [intOf]; omega
      · obtain rfl : k = 0 := by omega
        have HL : Hid (1 ≤ l.length ∧ l.length ≤ 501) := ⟨by have := HK.out; omega, by have := HK.out; omega⟩
        clear HK hlt q1
        obtain ⟨gl, rfl, hgl, hgl2⟩ := HN.out.block (by have := HL.out; omega)
        have HGL : Hid (w.heap.size ≤ gl) := hgl
        clear hgl hgl2
        have q3 : (1 : Int) ≤ (l.length : Int) := by have := HL.out; omega
        have q4 : (l.length : Int) ≤ 501 := by have := HL.out; omega
        go_wp2_with fail
        refine (once_some wr p 10 (by omega) AR.out).mono ?_
        rintro e w8 ⟨b8, rfl, hA, hm⟩
        have A8 : Hid (AtS w8 p) := hA
        have M8 : Hid (Mod w.heap.size p w w8) := MR.out.trans (hm.mono MR.out.size)
        have N8 : Hid (Nums w8 w.heap.size (.slice (some ⟨gl, 0, none⟩) l.length c) l) := HN.out.mod hm HP.out (Nat.le_refl _)
        clear hA hm AR MR HN
        cases b8
        rotate_left
        · have hal : Below w8.heap.size w8 (w8.alloc (.cells #[.int .i64 (-1), .int .i64 0, .int .i64 1099511627776, .int .i64 1099511627777, .int .i64 100] 3)) := (Below.refl _ _).alloc (Nat.le_refl _) _
          have K9 : Hid (Blk (w8.alloc (.cells #[.int .i64 (-1), .int .i64 0, .int .i64 1099511627776, .int .i64 1099511627777, .int .i64 100] 3)) w8.heap.size #[.int .i64 (-1), .int .i64 0, .int .i64 1099511627776, .int .i64 1099511627777, .int .i64 100] 3) := Blk.new _ _ _
          have A9 : Hid (AtS (w8.alloc (.cells #[.int .i64 (-1), .int .i64 0, .int .i64 1099511627776, .int .i64 1099511627777, .int .i64 100] 3)) p) := A8.out.below hal A8.out.lt
          have M9 : Hid (Mod w.heap.size p w (w8.alloc (.cells #[.int .i64 (-1), .int .i64 0, .int .i64 1099511627776, .int .i64 1099511627777, .int .i64 100] 3))) := M8.out.alloc M8.out.size _
          have N9 : Hid (Nums (w8.alloc (.cells #[.int .i64 (-1), .int .i64 0, .int .i64 1099511627776, .int .i64 1099511627777, .int .i64 100] 3)) w.heap.size (.slice (some ⟨gl, 0, none⟩) l.length c) l) := N8.out.alloc _
          have Z9 : Hid (w8.heap.size ≠ p) := by have := A8.out.lt; unfold Hid; omega
          go_wp2_with fail
          generalize w8.alloc (.cells #[.int .i64 (-1), .int .i64 0, .int .i64 1099511627776, .int .i64 1099511627777, .int .i64 100] 3) = w9 at *
          refine (pickS w9 p w8.heap.size [-1, 0, 1099511627776, 1099511627777, 100] 5 rfl (by omega) (by omega) (fun _ => True) True.intro (fun _ _ => True.intro) A9.out Z9.out K9.out).mono ?_
          rintro e wa ⟨va, rfl, _, hA, hm⟩
          have Aa : Hid (AtS wa p) := hA
          have Ma : Hid (Mod w.heap.size p w wa) := M9.out.trans (hm.mono M9.out.size)
          have hNa := N9.out.mod hm HP.out (Nat.le_refl _)
          clear hA hm A9 M9 N9 K9 A8 M8 N8 hal
          have hl1 : l.length - 1 < l.length := by have := HL.out; omega
          have e1 := hNa.cell (l.length - 1) hl1
          have e2 := hNa.frozen (l.length - 1)
          have hS := hNa.stored (l.length - 1) va
          have e3 : ((l.length : Int) - 1).toNat = l.length - 1 := by have := HL.out; omega
          have Nb : Hid (Nums (wa.setCell ⟨gl, l.length - 1, none⟩ (.int .i64 va)) w.heap.size (.slice (some ⟨gl, 0, none⟩) l.length c) (l.set (l.length - 1) va)) := hS
          have hbb : Below w.heap.size wa (wa.setCell ⟨gl, l.length - 1, none⟩ (.int .i64 va)) := (Below.refl _ _).setCell HGL.out _
          have Ab : Hid (AtS (wa.setCell ⟨gl, l.length - 1, none⟩ (.int .i64 va)) p) := Aa.out.below hbb HP.out
          have Mb : Hid (Mod w.heap.size p w (wa.setCell ⟨gl, l.length - 1, none⟩ (.int .i64 va))) := Ma.out.trans (Mod.of_below hbb)
          have HLb : Hid (1 ≤ (l.set (l.length - 1) va).length ∧ (l.set (l.length - 1) va).length ≤ 501) := by unfold Hid; rw [List.length_set]; exact HL.out
          generalize l.getD (l.length - 1) 0 = xl at *
          clear hNa hS hbb hl1 Aa Ma
          go_wp2_with fail
          generalize wa.setCell ⟨gl, l.length - 1, none⟩ (.int .i64 va) = wb at *
          generalize l.set (l.length - 1) va = lb at *
          refine (once_some wb p 40 (by omega) Ab.out).mono ?_
          rintro e wc ⟨bc, rfl, hA, hm⟩
          have Ac : Hid (AtS wc p) := hA
          have Mc : Hid (Mod w.heap.size p w wc) := Mb.out.trans (hm.mono Mb.out.size)
          have Nc : Hid (Nums wc w.heap.size (.slice (some ⟨gl, 0, none⟩) l.length c) lb) := Nb.out.mod hm HP.out (Nat.le_refl _)
          clear hA hm
          cases bc
          · go_wp2_with fail
            go_ret
            exact ⟨_, lb, rfl, Nc.out, by have := HLb.out; omega, Ac.out, Mc.out⟩
          go_wp2_with fail
          refine (belowS wc p 2 (by omega) (by omega) Ac.out).mono ?_
          rintro e wd ⟨vd, rfl, ⟨vd0, vd1⟩, hA, hm⟩
          have Ad : Hid (AtS wd p) := hA
          have Md : Hid (Mod w.heap.size p w wd) := Mc.out.trans (hm.mono Mc.out.size)
          obtain ⟨nd, rfl⟩ : ∃ n : Nat, vd = (n : Int) := ⟨vd.toNat, by omega⟩
          clear hA hm Ac Mc Nc
          have hal : Below wd.heap.size wd (wd.alloc (.cells #[] 3)) := (Below.refl _ _).alloc (Nat.le_refl _) _
          have Ne : Hid (Nums (wd.alloc (.cells #[] 3)) w.heap.size (.slice (some ⟨wd.heap.size, 0, none⟩) 0 0) []) := Nums.empty wd w.heap.size Md.out.size
          have Ae : Hid (AtS (wd.alloc (.cells #[] 3)) p) := Ad.out.below hal Ad.out.lt
          have Me : Hid (Mod w.heap.size p w (wd.alloc (.cells #[] 3))) := Md.out.alloc Md.out.size _
          clear hal Ad Md
          go_wp2_with fail
          generalize wd.alloc (.cells #[] 3) = we at *
          go_loopw [5] (fun v5 wr => ∃ (l : List Int), l.length ≤ 60 + nd ∧ Nums wr w.heap.size v5 l ∧ AtS wr p ∧ Mod w.heap.size p w wr) (fun i _ => 100 - lenV i)
          case atStart => exact ⟨[], by simp, Ne.out, Ae.out, Me.out⟩
          case round =>
            obtain ⟨l, hl, hN, hA, hM⟩ := hrel
            have HN : Hid (Nums wr w.heap.size _ l) := hN
            obtain ⟨A, c, rfl, _, _⟩ := hN.shape
            have AR : Hid (AtS wr p) := hA
            have MR : Hid (Mod w.heap.size p w wr) := hM
            have HL2 : Hid (l.length ≤ 60 + nd) := hl
            have q7 : (l.length : Int) ≤ 62 := by omega
            have q8 : (nd : Int) ≤ 1 := by omega
            clear hN hA hM
            by_cases hlt : l.length < 60 + nd
            · have q9 : (l.length : Int) < 60 + (nd : Int) := by omega
              go_wp2_with (at_builtin; refine wpList_append_num rfl (.tmp 62) (.tmp 66) 36 rfl Try.underlying36 Try.infoInt w.heap.size _ l rfl HN.out (3 * (l.length : Int)) rfl (by have := HL2.out; omega) MR.out.size ?_; intro v' wf hNf hbf hkf)
              go_roundw
              case rel => exact ⟨l ++ [3 * (l.length : Int)], by simp; omega, hNf, AR.out.below hbf HP.out, MR.out.trans (Mod.of_below hbf)⟩
              case measure =>
                obtain ⟨Af, cf, rfl, _, _⟩ := hNf.shape
                simp [lenV]
                omega
            · have q9 : (60 : Int) + (nd : Int) ≤ (l.length : Int) := by omega
              go_wp2_with fail
              go_ret
              exact ⟨_, l, rfl, HN.out, by have := HL2.out; omega, AR.out, MR.out⟩
        · have HLb : Hid (1 ≤ l.length ∧ l.length ≤ 501) := HL.out
          go_wp2_with fail
          refine (once_some w8 p 40 (by omega) A8.out).mono ?_
          rintro e wc ⟨bc, rfl, hA, hm⟩
          have Ac : Hid (AtS wc p) := hA
          have Mc : Hid (Mod w.heap.size p w wc) := M8.out.trans (hm.mono M8.out.size)
          have Nc : Hid (Nums wc w.heap.size (.slice (some ⟨gl, 0, none⟩) l.length c) l) := N8.out.mod hm HP.out (Nat.le_refl _)
          clear hA hm
          cases bc
          · go_wp2_with fail
            go_ret
            exact ⟨_, l, rfl, Nc.out, by have := HLb.out; omega, Ac.out, Mc.out⟩
          go_wp2_with fail
          refine (belowS wc p 2 (by omega) (by omega) Ac.out).mono ?_
          rintro e wd ⟨vd, rfl, ⟨vd0, vd1⟩, hA, hm⟩
          have Ad : Hid (AtS wd p) := hA
          have Md : Hid (Mod w.heap.size p w wd) := Mc.out.trans (hm.mono Mc.out.size)
          obtain ⟨nd, rfl⟩ : ∃ n : Nat, vd = (n : Int) := ⟨vd.toNat, by omega⟩
          clear hA hm Ac Mc Nc
          have hal : Below wd.heap.size wd (wd.alloc (.cells #[] 3)) := (Below.refl _ _).alloc (Nat.le_refl _) _
          have Ne : Hid (Nums (wd.alloc (.cells #[] 3)) w.heap.size (.slice (some ⟨wd.heap.size, 0, none⟩) 0 0) []) := Nums.empty wd w.heap.size Md.out.size
          have Ae : Hid (AtS (wd.alloc (.cells #[] 3)) p) := Ad.out.below hal Ad.out.lt
          have Me : Hid (Mod w.heap.size p w (wd.alloc (.cells #[] 3))) := Md.out.alloc Md.out.size _
          clear hal Ad Md
          go_wp2_with fail
          generalize wd.alloc (.cells #[] 3) = we at *
          go_loopw [5] (fun v5 wr => ∃ (l : List Int), l.length ≤ 60 + nd ∧ Nums wr w.heap.size v5 l ∧ AtS wr p ∧ Mod w.heap.size p w wr) (fun i _ => 100 - lenV i)
          case atStart => exact ⟨[], by simp, Ne.out, Ae.out, Me.out⟩
          case round =>
            obtain ⟨l, hl, hN, hA, hM⟩ := hrel
            have HN : Hid (Nums wr w.heap.size _ l) := hN
            obtain ⟨A, c, rfl, _, _⟩ := hN.shape
            have AR : Hid (AtS wr p) := hA
            have MR : Hid (Mod w.heap.size p w wr) := hM
            have HL2 : Hid (l.length ≤ 60 + nd) := hl
            have q7 : (l.length : Int) ≤ 62 := by omega
            have q8 : (nd : Int) ≤ 1 := by omega
            clear hN hA hM
            by_cases hlt : l.length < 60 + nd
            · have q9 : (l.length : Int) < 60 + (nd : Int) := by omega
              go_wp2_with (at_builtin; refine wpList_append_num rfl (.tmp 62) (.tmp 66) 36 rfl Try.underlying36 Try.infoInt w.heap.size _ l rfl HN.out (3 * (l.length : Int)) rfl (by have := HL2.out; omega) MR.out.size ?_; intro v' wf hNf hbf hkf)
              go_roundw
              case rel => exact ⟨l ++ [3 * (l.length : Int)], by simp; omega, hNf, AR.out.below hbf HP.out, MR.out.trans (Mod.of_below hbf)⟩
              case measure =>
                obtain ⟨Af, cf, rfl, _, _⟩ := hNf.shape
                simp [lenV]
                omega
            · have q9 : (60 : Int) + (nd : Int) ≤ (l.length : Int) := by omega
              go_wp2_with fail
              go_ret
              exact ⟨_, l, rfl, HN.out, by have := HL2.out; omega, AR.out, MR.out⟩
  · go_wp2_with fail
    refine (belowS w2 p 40 (by omega) (by omega) A2.out).mono ?_
    rintro e w3 ⟨v3, rfl, _, hA, hm⟩
    have A3 : Hid (AtS w3 p) := hA
    have M3 : Hid (Mod w.heap.size p w w3) := M2.out.trans (hm.mono M2.out.size)
    have N3 : Hid (Nums w3 w.heap.size (.slice (some ⟨w.heap.size, 0, none⟩) 0 0) []) := N2.out.mod hm HP.out (Nat.le_refl _)
    clear hA hm A2 M2 N2
    go_wp2_with fail
    refine (belowS w3 p most (by omega) (by omega) A3.out).mono ?_
    rintro e w4 ⟨v4, rfl, ⟨v40, v41⟩, hA, hm⟩
    have A4 : Hid (AtS w4 p) := hA
    have M4 : Hid (Mod w.heap.size p w w4) := M3.out.trans (hm.mono M3.out.size)
    have N4 : Hid (Nums w4 w.heap.size (.slice (some ⟨w.heap.size, 0, none⟩) 0 0) []) := N3.out.mod hm HP.out (Nat.le_refl _)
    obtain ⟨n4, rfl⟩ : ∃ n : Nat, v4 = (n : Int) := ⟨v4.toNat, by omega⟩
    clear hA hm A3 M3 N3
    go_wp2_with fail
    go_loopw [5, 6, 8] (fun v5 v6 v8 wr => ∃ (k : Nat) (t : Int) (l : List Int), l.length + k ≤ 501 ∧ 1 ≤ l.length + k ∧ v8 = .int .i64 (k : Int) ∧ v6 = .int .i64 t ∧ Nums wr w.heap.size v5 l ∧ AtS wr p ∧ Mod w.heap.size p w wr) (fun _ _ i _ => (intOf i).toNat)
    case atStart => exact ⟨n4 + 1, _, [], by simp; omega, by simp, by go_num, rfl, N4.out, A4.out, M4.out⟩
    case round =>
      obtain ⟨k, t, l, hk, hk1, rfl, rfl, hN, hA, hM⟩ := hrel
      have HN : Hid (Nums wr w.heap.size _ l) := hN
      obtain ⟨A, c, rfl, _, _⟩ := hN.shape
      have AR : Hid (AtS wr p) := hA
      have MR : Hid (Mod w.heap.size p w wr) := hM
      have HK : Hid (l.length + k ≤ 501 ∧ 1 ≤ l.length + k) := ⟨hk, hk1⟩
      have q1 : (k : Int) ≤ 501 := by omega
      clear hN hA hM hk hk1
      by_cases hlt : 0 < k
      · have q2 : (0 : Int) < (k : Int) := by omega
        go_wp2_with (at_builtin; refine wpList_append_num rfl (.tmp 29) (.tmp 31) 36 rfl Try.underlying36 Try.infoInt w.heap.size _ l rfl HN.out t rfl (by have := HK.out; omega) MR.out.size ?_; intro v' w5 hN5 hb5 hk5)
        have A5 : Hid (AtS w5 p) := AR.out.below hb5 HP.out
        have M5 : Hid (Mod w.heap.size p w w5) := MR.out.trans (Mod.of_below hb5)
        have N5 : Hid (Nums w5 w.heap.size v' (l ++ [t])) := hN5
        clear hN5 hb5 hk5 AR MR HN
        refine (once_some w5 p 3 (by omega) A5.out).mono ?_
        rintro e w6 ⟨b6, rfl, hA, hm⟩
        have A6 : Hid (AtS w6 p) := hA
        have M6 : Hid (Mod w.heap.size p w w6) := M5.out.trans (hm.mono M5.out.size)
        have N6 : Hid (Nums w6 w.heap.size v' (l ++ [t])) := N5.out.mod hm HP.out (Nat.le_refl _)
        clear hA hm A5 M5 N5
        cases b6
        · go_wp2_with fail
          go_roundw
          case rel => exact ⟨k - 1, _, l ++ [t], by have := HK.out; simp; omega, by simp; omega, by go_num, rfl, N6.out, A6.out, M6.out⟩
          case measure => simp [intOf]; omega
        · go_wp2_with fail
          refine (belowS w6 p 60 (by omega) (by omega) A6.out).mono ?_
          rintro e w7 ⟨v7, rfl, _, hA, hm⟩
          have A7 : Hid (AtS w7 p) := hA
          have M7 : Hid (Mod w.heap.size p w w7) := M6.out.trans (hm.mono M6.out.size)
          have N7 : Hid (Nums w7 w.heap.size v' (l ++ [t])) := N6.out.mod hm HP.out (Nat.le_refl _)
          clear hA hm A6 M6 N6
          go_wp2_with fail
          go_roundw
          case rel => exact ⟨k - 1, _, l ++ [t], by have := HK.out; simp; omega, by simp; omega, by go_num, rfl, N7.out, A7.out, M7.out⟩
          case measure => simp [intOf]; omega
      · obtain rfl : k = 0 := by omega
        have HL : Hid (1 ≤ l.length ∧ l.length ≤ 501) := ⟨by have := HK.out; omega, by have := HK.out; omega⟩
        clear HK hlt q1
        obtain ⟨gl, rfl, hgl, hgl2⟩ := HN.out.block (by have := HL.out; omega)
        have HGL : Hid (w.heap.size ≤ gl) := hgl
        clear hgl hgl2
        have q3 : (1 : Int) ≤ (l.length : Int) := by have := HL.out; omega
        have q4 : (l.length : Int) ≤ 501 := by have := HL.out; omega
        go_wp2_with fail
        refine (once_some wr p 10 (by omega) AR.out).mono ?_
        rintro e w8 ⟨b8, rfl, hA, hm⟩
        have A8 : Hid (AtS w8 p) := hA
        have M8 : Hid (Mod w.heap.size p w w8) := MR.out.trans (hm.mono MR.out.size)
        have N8 : Hid (Nums w8 w.heap.size (.slice (some ⟨gl, 0, none⟩) l.length c) l) := HN.out.mod hm HP.out (Nat.le_refl _)
        clear hA hm AR MR HN
        cases b8
        rotate_left
        · have hal : Below w8.heap.size w8 (w8.alloc (.cells #[.int .i64 (-1), .int .i64 0, .int .i64 1099511627776, .int .i64 1099511627777, .int .i64 100] 3)) := (Below.refl _ _).alloc (Nat.le_refl _) _
          have K9 : Hid (Blk (w8.alloc (.cells #[.int .i64 (-1), .int .i64 0, .int .i64 1099511627776, .int .i64 1099511627777, .int .i64 100] 3)) w8.heap.size #[.int .i64 (-1), .int .i64 0, .int .i64 1099511627776, .int .i64 1099511627777, .int .i64 100] 3) := Blk.new _ _ _
          have A9 : Hid (AtS (w8.alloc (.cells #[.int .i64 (-1), .int .i64 0, .int .i64 1099511627776, .int .i64 1099511627777, .int .i64 100] 3)) p) := A8.out.below hal A8.out.lt
          have M9 : Hid (Mod w.heap.size p w (w8.alloc (.cells #[.int .i64 (-1), .int .i64 0, .int .i64 1099511627776, .int .i64 1099511627777, .int .i64 100] 3))) := M8.out.alloc M8.out.size _
          have N9 : Hid (Nums (w8.alloc (.cells #[.int .i64 (-1), .int .i64 0, .int .i64 1099511627776, .int .i64 1099511627777, .int .i64 100] 3)) w.heap.size (.slice (some ⟨gl, 0, none⟩) l.length c) l) := N8.out.alloc _
          have Z9 : Hid (w8.heap.size ≠ p) := by have := A8.out.lt; unfold Hid; omega
          go_wp2_with fail
          generalize w8.alloc (.cells #[.int .i64 (-1), .int .i64 0, .int .i64 1099511627776, .int .i64 1099511627777, .int .i64 100] 3) = w9 at *
          refine (pickS w9 p w8.heap.size [-1, 0, 1099511627776, 1099511627777, 100] 5 rfl (by omega) (by omega) (fun _ => True) True.intro (fun _ _ => True.intro) A9.out Z9.out K9.out).mono ?_
          rintro e wa ⟨va, rfl, _, hA, hm⟩
          have Aa : Hid (AtS wa p) := hA
          have Ma : Hid (Mod w.heap.size p w wa) := M9.out.trans (hm.mono M9.out.size)
          have hNa := N9.out.mod hm HP.out (Nat.le_refl _)
          clear hA hm A9 M9 N9 K9 A8 M8 N8 hal
          have hl1 : l.length - 1 < l.length := by have := HL.out; omega
          have e1 := hNa.cell (l.length - 1) hl1
          have e2 := hNa.frozen (l.length - 1)
          have hS := hNa.stored (l.length - 1) va
          have e3 : ((l.length : Int) - 1).toNat = l.length - 1 := by have := HL.out; omega
          have Nb : Hid (Nums (wa.setCell ⟨gl, l.length - 1, none⟩ (.int .i64 va)) w.heap.size (.slice (some ⟨gl, 0, none⟩) l.length c) (l.set (l.length - 1) va)) := hS
          have hbb : Below w.heap.size wa (wa.setCell ⟨gl, l.length - 1, none⟩ (.int .i64 va)) := (Below.refl _ _).setCell HGL.out _
          have Ab : Hid (AtS (wa.setCell ⟨gl, l.length - 1, none⟩ (.int .i64 va)) p) := Aa.out.below hbb HP.out
          have Mb : Hid (Mod w.heap.size p w (wa.setCell ⟨gl, l.length - 1, none⟩ (.int .i64 va))) := Ma.out.trans (Mod.of_below hbb)
          have HLb : Hid (1 ≤ (l.set (l.length - 1) va).length ∧ (l.set (l.length - 1) va).length ≤ 501) := by unfold Hid; rw [List.length_set]; exact HL.out
          generalize l.getD (l.length - 1) 0 = xl at *
          clear hNa hS hbb hl1 Aa Ma
          go_wp2_with fail
          generalize wa.setCell ⟨gl, l.length - 1, none⟩ (.int .i64 va) = wb at *
          generalize l.set (l.length - 1) va = lb at *
          refine (once_some wb p 40 (by omega) Ab.out).mono ?_
          rintro e wc ⟨bc, rfl, hA, hm⟩
          have Ac : Hid (AtS wc p) := hA
          have Mc : Hid (Mod w.heap.size p w wc) := Mb.out.trans (hm.mono Mb.out.size)
          have Nc : Hid (Nums wc w.heap.size (.slice (some ⟨gl, 0, none⟩) l.length c) lb) := Nb.out.mod hm HP.out (Nat.le_refl _)
          clear hA hm
          cases bc
          · go_wp2_with fail
            go_ret
            exact ⟨_, lb, rfl, Nc.out, by have := HLb.out; omega, Ac.out, Mc.out⟩
          go_wp2_with fail
          refine (belowS wc p 2 (by omega) (by omega) Ac.out).mono ?_
          rintro e wd ⟨vd, rfl, ⟨vd0, vd1⟩, hA, hm⟩
          have Ad : Hid (AtS wd p) := hA
          have Md : Hid (Mod w.heap.size p w wd) := Mc.out.trans (hm.mono Mc.out.size)
          obtain ⟨nd, rfl⟩ : ∃ n : Nat, vd = (n : Int) := ⟨vd.toNat, by omega⟩
          clear hA hm Ac Mc Nc
          have hal : Below wd.heap.size wd (wd.alloc (.cells #[] 3)) := (Below.refl _ _).alloc (Nat.le_refl _) _
          have Ne : Hid (Nums (wd.alloc (.cells #[] 3)) w.heap.size (.slice (some ⟨wd.heap.size, 0, none⟩) 0 0) []) := Nums.empty wd w.heap.size Md.out.size
          have Ae : Hid (AtS (wd.alloc (.cells #[] 3)) p) := Ad.out.below hal Ad.out.lt
          have Me : Hid (Mod w.heap.size p w (wd.alloc (.cells #[] 3))) := Md.out.alloc Md.out.size _
          clear hal Ad Md
          go_wp2_with fail
          generalize wd.alloc (.cells #[] 3) = we at *
          go_loopw [5] (fun v5 wr => ∃ (l : List Int), l.length ≤ 60 + nd ∧ Nums wr w.heap.size v5 l ∧ AtS wr p ∧ Mod w.heap.size p w wr) (fun i _ => 100 - lenV i)
          case atStart => exact ⟨[], by simp, Ne.out, Ae.out, Me.out⟩
          case round =>
            obtain ⟨l, hl, hN, hA, hM⟩ := hrel
            have HN : Hid (Nums wr w.heap.size _ l) := hN
            obtain ⟨A, c, rfl, _, _⟩ := hN.shape
            have AR : Hid (AtS wr p) := hA
            have MR : Hid (Mod w.heap.size p w wr) := hM
            have HL2 : Hid (l.length ≤ 60 + nd) := hl
            have q7 : (l.length : Int) ≤ 62 := by omega
            have q8 : (nd : Int) ≤ 1 := by omega
            clear hN hA hM
            by_cases hlt : l.length < 60 + nd
            · have q9 : (l.length : Int) < 60 + (nd : Int) := by omega
              go_wp2_with (at_builtin; refine wpList_append_num rfl (.tmp 62) (.tmp 66) 36 rfl Try.underlying36 Try.infoInt w.heap.size _ l rfl HN.out (3 * (l.length : Int)) rfl (by have := HL2.out; omega) MR.out.size ?_; intro v' wf hNf hbf hkf)
              go_roundw
              case rel => exact ⟨l ++ [3 * (l.length : Int)], by simp; omega, hNf, AR.out.below hbf HP.out, MR.out.trans (Mod.of_below hbf)⟩
              case measure =>
                obtain ⟨Af, cf, rfl, _, _⟩ := hNf.shape
                simp [lenV]
                omega
            · have q9 : (60 : Int) + (nd : Int) ≤ (l.length : Int) := by omega
              go_wp2_with fail
              go_ret
              exact ⟨_, l, rfl, HN.out, by have := HL2.out; omega, AR.out, MR.out⟩
        · have HLb : Hid (1 ≤ l.length ∧ l.length ≤ 501) := HL.out
          go_wp2_with fail
          refine (once_some w8 p 40 (by omega) A8.out).mono ?_
          rintro e wc ⟨bc, rfl, hA, hm⟩
          have Ac : Hid (AtS wc p) := hA
          have Mc : Hid (Mod w.heap.size p w wc) := M8.out.trans (hm.mono M8.out.size)
          have Nc : Hid (Nums wc w.heap.size (.slice (some ⟨gl, 0, none⟩) l.length c) l) := N8.out.mod hm HP.out (Nat.le_refl _)
          clear hA hm
          cases bc
          · go_wp2_with fail
            go_ret
            exact ⟨_, l, rfl, Nc.out, by have := HLb.out; omega, Ac.out, Mc.out⟩
          go_wp2_with fail
          refine (belowS wc p 2 (by omega) (by omega) Ac.out).mono ?_
          rintro e wd ⟨vd, rfl, ⟨vd0, vd1⟩, hA, hm⟩
          have Ad : Hid (AtS wd p) := hA
          have Md : Hid (Mod w.heap.size p w wd) := Mc.out.trans (hm.mono Mc.out.size)
          obtain ⟨nd, rfl⟩ : ∃ n : Nat, vd = (n : Int) := ⟨vd.toNat, by omega⟩
          clear hA hm Ac Mc Nc
          have hal : Below wd.heap.size wd (wd.alloc (.cells #[] 3)) := (Below.refl _ _).alloc (Nat.le_refl _) _
          have Ne : Hid (Nums (wd.alloc (.cells #[] 3)) w.heap.size (.slice (some ⟨wd.heap.size, 0, none⟩) 0 0) []) := Nums.empty wd w.heap.size Md.out.size
          have Ae : Hid (AtS (wd.alloc (.cells #[] 3)) p) := Ad.out.below hal Ad.out.lt
          have Me : Hid (Mod w.heap.size p w (wd.alloc (.cells #[] 3))) := Md.out.alloc Md.out.size _
          clear hal Ad Md
          go_wp2_with fail
          generalize wd.alloc (.cells #[] 3) = we at *
          go_loopw [5] (fun v5 wr => ∃ (l : List Int), l.length ≤ 60 + nd ∧ Nums wr w.heap.size v5 l ∧ AtS wr p ∧ Mod w.heap.size p w wr) (fun i _ => 100 - lenV i)
          case atStart => exact ⟨[], by simp, Ne.out, Ae.out, Me.out⟩
          case round =>
            obtain ⟨l, hl, hN, hA, hM⟩ := hrel
            have HN : Hid (Nums wr w.heap.size _ l) := hN
            obtain ⟨A, c, rfl, _, _⟩ := hN.shape
            have AR : Hid (AtS wr p) := hA
            have MR : Hid (Mod w.heap.size p w wr) := hM
            have HL2 : Hid (l.length ≤ 60 + nd) := hl
            have q7 : (l.length : Int) ≤ 62 := by omega
            have q8 : (nd : Int) ≤ 1 := by omega
            clear hN hA hM
            by_cases hlt : l.length < 60 + nd
            · have q9 : (l.length : Int) < 60 + (nd : Int) := by omega
              go_wp2_with (at_builtin; refine wpList_append_num rfl (.tmp 62) (.tmp 66) 36 rfl Try.underlying36 Try.infoInt w.heap.size _ l rfl HN.out (3 * (l.length : Int)) rfl (by have := HL2.out; omega) MR.out.size ?_; intro v' wf hNf hbf hkf)
              go_roundw
              case rel => exact ⟨l ++ [3 * (l.length : Int)], by simp; omega, hNf, AR.out.below hbf HP.out, MR.out.trans (Mod.of_below hbf)⟩
              case measure =>
                obtain ⟨Af, cf, rfl, _, _⟩ := hNf.shape
                simp [lenV]
                omega
            · have q9 : (60 : Int) + (nd : Int) ≤ (l.length : Int) := by omega
              go_wp2_with fail
              go_ret
              exact ⟨_, l, rfl, HN.out, by have := HL2.out; omega, AR.out, MR.out⟩
end Go.Proofs.Ytfkgaoegdnkfcaa
