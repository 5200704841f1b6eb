/-
  What is drawn: contracts of spec.DrawShowBlock (some points) and spec.DrawReadBlock (some short text), whatever the code.
-/
import Derived.Test.YtlknemfnacnleaaDoorRows
import Derived.Test.YtlknemfnacnleaaDoorPtDraw
import Derived.Test.YtlknemfnacnleaaDoorCurAll
import Derived.Test.YtlknemfnacnleaaDoorBkEven
namespace Go.Proofs.YtlknemfnacnleaaDoor
open Go.ChangeShapes Go.WideShapes Go.ChangeAt Go.RowKit Go.PlainAid
set_option linter.unusedVariables false

set_option maxHeartbeats 1000000 in
theorem drawShowBlock (w : World) (ao : Option Addr) (len cap : Nat) (cs : Nat → Nat) (hl : len ≤ 1048576) (h : CodeIs w w.heap.size ao len cs) :
    Calls Tryd.prog 16 #[.slice ao len cap] w fun e w' => (∃ u l, e = .returned u ∧ Owns w' w.heap.size 40 2 u (ptR l) ∧ l.length ≤ 600) ∧ Below w.heap.size w w' := by
  have c0 := new_any w ao len cap cs hl h
  have cz := fun wx => size_any wx ao len cap 20 hl (by omega) (by omega)
  clear h
  go_enter Tryd.func16, Tryd.ntmps16
  go_wp2_with fail
  refine c0.mono ?_
  rintro e w1 ⟨rfl, hA, hb⟩
  have A1 : Hid (AtS w1 w.heap.size) := ⟨_, _, _, _, _, hA⟩
  have B1 : Hid (Below w.heap.size w w1) := hb
  have HP : Hid (w.heap.size < w1.heap.size) := hA.lt
  clear hA hb
  go_wp2_with fail
  refine (once_some w1 w.heap.size 20 (by omega) A1.out).mono ?_
  rintro e w2 ⟨b2, rfl, hA, hm⟩
  have A2 : Hid (AtS w2 w.heap.size) := hA
  have B2 : Hid (Below w.heap.size w w2) := B1.out.trans ((hm.mono B1.out.size).below (Nat.le_refl _))
  have Z2 : Hid (w.heap.size ≤ w2.heap.size) := B2.out.size
  clear hA hm A1
  cases b2
  · go_wp2_with fail
    refine (cz _).mono ?_
    rintro e w' ⟨⟨n, rfl, hn1, hn2⟩, rfl⟩
    go_wp2_with fail
    refine (points_any w2 w.heap.size n hn1 hn2 A2.out).mono ?_
    rintro e w3 ⟨u, l, rfl, hO, hln, hA, hm⟩
    have O3 : Hid (Owns w3 w2.heap.size 40 2 u (ptR l)) := hO
    have B3 : Hid (Below w.heap.size w w3) := B2.out.trans ((hm.mono B2.out.size).below (Nat.le_refl _))
    have LL : Hid (l.length ≤ 600) := hln
    clear hO hA hm hln
    go_wp2_with fail
    go_ret
    exact ⟨⟨_, l, rfl, O3.out.mono Z2.out, LL.out⟩, B3.out⟩
  · go_wp2_with fail
    go_ret
    exact ⟨⟨_, [], rfl, Owns.empty w2 _ _ _ Z2.out, by simp⟩, B2.out.alloc Z2.out _⟩

set_option maxHeartbeats 2000000 in
theorem drawReadBlock (w : World) (ao : Option Addr) (len cap : Nat) (cs : Nat → Nat) (hl : len ≤ 1048576) (h : CodeIs w w.heap.size ao len cs) :
    Calls Tryd.prog 19 #[.slice ao len cap] w fun e w' => (∃ t : ByteArray, e = .returned (.string t) ∧ t.size ≤ 3000) ∧ Below w.heap.size w w' := by
  have c0 := new_any w ao len cap cs hl h
  have cz := fun wx => size_any wx ao len cap 12 hl (by omega) (by omega)
  clear h
  go_enter Tryd.func19, Tryd.ntmps19
  go_wp2_with fail
  refine c0.mono ?_
  rintro e w1 ⟨rfl, hA, hb⟩
  have A1 : Hid (AtS w1 w.heap.size) := ⟨_, _, _, _, _, hA⟩
  have B1 : Hid (Below w.heap.size w w1) := hb
  clear hA hb
  go_wp2_with fail
  refine (cz _).mono ?_
  rintro e w' ⟨⟨n, rfl, hn1, hn2⟩, rfl⟩
  go_wp2_with fail
  refine (points_any w1 w.heap.size n hn1 hn2 A1.out).mono ?_
  rintro e w2 ⟨u, l, rfl, hO, hln, hA, hm⟩
  have A2 : Hid (AtS w2 w.heap.size) := hA
  have B2 : Hid (Below w.heap.size w w2) := B1.out.trans ((hm.mono B1.out.size).below (Nat.le_refl _))
  have cS := specShowBlock l u w2 w2.heap.size hO.lies (by omega) (Nat.le_refl _)
  clear hO hA hm hln A1
  go_wp2_with fail
  refine cS.mono ?_
  rintro e w3 ⟨rfl, hb⟩
  have A3 : Hid (AtS w3 w.heap.size) := A2.out.below hb A2.out.lt
  have B3 : Hid (Below w.heap.size w w3) := B2.out.trans (hb.mono B2.out.size)
  have hz := showB_size l
  generalize showB l = s at *
  clear hb cS A2
  go_wp2_with fail
  refine (once_some w3 w.heap.size 3 (by omega) A3.out).mono ?_
  rintro e w4 ⟨b4, rfl, hA, hm⟩
  have A4 : Hid (AtS w4 w.heap.size) := hA
  have B4 : Hid (Below w.heap.size w w4) := B3.out.trans ((hm.mono B3.out.size).below (Nat.le_refl _))
  clear hA hm A3
  cases b4
  · have qs : (s.size : Int) ≤ 1003 := by omega
    by_cases h8 : 8 < s.size
    · have q8 : (8 : Int) < (s.size : Int) := by omega
      go_wp2_with fail
      refine (once_some w4 w.heap.size 5 (by omega) A4.out).mono ?_
      rintro e w6 ⟨b6, rfl, hA, hm⟩
      have A6 : Hid (AtS w6 w.heap.size) := hA
      have B6 : Hid (Below w.heap.size w w6) := B4.out.trans ((hm.mono B4.out.size).below (Nat.le_refl _))
      clear hA hm
      cases b6
      · go_wp2_with fail
        go_ret
        exact ⟨⟨_, rfl, by omega⟩, B6.out⟩
      · have cQ := spoilS w6 w.heap.size (s.extract 8 s.size) (by rw [ByteArray.size_extract]; omega) A6.out
        go_wp2_with fail
        refine cQ.mono ?_
        rintro e w7 ⟨d7, rfl, hd7, hA, hm⟩
        have B7 : Hid (Below w.heap.size w w7) := B6.out.trans ((hm.mono B6.out.size).below (Nat.le_refl _))
        have cF := spec_frame d7 w7 (by omega)
        have hf := frame_size d7
        clear hA hm cQ
        go_wp2_with fail
        refine cF.mono ?_
        rintro e w8 ⟨rfl, hb⟩
        have B8 : Hid (Below w.heap.size w w8) := B7.out.trans (hb.mono B7.out.size)
        clear hb cF
        go_wp2_with fail
        go_ret
        exact ⟨⟨_, rfl, by omega⟩, B8.out⟩
    · have q8 : decide ((8 : Int) < (s.size : Int)) = false := decide_eq_false (by omega)
      have q9 : decide (8 < s.size) = false := decide_eq_false h8
      go_wp2_with fail
      go_ret
      exact ⟨⟨_, rfl, by omega⟩, B4.out⟩
  · have cP := spoilS w4 w.heap.size s (by omega) A4.out
    go_wp2_with fail
    refine cP.mono ?_
    rintro e w5 ⟨d, rfl, hd, hA, hm⟩
    have A5 : Hid (AtS w5 w.heap.size) := hA
    have B5 : Hid (Below w.heap.size w w5) := B4.out.trans ((hm.mono B4.out.size).below (Nat.le_refl _))
    clear hA hm A4 cP
    have qs : (d.size : Int) ≤ 1003 := by omega
    by_cases h8 : 8 < d.size
    · have q8 : (8 : Int) < (d.size : Int) := by omega
      go_wp2_with fail
      refine (once_some w5 w.heap.size 5 (by omega) A5.out).mono ?_
      rintro e w6 ⟨b6, rfl, hA, hm⟩
      have A6 : Hid (AtS w6 w.heap.size) := hA
      have B6 : Hid (Below w.heap.size w w6) := B5.out.trans ((hm.mono B5.out.size).below (Nat.le_refl _))
      clear hA hm
      cases b6
      · go_wp2_with fail
        go_ret
        exact ⟨⟨_, rfl, by omega⟩, B6.out⟩
      · have cQ := spoilS w6 w.heap.size (d.extract 8 d.size) (by rw [ByteArray.size_extract]; omega) A6.out
        go_wp2_with fail
        refine cQ.mono ?_
        rintro e w7 ⟨d7, rfl, hd7, hA, hm⟩
        have B7 : Hid (Below w.heap.size w w7) := B6.out.trans ((hm.mono B6.out.size).below (Nat.le_refl _))
        have cF := spec_frame d7 w7 (by omega)
        have hf := frame_size d7
        clear hA hm cQ
        go_wp2_with fail
        refine cF.mono ?_
        rintro e w8 ⟨rfl, hb⟩
        have B8 : Hid (Below w.heap.size w w8) := B7.out.trans (hb.mono B7.out.size)
        clear hb cF
        go_wp2_with fail
        go_ret
        exact ⟨⟨_, rfl, by omega⟩, B8.out⟩
    · have q8 : decide ((8 : Int) < (d.size : Int)) = false := decide_eq_false (by omega)
      have q9 : decide (8 < d.size) = false := decide_eq_false h8
      go_wp2_with fail
      go_ret
      exact ⟨⟨_, rfl, by omega⟩, B5.out⟩
end Go.Proofs.YtlknemfnacnleaaDoor
