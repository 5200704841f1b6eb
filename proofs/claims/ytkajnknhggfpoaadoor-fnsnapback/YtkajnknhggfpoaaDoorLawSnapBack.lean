/-
  The law FnSnapBack answers true, whatever the code.
-/
import Derived.Test.YtkajnknhggfpoaaDoorRows
import Derived.Test.YtkajnknhggfpoaaDoorSnMath
import Derived.Test.YtkajnknhggfpoaaDoorSnDraw
namespace Go.Proofs.YtkajnknhggfpoaaDoor
open Go.ChangeShapes Go.WideShapes Go.ChangeAt Go.RowKit Go.PlainAid
set_option linter.unusedVariables false

set_option maxHeartbeats 400000 in
theorem back_big (w : World) (ao : Option Addr) (len cap : Nat) (hl : 1048576 < len) (h2 : len ≤ 9223372036854775807) :
    Calls Tryd.prog 3 #[.slice ao len cap] w fun e w' => e = .returned (.bool true) ∧ Below w.heap.size w w' := by
  have c1 := big_yes w ao len cap hl h2
  go_enter Tryd.func3, Tryd.ntmps3
  go_wp2_with fail
  refine c1.mono ?_
  rintro e w1 ⟨rfl, rfl⟩
  go_wp2_with fail
  go_ret
  exact ⟨rfl, Below.refl _ _⟩

set_option maxRecDepth 20000 in
set_option maxHeartbeats 4000000 in
theorem law_back (w : World) (ao : Option Addr) (len cap : Nat) (cs : Nat → Nat) (hl : len ≤ 1048576) (hcs : CodeIs w w.heap.size ao len cs) (ht : SumTab w) (a0 a1 a2 : Addr) (he : Errs w a0 a1 a2) :
    Calls Tryd.prog 3 #[.slice ao len cap] w fun e w' => e = .returned (.bool true) ∧ Below w.heap.size w w' := by
  have HT : Hid (SumTab w) := ht
  have HE : Hid (Errs w a0 a1 a2) := he
  have c1 := big_no w ao len cap hl
  have c2 := drawSnap w ao len cap cs hl hcs
  clear ht he hcs hl
  go_enter Tryd.func3, Tryd.ntmps3
  go_wp2_with fail
  refine c1.mono ?_
  rintro e w' ⟨rfl, rfl⟩
  go_wp2_with fail
  refine c2.mono ?_
  rintro e w1 ⟨x, rfl, hd, hb1⟩
  have B1 : Hid (Below w.heap.size w w1) := hb1
  have HD : Hid (x.data.size ≤ maxLen) := by unfold Hid maxLen; omega
  have cS := fun wx h => implShowSnap x wx HD.out h
  have cK := fun wx => specSnapOk x wx HD.out
  unfold vSnp at cS cK ⊢
  clear hb1 c1 c2 hd
  go_wp2_with fail
  have K2 : Hid (Blk (w1.alloc (.cells #[.int .i64 x.index, .int .i64 x.term, .string x.data] 25)) w1.heap.size #[.int .i64 x.index, .int .i64 x.term, .string x.data] 25) := Blk.new _ _ _
  have B2 : Hid (Below w.heap.size w (w1.alloc (.cells #[.int .i64 x.index, .int .i64 x.term, .string x.data] 25))) := B1.out.alloc B1.out.size _
  clear B1 
  generalize w1.alloc (.cells #[.int .i64 x.index, .int .i64 x.term, .string x.data] 25) = w2 at *
  generalize w1.heap.size = gs at *
  refine (cS w2 (HT.out.on B2.out)).mono ?_
  rintro e w3 ⟨rfl, hb⟩
  have B3 : Hid (Below w.heap.size w w3) := B2.out.trans (hb.mono B2.out.size)
  have K3 : Hid (Blk w3 gs #[.int .i64 x.index, .int .i64 x.term, .string x.data] 25) := K2.out.on hb K2.out.lt
  clear hb B2 K2
  cases ho : isSn x
  · have hs : showSn x = ⟨#[]⟩ := by unfold showSn; rw [ho]; rfl
    rw [hs]
    have cR := fun wx ht he => implReadSnap ⟨#[]⟩ wx (Nat.zero_le _) ht a0 a1 a2 he
    rw [read_empty] at cR
    unfold noSn at cR
    clear hs
    go_wp2_with fail
    refine (cR w3 (HT.out.on B3.out) (HE.out.on B3.out)).mono ?_
    rintro e w4 ⟨rfl, hb⟩
    have B4 : Hid (Below w.heap.size w w4) := B3.out.trans (hb.mono B3.out.size)
    have K4 : Hid (Blk w4 gs #[.int .i64 x.index, .int .i64 x.term, .string x.data] 25) := K3.out.on hb K3.out.lt
    clear hb B3 K3
    have hka : Hid (Blk (w4.alloc (.cells #[.int .i64 0, .int .i64 0, .string ⟨#[]⟩] 25)) gs #[.int .i64 x.index, .int .i64 x.term, .string x.data] 25) := K4.out.alloc _
    have e0 := hka.out.cell 0 (.int .i64 x.index) rfl
    have e1 := hka.out.cell 1 (.int .i64 x.term) rfl
    have e2 := hka.out.cell 2 (.string x.data) rfl
    go_wp2_with fail
    clear e0 e1 e2 hka
    have Q5 : Hid (Blk (w4.alloc (.cells #[.int .i64 0, .int .i64 0, .string ⟨#[]⟩] 25)) w4.heap.size #[.int .i64 0, .int .i64 0, .string ⟨#[]⟩] 25) := Blk.new _ _ _
    have B5 : Hid (Below w.heap.size w (w4.alloc (.cells #[.int .i64 0, .int .i64 0, .string ⟨#[]⟩] 25))) := B4.out.alloc B4.out.size _
    have K5 : Hid (Blk (w4.alloc (.cells #[.int .i64 0, .int .i64 0, .string ⟨#[]⟩] 25)) gs #[.int .i64 x.index, .int .i64 x.term, .string x.data] 25) := K4.out.alloc _
    clear B4 K4
    generalize w4.alloc (.cells #[.int .i64 0, .int .i64 0, .string ⟨#[]⟩] 25) = w5 at *
    generalize w4.heap.size = gq at *
    cases hk : snapOk x <;> rw [hk] at cK
    · clear hk ho
      refine (cK w5).mono ?_
      rintro e w6 ⟨rfl, hb⟩
      have B6 : Hid (Below w.heap.size w w6) := B5.out.trans (hb.mono B5.out.size)
      have K6 : Hid (Blk w6 gs #[.int .i64 x.index, .int .i64 x.term, .string x.data] 25) := K5.out.on hb K5.out.lt
      clear hb B5 K5
      have e0 := K6.out.cell 0 (.int .i64 x.index) rfl
      have e1 := K6.out.cell 1 (.int .i64 x.term) rfl
      have e2 := K6.out.cell 2 (.string x.data) rfl
      go_wp2_with fail
      go_ret
      exact ⟨rfl, B6.out⟩
    · have hz := (isSn_zero x ho hk).1
      clear hk ho
      refine (cK w5).mono ?_
      rintro e w6 ⟨rfl, hb⟩
      have B6 : Hid (Below w.heap.size w w6) := B5.out.trans (hb.mono B5.out.size)
      have K6 : Hid (Blk w6 gs #[.int .i64 x.index, .int .i64 x.term, .string x.data] 25) := K5.out.on hb K5.out.lt
      clear hb B5 K5
      have e0 := K6.out.cell 0 (.int .i64 x.index) rfl
      have e1 := K6.out.cell 1 (.int .i64 x.term) rfl
      have e2 := K6.out.cell 2 (.string x.data) rfl
      rw [hz] at e0
      clear hz
      go_wp2_with fail
      go_ret
      exact ⟨rfl, B6.out⟩
  · obtain ⟨hk, hz, _, _, d1⟩ := isSn_in x ho
    have hsz := show_size x ho
    obtain ⟨m, hm⟩ : ∃ m, (showSn x).size = m + 1 := ⟨(showSn x).size - 1, by omega⟩
    have r1 := read_show x ho
    have r2 := read_less x ho ((showSn x).size - 1) (by omega)
    have r3 := read_more x ho ⟨#[120]⟩ (by decide)
    have cR1 := fun wx ht he => implReadSnap (showSn x) wx (by omega) ht a0 a1 a2 he
    have cR2 := fun wx ht he => implReadSnap ((showSn x).extract 0 ((showSn x).size - 1)) wx (by rw [ByteArray.size_extract]; omega) ht a0 a1 a2 he
    have cR3 := fun wx ht he => implReadSnap (showSn x ++ ⟨#[120]⟩) wx (by rw [ByteArray.size_append]; have : (⟨#[120]⟩ : ByteArray).size = 1 := rfl; omega) ht a0 a1 a2 he
    rw [r1] at cR1
    rw [r2] at cR2
    rw [r3] at cR3
    unfold vSnp at cR1
    unfold noSn at cR2 cR3
    rw [hk] at cK
    have z0 : (x.index == 0) = false := by simpa using hz
    have q1 : ((showSn x).size : Int) ≤ 1048576 := by omega
    have q2 : wrap64 (((showSn x).size : Int) - 1) = ((showSn x).size : Int) - 1 := by unfold wrap64; omega
    have q3 : (1 : Int) ≤ ((showSn x).size : Int) := by omega
    have q4 : (0 : Int) ≤ ((showSn x).size : Int) - 1 := by omega
    have q5 : ((showSn x).size : Int) - 1 ≤ ((showSn x).size : Int) := by omega
    have q6 : (((showSn x).size : Int) - 1).toNat = (showSn x).size - 1 := by omega
    have q7 : 1 ≤ (showSn x).size := by omega
    have g1 : ¬ 9223372036854775807 < (showSn x).size + (⟨#[120]⟩ : ByteArray).size := by have : (⟨#[120]⟩ : ByteArray).size = 1 := rfl; omega
    have g2 : ¬ 9223372036854775807 < (showSn x).size + 1 := by omega
    have hne : showSn x ≠ ByteArray.empty := fun e => by rw [e] at hm; cases hm
    have z1 : (showSn x).toList.isEmpty = false := by rw [empty_beq, decide_eq_false hne]
    have z2 : ((showSn x).toList == []) = false := by rw [empty_eqs, decide_eq_false hne]
    clear hk hz d1 hsz r1 r2 r3 ho hm
    generalize showSn x = y at *
    go_wp2_with fail
    refine (cR1 w3 (HT.out.on B3.out) (HE.out.on B3.out)).mono ?_
    rintro e w4 ⟨rfl, hb⟩
    have B4 : Hid (Below w.heap.size w w4) := B3.out.trans (hb.mono B3.out.size)
    have K4 : Hid (Blk w4 gs #[.int .i64 x.index, .int .i64 x.term, .string x.data] 25) := K3.out.on hb K3.out.lt
    clear hb B3 K3
    have hka : Hid (Blk (w4.alloc (.cells #[.int .i64 x.index, .int .i64 x.term, .string x.data] 25)) gs #[.int .i64 x.index, .int .i64 x.term, .string x.data] 25) := K4.out.alloc _
    have e0 := hka.out.cell 0 (.int .i64 x.index) rfl
    have e1 := hka.out.cell 1 (.int .i64 x.term) rfl
    have e2 := hka.out.cell 2 (.string x.data) rfl
    go_wp2_with fail
    clear e0 e1 e2 hka
    have Q5 : Hid (Blk (w4.alloc (.cells #[.int .i64 x.index, .int .i64 x.term, .string x.data] 25)) w4.heap.size #[.int .i64 x.index, .int .i64 x.term, .string x.data] 25) := Blk.new _ _ _
    have B5 : Hid (Below w.heap.size w (w4.alloc (.cells #[.int .i64 x.index, .int .i64 x.term, .string x.data] 25))) := B4.out.alloc B4.out.size _
    have K5 : Hid (Blk (w4.alloc (.cells #[.int .i64 x.index, .int .i64 x.term, .string x.data] 25)) gs #[.int .i64 x.index, .int .i64 x.term, .string x.data] 25) := K4.out.alloc _
    clear B4 K4
    generalize w4.alloc (.cells #[.int .i64 x.index, .int .i64 x.term, .string x.data] 25) = w5 at *
    generalize w4.heap.size = gq at *
    refine (cK w5).mono ?_
    rintro e w6 ⟨rfl, hb⟩
    have B6 : Hid (Below w.heap.size w w6) := B5.out.trans (hb.mono B5.out.size)
    have K6 : Hid (Blk w6 gs #[.int .i64 x.index, .int .i64 x.term, .string x.data] 25) := K5.out.on hb K5.out.lt
    have Q6 : Hid (Blk w6 gq #[.int .i64 x.index, .int .i64 x.term, .string x.data] 25) := Q5.out.on hb Q5.out.lt
    clear hb B5 K5 Q5
    have e0 := K6.out.cell 0 (.int .i64 x.index) rfl
    have e1 := K6.out.cell 1 (.int .i64 x.term) rfl
    have e2 := K6.out.cell 2 (.string x.data) rfl
    go_wp2_with fail
    clear e0 e1 e2
    refine (cR2 w6 (HT.out.on B6.out) (HE.out.on B6.out)).mono ?_
    rintro e w7 ⟨rfl, hb⟩
    have B7 : Hid (Below w.heap.size w w7) := B6.out.trans (hb.mono B6.out.size)
    have K7 : Hid (Blk w7 gs #[.int .i64 x.index, .int .i64 x.term, .string x.data] 25) := K6.out.on hb K6.out.lt
    have Q7 : Hid (Blk w7 gq #[.int .i64 x.index, .int .i64 x.term, .string x.data] 25) := Q6.out.on hb Q6.out.lt
    clear hb B6 K6 Q6
    go_wp2_with fail
    have R8 : Hid (Blk (w7.alloc (.cells #[.int .i64 0, .int .i64 0, .string ⟨#[]⟩] 25)) w7.heap.size #[.int .i64 0, .int .i64 0, .string ⟨#[]⟩] 25) := Blk.new _ _ _
    have B8 : Hid (Below w.heap.size w (w7.alloc (.cells #[.int .i64 0, .int .i64 0, .string ⟨#[]⟩] 25))) := B7.out.alloc B7.out.size _
    have K8 : Hid (Blk (w7.alloc (.cells #[.int .i64 0, .int .i64 0, .string ⟨#[]⟩] 25)) gs #[.int .i64 x.index, .int .i64 x.term, .string x.data] 25) := K7.out.alloc _
    have Q8 : Hid (Blk (w7.alloc (.cells #[.int .i64 0, .int .i64 0, .string ⟨#[]⟩] 25)) gq #[.int .i64 x.index, .int .i64 x.term, .string x.data] 25) := Q7.out.alloc _
    clear B7 K7 Q7
    generalize w7.alloc (.cells #[.int .i64 0, .int .i64 0, .string ⟨#[]⟩] 25) = w8 at *
    generalize w7.heap.size = gr at *
    refine (cR3 w8 (HT.out.on B8.out) (HE.out.on B8.out)).mono ?_
    rintro e w9 ⟨rfl, hb⟩
    have B9 : Hid (Below w.heap.size w w9) := B8.out.trans (hb.mono B8.out.size)
    have K9 : Hid (Blk w9 gs #[.int .i64 x.index, .int .i64 x.term, .string x.data] 25) := K8.out.on hb K8.out.lt
    have Q9 : Hid (Blk w9 gq #[.int .i64 x.index, .int .i64 x.term, .string x.data] 25) := Q8.out.on hb Q8.out.lt
    clear hb B8 K8 Q8
    have hka : Hid (Blk (w9.alloc (.cells #[.int .i64 0, .int .i64 0, .string ⟨#[]⟩] 25)) gs #[.int .i64 x.index, .int .i64 x.term, .string x.data] 25) := K9.out.alloc _
    have hqa : Hid (Blk (w9.alloc (.cells #[.int .i64 0, .int .i64 0, .string ⟨#[]⟩] 25)) gq #[.int .i64 x.index, .int .i64 x.term, .string x.data] 25) := Q9.out.alloc _
    have e0 := hka.out.cell 0 (.int .i64 x.index) rfl
    have e1 := hka.out.cell 1 (.int .i64 x.term) rfl
    have e2 := hka.out.cell 2 (.string x.data) rfl
    have f0 := hqa.out.cell 0 (.int .i64 x.index) rfl
    have f1 := hqa.out.cell 1 (.int .i64 x.term) rfl
    have f2 := hqa.out.cell 2 (.string x.data) rfl
    have B10 : Hid (Below w.heap.size w (w9.alloc (.cells #[.int .i64 0, .int .i64 0, .string ⟨#[]⟩] 25))) := B9.out.alloc B9.out.size _
    clear hka hqa
    go_wp2_with fail
    go_ret
    exact ⟨rfl, B10.out⟩
end Go.Proofs.YtkajnknhggfpoaaDoor
