/-
  The law FnExactReadSnap answers true at every text.
-/
import Derived.Test.YtkajnknhggfpoaaDoorRows
import Derived.Test.YtkajnknhggfpoaaDoorSnRead
namespace Go.Proofs.YtkajnknhggfpoaaDoor
open Go.ChangeShapes Go.WideShapes Go.ChangeAt Go.RowKit Go.PlainAid
set_option linter.unusedVariables false

set_option maxHeartbeats 400000 in
theorem eqSnap (x : Snp) (w : World) : Calls Tryd.prog 16 #[vSnp x, vSnp x] w fun e w' => e = .returned (.bool true) ∧ Below w.heap.size w w' := by
  unfold vSnp
  go_enter Tryd.func16, Tryd.ntmps16
  go_wp2
  go_ret
  exact ⟨rfl, below_two _ _ _⟩
theorem readSn_at (s : ByteArray) : ∃ (q : Snp) (b : Bool), readSn s = .tuple #[vSnp q, .bool b] := by
  unfold readSn
  split
  · exact ⟨_, _, rfl⟩
  · exact ⟨⟨0, 0, ⟨#[]⟩⟩, false, rfl⟩
set_option maxHeartbeats 1000000 in
theorem law_fnExactReadSnap (s : ByteArray) (w : World) (hs : s.size ≤ maxLen) (ht : SumTab w) (a0 a1 a2 : Addr) (he : Errs w a0 a1 a2) : Calls Tryd.prog 5 #[.string s] w fun e w' => e = .returned (.bool true) ∧ Below w.heap.size w w' := by
  have HT : Hid (SumTab w) := ht
  have HE : Hid (Errs w a0 a1 a2) := he
  clear ht he
  unfold maxLen at hs
  have q1 : (s.size : Int) ≤ 9223372036854775807 := by omega
  by_cases hl : (1048576 : Int) < (s.size : Int)
  · go_enter Tryd.func5, Tryd.ntmps5
    go_wp2_with fail
    go_ret
    exact ⟨rfl, Below.refl _ _⟩
  · have hl' : (s.size : Int) ≤ 1048576 := by omega
    obtain ⟨q, b, hq⟩ := readSn_at s
    have c1 := fun wx => specReadSnap s wx (by omega)
    have c2 := fun wx ht he => implReadSnap s wx (by omega) ht a0 a1 a2 he
    rw [hq] at c1 c2
    have c3 := fun wx => eqSnap q wx
    unfold vSnp at c1 c2 c3
    have nb : (b != b) = false := by cases b <;> rfl
    clear hl hq
    go_enter Tryd.func5, Tryd.ntmps5
    go_wp2_with fail
    refine (c1 _).mono ?_
    rintro e w1 ⟨rfl, hb1⟩
    go_wp2_with fail
    have hb2 : Below w1.heap.size w1 (w1.alloc (.cells #[.int .i64 q.index, .int .i64 q.term, .string q.data] 25)) := below_one _ _
    have k2 := Blk.new w1 #[.int .i64 q.index, .int .i64 q.term, .string q.data] 25
    generalize w1.alloc (.cells #[.int .i64 q.index, .int .i64 q.term, .string q.data] 25) = w2 at *
    have B2 : Hid (Below w.heap.size w w2) := hb1.trans (hb2.mono hb1.size)
    have K2 : Hid (Blk w2 w1.heap.size #[.int .i64 q.index, .int .i64 q.term, .string q.data] 25) := k2
    clear hb1 hb2 k2
    refine (c2 _ (HT.out.on B2.out) (HE.out.on B2.out)).mono ?_
    rintro e w3 ⟨rfl, hb3⟩
    have B3 : Hid (Below w.heap.size w w3) := B2.out.trans (hb3.mono B2.out.size)
    have K3 : Hid (Blk w3 w1.heap.size #[.int .i64 q.index, .int .i64 q.term, .string q.data] 25) := K2.out.on hb3 K2.out.lt
    clear hb3 K2 B2
    have hlt := K3.out.lt
    have f0 := K3.out.cell 0 (.int .i64 q.index) rfl
    have f1 := K3.out.cell 1 (.int .i64 q.term) rfl
    have f2 := K3.out.cell 2 (.string q.data) rfl
    generalize w1.heap.size = ga at *
    have B4 : Hid (Below w.heap.size w (w3.alloc (.cells #[.int .i64 q.index, .int .i64 q.term, .string q.data] 25))) := B3.out.alloc B3.out.size _
    go_wp2_with fail
    refine (c3 _).mono ?_
    rintro e w5 ⟨rfl, hb5⟩
    have B5 : Hid (Below w.heap.size w w5) := B4.out.trans (hb5.mono B4.out.size)
    clear hb5
    go_wp2_with fail
    go_ret
    exact ⟨rfl, B5.out⟩
end Go.Proofs.YtkajnknhggfpoaaDoor
