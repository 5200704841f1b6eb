/-
  The law FnExactReadAnswer answers true at every text.
-/
import Derived.Test.YtaaefceknjhloaaRows
import Derived.Test.YtaaefceknjhloaaAwArg
import Derived.Test.YtaaefceknjhloaaCmAnsR
import Derived.Test.YtaaefceknjhloaaCmAnsP
namespace Go.Proofs.Ytaaefceknjhloaa
open Go.ChangeShapes Go.WideShapes Go.ChangeAt Go.RowKit Go.PlainAid
set_option linter.unusedVariables false

set_option maxHeartbeats 400000 in
theorem eqAnswer (x : Ans) (w : World) : Calls Try.prog 11 #[vAns x, vAns x] w fun e w' => e = .returned (.bool true) ∧ Below w.heap.size w w' := by
  unfold vAns
  go_enter Try.func11, Try.ntmps11
  go_wp2
  go_ret
  exact ⟨rfl, below_c2 _ _ _⟩
set_option maxHeartbeats 1000000 in
theorem law_fnExactReadAnswer (s : ByteArray) (w : World) (hs : s.size ≤ maxLen) :
    Calls Try.prog 4 #[.string s] w fun e w' => e = .returned (.bool true) ∧ Below w.heap.size w w' := by
  by_cases hb : s.size ≤ 1048576
  rotate_left
  · have q1 : (1048576 : Int) < (s.size : Int) := by omega
    have q2 : (s.size : Int) ≤ 9223372036854775807 := by unfold maxLen at hs; omega
    clear hs hb
    go_enter Try.func4, Try.ntmps4
    go_wp2_with fail
    go_ret
    exact ⟨rfl, Below.refl _ _⟩
  have q1 : (s.size : Int) ≤ 1048576 := by omega
  have c1 := fun wx => specReadAnswer s wx hb
  have c2 := fun wx => implReadAnswer s wx hb
  clear hs hb
  go_enter Try.func4, Try.ntmps4
  go_wp2_with fail
  refine (c1 _).mono ?_
  rintro e w1 ⟨hA, hb1⟩
  have B1 : Hid (Below w.heap.size w w1) := hb1
  have HA : Hid (AnsA s e) := hA
  obtain ⟨x, b, rfl⟩ := hA.form
  clear hb1 hA c1
  have k1 := Hid.mk (Blk.new w1 #[.int .i64 x.code, .int .i64 x.index, .int .i64 x.mark, .string x.data] 26)
  have B2 : Hid (Below w.heap.size w (w1.alloc (.cells #[.int .i64 x.code, .int .i64 x.index, .int .i64 x.mark, .string x.data] 26))) := B1.out.alloc B1.out.size _
  clear B1
  unfold vAns
  go_wp2_with fail
  generalize hX : w1.alloc (.cells #[.int .i64 x.code, .int .i64 x.index, .int .i64 x.mark, .string x.data] 26) = X at *
  clear hX
  refine (c2 _).mono ?_
  rintro e w2 ⟨hA, hb2⟩
  obtain rfl := HA.out.one hA
  have B3 : Hid (Below w.heap.size w w2) := B2.out.trans (hb2.mono B2.out.size)
  have k2 := Hid.mk (k1.out.on hb2 k1.out.lt)
  clear hb2 hA c2 HA k1 B2
  have k3 := Hid.mk (k2.out.alloc (.cells #[.int .i64 x.code, .int .i64 x.index, .int .i64 x.mark, .string x.data] 26))
  have k4 := Hid.mk (Blk.new w2 #[.int .i64 x.code, .int .i64 x.index, .int .i64 x.mark, .string x.data] 26)
  have B4 : Hid (Below w.heap.size w (w2.alloc (.cells #[.int .i64 x.code, .int .i64 x.index, .int .i64 x.mark, .string x.data] 26))) := B3.out.alloc B3.out.size _
  clear k2 B3
  obtain ⟨c0, c1, c2, c3⟩ := cellsC4 k3.out
  obtain ⟨d0, d1, d2, d3⟩ := cellsC4 k4.out
  unfold vAns
  go_wp2_with fail
  refine (eqAnswer x _).mono ?_
  rintro e w3 ⟨rfl, hb3⟩
  have B5 : Hid (Below w.heap.size w w3) := B4.out.trans (hb3.mono B4.out.size)
  clear hb3 c0 c1 c2 c3 d0 d1 d2 d3
  go_wp2_with fail
  go_ret
  exact ⟨rfl, B5.out⟩
end Go.Proofs.Ytaaefceknjhloaa
