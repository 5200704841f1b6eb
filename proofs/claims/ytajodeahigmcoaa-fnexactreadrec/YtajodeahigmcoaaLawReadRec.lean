/-
  The law FnExactReadRec answers true at every text.
-/
import Derived.Test.YtajodeahigmcoaaRows
import Derived.Test.YtajodeahigmcoaaWkEq
import Derived.Test.YtajodeahigmcoaaWkArg
import Derived.Test.YtajodeahigmcoaaReadSpecN
namespace Go.Proofs.Ytajodeahigmcoaa
open Go.ChangeShapes Go.WideShapes Go.ChangeAt Go.RowKit Go.PlainAid
set_option linter.unusedVariables false

theorem ansV_at (r : Option Rcd) : ansV r = .tuple #[vRcd (r.getD ⟨0, 0, 0, 0, ⟨#[]⟩⟩), .bool r.isSome] := by
  cases r <;> rfl
set_option maxHeartbeats 1000000 in
theorem law_fnExactReadRec (s : ByteArray) (w : World) (hs : s.size ≤ maxLen) : Calls Try.prog 6 #[.string s] w fun e w' => e = .returned (.bool true) ∧ Below w.heap.size w w' := by
  unfold maxLen at hs
  have q1 : (s.size : Int) ≤ 9223372036854775807 := by omega
  by_cases hl : (1048576 : Int) < (s.size : Int)
  · go_enter Try.func6, Try.ntmps6
    go_wp2_with fail
    go_ret
    exact ⟨rfl, Below.refl _ _⟩
  · have hl' : (s.size : Int) ≤ 1048576 := by omega
    obtain ⟨r, hr⟩ := readA_has s
    have c1 := fun wx => ansS s r wx (by omega) hr
    have c2 := fun wx => ansI s r wx (by omega) hr
    rw [ansV_at] at c1 c2
    generalize r.getD ⟨0, 0, 0, 0, ⟨#[]⟩⟩ = q at *
    generalize r.isSome = b at *
    have c3 := fun wx => eqRec q wx
    unfold vRcd at c1 c2 c3
    have nb : (b != b) = false := by cases b <;> rfl
    clear hl hr
    go_enter Try.func6, Try.ntmps6
    go_wp2_with fail
    refine (c1 _).mono ?_
    rintro e w1 ⟨rfl, hb1⟩
    go_wp2_with fail
    have hb2 : Below w1.heap.size w1 (w1.alloc (.cells #[.int .i64 q.kind, .int .i64 q.term, .int .i64 q.index, .int .i64 q.vote, .string q.data] 35)) := (Below.refl _ _).alloc (Nat.le_refl _) _
    have k2 := Blk.new w1 #[.int .i64 q.kind, .int .i64 q.term, .int .i64 q.index, .int .i64 q.vote, .string q.data] 35
    generalize w1.alloc (.cells #[.int .i64 q.kind, .int .i64 q.term, .int .i64 q.index, .int .i64 q.vote, .string q.data] 35) = w2 at *
    have B2 : Hid (Below w.heap.size w w2) := hb1.trans (hb2.mono hb1.size)
    have K2 : Hid (Blk w2 w1.heap.size #[.int .i64 q.kind, .int .i64 q.term, .int .i64 q.index, .int .i64 q.vote, .string q.data] 35) := k2
    clear hb1 hb2 k2
    refine (c2 _).mono ?_
    rintro e w3 ⟨rfl, hb3⟩
    have B3 : Hid (Below w.heap.size w w3) := B2.out.trans (hb3.mono B2.out.size)
    have K3 : Hid (Blk w3 w1.heap.size #[.int .i64 q.kind, .int .i64 q.term, .int .i64 q.index, .int .i64 q.vote, .string q.data] 35) := K2.out.on hb3 K2.out.lt
    clear hb3 K2 B2
    have hlt := K3.out.lt
    have f0 := K3.out.cell 0 (.int .i64 q.kind) rfl
    have f1 := K3.out.cell 1 (.int .i64 q.term) rfl
    have f2 := K3.out.cell 2 (.int .i64 q.index) rfl
    have f3 := K3.out.cell 3 (.int .i64 q.vote) rfl
    have f4 := K3.out.cell 4 (.string q.data) rfl
    generalize w1.heap.size = ga at *
    have B4 : Hid (Below w.heap.size w (w3.alloc (.cells #[.int .i64 q.kind, .int .i64 q.term, .int .i64 q.index, .int .i64 q.vote, .string q.data] 35))) := B3.out.alloc B3.out.size _
    go_wp2_with fail
    refine (c3 _).mono ?_
    rintro e w5 ⟨rfl, hb5⟩
    have B5 : Hid (Below w.heap.size w w5) := B4.out.trans (hb5.mono B4.out.size)
    clear hb5
    go_wp2_with fail
    go_ret
    exact ⟨rfl, B5.out⟩
end Go.Proofs.Ytajodeahigmcoaa
