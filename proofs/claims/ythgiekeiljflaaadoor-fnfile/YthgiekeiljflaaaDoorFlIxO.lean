/-
  Contract of impl.indexOf.
-/
import Derived.Test.YthgiekeiljflaaaDoorFlReadI
import Derived.WalkKit
import Derived.ProofKit
import Derived.OpenShut
import Derived.Below
import Derived.WalkSmall
import Derived.BigQuiet
import Derived.Deep.QuietTactic
import Derived.Deep.RegionWith
import Derived.Handy
namespace Go.Proofs.YthgiekeiljflaaaDoor
open Go.ChangeShapes Go.WideShapes Go.ChangeAt Go.RowKit Go.PlainAid
set_option linter.unusedVariables false

/-- What impl.indexOf answers. -/
def IxI (s : ByteArray) (P : List Spot) : Prop := (∃ m, GoodF s m ∧ P = (List.range m.length).map (spotOf m)) ∨ ((∀ m, ¬ GoodF s m) ∧ P = [])
set_option maxHeartbeats 2000000 in
theorem indexOfV (s : ByteArray) (w : World) (hs : s.size ≤ 1048576) (hst : SumTab w) (a0 a1 a2 : Addr) (he : Errs w a0 a1 a2) : Calls Tryd.prog 35 #[.string s] w fun e w' => (∃ v P, e = .returned v ∧ IxI s P ∧ Owns w' w.heap.size 56 5 v (spR P)) ∧ Below w.heap.size w w' := by
  have HS : Hid (s.size ≤ 1048576) := hs
  have c1 := implReadFile s w hs hst a0 a1 a2 he
  clear hs hst he
  go_enter Tryd.func35, Tryd.ntmps35
  go_wp2_with fail
  refine c1.mono ?_
  rintro e X1 ⟨⟨u1, L1, ok1, hR, rfl, _⟩, hb⟩
  have HR : Hid (RfAns s (L1.map Prod.fst) ok1) := hR
  have B1 : Hid (Below w.heap.size w X1) := hb
  clear hR hb c1
  cases ok1 with
  | false =>
    have HN : Hid (IxI s []) := by
      rcases HR.out with ⟨h, _⟩ | ⟨_, _, h⟩
      · cases h
      · exact .inr ⟨h, rfl⟩
    go_wp2_with fail
    go_ret
    exact ⟨⟨_, [], rfl, HN.out, Owns.nil _ _ _ _⟩, B1.out⟩
  | true =>
  have HY : Hid (IxI s (spots s)) := by
    rcases HR.out with ⟨_, h⟩ | ⟨h, _⟩
    · exact .inl ⟨_, h, h.read.2⟩
    · cases h
  have C0 : Hid (CurB (X1.alloc (.cells #[.string s, .int .i64 0] 91)) X1.heap.size s 0 91) := Blk.new X1 _ _
  have B0 : Hid (Below w.heap.size w (X1.alloc (.cells #[.string s, .int .i64 0] 91))) := B1.out.alloc B1.out.size _
  go_wp2_with fail
  refine (readerOfV s X1).mono ?_
  rintro e W1 ⟨rfl, hW1⟩
  rw [← hW1] at C0 B0
  clear hW1
  go_wp2_with fail
  refine (readIndexV s 0 X1.heap.size W1 C0.out HS.out).mono ?_
  rintro e X2 ⟨⟨u2, rfl, hO⟩, _, hk⟩
  have B2 : Hid (Below w.heap.size w X2) := B0.out.trans (hk.1.mono B1.out.size)
  have O2 : Hid (Owns X2 w.heap.size 56 5 u2 (spR (spots s))) := hO.mono B0.out.size
  clear hO hk
  go_wp2_with fail
  go_ret
  exact ⟨⟨_, _, rfl, HY.out, O2.out⟩, B2.out⟩
end Go.Proofs.YthgiekeiljflaaaDoor
