/-
  What both packages answer to ReadTimes and ReadValues, at every count.
-/
import Derived.Test.YthgiekeiljflaaaDoorRows
import Derived.Test.YthgiekeiljflaaaDoorBtReadVI
import Derived.Test.YthgiekeiljflaaaDoorBtReadTI
namespace Go.Proofs.YthgiekeiljflaaaDoor
open Go.ChangeShapes Go.WideShapes Go.ChangeAt Go.RowKit Go.PlainAid
set_option linter.unusedVariables false

theorem implReadValuesA (s : ByteArray) (n : Int) (w : World) (hs : s.size ≤ 1048576) : Calls Tryd.prog 76 #[.string s, .int .i64 n] w fun e w' => (∃ l k u, RdAns showV rowV s n l k ∧ e = .returned (.tuple #[u, .int .i64 (k : Int)]) ∧ Nums w' w.heap.size u l) ∧ Below w.heap.size w w' := by
  by_cases h : n < 1 ∨ 60 < n
  · exact implReadValues_no s n w h
  · obtain ⟨m, rfl⟩ : ∃ m : Nat, n = (m : Int) := ⟨n.toNat, by omega⟩
    exact implReadValues s m w hs (by omega) (by omega)

theorem implReadTimesA (s : ByteArray) (n : Int) (w : World) (hs : s.size ≤ 1048576) : Calls Tryd.prog 75 #[.string s, .int .i64 n] w fun e w' => (∃ l k u, RdAns showT rowT s n l k ∧ e = .returned (.tuple #[u, .int .i64 (k : Int)]) ∧ Nums w' w.heap.size u l) ∧ Below w.heap.size w w' := by
  by_cases h : n < 1 ∨ 60 < n
  · exact implReadTimes_no s n w h
  · obtain ⟨m, rfl⟩ : ∃ m : Nat, n = (m : Int) := ⟨n.toNat, by omega⟩
    exact implReadTimes s m w hs (by omega) (by omega)

end Go.Proofs.YthgiekeiljflaaaDoor
