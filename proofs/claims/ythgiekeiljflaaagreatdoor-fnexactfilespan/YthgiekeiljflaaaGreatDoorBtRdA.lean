/-
  What both packages answer to ReadTimes and ReadValues, at every count.
-/
import Derived.Test.YthgiekeiljflaaaGreatDoorRows
import Derived.Test.YthgiekeiljflaaaGreatDoorBtReadVS
import Derived.Test.YthgiekeiljflaaaGreatDoorBtReadVI
import Derived.Test.YthgiekeiljflaaaGreatDoorBtReadTS
import Derived.Test.YthgiekeiljflaaaGreatDoorBtReadTI
namespace Go.Proofs.YthgiekeiljflaaaGreatDoor
open Go.ChangeShapes Go.WideShapes Go.ChangeAt Go.RowKit Go.PlainAid
set_option linter.unusedVariables false

theorem specReadValuesA (s : ByteArray) (n : Int) (w : World) (hs : s.size ≤ 1048576) : Calls Tryz.prog 54 #[.string s, .int .i64 n] w fun e w' => (∃ l k u, RdAns showV rowV s n l k ∧ e = .returned (.tuple #[u, .int .i64 (k : Int)]) ∧ Nums w' w.heap.size u l) ∧ Below w.heap.size w w' := by
  by_cases h : n < 1 ∨ 60 < n
  · exact specReadValues_no s n w h
  · obtain ⟨m, rfl⟩ : ∃ m : Nat, n = (m : Int) := ⟨n.toNat, by omega⟩
    exact specReadValues s m w hs (by omega) (by omega)
theorem implReadValuesA (s : ByteArray) (n : Int) (w : World) (hs : s.size ≤ 1048576) : Calls Tryz.prog 64 #[.string s, .int .i64 n] w fun e w' => (∃ l k u, RdAns showV rowV s n l k ∧ e = .returned (.tuple #[u, .int .i64 (k : Int)]) ∧ Nums w' w.heap.size u l) ∧ Below w.heap.size w w' := by
  by_cases h : n < 1 ∨ 60 < n
  · exact implReadValues_no s n w h
  · obtain ⟨m, rfl⟩ : ∃ m : Nat, n = (m : Int) := ⟨n.toNat, by omega⟩
    exact implReadValues s m w hs (by omega) (by omega)

theorem specReadTimesA (s : ByteArray) (n : Int) (w : World) (hs : s.size ≤ 1048576) : Calls Tryz.prog 53 #[.string s, .int .i64 n] w fun e w' => (∃ l k u, RdAns showT rowT s n l k ∧ e = .returned (.tuple #[u, .int .i64 (k : Int)]) ∧ Nums w' w.heap.size u l) ∧ Below w.heap.size w w' := by
  by_cases h : n < 1 ∨ 60 < n
  · exact specReadTimes_no s n w h
  · obtain ⟨m, rfl⟩ : ∃ m : Nat, n = (m : Int) := ⟨n.toNat, by omega⟩
    exact specReadTimes s m w hs (by omega) (by omega)
theorem implReadTimesA (s : ByteArray) (n : Int) (w : World) (hs : s.size ≤ 1048576) : Calls Tryz.prog 63 #[.string s, .int .i64 n] w fun e w' => (∃ l k u, RdAns showT rowT s n l k ∧ e = .returned (.tuple #[u, .int .i64 (k : Int)]) ∧ Nums w' w.heap.size u l) ∧ Below w.heap.size w w' := by
  by_cases h : n < 1 ∨ 60 < n
  · exact implReadTimes_no s n w h
  · obtain ⟨m, rfl⟩ : ∃ m : Nat, n = (m : Int) := ⟨n.toNat, by omega⟩
    exact implReadTimes s m w hs (by omega) (by omega)

end Go.Proofs.YthgiekeiljflaaaGreatDoor
