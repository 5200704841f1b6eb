/-
  The library's contract of maps.Clone at the two tables.
-/
import Derived.Test.YtnnfnhpehacelaaGreatRows
import Derived.Test.YtnnfnhpehacelaaGreatImLaid
import Derived.Test.YtnnfnhpehacelaaGreatImMap
namespace Go.Proofs.YtnnfnhpehacelaaGreat
open Go.RowKit Go.Maps

theorem cloneNV (w : World) (b : Nat) (l : List Lnk) (h : NT w b l) :
    Calls Tryz.prog 92 #[.map (some b)] w fun e w' => e = .returned (.map (some w.heap.size)) ∧ NT w' w.heap.size l ∧ Below w.heap.size w w' := by
  obtain ⟨n, h⟩ := h
  refine (AnyW.maps_Clone_owns Tryz.cloneN 9 intElem b n (linkD l) w h).mono ?_
  rintro e w' ⟨rfl, h1, _, hb⟩
  exact ⟨rfl, ⟨n, h1⟩, hb⟩
theorem cloneIV (w : World) (b : Nat) (l : List (Int × Nat)) (h : IT w b l) :
    Calls Tryz.prog 79 #[.map (some b)] w fun e w' => e = .returned (.map (some w.heap.size)) ∧ IT w' w.heap.size l ∧ Below w.heap.size w w' := by
  obtain ⟨n, h⟩ := h
  refine (AnyW.maps_Clone_owns Tryz.cloneI 3 ptrElem b n (ptrD l) w h).mono ?_
  rintro e w' ⟨rfl, h1, _, hb⟩
  exact ⟨rfl, ⟨n, h1⟩, hb⟩
end Go.Proofs.YtnnfnhpehacelaaGreat
