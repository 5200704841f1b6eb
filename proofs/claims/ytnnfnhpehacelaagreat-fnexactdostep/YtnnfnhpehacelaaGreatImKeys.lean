/-
  The library's contracts of maps.Keys and slices.Sorted at the tables of names: the names, in order.
-/
import Derived.Test.YtnnfnhpehacelaaGreatRows
import Derived.Test.YtnnfnhpehacelaaGreatImLaidK
import Derived.Test.YtnnfnhpehacelaaGreatImMap
import Derived.Test.YtnnfnhpehacelaaGreatDkOrd
import Derived.Test.YtnnfnhpehacelaaGreatDkRow
namespace Go.Proofs.YtnnfnhpehacelaaGreat
open Go.RowKit Go.Maps Go.Sort Go.Shelf

theorem sortsN (m : Nat) : AnyZ.SortsIn Tryz.prog Tryz.sortedN_ren Fence.wide m :=
  ⟨fun blk off cap ss W hH hblk hsz => callsIn_wide.2 (AnyM.slices_Sort_string Tryz.sortN blk off cap ss W hH hblk hsz),
   fun p cap W => callsIn_wide.2 (AnyM.slices_Sort_string_none Tryz.sortN p cap W)⟩
theorem keysV (w : World) (b : Nat) : Calls Tryz.prog 95 #[.map (some b)] w fun e w' => e = .returned (.func (.func 102) #[] #[.pointer (some ⟨w.heap.size, 0, none⟩)]) ∧ w' = w.alloc (.cells #[.map (some b)] 106) :=
  (callsIn_wide (n := 5)).1 (AnyZ.keys_in Tryz.keysN Fence.wide 5 trivial rfl (some b) w)
theorem strKeys_link (l : List Lnk) : strKeys (linkD l) = l.map fun x => x.name.data.toList := by
  unfold linkD strKeys
  simp only [List.map_map]
  rfl
theorem sorted_keys {l : List Lnk} (h : Sorted l) {ss : List (List UInt8)} (hp : ss.Perm (strKeys (linkD l))) : ss.mergeSort (fun x y => decide (x ≤ y)) = l.map fun x => x.name.data.toList := by
  rw [show ss.mergeSort (fun x y => decide (x ≤ y)) = ss.mergeSort leB from rfl, mergeSort_of_perm hp, strKeys_link]
  refine List.mergeSort_of_pairwise ?_
  rw [List.pairwise_map]
  refine h.imp fun {x y} hxy => ?_
  unfold Go.Proofs.YtnnfnhpehacelaaGreat.ahead at hxy
  rw [bytesLess_eq, Lib.toList_data, Lib.toList_data, decide_eq_true_eq] at hxy
  exact decide_eq_true (List.le_of_lt hxy)
/-- Texts as rows of one cell. -/
def strR (l : List ByteArray) : List (List Value) := l.map fun s => [.string s]
theorem strR_length (l : List ByteArray) : (strR l).length = l.length := by simp [strR]
theorem strR_flat (l : List ByteArray) : (strR l).flatten = l.map Value.string := by
  unfold strR
  induction l with
  | nil => rfl
  | cons a r ih =>
    rw [List.map_cons, List.flatten_cons, ih]
    rfl
theorem str_look {w : World} {B : Nat} {v : Value} {l : List ByteArray} (h : Lies w B 1 v (strR l)) : ∃ A cap, v = .slice A l.length cap ∧ ∀ j, j < l.length → ∃ g off, A = some ⟨g, off, none⟩ ∧ g < B ∧ w.cell? ⟨g, off + j, none⟩ = some (.string (l.getD j ⟨#[]⟩)) := by
  obtain ⟨A, cap, e, h⟩ := h.look
  refine ⟨A, cap, by rw [e, strR_length], fun j hj => ?_⟩
  obtain ⟨g, off, e, hg, hc⟩ := h j (by rw [strR_length]; exact hj)
  refine ⟨g, off, e, hg, ?_⟩
  have := hc 0 (.string (l.getD j ⟨#[]⟩)) (by omega) (by simp [strR, List.getD_eq_getElem?_getD, List.getElem?_eq_getElem hj])
  simpa using this

/-- slices.Sorted of a table's keys: its names, in order. -/
theorem sortedV (w : World) (b : Nat) (l : List Lnk) (h : NT w b l) (hs : Sorted l) (hl : l.length ≤ 1000) :
    Calls Tryz.prog 94 #[.func (.func 102) #[] #[.pointer (some ⟨w.heap.size, 0, none⟩)]] (w.alloc (.cells #[.map (some b)] 106)) fun e w' => ∃ v, e = .returned v ∧ Owns w' w.heap.size 9 1 v (strR (l.map (·.name))) ∧ Below w.heap.size w w' := by
  obtain ⟨n, hown⟩ := h
  have hbl := hown.lt
  have hseq : SeqGives Fence.wide 2 Tryz.prog 102 #[.pointer (some ⟨w.heap.size, 0, none⟩)] encStr (fun ss => ss.Perm (strKeys (linkD l))) (Maps.size (linkD l)) (w.alloc (.cells #[.map (some b)] 106)) :=
    AnyZ.keys_gives (ρ := Tryz.keysN_ren) { Tryz.keysN with } Fence.wide _ trivial rfl (by omega) w.heap.size b n (linkD l) _ (by simp) (by simp) (by
      obtain ⟨es, clock, hb, Ft, hs, hD⟩ := hown
      exact ⟨es, clock, (Below.heap_alloc _ _ b hbl).trans hb, Ft, hs, hD⟩)
  have cS := AnyZ.sorted_in Tryz.sortedN Fence.wide 5 trivial trivial trivial trivial rfl (by omega) (sortsN _) (enters_of Tryz.func101 (by kernel_rfl) rfl) 102 #[.pointer (some ⟨w.heap.size, 0, none⟩)] trivial (enters_of Tryz.func102 (by kernel_rfl) rfl) _ _ (by rw [linkD_size]; unfold maxLen; omega) (by rw [linkD_size]; omega) _ hseq
  refine ((callsIn_wide (n := 5)).1 cS).mono ?_
  rintro e w' ⟨v, ss, rfl, hp, hrow, _, hb⟩
  have hlen : ss.length = l.length := by rw [hp.length_eq, strKeys_link, List.length_map]
  rw [sorted_keys hs hp] at hrow
  refine ⟨v, rfl, ⟨fun r hr => ?_, ?_⟩, ((Below.refl _ w).alloc (Nat.le_refl _) _).trans (hb.mono (by simp))⟩
  · obtain ⟨x, _, rfl⟩ := List.mem_map.1 hr
    rfl
  · rw [strR_length, List.length_map, strR_flat, ← hlen]
    have e1 : (l.map (·.name)).map Value.string = (l.map fun x => x.name.data.toList).map encStr := by
      rw [List.map_map, List.map_map]
      refine List.map_congr_left fun x _ => ?_
      simp [encStr]
    rw [e1]
    exact ⟨hrow.1, hrow.2.imp id fun ⟨g, cap, cur, e, hg, r⟩ => ⟨g, cap, cur, e, Nat.le_trans (by simp) hg, r⟩⟩
end Go.Proofs.YtnnfnhpehacelaaGreat
