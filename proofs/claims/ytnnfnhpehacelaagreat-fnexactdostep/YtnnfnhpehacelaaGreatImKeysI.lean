/-
  The library's contracts of maps.Keys and slices.Sorted at the table of inodes: the numbers, in order.
-/
import Derived.Test.YtnnfnhpehacelaaGreatRows
import Derived.Test.YtnnfnhpehacelaaGreatImLaidK
import Derived.Test.YtnnfnhpehacelaaGreatImMap
import Derived.Test.YtnnfnhpehacelaaGreatImSpare
import Derived.Test.YtnnfnhpehacelaaGreatDkOrd
import Derived.Test.YtnnfnhpehacelaaGreatDkRow
namespace Go.Proofs.YtnnfnhpehacelaaGreat
open Go.RowKit Go.Maps Go.Sort Go.Shelf

theorem sortsI (m : Nat) : AnyZI.SortsIn Tryz.prog Tryz.sortedI_ren Fence.wide m :=
  ⟨fun blk off cap ss W hH hblk hsz => callsIn_wide.2 (AnyM.slices_Sort_int Tryz.sortI blk off cap ss W hH hblk hsz),
   fun p cap W => callsIn_wide.2 (AnyM.slices_Sort_int_none Tryz.sortI p cap W)⟩
theorem keysIV (w : World) (b : Nat) : Calls Tryz.prog 84 #[.map (some b)] w fun e w' => e = .returned (.func (.func 98) #[] #[.pointer (some ⟨w.heap.size, 0, none⟩)]) ∧ w' = w.alloc (.cells #[.map (some b)] 104) :=
  (callsIn_wide (n := 5)).1 (AnyZI.keys_in Tryz.keysI Fence.wide 5 trivial rfl (some b) w)
theorem intKeys_ptr (l : List (Int × Nat)) : intKeys (ptrD l) = l.map (·.1) := by
  unfold ptrD intKeys
  simp only [List.map_map]
  rfl
theorem prs_fst {ns : List Nod} {gs : List Nat} (h : gs.length = ns.length) : (prs ns gs).map (·.1) = ns.map (·.id) := by
  unfold prs
  rw [show (fun p : Int × Nat => p.1) = Prod.fst from rfl, List.map_fst_zip]
  rw [List.length_map, h]
  exact Nat.le_refl _
theorem sortedI_keys {l : List Int} (h : l.Pairwise (· < ·)) {ss : List Int} (hp : ss.Perm l) : ss.mergeSort (fun x y => decide (x ≤ y)) = l := by
  have h1 : (ss.mergeSort (fun x y => decide (x ≤ y))).Pairwise (fun x y => decide (x ≤ y) = true) := List.pairwise_mergeSort (fun a b c => by simp only [decide_eq_true_eq]; omega) (fun a b => by simp only [Bool.or_eq_true, decide_eq_true_eq]; omega) ss
  refine List.Perm.eq_of_pairwise (le := fun x y => decide (x ≤ y) = true) (fun a b _ _ h1 h2 => by simp only [decide_eq_true_eq] at h1 h2; omega) h1 ?_ ((List.mergeSort_perm ss _).trans hp)
  exact h.imp fun {a b} hab => decide_eq_true (by omega)
/-- Numbers as rows of one cell. -/
def numR (l : List Int) : List (List Value) := l.map fun s => [.int .i64 s]
theorem numR_length (l : List Int) : (numR l).length = l.length := by simp [numR]
theorem numR_flat (l : List Int) : (numR l).flatten = l.map (Value.int .i64) := by
  unfold numR
  induction l with
  | nil => rfl
  | cons a r ih =>
    rw [List.map_cons, List.flatten_cons, ih]
    rfl
theorem num_look {w : World} {B : Nat} {v : Value} {l : List Int} (h : Lies w B 1 v (numR l)) : ∃ A cap, v = .slice A l.length cap ∧ ∀ j, j < l.length → ∃ g off, A = some ⟨g, off, none⟩ ∧ g < B ∧ w.cell? ⟨g, off + j, none⟩ = some (.int .i64 (l.getD j 0)) := by
  obtain ⟨A, cap, e, h⟩ := h.look
  refine ⟨A, cap, by rw [e, numR_length], fun j hj => ?_⟩
  obtain ⟨g, off, e, hg, hc⟩ := h j (by rw [numR_length]; exact hj)
  refine ⟨g, off, e, hg, ?_⟩
  have := hc 0 (.int .i64 (l.getD j 0)) (by omega) (by simp [numR, List.getD_eq_getElem?_getD, List.getElem?_eq_getElem hj])
  simpa using this

/-- slices.Sorted of the table's keys: its numbers, in order. -/
theorem sortedIV (w : World) (b : Nat) (ns : List Nod) (gs : List Nat) (h : IT w b (prs ns gs)) (hg : gs.length = ns.length) (hs : Rising ns) (hl : ns.length ≤ 1000) :
    Calls Tryz.prog 83 #[.func (.func 98) #[] #[.pointer (some ⟨w.heap.size, 0, none⟩)]] (w.alloc (.cells #[.map (some b)] 104)) fun e w' => ∃ v, e = .returned v ∧ Owns w' w.heap.size 3 1 v (numR (ns.map (·.id))) ∧ Below w.heap.size w w' := by
  obtain ⟨n, hown⟩ := h
  have hbl := hown.lt
  have hsz : Maps.size (ptrD (prs ns gs)) = ns.length := by rw [ptrD_size]; unfold prs; rw [List.length_zip, List.length_map]; omega
  have hseq : SeqGives Fence.wide 2 Tryz.prog 98 #[.pointer (some ⟨w.heap.size, 0, none⟩)] encZ (fun ss => ss.Perm (intKeys (ptrD (prs ns gs)))) (Maps.size (ptrD (prs ns gs))) (w.alloc (.cells #[.map (some b)] 104)) :=
    AnyZI.keys_gives (ρ := Tryz.keysI_ren) { Tryz.keysI with } Fence.wide _ trivial rfl (by omega) w.heap.size b n (ptrD (prs ns gs)) _ (by simp) (by simp) (by
      obtain ⟨es, clock, hb, Ft, hs, hD⟩ := hown
      exact ⟨es, clock, (Below.heap_alloc _ _ b hbl).trans hb, Ft, hs, hD⟩)
  have cS := AnyZI.sorted_in Tryz.sortedI Fence.wide 5 trivial trivial trivial trivial rfl (by omega) (sortsI _) (enters_of Tryz.func97 (by kernel_rfl) rfl) 98 #[.pointer (some ⟨w.heap.size, 0, none⟩)] trivial (enters_of Tryz.func98 (by kernel_rfl) rfl) _ _ (by rw [hsz]; unfold maxLen; omega) (by rw [hsz]; omega) _ hseq
  refine ((callsIn_wide (n := 5)).1 cS).mono ?_
  rintro e w' ⟨v, ss, rfl, hp, hrow, _, hb⟩
  rw [intKeys_ptr, prs_fst hg] at hp
  have hlen : ss.length = ns.length := by rw [hp.length_eq, List.length_map]
  rw [sortedI_keys (List.pairwise_map.2 hs) hp] at hrow
  refine ⟨v, rfl, ⟨fun r hr => ?_, ?_⟩, ((Below.refl _ w).alloc (Nat.le_refl _) _).trans (hb.mono (by simp))⟩
  · obtain ⟨x, _, rfl⟩ := List.mem_map.1 hr
    rfl
  · rw [numR_length, List.length_map, numR_flat, ← hlen]
    exact ⟨hrow.1, hrow.2.imp id fun ⟨g, cap, cur, e, hg, r⟩ => ⟨g, cap, cur, e, Nat.le_trans (by simp) hg, r⟩⟩
end Go.Proofs.YtnnfnhpehacelaaGreat
