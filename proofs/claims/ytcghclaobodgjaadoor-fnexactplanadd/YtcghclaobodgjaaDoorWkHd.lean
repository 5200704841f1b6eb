/-
  Contracts of the laws' own look at marks that are held: heldEntryS, markWal, heldWal.
-/
import Derived.Test.YtcghclaobodgjaaDoorRows
import Derived.Test.YtcghclaobodgjaaDoorWkMk
namespace Go.Proofs.YtcghclaobodgjaaDoor
open Go.ChangeShapes Go.WideShapes Go.ChangeAt Go.RowKit Go.PlainAid
set_option linter.unusedVariables false

theorem newR_szEnt (k n : Nat) : ∀ r ∈ newR (mkEnt k) n, r.length = 2 := by
  intro r hr
  obtain ⟨j, _, rfl⟩ := List.mem_map.1 hr
  rfl
theorem mkEnt_look {w : World} {B k n : Nat} {v : Value} (h : Lies w B 2 v (newR (mkEnt k) n)) : ∃ A cap, v = .slice A n cap ∧ ∀ j, j < n → ∃ g off, A = some ⟨g, off, none⟩ ∧ g < B ∧ w.cell? ⟨g, off + j * 2, none⟩ = some (.int .i64 (((k + 2 * j : Nat) : Int))) ∧ w.cell? ⟨g, off + j * 2 + 1, none⟩ = some (.string (mark (k + 2 * j + 1))) := by
  obtain ⟨A, cap, e, h⟩ := h.look
  rw [newR_length] at e
  refine ⟨A, cap, e, fun j hj => ?_⟩
  obtain ⟨g, off, e, hg, hc⟩ := h j (by rw [newR_length]; exact hj)
  have hr : (newR (mkEnt k) n)[j]'(by rw [newR_length]; exact hj) = mkEnt k j := by simp [newR]
  rw [hr] at hc
  refine ⟨g, off, e, hg, ?_, ?_⟩
  · have := hc 0 _ (by omega) rfl; simpa [Nat.add_assoc] using this
  · have := hc 1 _ (by omega) rfl; simpa [Nat.add_assoc] using this

set_option maxHeartbeats 1000000 in
theorem markWal (k base : Nat) (a b c t : Int) (u : Value) (R : List (List Value)) (w : World) (hv : Owns w base 66 2 u R) (hl : R.length ≤ 1048576) (h1 : 1 ≤ k) (h2 : k ≤ 10000000) (hbase : base ≤ w.heap.size) :
    Calls Tryd.prog 10 #[.agg #[.int .i64 a, .int .i64 b, .int .i64 c, .int .i64 t, u], .int .i64 (k : Int)] w fun e w' => e = .returned (.int .i64 ((k + 2 * R.length : Nat) : Int)) ∧ Owns w' base 66 2 u (newR (mkEnt k) R.length) ∧ Below base w w' ∧ (∀ g, g < w.heap.size → u.ownBlock ≠ some g → w'.heap[g]? = w.heap[g]?) := by
  have HV : Hid (Owns w base 66 2 u R) := hv
  have HB : Hid (base ≤ w.heap.size) := hbase
  have HL : Hid (R.length ≤ 1048576) := hl
  clear hv hbase hl
  go_enter Tryd.func10, Tryd.ntmps10
  go_wp2_with fail
  have hb0 : Below w.heap.size w (w.alloc (.cells #[.int .i64 a, .int .i64 b, .int .i64 c, .int .i64 t, u] 30)) := (Below.refl _ _).alloc (Nat.le_refl _) _
  generalize w.alloc (.cells #[.int .i64 a, .int .i64 b, .int .i64 c, .int .i64 t, u] 30) = W at *
  have B0 : Hid (Below w.heap.size w W) := hb0
  clear hb0
  refine (markEntryS k base u R W (HV.out.on B0.out) HL.out h1 h2 (Nat.le_trans HB.out B0.out.size)).mono ?_
  rintro e w2 ⟨rfl, hO, hB, hK⟩
  have O2 : Hid (Owns w2 base 66 2 u (newR (mkEnt k) R.length)) := hO
  have B2 : Hid (Below base W w2) := hB
  have K2 : Hid (∀ g, g < W.heap.size → u.ownBlock ≠ some g → w2.heap[g]? = W.heap[g]?) := hK
  clear hO hB hK
  go_wp2_with fail
  go_ret
  exact ⟨rfl, O2.out, (B0.out.mono HB.out).trans B2.out, fun g hg hne => (K2.out g (Nat.lt_of_lt_of_le hg B0.out.size) hne).trans (B0.out.block g hg)⟩

end Go.Proofs.YtcghclaobodgjaaDoor
