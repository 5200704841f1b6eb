/-
  The law FnExactNewState answers true at every int (no condition).
-/
import Derived.Test.YtfloihegggkonaaRows
import Derived.Test.YtfloihegggkonaaNsAid
namespace Go.Proofs.Ytfloihegggkonaa
open Go.ChangeShapes Go.WideShapes Go.ChangeAt Go.RowKit Go.PlainAid
set_option linter.unusedVariables false

/-- Block g holds the zero state of kind j. -/
def CellZ (w : World) (g : Nat) (j : Int) : Prop := (∀ i x, (zeroS j)[i]? = some x → w.cell? ⟨g, i, none⟩ = some x) ∧ g < w.heap.size
theorem CellZ.on {w w' : World} {g : Nat} {j : Int} (h : CellZ w g j) (hb : Below w.heap.size w w') : CellZ w' g j :=
  ⟨fun i x hx => by rw [hb.cell (p := ⟨_, _, none⟩) h.2]; exact h.1 i x hx, Nat.lt_of_lt_of_le h.2 hb.size⟩
theorem CellZ.new (w : World) (j : Int) : CellZ (w.alloc (.cells #[.int .i64 j, .int .i64 0, .int .i64 0, .slice none 0 0, .int .i64 0, .slice none 0 0, .slice none 0 0, .slice none 0 0] 36)) w.heap.size j := by
  have h : (w.alloc (.cells #[.int .i64 j, .int .i64 0, .int .i64 0, .slice none 0 0, .int .i64 0, .slice none 0 0, .slice none 0 0, .slice none 0 0] 36)).heap[w.heap.size]? = some (.cells (zeroS j) 36 (0, 0)) := heap_alloc_new w _
  exact ⟨fun i x hx => by rw [cell_of_row _ _ i _ _ (0, 0) h]; exact hx, by simp⟩
set_option maxHeartbeats 4000000 in
theorem law_fnExactNewState (k : Int) (w : World) (h0 : -9223372036854775808 ≤ k) (h1 : k ≤ 9223372036854775807) :
    Calls Try.prog 4 #[.int .i64 k] w fun e w' => e = .returned (.bool true) ∧ Below w.heap.size w w' := by
  obtain ⟨j, b, hv⟩ : ∃ j b, (if k = 1 ∨ k = 2 then Value.tuple #[.agg (zeroS k), .bool true] else .tuple #[.agg (zeroS 0), .bool false]) = .tuple #[.agg (zeroS j), .bool b] := by
    split
    · exact ⟨_, _, rfl⟩
    · exact ⟨_, _, rfl⟩
  have c1 := specNewState k
  have c2 := implNewState k
  rw [hv] at c1 c2
  clear hv h0 h1
  have cE := nil_eqState j
  have cM := nil_markState j
  have cH := nil_heldState j
  unfold zeroS at c1 c2 cE cM cH
  go_enter Try.func4, Try.ntmps4
  go_wp2_with fail

  refine (c1 _).mono ?_
  rintro e w1 ⟨rfl, hb1⟩
  have B1 : Hid (Below w.heap.size w w1) := hb1
  clear hb1
  obtain ⟨X1, hX1⟩ : ∃ X, X = w1.alloc (.cells #[.int .i64 j, .int .i64 0, .int .i64 0, .slice none 0 0, .int .i64 0, .slice none 0 0, .slice none 0 0, .slice none 0 0] 36) := ⟨_, rfl⟩
  obtain ⟨ga, hg1⟩ : ∃ g, g = w1.heap.size := ⟨_, rfl⟩
  have C1 : Hid (Below w.heap.size w X1) := by rw [hX1]; exact B1.out.alloc B1.out.size _
  have Kgay1 : Hid (CellZ X1 ga j) := by rw [hX1, hg1]; exact CellZ.new _ _
  have gae0 := Kgay1.out.1 0 _ rfl
  have gae1 := Kgay1.out.1 1 _ rfl
  have gae2 := Kgay1.out.1 2 _ rfl
  have gae3 := Kgay1.out.1 3 _ rfl
  have gae4 := Kgay1.out.1 4 _ rfl
  have gae5 := Kgay1.out.1 5 _ rfl
  have gae6 := Kgay1.out.1 6 _ rfl
  have gae7 := Kgay1.out.1 7 _ rfl
  clear gae0 gae1 gae2 gae3 gae4 gae5 gae6 gae7
  go_wp2_with fail
  have gae0 := Kgay1.out.1 0 _ rfl
  have gae1 := Kgay1.out.1 1 _ rfl
  have gae2 := Kgay1.out.1 2 _ rfl
  have gae3 := Kgay1.out.1 3 _ rfl
  have gae4 := Kgay1.out.1 4 _ rfl
  have gae5 := Kgay1.out.1 5 _ rfl
  have gae6 := Kgay1.out.1 6 _ rfl
  have gae7 := Kgay1.out.1 7 _ rfl
  rw [← hX1, ← hg1]
  clear hX1 hg1
  clear gae0 gae1 gae2 gae3 gae4 gae5 gae6 gae7
  refine (c2 _).mono ?_
  rintro e w2 ⟨rfl, hb2⟩
  have B2 : Hid (Below w.heap.size w w2) := C1.out.trans (hb2.mono C1.out.size)
  have Kgax2 : Hid (CellZ w2 ga j) := Kgay1.out.on hb2
  clear hb2
  obtain ⟨X2, hX2⟩ : ∃ X, X = w2.alloc (.cells #[.int .i64 j, .int .i64 0, .int .i64 0, .slice none 0 0, .int .i64 0, .slice none 0 0, .slice none 0 0, .slice none 0 0] 36) := ⟨_, rfl⟩
  obtain ⟨gb, hg2⟩ : ∃ g, g = w2.heap.size := ⟨_, rfl⟩
  have C2 : Hid (Below w.heap.size w X2) := by rw [hX2]; exact B2.out.alloc B2.out.size _
  have Kgay2 : Hid (CellZ X2 ga j) := by rw [hX2]; exact Kgax2.out.on ((Below.refl _ _).alloc (Nat.le_refl _) _)
  have Kgby2 : Hid (CellZ X2 gb j) := by rw [hX2, hg2]; exact CellZ.new _ _
  have gae0 := Kgay2.out.1 0 _ rfl
  have gae1 := Kgay2.out.1 1 _ rfl
  have gae2 := Kgay2.out.1 2 _ rfl
  have gae3 := Kgay2.out.1 3 _ rfl
  have gae4 := Kgay2.out.1 4 _ rfl
  have gae5 := Kgay2.out.1 5 _ rfl
  have gae6 := Kgay2.out.1 6 _ rfl
  have gae7 := Kgay2.out.1 7 _ rfl
  have gbe0 := Kgby2.out.1 0 _ rfl
  have gbe1 := Kgby2.out.1 1 _ rfl
  have gbe2 := Kgby2.out.1 2 _ rfl
  have gbe3 := Kgby2.out.1 3 _ rfl
  have gbe4 := Kgby2.out.1 4 _ rfl
  have gbe5 := Kgby2.out.1 5 _ rfl
  have gbe6 := Kgby2.out.1 6 _ rfl
  have gbe7 := Kgby2.out.1 7 _ rfl
  rw [hX2] at gae0 gae1 gae2 gae3 gae4 gae5 gae6 gae7
  clear gbe0 gbe1 gbe2 gbe3 gbe4 gbe5 gbe6 gbe7
  go_wp2_with fail
  have gbe0 := Kgby2.out.1 0 _ rfl
  have gbe1 := Kgby2.out.1 1 _ rfl
  have gbe2 := Kgby2.out.1 2 _ rfl
  have gbe3 := Kgby2.out.1 3 _ rfl
  have gbe4 := Kgby2.out.1 4 _ rfl
  have gbe5 := Kgby2.out.1 5 _ rfl
  have gbe6 := Kgby2.out.1 6 _ rfl
  have gbe7 := Kgby2.out.1 7 _ rfl
  try rw [← hX2, ← hg2]
  clear hX2 hg2
  clear gae0 gae1 gae2 gae3 gae4 gae5 gae6 gae7 gbe0 gbe1 gbe2 gbe3 gbe4 gbe5 gbe6 gbe7
  refine (cE _).mono ?_
  rintro e w3 ⟨rfl, hb3⟩
  have B3 : Hid (Below w.heap.size w w3) := C2.out.trans (hb3.mono C2.out.size)
  have Kgax3 : Hid (CellZ w3 ga j) := Kgay2.out.on hb3
  have Kgbx3 : Hid (CellZ w3 gb j) := Kgby2.out.on hb3
  clear hb3
  have gae0 := Kgax3.out.1 0 _ rfl
  have gae1 := Kgax3.out.1 1 _ rfl
  have gae2 := Kgax3.out.1 2 _ rfl
  have gae3 := Kgax3.out.1 3 _ rfl
  have gae4 := Kgax3.out.1 4 _ rfl
  have gae5 := Kgax3.out.1 5 _ rfl
  have gae6 := Kgax3.out.1 6 _ rfl
  have gae7 := Kgax3.out.1 7 _ rfl
  have gbe0 := Kgbx3.out.1 0 _ rfl
  have gbe1 := Kgbx3.out.1 1 _ rfl
  have gbe2 := Kgbx3.out.1 2 _ rfl
  have gbe3 := Kgbx3.out.1 3 _ rfl
  have gbe4 := Kgbx3.out.1 4 _ rfl
  have gbe5 := Kgbx3.out.1 5 _ rfl
  have gbe6 := Kgbx3.out.1 6 _ rfl
  have gbe7 := Kgbx3.out.1 7 _ rfl
  go_wp2_with fail
  clear gae0 gae1 gae2 gae3 gae4 gae5 gae6 gae7 gbe0 gbe1 gbe2 gbe3 gbe4 gbe5 gbe6 gbe7
  refine (cM _).mono ?_
  rintro e w4 ⟨rfl, hb4⟩
  have B4 : Hid (Below w.heap.size w w4) := B3.out.trans (hb4.mono B3.out.size)
  have Kgax4 : Hid (CellZ w4 ga j) := Kgax3.out.on hb4
  have Kgbx4 : Hid (CellZ w4 gb j) := Kgbx3.out.on hb4
  clear hb4
  have gae0 := Kgax4.out.1 0 _ rfl
  have gae1 := Kgax4.out.1 1 _ rfl
  have gae2 := Kgax4.out.1 2 _ rfl
  have gae3 := Kgax4.out.1 3 _ rfl
  have gae4 := Kgax4.out.1 4 _ rfl
  have gae5 := Kgax4.out.1 5 _ rfl
  have gae6 := Kgax4.out.1 6 _ rfl
  have gae7 := Kgax4.out.1 7 _ rfl
  have gbe0 := Kgbx4.out.1 0 _ rfl
  have gbe1 := Kgbx4.out.1 1 _ rfl
  have gbe2 := Kgbx4.out.1 2 _ rfl
  have gbe3 := Kgbx4.out.1 3 _ rfl
  have gbe4 := Kgbx4.out.1 4 _ rfl
  have gbe5 := Kgbx4.out.1 5 _ rfl
  have gbe6 := Kgbx4.out.1 6 _ rfl
  have gbe7 := Kgbx4.out.1 7 _ rfl
  go_wp2_with fail
  clear gae0 gae1 gae2 gae3 gae4 gae5 gae6 gae7 gbe0 gbe1 gbe2 gbe3 gbe4 gbe5 gbe6 gbe7
  refine (cH _).mono ?_
  rintro e w5 ⟨rfl, hb5⟩
  have B5 : Hid (Below w.heap.size w w5) := B4.out.trans (hb5.mono B4.out.size)
  have Kgax5 : Hid (CellZ w5 ga j) := Kgax4.out.on hb5
  have Kgbx5 : Hid (CellZ w5 gb j) := Kgbx4.out.on hb5
  clear hb5
  have gae0 := Kgax5.out.1 0 _ rfl
  have gae1 := Kgax5.out.1 1 _ rfl
  have gae2 := Kgax5.out.1 2 _ rfl
  have gae3 := Kgax5.out.1 3 _ rfl
  have gae4 := Kgax5.out.1 4 _ rfl
  have gae5 := Kgax5.out.1 5 _ rfl
  have gae6 := Kgax5.out.1 6 _ rfl
  have gae7 := Kgax5.out.1 7 _ rfl
  have gbe0 := Kgbx5.out.1 0 _ rfl
  have gbe1 := Kgbx5.out.1 1 _ rfl
  have gbe2 := Kgbx5.out.1 2 _ rfl
  have gbe3 := Kgbx5.out.1 3 _ rfl
  have gbe4 := Kgbx5.out.1 4 _ rfl
  have gbe5 := Kgbx5.out.1 5 _ rfl
  have gbe6 := Kgbx5.out.1 6 _ rfl
  have gbe7 := Kgbx5.out.1 7 _ rfl
  go_wp2_with fail
  clear gae0 gae1 gae2 gae3 gae4 gae5 gae6 gae7 gbe0 gbe1 gbe2 gbe3 gbe4 gbe5 gbe6 gbe7
  refine (c2 _).mono ?_
  rintro e w6 ⟨rfl, hb6⟩
  have B6 : Hid (Below w.heap.size w w6) := B5.out.trans (hb6.mono B5.out.size)
  have Kgax6 : Hid (CellZ w6 ga j) := Kgax5.out.on hb6
  have Kgbx6 : Hid (CellZ w6 gb j) := Kgbx5.out.on hb6
  clear hb6
  obtain ⟨X6, hX6⟩ : ∃ X, X = w6.alloc (.cells #[.int .i64 j, .int .i64 0, .int .i64 0, .slice none 0 0, .int .i64 0, .slice none 0 0, .slice none 0 0, .slice none 0 0] 36) := ⟨_, rfl⟩
  obtain ⟨gc, hg6⟩ : ∃ g, g = w6.heap.size := ⟨_, rfl⟩
  have C6 : Hid (Below w.heap.size w X6) := by rw [hX6]; exact B6.out.alloc B6.out.size _
  have Kgay6 : Hid (CellZ X6 ga j) := by rw [hX6]; exact Kgax6.out.on ((Below.refl _ _).alloc (Nat.le_refl _) _)
  have Kgby6 : Hid (CellZ X6 gb j) := by rw [hX6]; exact Kgbx6.out.on ((Below.refl _ _).alloc (Nat.le_refl _) _)
  have Kgcy6 : Hid (CellZ X6 gc j) := by rw [hX6, hg6]; exact CellZ.new _ _
  have gae0 := Kgay6.out.1 0 _ rfl
  have gae1 := Kgay6.out.1 1 _ rfl
  have gae2 := Kgay6.out.1 2 _ rfl
  have gae3 := Kgay6.out.1 3 _ rfl
  have gae4 := Kgay6.out.1 4 _ rfl
  have gae5 := Kgay6.out.1 5 _ rfl
  have gae6 := Kgay6.out.1 6 _ rfl
  have gae7 := Kgay6.out.1 7 _ rfl
  have gbe0 := Kgby6.out.1 0 _ rfl
  have gbe1 := Kgby6.out.1 1 _ rfl
  have gbe2 := Kgby6.out.1 2 _ rfl
  have gbe3 := Kgby6.out.1 3 _ rfl
  have gbe4 := Kgby6.out.1 4 _ rfl
  have gbe5 := Kgby6.out.1 5 _ rfl
  have gbe6 := Kgby6.out.1 6 _ rfl
  have gbe7 := Kgby6.out.1 7 _ rfl
  have gce0 := Kgcy6.out.1 0 _ rfl
  have gce1 := Kgcy6.out.1 1 _ rfl
  have gce2 := Kgcy6.out.1 2 _ rfl
  have gce3 := Kgcy6.out.1 3 _ rfl
  have gce4 := Kgcy6.out.1 4 _ rfl
  have gce5 := Kgcy6.out.1 5 _ rfl
  have gce6 := Kgcy6.out.1 6 _ rfl
  have gce7 := Kgcy6.out.1 7 _ rfl
  rw [hX6] at gae0 gae1 gae2 gae3 gae4 gae5 gae6 gae7 gbe0 gbe1 gbe2 gbe3 gbe4 gbe5 gbe6 gbe7
  clear gce0 gce1 gce2 gce3 gce4 gce5 gce6 gce7
  go_wp2_with fail
  have gce0 := Kgcy6.out.1 0 _ rfl
  have gce1 := Kgcy6.out.1 1 _ rfl
  have gce2 := Kgcy6.out.1 2 _ rfl
  have gce3 := Kgcy6.out.1 3 _ rfl
  have gce4 := Kgcy6.out.1 4 _ rfl
  have gce5 := Kgcy6.out.1 5 _ rfl
  have gce6 := Kgcy6.out.1 6 _ rfl
  have gce7 := Kgcy6.out.1 7 _ rfl
  try rw [← hX6, ← hg6]
  clear hX6 hg6
  clear gae0 gae1 gae2 gae3 gae4 gae5 gae6 gae7 gbe0 gbe1 gbe2 gbe3 gbe4 gbe5 gbe6 gbe7 gce0 gce1 gce2 gce3 gce4 gce5 gce6 gce7
  refine (cE _).mono ?_
  rintro e w7 ⟨rfl, hb7⟩
  have B7 : Hid (Below w.heap.size w w7) := C6.out.trans (hb7.mono C6.out.size)
  have Kgax7 : Hid (CellZ w7 ga j) := Kgay6.out.on hb7
  have Kgbx7 : Hid (CellZ w7 gb j) := Kgby6.out.on hb7
  have Kgcx7 : Hid (CellZ w7 gc j) := Kgcy6.out.on hb7
  clear hb7
  have gae0 := Kgax7.out.1 0 _ rfl
  have gae1 := Kgax7.out.1 1 _ rfl
  have gae2 := Kgax7.out.1 2 _ rfl
  have gae3 := Kgax7.out.1 3 _ rfl
  have gae4 := Kgax7.out.1 4 _ rfl
  have gae5 := Kgax7.out.1 5 _ rfl
  have gae6 := Kgax7.out.1 6 _ rfl
  have gae7 := Kgax7.out.1 7 _ rfl
  have gbe0 := Kgbx7.out.1 0 _ rfl
  have gbe1 := Kgbx7.out.1 1 _ rfl
  have gbe2 := Kgbx7.out.1 2 _ rfl
  have gbe3 := Kgbx7.out.1 3 _ rfl
  have gbe4 := Kgbx7.out.1 4 _ rfl
  have gbe5 := Kgbx7.out.1 5 _ rfl
  have gbe6 := Kgbx7.out.1 6 _ rfl
  have gbe7 := Kgbx7.out.1 7 _ rfl
  have gce0 := Kgcx7.out.1 0 _ rfl
  have gce1 := Kgcx7.out.1 1 _ rfl
  have gce2 := Kgcx7.out.1 2 _ rfl
  have gce3 := Kgcx7.out.1 3 _ rfl
  have gce4 := Kgcx7.out.1 4 _ rfl
  have gce5 := Kgcx7.out.1 5 _ rfl
  have gce6 := Kgcx7.out.1 6 _ rfl
  have gce7 := Kgcx7.out.1 7 _ rfl
  go_wp2_with fail
  clear gae0 gae1 gae2 gae3 gae4 gae5 gae6 gae7 gbe0 gbe1 gbe2 gbe3 gbe4 gbe5 gbe6 gbe7 gce0 gce1 gce2 gce3 gce4 gce5 gce6 gce7
  refine (cH _).mono ?_
  rintro e w8 ⟨rfl, hb8⟩
  have B8 : Hid (Below w.heap.size w w8) := B7.out.trans (hb8.mono B7.out.size)
  have Kgax8 : Hid (CellZ w8 ga j) := Kgax7.out.on hb8
  have Kgbx8 : Hid (CellZ w8 gb j) := Kgbx7.out.on hb8
  have Kgcx8 : Hid (CellZ w8 gc j) := Kgcx7.out.on hb8
  clear hb8
  have gae0 := Kgax8.out.1 0 _ rfl
  have gae1 := Kgax8.out.1 1 _ rfl
  have gae2 := Kgax8.out.1 2 _ rfl
  have gae3 := Kgax8.out.1 3 _ rfl
  have gae4 := Kgax8.out.1 4 _ rfl
  have gae5 := Kgax8.out.1 5 _ rfl
  have gae6 := Kgax8.out.1 6 _ rfl
  have gae7 := Kgax8.out.1 7 _ rfl
  have gbe0 := Kgbx8.out.1 0 _ rfl
  have gbe1 := Kgbx8.out.1 1 _ rfl
  have gbe2 := Kgbx8.out.1 2 _ rfl
  have gbe3 := Kgbx8.out.1 3 _ rfl
  have gbe4 := Kgbx8.out.1 4 _ rfl
  have gbe5 := Kgbx8.out.1 5 _ rfl
  have gbe6 := Kgbx8.out.1 6 _ rfl
  have gbe7 := Kgbx8.out.1 7 _ rfl
  have gce0 := Kgcx8.out.1 0 _ rfl
  have gce1 := Kgcx8.out.1 1 _ rfl
  have gce2 := Kgcx8.out.1 2 _ rfl
  have gce3 := Kgcx8.out.1 3 _ rfl
  have gce4 := Kgcx8.out.1 4 _ rfl
  have gce5 := Kgcx8.out.1 5 _ rfl
  have gce6 := Kgcx8.out.1 6 _ rfl
  have gce7 := Kgcx8.out.1 7 _ rfl
  go_wp2_with fail
  go_ret
  exact ⟨rfl, B8.out⟩
end Go.Proofs.Ytfloihegggkonaa
