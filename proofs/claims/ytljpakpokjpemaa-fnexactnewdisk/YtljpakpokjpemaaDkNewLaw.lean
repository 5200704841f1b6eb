/-
  The walk of laws.FnExactNewDisk.
-/
import Derived.Test.YtljpakpokjpemaaRows
import Derived.Test.YtljpakpokjpemaaDkNew
namespace Go.Proofs.Ytljpakpokjpemaa
open Go.ChangeShapes Go.WideShapes Go.ChangeAt Go.RowKit Go.PlainAid
set_option linter.unusedVariables false

theorem Lies.nil (w : World) (B sz : Nat) : Lies w B sz (.slice none 0 0) [] := ⟨none, 0, rfl, ⟨fun _ => rfl, Nat.le_refl _⟩, fun r hr => (by cases hr), .inl rfl⟩
theorem Owns.nil (w : World) (base e sz : Nat) : Owns w base e sz (.slice none 0 0) [] := ⟨fun r hr => (by cases hr), World.ownsRow_nil w base e sz⟩
theorem bare_disk (w : World) (B : Nat) (room next : Int) : DiskV w B (bare room next) ⟨room, next, [], [], []⟩ := ⟨_, _, _, rfl, Lies.nil w B 3, Lies.nil w B 2, Lies.nil w B 4⟩
theorem eq_bare (room next : Int) (w : World) : Calls Try.prog 9 #[bare room next, bare room next] w fun e w' => e = .returned (.bool true) ∧ Below w.heap.size w w' :=
  eqDisk ⟨room, next, [], [], []⟩ _ _ w w.heap.size (bare_disk w _ room next) (bare_disk w _ room next) (by simp [wtD, wtN, wtL, wtM]) (Nat.le_refl _)
theorem mark_bare (room next : Int) (w : World) : Calls Try.prog 10 #[bare room next, .int .i64 1] w fun e w' => e = .returned (.int .i64 1) ∧ Below w.heap.size w w' := by
  refine (markDisk 1 w.heap.size w.heap.size room next _ _ _ [] [] [] w ⟨Owns.nil w _ _ 3, Owns.nil w _ _ 2, Owns.nil w _ _ 4, fun g h => (by cases h), fun g h => (by cases h), fun g h => (by cases h)⟩ (by simp) (by simp) (by simp) (Nat.le_refl _) (by omega) (Nat.le_refl _)).mono ?_
  rintro e w' ⟨rfl, _, hb, _⟩
  exact ⟨rfl, hb⟩
theorem held_bare (room next : Int) (w : World) : Calls Try.prog 11 #[bare room next, .int .i64 1] w fun e w' => e = .returned (.int .i64 1) ∧ Below w.heap.size w w' :=
  heldDisk 1 0 0 0 room next _ _ _ w w.heap.size (Lies.nil w _ 3) (Lies.nil w _ 2) (Lies.nil w _ 4) (by omega) (by omega) (by omega) (by omega) (by omega) (Nat.le_refl _)

set_option maxRecDepth 20000 in
set_option maxHeartbeats 2000000 in
theorem law_fnExactNewDisk (room : Int) (w : World) : Calls Try.prog 3 #[.int .i64 room] w fun e w' => e = .returned (.bool true) ∧ Below w.heap.size w w' := by
  obtain ⟨r, x, ok, cs, ci⟩ : ∃ (r x : Int) (ok : Bool), (∀ wx, Calls Try.prog 7 #[.int .i64 room] wx fun e w' => e = .returned (.tuple #[bare r x, .bool ok]) ∧ Below wx.heap.size wx w') ∧ (∀ wx, Calls Try.prog 8 #[.int .i64 room] wx fun e w' => e = .returned (.tuple #[bare r x, .bool ok]) ∧ Below wx.heap.size wx w') := by
    by_cases h : 0 ≤ room ∧ room ≤ 1048576
    · exact ⟨room, 1, true, fun wx => spec_new_yes room wx h.1 h.2, fun wx => impl_new_yes room wx h.1 h.2⟩
    · exact ⟨0, 0, false, fun wx => spec_new_no room wx h, fun wx => impl_new_no room wx h⟩
  have ce := fun wx => eq_bare r x wx
  have cm := fun wx => mark_bare r x wx
  have ch := fun wx => held_bare r x wx
  unfold bare at cs ci ce cm ch
  have n1 : (ok != ok) = false := by cases ok <;> rfl
  go_enter Try.func3, Try.ntmps3
  go_wp2_with fail
  refine (cs w).mono ?_
  rintro e w1 ⟨rfl, hb1⟩
  go_wp2_with fail
  have k0 := Blk.new w1 #[.int .i64 r, .int .i64 x, .slice none 0 0, .slice none 0 0, .slice none 0 0] 26
  have B1 : Hid (Below w.heap.size w (w1.alloc (.cells #[.int .i64 r, .int .i64 x, .slice none 0 0, .slice none 0 0, .slice none 0 0] 26))) := hb1.alloc hb1.size _
  have z1 : w.heap.size ≤ w1.heap.size := hb1.size
  generalize w1.alloc (.cells #[.int .i64 r, .int .i64 x, .slice none 0 0, .slice none 0 0, .slice none 0 0] 26) = W1 at *
  generalize w1.heap.size = p0 at *
  clear hb1
  refine (ci W1).mono ?_
  rintro e w2 ⟨rfl, hb2⟩
  have K0 : Hid (Blk w2 p0 #[.int .i64 r, .int .i64 x, .slice none 0 0, .slice none 0 0, .slice none 0 0] 26) := k0.on hb2 k0.lt
  have B2 : Hid (Below w.heap.size w w2) := B1.out.trans (hb2.mono B1.out.size)
  have l0 : p0 < w2.heap.size := K0.out.lt
  have y0 := K0.out.cell 0 _ rfl
  have y1 := K0.out.cell 1 _ rfl
  have y2 := K0.out.cell 2 _ rfl
  have y3 := K0.out.cell 3 _ rfl
  have y4 := K0.out.cell 4 _ rfl
  clear k0 hb2
  go_wp2_with fail
  have k1 := Blk.new w2 #[.int .i64 r, .int .i64 x, .slice none 0 0, .slice none 0 0, .slice none 0 0] 26
  have B3 : Hid (Below w.heap.size w (w2.alloc (.cells #[.int .i64 r, .int .i64 x, .slice none 0 0, .slice none 0 0, .slice none 0 0] 26))) := B2.out.alloc B2.out.size _
  have K0' : Hid (Blk (w2.alloc (.cells #[.int .i64 r, .int .i64 x, .slice none 0 0, .slice none 0 0, .slice none 0 0] 26)) p0 #[.int .i64 r, .int .i64 x, .slice none 0 0, .slice none 0 0, .slice none 0 0] 26) := K0.out.alloc _
  generalize w2.alloc (.cells #[.int .i64 r, .int .i64 x, .slice none 0 0, .slice none 0 0, .slice none 0 0] 26) = W2 at *
  have z2 : w.heap.size ≤ w2.heap.size := B2.out.size
  generalize w2.heap.size = p1 at *
  clear K0 y0 y1 y2 y3 y4 l0
  refine (ce W2).mono ?_
  rintro e w3 ⟨rfl, hb3⟩
  have K0 : Hid (Blk w3 p0 #[.int .i64 r, .int .i64 x, .slice none 0 0, .slice none 0 0, .slice none 0 0] 26) := K0'.out.on hb3 K0'.out.lt
  have K1 : Hid (Blk w3 p1 #[.int .i64 r, .int .i64 x, .slice none 0 0, .slice none 0 0, .slice none 0 0] 26) := k1.on hb3 k1.lt
  have B4 : Hid (Below w.heap.size w w3) := B3.out.trans (hb3.mono B3.out.size)
  have y0 := K1.out.cell 0 _ rfl
  have y1 := K1.out.cell 1 _ rfl
  have y2 := K1.out.cell 2 _ rfl
  have y3 := K1.out.cell 3 _ rfl
  have y4 := K1.out.cell 4 _ rfl
  clear k1 hb3 K0'
  go_wp2_with fail
  refine (cm w3).mono ?_
  rintro e w4 ⟨rfl, hb4⟩
  have B5 : Hid (Below w.heap.size w w4) := B4.out.trans (hb4.mono B4.out.size)
  have K0' : Hid (Blk w4 p0 #[.int .i64 r, .int .i64 x, .slice none 0 0, .slice none 0 0, .slice none 0 0] 26) := K0.out.on hb4 K0.out.lt
  have K1' : Hid (Blk w4 p1 #[.int .i64 r, .int .i64 x, .slice none 0 0, .slice none 0 0, .slice none 0 0] 26) := K1.out.on hb4 K1.out.lt
  clear hb4 y0 y1 y2 y3 y4 K0 K1
  have y0 := K1'.out.cell 0 _ rfl
  have y1 := K1'.out.cell 1 _ rfl
  have y2 := K1'.out.cell 2 _ rfl
  have y3 := K1'.out.cell 3 _ rfl
  have y4 := K1'.out.cell 4 _ rfl
  go_wp2_with fail
  refine (ch w4).mono ?_
  rintro e w5 ⟨rfl, hb5⟩
  have B6 : Hid (Below w.heap.size w w5) := B5.out.trans (hb5.mono B5.out.size)
  have K0 : Hid (Blk w5 p0 #[.int .i64 r, .int .i64 x, .slice none 0 0, .slice none 0 0, .slice none 0 0] 26) := K0'.out.on hb5 K0'.out.lt
  have K1 : Hid (Blk w5 p1 #[.int .i64 r, .int .i64 x, .slice none 0 0, .slice none 0 0, .slice none 0 0] 26) := K1'.out.on hb5 K1'.out.lt
  clear hb5 y0 y1 y2 y3 y4 K0' K1'
  go_wp2_with fail
  refine (ci w5).mono ?_
  rintro e w6 ⟨rfl, hb6⟩
  have B7 : Hid (Below w.heap.size w w6) := B6.out.trans (hb6.mono B6.out.size)
  have K0' : Hid (Blk w6 p0 #[.int .i64 r, .int .i64 x, .slice none 0 0, .slice none 0 0, .slice none 0 0] 26) := K0.out.on hb6 K0.out.lt
  have K1' : Hid (Blk w6 p1 #[.int .i64 r, .int .i64 x, .slice none 0 0, .slice none 0 0, .slice none 0 0] 26) := K1.out.on hb6 K1.out.lt
  have l0 : p0 < w6.heap.size := K0'.out.lt
  have y0 := K0'.out.cell 0 _ rfl
  have y1 := K0'.out.cell 1 _ rfl
  have y2 := K0'.out.cell 2 _ rfl
  have y3 := K0'.out.cell 3 _ rfl
  have y4 := K0'.out.cell 4 _ rfl
  clear hb6 K0 K1
  go_wp2_with fail
  have B8 : Hid (Below w.heap.size w (w6.alloc (.cells #[.int .i64 r, .int .i64 x, .slice none 0 0, .slice none 0 0, .slice none 0 0] 26))) := B7.out.alloc B7.out.size _
  have K1 : Hid (Blk (w6.alloc (.cells #[.int .i64 r, .int .i64 x, .slice none 0 0, .slice none 0 0, .slice none 0 0] 26)) p1 #[.int .i64 r, .int .i64 x, .slice none 0 0, .slice none 0 0, .slice none 0 0] 26) := K1'.out.alloc _
  generalize w6.alloc (.cells #[.int .i64 r, .int .i64 x, .slice none 0 0, .slice none 0 0, .slice none 0 0] 26) = W3 at *
  clear y0 y1 y2 y3 y4 l0 K0' K1'
  refine (ce W3).mono ?_
  rintro e w7 ⟨rfl, hb7⟩
  have B9 : Hid (Below w.heap.size w w7) := B8.out.trans (hb7.mono B8.out.size)
  have K1' : Hid (Blk w7 p1 #[.int .i64 r, .int .i64 x, .slice none 0 0, .slice none 0 0, .slice none 0 0] 26) := K1.out.on hb7 K1.out.lt
  have y0 := K1'.out.cell 0 _ rfl
  have y1 := K1'.out.cell 1 _ rfl
  have y2 := K1'.out.cell 2 _ rfl
  have y3 := K1'.out.cell 3 _ rfl
  have y4 := K1'.out.cell 4 _ rfl
  clear hb7 K1
  go_wp2_with fail
  refine (ch w7).mono ?_
  rintro e w8 ⟨rfl, hb8⟩
  have B10 : Hid (Below w.heap.size w w8) := B9.out.trans (hb8.mono B9.out.size)
  clear hb8
  go_wp2_with fail
  go_ret
  exact ⟨rfl, B10.out⟩
end Go.Proofs.Ytljpakpokjpemaa
