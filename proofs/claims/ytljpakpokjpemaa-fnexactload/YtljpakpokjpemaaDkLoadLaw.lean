/-
  The walk of laws.FnExactLoad.
-/
import Derived.Test.YtljpakpokjpemaaRows
import Derived.Test.YtljpakpokjpemaaDkOkD
import Derived.Test.YtljpakpokjpemaaDkLoad
import Derived.Test.YtljpakpokjpemaaDkToD
import Derived.Test.YtljpakpokjpemaaDkEq
import Derived.Deep.RegionHeld3
namespace Go.Proofs.Ytljpakpokjpemaa
open Go.ChangeShapes Go.WideShapes Go.ChangeAt Go.RowKit Go.PlainAid
set_option linter.unusedVariables false

set_option maxRecDepth 20000 in
set_option maxHeartbeats 2000000 in
theorem law_fnExactLoad (d : Dsk) (v : Value) (name : ByteArray) (w : World) (hv : DiskV w w.heap.size v d) (hf : Fits d) (hi : Ints d) (hs : name.size ≤ maxLen) :
    Calls Try.prog 6 #[v, .string name] w fun e w' => e = .returned (.bool true) ∧ Below w.heap.size w w' := by
  have HV : Hid (DiskV w w.heap.size v d) := hv
  have HF : Hid (Fits d) := hf
  have HI : Hid (Ints d) := hi
  obtain ⟨v1, v2, v3, rfl, h1, h2, h3⟩ := hv
  have cS := fun wx hx hb => szDisk d (.agg #[.int .i64 d.room, .int .i64 d.next, v1, v2, v3]) wx w.heap.size 1048576 (by omega) (by omega) hx hf hb
  have HS : Hid (name.size ≤ maxLen) := hs
  have qn : (name.size : Int) ≤ 9223372036854775807 := by unfold maxLen at hs; omega
  clear h1 h2 h3 hf hi hs
  by_cases hbig : (1048576 : Int) < (name.size : Int)
  · have hbd : decide ((1048576 : Int) < (name.size : Int)) = true := decide_eq_true hbig
    clear cS
    go_enter Try.func6, Try.ntmps6
    go_wp2_with fail
    go_ret
    exact ⟨rfl, (Below.refl _ _).alloc (Nat.le_refl _) _⟩
  have hbd : decide ((1048576 : Int) < (name.size : Int)) = false := decide_eq_false hbig
  clear hbig
  go_enter Try.func6, Try.ntmps6
  go_wp2_with fail
  have k0 := Blk.new w #[.int .i64 d.room, .int .i64 d.next, v1, v2, v3] 36
  have hb0 : Below w.heap.size w (w.alloc (.cells #[.int .i64 d.room, .int .i64 d.next, v1, v2, v3] 36)) := (Below.refl _ _).alloc (Nat.le_refl _) _
  generalize w.alloc (.cells #[.int .i64 d.room, .int .i64 d.next, v1, v2, v3] 36) = W at *
  have B0 : Hid (Below w.heap.size w W) := hb0
  have K0 : Hid (Blk W w.heap.size #[.int .i64 d.room, .int .i64 d.next, v1, v2, v3] 36) := k0
  clear hb0 k0
  refine (cS W (HV.out.on B0.out) B0.out.size).mono ?_
  rintro e w1 ⟨r, rfl, hr, hb1⟩
  have B1 : Hid (Below w.heap.size w w1) := B0.out.trans (hb1.mono B0.out.size)
  have K1 : Hid (Blk w1 w.heap.size #[.int .i64 d.room, .int .i64 d.next, v1, v2, v3] 36) := K0.out.on hb1 K0.out.lt
  clear hb1 cS K0
  rcases hr with rfl | ⟨hr0, hr1⟩
  · go_wp2_with fail
    go_ret
    exact ⟨rfl, B1.out⟩
  · have HW : Hid (wtD d ≤ 1048576) := by unfold Hid; omega
    have hr2 : decide (r < 0) = false := decide_eq_false (by omega)
    have cT := fun wx hx hb => toDisk d (.agg #[.int .i64 d.room, .int .i64 d.next, v1, v2, v3]) wx w.heap.size hx HW.out hb
    have y0 := K1.out.cell 0 _ rfl
    have y1 := K1.out.cell 1 _ rfl
    have y2 := K1.out.cell 2 _ rfl
    have y3 := K1.out.cell 3 _ rfl
    have y4 := K1.out.cell 4 _ rfl
    clear hr1
    go_wp2_with fail
    refine (cT w1 (HV.out.on B1.out) B1.out.size).mono ?_
    rintro e w2 ⟨u, rfl, hO, hb2⟩
    have B2 : Hid (Below w.heap.size w w2) := B1.out.trans (hb2.mono B1.out.size)
    have K2 : Hid (Blk w2 w.heap.size #[.int .i64 d.room, .int .i64 d.next, v1, v2, v3] 36) := K1.out.on hb2 K1.out.lt
    have c1 := specLoadV d u name w2 w2.heap.size hO.look HF.out HW.out (Nat.le_refl _)
    clear y0 y1 y2 y3 y4 hb2 hO K1
    go_wp2_with fail
    refine c1.mono ?_
    rintro e w3 ⟨rfl, hb3⟩
    have B3 : Hid (Below w.heap.size w w3) := B2.out.trans (hb3.mono B2.out.size)
    have K3 : Hid (Blk w3 w.heap.size #[.int .i64 d.room, .int .i64 d.next, v1, v2, v3] 36) := K2.out.on hb3 K2.out.lt
    have y0 := K3.out.cell 0 _ rfl
    have y1 := K3.out.cell 1 _ rfl
    have y2 := K3.out.cell 2 _ rfl
    have y3 := K3.out.cell 3 _ rfl
    have y4 := K3.out.cell 4 _ rfl
    clear c1 hb3 K2
    go_wp2_with fail
    refine (cT w3 (HV.out.on B3.out) B3.out.size).mono ?_
    rintro e w4 ⟨x, rfl, hO4, hb4⟩
    have B4 : Hid (Below w.heap.size w w4) := B3.out.trans (hb4.mono B3.out.size)
    have K4 : Hid (Blk w4 w.heap.size #[.int .i64 d.room, .int .i64 d.next, v1, v2, v3] 36) := K3.out.on hb4 K3.out.lt
    have O4 : Hid (DiskO w4 w3.heap.size x d) := hO4
    obtain ⟨x1, x2, x3, rfl, q1, q2, q3⟩ := hO4
    obtain ⟨A1, m1, c1, rfl⟩ := q1.shape
    obtain ⟨A2, m2, c2, rfl⟩ := q2.shape
    obtain ⟨A3, m3, c3, rfl⟩ := q3.shape
    clear y0 y1 y2 y3 y4 hb4 K3 q1 q2 q3
    go_wp2_with fail
    have k5 := Blk.new w4 #[.int .i64 d.room, .int .i64 d.next, .slice A1 m1 c1, .slice A2 m2 c2, .slice A3 m3 c3] 26
    have hb5 : Below w4.heap.size w4 (w4.alloc (.cells #[.int .i64 d.room, .int .i64 d.next, .slice A1 m1 c1, .slice A2 m2 c2, .slice A3 m3 c3] 26)) := (Below.refl _ _).alloc (Nat.le_refl _) _
    generalize w4.alloc (.cells #[.int .i64 d.room, .int .i64 d.next, .slice A1 m1 c1, .slice A2 m2 c2, .slice A3 m3 c3] 26) = W5 at *
    have B5 : Hid (Below w.heap.size w W5) := B4.out.trans (hb5.mono B4.out.size)
    have K5 : Hid (Blk W5 w.heap.size #[.int .i64 d.room, .int .i64 d.next, v1, v2, v3] 36) := K4.out.on hb5 K4.out.lt
    have O5 : Hid (DiskO W5 w3.heap.size (.agg #[.int .i64 d.room, .int .i64 d.next, .slice A1 m1 c1, .slice A2 m2 c2, .slice A3 m3 c3]) d) := O4.out.on hb5
    have X5 : Hid (Blk W5 w4.heap.size #[.int .i64 d.room, .int .i64 d.next, .slice A1 m1 c1, .slice A2 m2 c2, .slice A3 m3 c3] 26) := k5
    clear hb5 k5 K4 O4
    generalize w4.heap.size = px at *
    have cOk := implLoadV d (.agg #[.int .i64 d.room, .int .i64 d.next, .slice A1 m1 c1, .slice A2 m2 c2, .slice A3 m3 c3]) name W5 W5.heap.size O5.out.look HF.out HI.out HW.out (Nat.le_refl _) HS.out
    refine cOk.mono ?_
    rintro e w6 ⟨rfl, hb6⟩
    have B6 : Hid (Below w.heap.size w w6) := B5.out.trans (hb6.mono B5.out.size)
    have K6 : Hid (Blk w6 w.heap.size #[.int .i64 d.room, .int .i64 d.next, v1, v2, v3] 36) := K5.out.on hb6 K5.out.lt
    have O6 : Hid (DiskO w6 w3.heap.size (.agg #[.int .i64 d.room, .int .i64 d.next, .slice A1 m1 c1, .slice A2 m2 c2, .slice A3 m3 c3]) d) := O5.out.on hb6
    have X6 : Hid (Blk w6 px #[.int .i64 d.room, .int .i64 d.next, .slice A1 m1 c1, .slice A2 m2 c2, .slice A3 m3 c3] 26) := X5.out.on hb6 X5.out.lt
    clear cOk hb6 K5 O5 X5
    have n1 : ((loadR d name).2 != (loadR d name).2) = false := by cases (loadR d name).2 <;> rfl
    have n2 := toList_beq (loadR d name).1 (loadR d name).1
    rw [decide_eq_true rfl] at n2
    generalize (loadR d name).1 = ls at *
    generalize (loadR d name).2 = lb at *
    have S0 : Hid (w6.drew.cell? ⟨px, 0, none⟩ = some (.int .i64 d.room) ∧ w6.drew.cell? ⟨px, 1, none⟩ = some (.int .i64 d.next) ∧ w6.drew.cell? ⟨px, 2, none⟩ = some (.slice A1 m1 c1) ∧ w6.drew.cell? ⟨px, 3, none⟩ = some (.slice A2 m2 c2) ∧ w6.drew.cell? ⟨px, 4, none⟩ = some (.slice A3 m3 c3) ∧ w6.drew.cell? ⟨w.heap.size, 0, none⟩ = some (.int .i64 d.room) ∧ w6.drew.cell? ⟨w.heap.size, 1, none⟩ = some (.int .i64 d.next) ∧ w6.drew.cell? ⟨w.heap.size, 2, none⟩ = some v1 ∧ w6.drew.cell? ⟨w.heap.size, 3, none⟩ = some v2 ∧ w6.drew.cell? ⟨w.heap.size, 4, none⟩ = some v3) := ⟨X6.out.cell 0 _ rfl, X6.out.cell 1 _ rfl, X6.out.cell 2 _ rfl, X6.out.cell 3 _ rfl, X6.out.cell 4 _ rfl, K6.out.cell 0 _ rfl, K6.out.cell 1 _ rfl, K6.out.cell 2 _ rfl, K6.out.cell 3 _ rfl, K6.out.cell 4 _ rfl⟩
    have B6d : Hid (Below w.heap.size w w6.drew) := B6.out.drew
    have cT6 := cT w6.drew (HV.out.on B6d.out) B6d.out.size
    have Z6 : Hid (w.heap.size ≤ w6.heap.size) := B6.out.size
    clear cT
    go_wp2_with fail
    go_region_held3 (fun w' => w'.cell? ⟨px, 0, none⟩ = some (.int .i64 d.room) ∧ w'.cell? ⟨px, 1, none⟩ = some (.int .i64 d.next) ∧ w'.cell? ⟨px, 2, none⟩ = some (.slice A1 m1 c1) ∧ w'.cell? ⟨px, 3, none⟩ = some (.slice A2 m2 c2) ∧ w'.cell? ⟨px, 4, none⟩ = some (.slice A3 m3 c3) ∧ w'.cell? ⟨w.heap.size, 0, none⟩ = some (.int .i64 d.room) ∧ w'.cell? ⟨w.heap.size, 1, none⟩ = some (.int .i64 d.next) ∧ w'.cell? ⟨w.heap.size, 2, none⟩ = some v1 ∧ w'.cell? ⟨w.heap.size, 3, none⟩ = some v2 ∧ w'.cell? ⟨w.heap.size, 4, none⟩ = some v3) (first | exact S0.out | exact S2.out | exact S3.out)
      ((first | (go_at_call 14; refine cT6.mono ?_; rintro e w7 ⟨y, rfl, hO7, hb7⟩; have S2 : Hid (w7.cell? ⟨px, 0, none⟩ = some (.int .i64 d.room) ∧ w7.cell? ⟨px, 1, none⟩ = some (.int .i64 d.next) ∧ w7.cell? ⟨px, 2, none⟩ = some (.slice A1 m1 c1) ∧ w7.cell? ⟨px, 3, none⟩ = some (.slice A2 m2 c2) ∧ w7.cell? ⟨px, 4, none⟩ = some (.slice A3 m3 c3) ∧ w7.cell? ⟨w.heap.size, 0, none⟩ = some (.int .i64 d.room) ∧ w7.cell? ⟨w.heap.size, 1, none⟩ = some (.int .i64 d.next) ∧ w7.cell? ⟨w.heap.size, 2, none⟩ = some v1 ∧ w7.cell? ⟨w.heap.size, 3, none⟩ = some v2 ∧ w7.cell? ⟨w.heap.size, 4, none⟩ = some v3) := ⟨(Blk.on (w := w6.drew) X6.out hb7 X6.out.lt).cell 0 _ rfl, (Blk.on (w := w6.drew) X6.out hb7 X6.out.lt).cell 1 _ rfl, (Blk.on (w := w6.drew) X6.out hb7 X6.out.lt).cell 2 _ rfl, (Blk.on (w := w6.drew) X6.out hb7 X6.out.lt).cell 3 _ rfl, (Blk.on (w := w6.drew) X6.out hb7 X6.out.lt).cell 4 _ rfl, (Blk.on (w := w6.drew) K6.out hb7 K6.out.lt).cell 0 _ rfl, (Blk.on (w := w6.drew) K6.out hb7 K6.out.lt).cell 1 _ rfl, (Blk.on (w := w6.drew) K6.out hb7 K6.out.lt).cell 2 _ rfl, (Blk.on (w := w6.drew) K6.out hb7 K6.out.lt).cell 3 _ rfl, (Blk.on (w := w6.drew) K6.out hb7 K6.out.lt).cell 4 _ rfl⟩; have O7 : Hid (DiskO w7 w6.heap.size y d) := hO7; have BX7 : Hid (Below w6.heap.size w6 w7) := (Below.refl _ w6).drew.trans hb7; clear hO7) | (go_at_call 9; refine (eqDisk d _ _ w7 w7.heap.size (O6.out.on BX7.out).look O7.out.look HW.out (Nat.le_refl _)).mono ?_; rintro e w8 ⟨rfl, hb8⟩; have S3 : Hid (w8.cell? ⟨px, 0, none⟩ = some (.int .i64 d.room) ∧ w8.cell? ⟨px, 1, none⟩ = some (.int .i64 d.next) ∧ w8.cell? ⟨px, 2, none⟩ = some (.slice A1 m1 c1) ∧ w8.cell? ⟨px, 3, none⟩ = some (.slice A2 m2 c2) ∧ w8.cell? ⟨px, 4, none⟩ = some (.slice A3 m3 c3) ∧ w8.cell? ⟨w.heap.size, 0, none⟩ = some (.int .i64 d.room) ∧ w8.cell? ⟨w.heap.size, 1, none⟩ = some (.int .i64 d.next) ∧ w8.cell? ⟨w.heap.size, 2, none⟩ = some v1 ∧ w8.cell? ⟨w.heap.size, 3, none⟩ = some v2 ∧ w8.cell? ⟨w.heap.size, 4, none⟩ = some v3) := ⟨((X6.out.on BX7.out X6.out.lt).on hb8 (X6.out.on BX7.out X6.out.lt).lt).cell 0 _ rfl, ((X6.out.on BX7.out X6.out.lt).on hb8 (X6.out.on BX7.out X6.out.lt).lt).cell 1 _ rfl, ((X6.out.on BX7.out X6.out.lt).on hb8 (X6.out.on BX7.out X6.out.lt).lt).cell 2 _ rfl, ((X6.out.on BX7.out X6.out.lt).on hb8 (X6.out.on BX7.out X6.out.lt).lt).cell 3 _ rfl, ((X6.out.on BX7.out X6.out.lt).on hb8 (X6.out.on BX7.out X6.out.lt).lt).cell 4 _ rfl, ((K6.out.on BX7.out K6.out.lt).on hb8 (K6.out.on BX7.out K6.out.lt).lt).cell 0 _ rfl, ((K6.out.on BX7.out K6.out.lt).on hb8 (K6.out.on BX7.out K6.out.lt).lt).cell 1 _ rfl, ((K6.out.on BX7.out K6.out.lt).on hb8 (K6.out.on BX7.out K6.out.lt).lt).cell 2 _ rfl, ((K6.out.on BX7.out K6.out.lt).on hb8 (K6.out.on BX7.out K6.out.lt).lt).cell 3 _ rfl, ((K6.out.on BX7.out K6.out.lt).on hb8 (K6.out.on BX7.out K6.out.lt).lt).cell 4 _ rfl⟩)))
    go_wp2_with fail
    go_ret
    exact ⟨rfl, B6.out.trans ((BX7.out.mono Z6.out).trans (hb8.mono (Nat.le_trans Z6.out BX7.out.size)))⟩
end Go.Proofs.Ytljpakpokjpemaa
