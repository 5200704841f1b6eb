/-
  The walk of laws.FnExactList.
-/
import Derived.Test.YtljpakpokjpemaaRows
import Derived.Test.YtljpakpokjpemaaDkOkD
import Derived.Test.YtljpakpokjpemaaDkList
import Derived.Test.YtljpakpokjpemaaDkMkD
import Derived.Test.YtljpakpokjpemaaDkToD
import Derived.Test.YtljpakpokjpemaaDkEq
import Derived.Deep.RegionHeld3
namespace Go.Proofs.Ytljpakpokjpemaa
open Go.ChangeShapes Go.WideShapes Go.ChangeAt Go.RowKit Go.PlainAid
set_option linter.unusedVariables false

theorem names_count (l : List Lnk) (ms : List Mov) : ((names l ms).map (·.name)).length ≤ l.length + ms.length := by
  rw [List.length_map]
  exact names_len l ms
theorem listR_len {d : Dsk} (h : wtD d ≤ 1048576) : (listR d).length ≤ 2097152 := by
  unfold listR
  split
  · simp
  · have := names_count d.dir d.movs
    unfold wtD at h
    unfold now
    omega

set_option maxRecDepth 20000 in
set_option maxHeartbeats 4000000 in
theorem law_fnExactList (d : Dsk) (v : Value) (w : World) (hv : DiskV w w.heap.size v d) (hf : Fits d) (hi : IntsOk d) :
    Calls Try.prog 5 #[v] w fun e w' => e = .returned (.bool true) ∧ Below w.heap.size w w' := by
  have HV : Hid (DiskV w w.heap.size v d) := hv
  have HF : Hid (Fits d) := hf
  have HI : Hid (IntsOk d) := hi
  obtain ⟨v1, v2, v3, rfl, h1, h2, h3⟩ := hv
  have cS := fun wx hx hb => szDisk d (.agg #[.int .i64 d.room, .int .i64 d.next, v1, v2, v3]) wx w.heap.size 1048576 (by omega) (by omega) hx hf hb
  clear h1 h2 h3 hf hi
  go_enter Try.func5, Try.ntmps5
  go_wp2_with fail
  have k0 := Blk.new w #[.int .i64 d.room, .int .i64 d.next, v1, v2, v3] 36
  have hb0 : Below w.heap.size w (w.alloc (.cells #[.int .i64 d.room, .int .i64 d.next, v1, v2, v3] 36)) := (Below.refl _ _).alloc (Nat.le_refl _) _
  generalize w.alloc (.cells #[.int .i64 d.room, .int .i64 d.next, v1, v2, v3] 36) = W at *
  have B0 : Hid (Below w.heap.size w W) := hb0
  have K0 : Hid (Blk W w.heap.size #[.int .i64 d.room, .int .i64 d.next, v1, v2, v3] 36) := k0
  clear hb0 k0
  refine (cS W (HV.out.on B0.out) B0.out.size).mono ?_
  rintro e w1 ⟨r, rfl, hr, hb1⟩
  have B1 : Hid (Below w.heap.size w w1) := B0.out.trans (hb1.mono B0.out.size)
  have K1 : Hid (Blk w1 w.heap.size #[.int .i64 d.room, .int .i64 d.next, v1, v2, v3] 36) := K0.out.on hb1 K0.out.lt
  clear hb1 cS K0
  rcases hr with rfl | ⟨hr0, hr1⟩
  · go_wp2_with fail
    go_ret
    exact ⟨rfl, B1.out⟩
  · have HW : Hid (wtD d ≤ 1048576) := by unfold Hid; omega
    have hr2 : decide (r < 0) = false := decide_eq_false (by omega)
    have cT := fun wx hx hb => toDisk d (.agg #[.int .i64 d.room, .int .i64 d.next, v1, v2, v3]) wx w.heap.size hx HW.out hb
    have y0 := K1.out.cell 0 _ rfl
    have y1 := K1.out.cell 1 _ rfl
    have y2 := K1.out.cell 2 _ rfl
    have y3 := K1.out.cell 3 _ rfl
    have y4 := K1.out.cell 4 _ rfl
    clear hr1
    go_wp2_with fail
    refine (cT w1 (HV.out.on B1.out) B1.out.size).mono ?_
    rintro e w2 ⟨u, rfl, hO, hb2⟩
    have B2 : Hid (Below w.heap.size w w2) := B1.out.trans (hb2.mono B1.out.size)
    have K2 : Hid (Blk w2 w.heap.size #[.int .i64 d.room, .int .i64 d.next, v1, v2, v3] 36) := K1.out.on hb2 K1.out.lt
    have c1 := specListV d u w2 w2.heap.size hO.look HF.out HW.out (Nat.le_refl _)
    clear y0 y1 y2 y3 y4 hb2 hO K1
    go_wp2_with fail
    refine c1.mono ?_
    rintro e w3 ⟨vs, rfl, hS3, hb3⟩
    have B3 : Hid (Below w.heap.size w w3) := B2.out.trans (hb3.mono B2.out.size)
    have K3 : Hid (Blk w3 w.heap.size #[.int .i64 d.room, .int .i64 d.next, v1, v2, v3] 36) := K2.out.on hb3 K2.out.lt
    have S3 : Hid (Strs w3 w2.heap.size vs (listR d)) := hS3
    have K3l : Hid (w.heap.size < w3.heap.size) := K3.out.lt
    have S3l : Hid (∀ g, vs.ownBlock = some g → g < w3.heap.size) := fun g hg => (World.ownsRow.lt hS3 g hg).2
    clear hS3
    have y0 := K3.out.cell 0 _ rfl
    have y1 := K3.out.cell 1 _ rfl
    have y2 := K3.out.cell 2 _ rfl
    have y3 := K3.out.cell 3 _ rfl
    have y4 := K3.out.cell 4 _ rfl
    clear c1 hb3 K2
    go_wp2_with fail
    refine (cT w3 (HV.out.on B3.out) B3.out.size).mono ?_
    rintro e w4 ⟨x, rfl, hO4, hb4⟩
    have B4 : Hid (Below w.heap.size w w4) := B3.out.trans (hb4.mono B3.out.size)
    have K4 : Hid (Blk w4 w.heap.size #[.int .i64 d.room, .int .i64 d.next, v1, v2, v3] 36) := K3.out.on hb4 K3.out.lt
    have O4 : Hid (DiskO w4 w3.heap.size x d) := hO4
    have S4 : Hid (Strs w4 w2.heap.size vs (listR d)) := S3.out.on hb4
    obtain ⟨x1, x2, x3, rfl, q1, q2, q3⟩ := hO4
    have Z34 : Hid (w3.heap.size ≤ w4.heap.size) := hb4.size
    have XR1 : Hid (∀ g, x1.ownBlock = some g → g < w4.heap.size) := fun g hg => (q1.lt g hg).2
    have XR2 : Hid (∀ g, x2.ownBlock = some g → g < w4.heap.size) := fun g hg => (q2.lt g hg).2
    have XR3 : Hid (∀ g, x3.ownBlock = some g → g < w4.heap.size) := fun g hg => (q3.lt g hg).2
    obtain ⟨A1, m1, c1, rfl⟩ := q1.shape
    obtain ⟨A2, m2, c2, rfl⟩ := q2.shape
    obtain ⟨A3, m3, c3, rfl⟩ := q3.shape
    clear y0 y1 y2 y3 y4 hb4 K3 q1 q2 q3
    go_wp2_with fail
    have k5 := Blk.new w4 #[.int .i64 d.room, .int .i64 d.next, .slice A1 m1 c1, .slice A2 m2 c2, .slice A3 m3 c3] 26
    have hb5 : Below w4.heap.size w4 (w4.alloc (.cells #[.int .i64 d.room, .int .i64 d.next, .slice A1 m1 c1, .slice A2 m2 c2, .slice A3 m3 c3] 26)) := (Below.refl _ _).alloc (Nat.le_refl _) _
    generalize w4.alloc (.cells #[.int .i64 d.room, .int .i64 d.next, .slice A1 m1 c1, .slice A2 m2 c2, .slice A3 m3 c3] 26) = W5 at *
    have B5 : Hid (Below w.heap.size w W5) := B4.out.trans (hb5.mono B4.out.size)
    have K5 : Hid (Blk W5 w.heap.size #[.int .i64 d.room, .int .i64 d.next, v1, v2, v3] 36) := K4.out.on hb5 K4.out.lt
    have O5 : Hid (DiskO W5 w3.heap.size (.agg #[.int .i64 d.room, .int .i64 d.next, .slice A1 m1 c1, .slice A2 m2 c2, .slice A3 m3 c3]) d) := O4.out.on hb5
    have S5 : Hid (Strs W5 w2.heap.size vs (listR d)) := S4.out.on hb5
    have X5 : Hid (Blk W5 w4.heap.size #[.int .i64 d.room, .int .i64 d.next, .slice A1 m1 c1, .slice A2 m2 c2, .slice A3 m3 c3] 26) := k5
    clear hb5 k5 K4 O4
    have SX0 : Hid (w3.heap.size ≤ w4.heap.size) := Z34.out
    have XR : Hid (∀ g, (Value.slice A1 m1 c1).ownBlock = some g → g < w4.heap.size) := XR1.out
    have XR' : Hid (∀ g, (Value.slice A2 m2 c2).ownBlock = some g → g < w4.heap.size) := XR2.out
    have XR'' : Hid (∀ g, (Value.slice A3 m3 c3).ownBlock = some g → g < w4.heap.size) := XR3.out
    clear XR1 XR2 XR3 Z34
    generalize w4.heap.size = px at *
    have SX : Hid (w3.heap.size ≤ px) := SX0.out
    have cG := fun wx u hx => implListV d u wx wx.heap.size hx HF.out HI.out HW.out (Nat.le_refl _)
    refine (cG W5 _ O5.out.look).mono ?_
    rintro e w6a ⟨g0, rfl, hG6, hb6a⟩
    have LEN : Hid ((listR d).length ≤ 2097152) := listR_len HW.out
    have hE6 := eq_same W5.heap.size w2.heap.size g0 vs (listR d) w6a hG6 (S5.out.on hb6a) LEN.out
    have G6a : Hid (Strs w6a W5.heap.size g0 (listR d)) := hG6
    have HB6a : Hid (Below W5.heap.size W5 w6a) := hb6a
    clear hG6 hb6a
    go_wp2_with fail
    refine hE6.mono ?_
    rintro e w6 ⟨rfl, hlike⟩
    have hb6 : Below W5.heap.size W5 w6 := HB6a.out.trans (hlike.below.mono HB6a.out.size)
    have G6 : Hid (Strs w6 W5.heap.size g0 (listR d)) := G6a.out.on hlike.below
    have B6 : Hid (Below w.heap.size w w6) := B5.out.trans (hb6.mono B5.out.size)
    have K6 : Hid (Blk w6 w.heap.size #[.int .i64 d.room, .int .i64 d.next, v1, v2, v3] 36) := K5.out.on hb6 K5.out.lt
    have O6 : Hid (DiskO w6 w3.heap.size (.agg #[.int .i64 d.room, .int .i64 d.next, .slice A1 m1 c1, .slice A2 m2 c2, .slice A3 m3 c3]) d) := O5.out.on hb6
    have X6 : Hid (Blk w6 px #[.int .i64 d.room, .int .i64 d.next, .slice A1 m1 c1, .slice A2 m2 c2, .slice A3 m3 c3] 26) := X5.out.on hb6 X5.out.lt
    have S6 : Hid (Strs w6 w2.heap.size vs (listR d)) := S5.out.on hb6
    have PX : Hid (px < W5.heap.size) := X5.out.lt
    have S5l : Hid (∀ g, vs.ownBlock = some g → g < w3.heap.size) := S3l.out
    have ZW5 : Hid (W5.heap.size ≤ w6.heap.size) := hb6.size
    clear hE6 hlike hb6 K5 O5 X5 HB6a G6a
    have KL : Hid (w.heap.size < w3.heap.size) := K3l.out
    have KL5 : Hid (w.heap.size < W5.heap.size) := Nat.lt_of_lt_of_le KL.out (Nat.le_trans SX.out (Nat.le_of_lt PX.out))
    have BW5 : Hid (w.heap.size ≤ W5.heap.size) := Nat.le_of_lt KL5.out
    have S0 : Hid (w6.drew.cell? ⟨px, 0, none⟩ = some (.int .i64 d.room) ∧ w6.drew.cell? ⟨px, 1, none⟩ = some (.int .i64 d.next) ∧ w6.drew.cell? ⟨px, 2, none⟩ = some (.slice A1 m1 c1) ∧ w6.drew.cell? ⟨px, 3, none⟩ = some (.slice A2 m2 c2) ∧ w6.drew.cell? ⟨px, 4, none⟩ = some (.slice A3 m3 c3) ∧ w6.drew.cell? ⟨w.heap.size, 0, none⟩ = some (.int .i64 d.room) ∧ w6.drew.cell? ⟨w.heap.size, 1, none⟩ = some (.int .i64 d.next) ∧ w6.drew.cell? ⟨w.heap.size, 2, none⟩ = some v1 ∧ w6.drew.cell? ⟨w.heap.size, 3, none⟩ = some v2 ∧ w6.drew.cell? ⟨w.heap.size, 4, none⟩ = some v3) := ⟨X6.out.cell 0 _ rfl, X6.out.cell 1 _ rfl, X6.out.cell 2 _ rfl, X6.out.cell 3 _ rfl, X6.out.cell 4 _ rfl, K6.out.cell 0 _ rfl, K6.out.cell 1 _ rfl, K6.out.cell 2 _ rfl, K6.out.cell 3 _ rfl, K6.out.cell 4 _ rfl⟩
    have B6d : Hid (Below w.heap.size w w6.drew) := B6.out.drew
    have cT6 := cT w6.drew (HV.out.on B6d.out) B6d.out.size
    have Z6 : Hid (w.heap.size ≤ w6.heap.size) := B6.out.size
    go_wp2_with fail
    go_region_held3 (fun w' => w'.cell? ⟨px, 0, none⟩ = some (.int .i64 d.room) ∧ w'.cell? ⟨px, 1, none⟩ = some (.int .i64 d.next) ∧ w'.cell? ⟨px, 2, none⟩ = some (.slice A1 m1 c1) ∧ w'.cell? ⟨px, 3, none⟩ = some (.slice A2 m2 c2) ∧ w'.cell? ⟨px, 4, none⟩ = some (.slice A3 m3 c3) ∧ w'.cell? ⟨w.heap.size, 0, none⟩ = some (.int .i64 d.room) ∧ w'.cell? ⟨w.heap.size, 1, none⟩ = some (.int .i64 d.next) ∧ w'.cell? ⟨w.heap.size, 2, none⟩ = some v1 ∧ w'.cell? ⟨w.heap.size, 3, none⟩ = some v2 ∧ w'.cell? ⟨w.heap.size, 4, none⟩ = some v3) (first | exact S0.out | exact S2.out | exact S3'.out)
      ((first | (go_at_call 14; refine cT6.mono ?_; rintro e w7 ⟨y, rfl, hO7, hb7⟩; have S2 : Hid (w7.cell? ⟨px, 0, none⟩ = some (.int .i64 d.room) ∧ w7.cell? ⟨px, 1, none⟩ = some (.int .i64 d.next) ∧ w7.cell? ⟨px, 2, none⟩ = some (.slice A1 m1 c1) ∧ w7.cell? ⟨px, 3, none⟩ = some (.slice A2 m2 c2) ∧ w7.cell? ⟨px, 4, none⟩ = some (.slice A3 m3 c3) ∧ w7.cell? ⟨w.heap.size, 0, none⟩ = some (.int .i64 d.room) ∧ w7.cell? ⟨w.heap.size, 1, none⟩ = some (.int .i64 d.next) ∧ w7.cell? ⟨w.heap.size, 2, none⟩ = some v1 ∧ w7.cell? ⟨w.heap.size, 3, none⟩ = some v2 ∧ w7.cell? ⟨w.heap.size, 4, none⟩ = some v3) := ⟨(Blk.on (w := w6.drew) X6.out hb7 X6.out.lt).cell 0 _ rfl, (Blk.on (w := w6.drew) X6.out hb7 X6.out.lt).cell 1 _ rfl, (Blk.on (w := w6.drew) X6.out hb7 X6.out.lt).cell 2 _ rfl, (Blk.on (w := w6.drew) X6.out hb7 X6.out.lt).cell 3 _ rfl, (Blk.on (w := w6.drew) X6.out hb7 X6.out.lt).cell 4 _ rfl, (Blk.on (w := w6.drew) K6.out hb7 K6.out.lt).cell 0 _ rfl, (Blk.on (w := w6.drew) K6.out hb7 K6.out.lt).cell 1 _ rfl, (Blk.on (w := w6.drew) K6.out hb7 K6.out.lt).cell 2 _ rfl, (Blk.on (w := w6.drew) K6.out hb7 K6.out.lt).cell 3 _ rfl, (Blk.on (w := w6.drew) K6.out hb7 K6.out.lt).cell 4 _ rfl⟩; have O7 : Hid (DiskO w7 w6.heap.size y d) := hO7; have BX7 : Hid (Below w6.heap.size w6 w7) := (Below.refl _ w6).drew.trans hb7; clear hO7) | (go_at_call 9; refine (eqDisk d _ _ w7 w7.heap.size (O6.out.on BX7.out).look O7.out.look HW.out (Nat.le_refl _)).mono ?_; rintro e w8 ⟨rfl, hb8⟩; have S3' : Hid (w8.cell? ⟨px, 0, none⟩ = some (.int .i64 d.room) ∧ w8.cell? ⟨px, 1, none⟩ = some (.int .i64 d.next) ∧ w8.cell? ⟨px, 2, none⟩ = some (.slice A1 m1 c1) ∧ w8.cell? ⟨px, 3, none⟩ = some (.slice A2 m2 c2) ∧ w8.cell? ⟨px, 4, none⟩ = some (.slice A3 m3 c3) ∧ w8.cell? ⟨w.heap.size, 0, none⟩ = some (.int .i64 d.room) ∧ w8.cell? ⟨w.heap.size, 1, none⟩ = some (.int .i64 d.next) ∧ w8.cell? ⟨w.heap.size, 2, none⟩ = some v1 ∧ w8.cell? ⟨w.heap.size, 3, none⟩ = some v2 ∧ w8.cell? ⟨w.heap.size, 4, none⟩ = some v3) := ⟨((X6.out.on BX7.out X6.out.lt).on hb8 (X6.out.on BX7.out X6.out.lt).lt).cell 0 _ rfl, ((X6.out.on BX7.out X6.out.lt).on hb8 (X6.out.on BX7.out X6.out.lt).lt).cell 1 _ rfl, ((X6.out.on BX7.out X6.out.lt).on hb8 (X6.out.on BX7.out X6.out.lt).lt).cell 2 _ rfl, ((X6.out.on BX7.out X6.out.lt).on hb8 (X6.out.on BX7.out X6.out.lt).lt).cell 3 _ rfl, ((X6.out.on BX7.out X6.out.lt).on hb8 (X6.out.on BX7.out X6.out.lt).lt).cell 4 _ rfl, ((K6.out.on BX7.out K6.out.lt).on hb8 (K6.out.on BX7.out K6.out.lt).lt).cell 0 _ rfl, ((K6.out.on BX7.out K6.out.lt).on hb8 (K6.out.on BX7.out K6.out.lt).lt).cell 1 _ rfl, ((K6.out.on BX7.out K6.out.lt).on hb8 (K6.out.on BX7.out K6.out.lt).lt).cell 2 _ rfl, ((K6.out.on BX7.out K6.out.lt).on hb8 (K6.out.on BX7.out K6.out.lt).lt).cell 3 _ rfl, ((K6.out.on BX7.out K6.out.lt).on hb8 (K6.out.on BX7.out K6.out.lt).lt).cell 4 _ rfl⟩)))
    have Z68 : Hid (w6.heap.size ≤ w8.heap.size) := Nat.le_trans BX7.out.size hb8.size
    have hb86 : Below w6.heap.size w6 w8 := BX7.out.trans (hb8.mono BX7.out.size)
    have B8 : Hid (Below w.heap.size w w8) := B6.out.trans (hb86.mono B6.out.size)
    have K8 : Hid (Blk w8 w.heap.size #[.int .i64 d.room, .int .i64 d.next, v1, v2, v3] 36) := K6.out.on hb86 K6.out.lt
    have X8 : Hid (Blk w8 px #[.int .i64 d.room, .int .i64 d.next, .slice A1 m1 c1, .slice A2 m2 c2, .slice A3 m3 c3] 26) := X6.out.on hb86 X6.out.lt
    have S8 : Hid (Strs w8 w2.heap.size vs (listR d)) := S6.out.on hb86
    have G8 : Hid (Strs w8 W5.heap.size g0 (listR d)) := G6.out.on hb86
    have O8 := O6.out.on hb86
    have WT : Hid (d.nods.length ≤ 1048576 ∧ d.dir.length ≤ 1048576 ∧ d.movs.length ≤ 1048576) := by
      have := HW.out
      unfold wtD at this
      unfold Hid
      omega
    obtain ⟨y1', y2', y3', e', o1, o2, o3⟩ := O8
    cases e'
    have cM := markDisk 1 w3.heap.size px d.room d.next _ _ _ (nodR d.nods) (lnkR d.dir) (movR d.movs) w8 ⟨o1, o2, o3, XR.out, XR'.out, XR''.out⟩ (by rw [nodR_length]; exact WT.out.1) (by rw [lnkR_length]; exact WT.out.2.1) (by rw [movR_length]; exact WT.out.2.2) (Nat.le_refl _) (by omega) (Nat.le_trans SX.out (Nat.le_of_lt (Nat.lt_of_lt_of_le PX.out (Nat.le_trans ZW5.out hb86.size))))
    have ZP8 : Hid (px < w8.heap.size) := X8.out.lt
    have ZG8 : Hid (∀ g, g0.ownBlock = some g → px ≤ g ∧ g < w8.heap.size) := fun g hg => by
      have := World.ownsRow.lt G8.out g hg
      have := PX.out
      exact ⟨by omega, by omega⟩
    have x0 := X8.out.cell 0 _ rfl
    have x1 := X8.out.cell 1 _ rfl
    have x2 := X8.out.cell 2 _ rfl
    have x3 := X8.out.cell 3 _ rfl
    have x4 := X8.out.cell 4 _ rfl
    generalize hKK : (1 + 3 * (nodR d.nods).length + 2 * (lnkR d.dir).length + 4 * (movR d.movs).length : Nat) = KK at *
    have qK : (KK : Int) ≤ 10000000 := by
      rw [nodR_length, lnkR_length, movR_length] at hKK
      have := WT.out
      omega
    have qK0 : decide ((KK : Int) < 0) = false := decide_eq_false (by omega)
    clear S0 S2 S3' hb8 hb86 O7 BX7 K6 X6 S6 G6 o1 o2 o3 B6d cT6 Z6 O6 hKK
    go_wp2_with fail
    refine cM.mono ?_
    rintro e w9 ⟨rfl, _, hb9, hk9⟩
    have B9 : Hid (Below w.heap.size w w9) := B8.out.trans (hb9.mono B3.out.size)
    have K9 : Hid (Blk w9 w.heap.size #[.int .i64 d.room, .int .i64 d.next, v1, v2, v3] 36) := K8.out.on hb9 (Nat.lt_of_lt_of_le KL.out (Nat.le_refl _))
    have S9 : Hid (Strs w9 w2.heap.size vs (listR d)) := S8.out.kept fun g _ hg => hb9.block g (S5l.out g hg)
    have G9 : Hid (Strs w9 W5.heap.size g0 (listR d)) := G8.out.kept fun g _ hg => hk9 g (ZG8.out g hg).1 (ZG8.out g hg).2
    have Z9 : Hid (W5.heap.size ≤ w9.heap.size) := Nat.le_trans ZW5.out (Nat.le_trans Z68.out hb9.size)
    clear cM hb9 hk9 x0 x1 x2 x3 x4
    have cE9 := eq_same W5.heap.size w2.heap.size g0 vs (listR d) w9 G9.out S9.out LEN.out
    go_wp2_with fail
    refine cE9.mono ?_
    rintro e w10 ⟨rfl, hl10⟩
    have B10 : Hid (Below w.heap.size w w10) := B9.out.trans (hl10.below.mono B9.out.size)
    have K10 : Hid (Blk w10 w.heap.size #[.int .i64 d.room, .int .i64 d.next, v1, v2, v3] 36) := K9.out.on hl10.below K9.out.lt
    have S10 : Hid (Strs w10 w2.heap.size vs (listR d)) := S9.out.on hl10.below
    have G10 : Hid (Strs w10 W5.heap.size g0 (listR d)) := G9.out.on hl10.below
    have Z10 : Hid (W5.heap.size ≤ w10.heap.size) := Nat.le_trans Z9.out hl10.below.size
    clear cE9 hl10
    have cM2 := mark_all 1 W5.heap.size g0 (listR d) w10 G10.out LEN.out (Nat.le_refl _) (by omega) Z10.out
    have qL : (((1 + (listR d).length : Nat)) : Int) ≤ 3000000 := by have := LEN.out; omega
    have qL0 : decide ((((1 + (listR d).length : Nat)) : Int) < 0) = false := decide_eq_false (by omega)
    go_wp2_with fail
    refine cM2.mono ?_
    rintro e w11 ⟨rfl, hM11, hb11⟩
    have B11 : Hid (Below w.heap.size w w11) := B10.out.trans (hb11.mono BW5.out)
    have K11 : Hid (Blk w11 w.heap.size #[.int .i64 d.room, .int .i64 d.next, v1, v2, v3] 36) := K10.out.on hb11 KL5.out
    have S11 : Hid (Strs w11 w2.heap.size vs (listR d)) := S10.out.kept fun g _ hg => hb11.block g (Nat.lt_of_lt_of_le (S5l.out g hg) (Nat.le_trans SX.out (Nat.le_of_lt PX.out)))
    have M11 : Hid (Strs w11 W5.heap.size g0 (marks 1 (listR d).length)) := hM11
    have cH := fun wx hx => held_all 1 W5.heap.size (listR d).length g0 wx hx LEN.out (Nat.le_refl _) (by omega)
    clear cM2 hM11 hb11
    generalize hLL : ((1 + (listR d).length : Nat) : Int) = LL at *
    have n5 : (LL != LL) = false := by simp
    go_wp2_with fail
    refine (cH w11 M11.out).mono ?_
    rintro e w12 ⟨rfl, hb12⟩
    have B12 : Hid (Below w.heap.size w w12) := B11.out.trans (hb12.mono B11.out.size)
    have K12 : Hid (Blk w12 w.heap.size #[.int .i64 d.room, .int .i64 d.next, v1, v2, v3] 36) := K11.out.on hb12 K11.out.lt
    have S12 : Hid (Strs w12 w2.heap.size vs (listR d)) := S11.out.on hb12
    have M12 : Hid (Strs w12 W5.heap.size g0 (marks 1 (listR d).length)) := M11.out.on hb12
    have y0 := K12.out.cell 0 _ rfl
    have y1 := K12.out.cell 1 _ rfl
    have y2 := K12.out.cell 2 _ rfl
    have y3 := K12.out.cell 3 _ rfl
    have y4 := K12.out.cell 4 _ rfl
    clear hb12
    go_wp2_with fail
    refine (cT w12 (HV.out.on B12.out) B12.out.size).mono ?_
    rintro e w13 ⟨xx, rfl, hO13, hb13⟩
    have B13 : Hid (Below w.heap.size w w13) := B12.out.trans (hb13.mono B12.out.size)
    have S13 : Hid (Strs w13 w2.heap.size vs (listR d)) := S12.out.on hb13
    have M13 : Hid (Strs w13 W5.heap.size g0 (marks 1 (listR d).length)) := M12.out.on hb13
    have cG13 := cG w13 xx hO13.look
    clear hb13 hO13 y0 y1 y2 y3 y4
    go_wp2_with fail
    refine cG13.mono ?_
    rintro e w14 ⟨h0, rfl, hS14, hb14⟩
    have B14 : Hid (Below w.heap.size w w14) := B13.out.trans (hb14.mono B13.out.size)
    have S14 : Hid (Strs w14 w2.heap.size vs (listR d)) := S13.out.on hb14
    have M14 : Hid (Strs w14 W5.heap.size g0 (marks 1 (listR d).length)) := M13.out.on hb14
    have cE14 := eq_same w13.heap.size w2.heap.size h0 vs (listR d) w14 hS14 S14.out LEN.out
    clear cG13 hb14 hS14
    go_wp2_with fail
    refine cE14.mono ?_
    rintro e w15 ⟨rfl, hl15⟩
    have B15 : Hid (Below w.heap.size w w15) := B14.out.trans (hl15.below.mono B14.out.size)
    have M15 : Hid (Strs w15 W5.heap.size g0 (marks 1 (listR d).length)) := M14.out.on hl15.below
    clear cE14 hl15
    go_wp2_with fail
    refine (cH w15 M15.out).mono ?_
    rintro e w16 ⟨rfl, hb16⟩
    have B16 : Hid (Below w.heap.size w w16) := B15.out.trans (hb16.mono B15.out.size)
    clear hb16
    go_wp2_with fail
    go_ret
    exact ⟨rfl, B16.out⟩
end Go.Proofs.Ytljpakpokjpemaa
