/-
  The law FnExactWalText answers true at every log.
-/
import Derived.Test.YtajodeahigmcoaaDoorRows
import Derived.Test.YtajodeahigmcoaaDoorWkEq
import Derived.Test.YtajodeahigmcoaaDoorWkArgD
import Derived.Test.YtajodeahigmcoaaDoorUntil
import Derived.Test.YtajodeahigmcoaaDoorWtSpec
import Derived.Test.YtajodeahigmcoaaDoorWtImpl
namespace Go.Proofs.YtajodeahigmcoaaDoor
open Go.ChangeShapes Go.WideShapes Go.ChangeAt Go.RowKit Go.PlainAid
set_option linter.unusedVariables false

set_option maxHeartbeats 2000000 in
theorem law_fnExactWalText (x : Wl) (v : Value) (w : World) (hv : WalV w w.heap.size v x) (hf : FitsW x) (hi : IntsW x) (ht : SumTab w) : Calls Tryd.prog 5 #[v] w fun e w' => e = .returned (.bool true) ∧ Below w.heap.size w w' := by
  have HV : Hid (WalV w w.heap.size v x) := hv
  have HF : Hid (FitsW x) := hf
  have HI : Hid (IntsW x) := hi
  have HT : Hid (SumTab w) := ht
  clear ht
  obtain ⟨u, rfl, h1⟩ := hv
  have cS := fun wx hx hb => szWal x (.agg #[.int .i64 x.term, .int .i64 x.vote, .int .i64 x.base, .int .i64 x.bterm, u]) wx w.heap.size 1048576 (by omega) (by omega) hx hf hb
  clear h1 hf hi
  go_enter Tryd.func5, Tryd.ntmps5
  go_wp2_with fail
  have k0 := Blk.new w #[.int .i64 x.term, .int .i64 x.vote, .int .i64 x.base, .int .i64 x.bterm, u] 38
  have hb0 : Below w.heap.size w (w.alloc (.cells #[.int .i64 x.term, .int .i64 x.vote, .int .i64 x.base, .int .i64 x.bterm, u] 38)) := (Below.refl _ _).alloc (Nat.le_refl _) _
  generalize w.alloc (.cells #[.int .i64 x.term, .int .i64 x.vote, .int .i64 x.base, .int .i64 x.bterm, u] 38) = W at *
  have B0 : Hid (Below w.heap.size w W) := hb0
  have K0 : Hid (Blk W w.heap.size #[.int .i64 x.term, .int .i64 x.vote, .int .i64 x.base, .int .i64 x.bterm, u] 38) := k0
  clear hb0 k0
  refine (cS W (HV.out.on B0.out) B0.out.size).mono ?_
  rintro e w1 ⟨r, rfl, hr, hb1⟩
  have B1 : Hid (Below w.heap.size w w1) := B0.out.trans (hb1.mono B0.out.size)
  have K1 : Hid (Blk w1 w.heap.size #[.int .i64 x.term, .int .i64 x.vote, .int .i64 x.base, .int .i64 x.bterm, u] 38) := K0.out.on hb1 K0.out.lt
  clear hb1 cS K0
  rcases hr with rfl | ⟨hr0, hr1⟩
  · go_wp2_with fail
    go_ret
    exact ⟨rfl, B1.out⟩
  have HW : Hid (wtW x ≤ 1048576) := by unfold Hid; omega
  have hr2 : decide (r < 0) = false := decide_eq_false (by omega)
  have cT := fun wx hx hb => toWal x (.agg #[.int .i64 x.term, .int .i64 x.vote, .int .i64 x.base, .int .i64 x.bterm, u]) wx w.heap.size hx HW.out hb
  have y0 := K1.out.cell 0 _ rfl
  have y1 := K1.out.cell 1 _ rfl
  have y2 := K1.out.cell 2 _ rfl
  have y3 := K1.out.cell 3 _ rfl
  have y4 := K1.out.cell 4 _ rfl
  clear hr1
  go_wp2_with fail
  refine (cT w1 (HV.out.on B1.out) B1.out.size).mono ?_
  rintro e w2 ⟨u1, rfl, hO, hb2⟩
  have B2 : Hid (Below w.heap.size w w2) := B1.out.trans (hb2.mono B1.out.size)
  have K2 : Hid (Blk w2 w.heap.size #[.int .i64 x.term, .int .i64 x.vote, .int .i64 x.base, .int .i64 x.bterm, u] 38) := K1.out.on hb2 K1.out.lt
  have c1 := specWalText x u1 w2 w2.heap.size hO.lies HF.out (Nat.le_refl _)
  clear y0 y1 y2 y3 y4 hb2 hO K1
  go_wp2_with fail
  refine c1.mono ?_
  rintro e w3 ⟨rfl, hb3⟩
  have B3 : Hid (Below w.heap.size w w3) := B2.out.trans (hb3.mono B2.out.size)
  have K3 : Hid (Blk w3 w.heap.size #[.int .i64 x.term, .int .i64 x.vote, .int .i64 x.base, .int .i64 x.bterm, u] 38) := K2.out.on hb3 K2.out.lt
  have y0 := K3.out.cell 0 _ rfl
  have y1 := K3.out.cell 1 _ rfl
  have y2 := K3.out.cell 2 _ rfl
  have y3 := K3.out.cell 3 _ rfl
  have y4 := K3.out.cell 4 _ rfl
  clear c1 hb3 K2
  go_wp2_with fail
  refine (cT w3 (HV.out.on B3.out) B3.out.size).mono ?_
  rintro e w4 ⟨x1, rfl, hO4, hb4⟩
  have B4 : Hid (Below w.heap.size w w4) := B3.out.trans (hb4.mono B3.out.size)
  have K4 : Hid (Blk w4 w.heap.size #[.int .i64 x.term, .int .i64 x.vote, .int .i64 x.base, .int .i64 x.bterm, u] 38) := K3.out.on hb4 K3.out.lt
  have O4 : Hid (WalO w4 w3.heap.size x1 x) := hO4
  obtain ⟨z1, rfl, q1⟩ := hO4
  obtain ⟨A1, m1, c1, rfl⟩ := q1.shape
  clear y0 y1 y2 y3 y4 hb4 K3 q1
  go_wp2_with fail
  have k5 := Blk.new w4 #[.int .i64 x.term, .int .i64 x.vote, .int .i64 x.base, .int .i64 x.bterm, .slice A1 m1 c1] 26
  have hb5 : Below w4.heap.size w4 (w4.alloc (.cells #[.int .i64 x.term, .int .i64 x.vote, .int .i64 x.base, .int .i64 x.bterm, .slice A1 m1 c1] 26)) := (Below.refl _ _).alloc (Nat.le_refl _) _
  generalize w4.alloc (.cells #[.int .i64 x.term, .int .i64 x.vote, .int .i64 x.base, .int .i64 x.bterm, .slice A1 m1 c1] 26) = W5 at *
  have B5 : Hid (Below w.heap.size w W5) := B4.out.trans (hb5.mono B4.out.size)
  have K5 : Hid (Blk W5 w.heap.size #[.int .i64 x.term, .int .i64 x.vote, .int .i64 x.base, .int .i64 x.bterm, u] 38) := K4.out.on hb5 K4.out.lt
  have O5 : Hid (WalO W5 w3.heap.size (.agg #[.int .i64 x.term, .int .i64 x.vote, .int .i64 x.base, .int .i64 x.bterm, .slice A1 m1 c1]) x) := O4.out.on hb5
  have X5 : Hid (Blk W5 w4.heap.size #[.int .i64 x.term, .int .i64 x.vote, .int .i64 x.base, .int .i64 x.bterm, .slice A1 m1 c1] 26) := k5
  clear hb5 k5 K4 O4
  generalize w4.heap.size = px at *
  have cOk := implWalText x (.agg #[.int .i64 x.term, .int .i64 x.vote, .int .i64 x.base, .int .i64 x.bterm, .slice A1 m1 c1]) W5 W5.heap.size O5.out.lies HF.out (Nat.le_refl _) (HT.out.on B5.out)
  refine cOk.mono ?_
  rintro e w6 ⟨rfl, hb6⟩
  have Bw6 : Hid (Below w.heap.size w w6) := B5.out.trans (hb6.mono B5.out.size)
  have Kw6 : Hid (Blk w6 w.heap.size #[.int .i64 x.term, .int .i64 x.vote, .int .i64 x.base, .int .i64 x.bterm, u] 38) := K5.out.on hb6 K5.out.lt
  have Ow6 : Hid (WalO w6 w3.heap.size (.agg #[.int .i64 x.term, .int .i64 x.vote, .int .i64 x.base, .int .i64 x.bterm, .slice A1 m1 c1]) x) := O5.out.on hb6
  have Xw6 : Hid (Blk w6 px #[.int .i64 x.term, .int .i64 x.vote, .int .i64 x.base, .int .i64 x.bterm, .slice A1 m1 c1] 26) := X5.out.on hb6 X5.out.lt
  clear cOk hb6 K5 O5 X5
  generalize walT x = ok at *
  have S0 : Hid (w6.drew.cell? ⟨px, 0, none⟩ = some (.int .i64 x.term) ∧ w6.drew.cell? ⟨px, 1, none⟩ = some (.int .i64 x.vote) ∧ w6.drew.cell? ⟨px, 2, none⟩ = some (.int .i64 x.base) ∧ w6.drew.cell? ⟨px, 3, none⟩ = some (.int .i64 x.bterm) ∧ w6.drew.cell? ⟨px, 4, none⟩ = some (.slice A1 m1 c1) ∧ w6.drew.cell? ⟨w.heap.size, 0, none⟩ = some (.int .i64 x.term) ∧ w6.drew.cell? ⟨w.heap.size, 1, none⟩ = some (.int .i64 x.vote) ∧ w6.drew.cell? ⟨w.heap.size, 2, none⟩ = some (.int .i64 x.base) ∧ w6.drew.cell? ⟨w.heap.size, 3, none⟩ = some (.int .i64 x.bterm) ∧ w6.drew.cell? ⟨w.heap.size, 4, none⟩ = some (u)) := ⟨Xw6.out.cell 0 _ rfl, Xw6.out.cell 1 _ rfl, Xw6.out.cell 2 _ rfl, Xw6.out.cell 3 _ rfl, Xw6.out.cell 4 _ rfl, Kw6.out.cell 0 _ rfl, Kw6.out.cell 1 _ rfl, Kw6.out.cell 2 _ rfl, Kw6.out.cell 3 _ rfl, Kw6.out.cell 4 _ rfl⟩
  go_wp2_with fail
  refine wp_region_until (fun w' => w'.cell? ⟨px, 0, none⟩ = some (.int .i64 x.term) ∧ w'.cell? ⟨px, 1, none⟩ = some (.int .i64 x.vote) ∧ w'.cell? ⟨px, 2, none⟩ = some (.int .i64 x.base) ∧ w'.cell? ⟨px, 3, none⟩ = some (.int .i64 x.bterm) ∧ w'.cell? ⟨px, 4, none⟩ = some (.slice A1 m1 c1) ∧ w'.cell? ⟨w.heap.size, 0, none⟩ = some (.int .i64 x.term) ∧ w'.cell? ⟨w.heap.size, 1, none⟩ = some (.int .i64 x.vote) ∧ w'.cell? ⟨w.heap.size, 2, none⟩ = some (.int .i64 x.base) ∧ w'.cell? ⟨w.heap.size, 3, none⟩ = some (.int .i64 x.bterm) ∧ w'.cell? ⟨w.heap.size, 4, none⟩ = some (u)) (fun i => false) 5 (by rfl) (by kernel_rfl) ?_
  refine until_take 0 (v := ?_) (by rfl) (by kernel_rfl) (by exact fun _ _ _ h => h) (by rfl) ?_ S0.out ?_
  rotate_left
  · intro w hSw
    try dsimp only at hSw
    go_simp
    try with_reducible rfl
  try simp only [Act.put, List.setIfInBounds_toArray, List.set_cons_zero, List.set_cons_succ]
  refine until_take 1 (v := ?_) (by rfl) (by kernel_rfl) (by exact fun _ _ _ h => h) (by rfl) ?_ S0.out ?_
  rotate_left
  · intro w hSw
    try dsimp only at hSw
    go_simp
    try with_reducible rfl
  try simp only [Act.put, List.setIfInBounds_toArray, List.set_cons_zero, List.set_cons_succ]
  refine until_one 2 (by rfl) (by kernel_rfl) (fun K hK => ?_)
  go_simp
  refine (cT w6.drew (HV.out.on Bw6.out.drew) Bw6.out.size).mono ?_
  rintro e Q1ra ⟨yra, rfl, hO7, hb7⟩
  have hb71 : Below w6.heap.size w6 Q1ra := (Below.refl _ w6).drew.trans hb7
  have BQ1 : Hid (Below w.heap.size w Q1ra) := Bw6.out.trans (hb71.mono Bw6.out.size)
  have KQ1 := Kw6.out.on hb71 Kw6.out.lt
  have XQ1 := Xw6.out.on hb71 Xw6.out.lt
  have OQ1 := (Ow6.out.on hb71).lies
  have cE := eqWal x (.agg #[.int .i64 x.term, .int .i64 x.vote, .int .i64 x.base, .int .i64 x.bterm, .slice A1 m1 c1]) yra Q1ra Q1ra.heap.size OQ1 hO7.lies (by have := HW.out; unfold wtW at this; omega) (Nat.le_refl _)
  clear hb7 hO7 OQ1
  go_wp2_with fail
  refine hK.out _ _ (fun _ _ => ⟨XQ1.cell 0 _ rfl, XQ1.cell 1 _ rfl, XQ1.cell 2 _ rfl, XQ1.cell 3 _ rfl, XQ1.cell 4 _ rfl, KQ1.cell 0 _ rfl, KQ1.cell 1 _ rfl, KQ1.cell 2 _ rfl, KQ1.cell 3 _ rfl, KQ1.cell 4 _ rfl⟩) ?_
  clear hK K
  try simp only [Act.put, List.setIfInBounds_toArray, List.set_cons_zero, List.set_cons_succ]
  refine until_one 3 (by rfl) (by kernel_rfl) (fun K hK => ?_)
  go_simp
  refine cE.mono ?_
  rintro e w8 ⟨rfl, hb8⟩
  have Kw8 : Hid (Blk w8 w.heap.size _ _) := KQ1.on hb8 KQ1.lt
  have Xw8 : Hid (Blk w8 px _ _) := XQ1.on hb8 XQ1.lt
  have Bw8 : Hid (Below w.heap.size w w8) := BQ1.out.trans (hb8.mono BQ1.out.size)
  have Lw8 : Hid (Below w6.heap.size w6 w8) := hb71.trans (hb8.mono hb71.size)
  clear hb8 hb71 cE
  go_wp2_with fail
  refine hK.out _ _ (fun _ _ => ⟨Xw8.out.cell 0 _ rfl, Xw8.out.cell 1 _ rfl, Xw8.out.cell 2 _ rfl, Xw8.out.cell 3 _ rfl, Xw8.out.cell 4 _ rfl, Kw8.out.cell 0 _ rfl, Kw8.out.cell 1 _ rfl, Kw8.out.cell 2 _ rfl, Kw8.out.cell 3 _ rfl, Kw8.out.cell 4 _ rfl⟩) ?_
  clear hK K KQ1 XQ1 BQ1 S0
  try simp only [Act.put, List.setIfInBounds_toArray, List.set_cons_zero, List.set_cons_succ]
  refine until_pure 4 (v := ?_) (by rfl) (by kernel_rfl) (by exact fun _ _ _ h => h) (by rfl) ?_ ?_
  rotate_left
  · intro w
    go_simp
    try with_reducible rfl
  try simp only [Act.put, List.setIfInBounds_toArray, List.set_cons_zero, List.set_cons_succ]
  refine until_done (by kernel_rfl) ?_ _
  go_wp2_with fail
  go_ret
  exact ⟨rfl, Bw8.out⟩
end Go.Proofs.YtajodeahigmcoaaDoor
