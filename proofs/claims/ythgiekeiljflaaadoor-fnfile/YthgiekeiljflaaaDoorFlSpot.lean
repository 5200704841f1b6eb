/-
  Contract of a writer's writeSpot.
-/
import Derived.Test.YthgiekeiljflaaaDoorGC
import Derived.Test.YthgiekeiljflaaaDoorGB
import Derived.WalkKit
import Derived.ProofKit
import Derived.OpenShut
import Derived.Below
import Derived.WalkSmall
import Derived.BigQuiet
import Derived.Deep.QuietTactic
import Derived.Deep.RegionWith
import Derived.Handy
namespace Go.Proofs.YthgiekeiljflaaaDoor
open Go.ChangeShapes Go.WideShapes Go.ChangeAt Go.RowKit Go.PlainAid
set_option linter.unusedVariables false

/-- What is written of a spot. -/
def spT (x : Spot) : List UInt8 := vF 6 x.key.size ++ (bl x.key ++ (vF 6 x.at' ++ (vF 6 x.size ++ (vF 6 x.first ++ vF 6 x.last))))
theorem spT_is (x : Spot) : txt (vF 6 x.key.size) ++ x.key ++ txt (vF 6 x.at') ++ txt (vF 6 x.size) ++ txt (vF 6 x.first) ++ txt (vF 6 x.last) = txt (spT x) := by
  conv => lhs; rw [← txt_bl x.key, txt_bl x.key]
  rw [show x.key = txt (bl x.key) from (txt_bl _).symm]
  simp only [txt_cat]
  unfold spT
  rw [txt_bl]
  simp only [List.append_assoc]
set_option maxHeartbeats 4000000 in
theorem writeSpotV (t : ByteArray) (x : Spot) (w : World) (g p : Nat) (hb : CurB w g t p 52) (hx : SpFits x) (hs : t.size + x.key.size ≤ 900000) : Calls Tryd.prog 26 #[.pointer (some ⟨g, 0, none⟩), vSp x] w fun e w' => (∃ u, e = .returned u) ∧ CurB w' g (t ++ txt (spT x)) (t ++ txt (spT x)).size 52 ∧ KeptBut g w w' := by
  have HT : Hid (txt (vF 6 x.key.size) ++ x.key ++ txt (vF 6 x.at') ++ txt (vF 6 x.size) ++ txt (vF 6 x.first) ++ txt (vF 6 x.last) = txt (spT x)) := spT_is x
  have hz : ∀ n, (txt (vF 6 n)).size ≤ 7 := fun n => by rw [txt_size]; exact vF_length 6 n
  have z1 := hz x.key.size
  have z2 := hz x.at'
  have z3 := hz x.size
  have z4 := hz x.first
  have z5 := hz x.last
  have c1 := fun wx => impl_var x.key.size wx (by have := hx.1; omega)
  have c2 := fun wx => impl_var x.at' wx hx.2.1
  have c3 := fun wx => impl_var x.size wx hx.2.2.1
  have c4 := fun wx => impl_var x.first wx hx.2.2.2.1
  have c5 := fun wx => impl_var x.last wx hx.2.2.2.2
  have HBw : Hid (CurB w g t p 52) := hb
  clear hz hx hb
  generalize hS : spT x = sp at *
  clear hS
  obtain ⟨xk, xa, xz, xf, xl⟩ := x
  unfold vSp
  simp only at *
  generalize hw1 : txt (vF 6 xk.size) = y1 at *
  generalize hw2 : txt (vF 6 xa) = y2 at *
  generalize hw3 : txt (vF 6 xz) = y3 at *
  generalize hw4 : txt (vF 6 xf) = y4 at *
  generalize hw5 : txt (vF 6 xl) = y5 at *
  clear hw1 hw2 hw3 hw4 hw5
  have q0 : (t.size : Int) + (xk.size : Int) ≤ 900000 := by omega
  have a1 : ((y1 ++ xk).size : Int) = (y1.size : Int) + (xk.size : Int) := by rw [ByteArray.size_append]; omega
  have a2 : ((y1 ++ xk ++ y2).size : Int) = (y1.size : Int) + (xk.size : Int) + (y2.size : Int) := by rw [ByteArray.size_append, ByteArray.size_append]; omega
  have a3 : ((y1 ++ xk ++ y2 ++ y3).size : Int) = (y1.size : Int) + (xk.size : Int) + (y2.size : Int) + (y3.size : Int) := by rw [ByteArray.size_append, ByteArray.size_append, ByteArray.size_append]; omega
  have a4 : ((y1 ++ xk ++ y2 ++ y3 ++ y4).size : Int) = (y1.size : Int) + (xk.size : Int) + (y2.size : Int) + (y3.size : Int) + (y4.size : Int) := by rw [ByteArray.size_append, ByteArray.size_append, ByteArray.size_append, ByteArray.size_append]; omega
  have a5 : ((y1 ++ xk ++ y2 ++ y3 ++ y4 ++ y5).size : Int) = (y1.size : Int) + (xk.size : Int) + (y2.size : Int) + (y3.size : Int) + (y4.size : Int) + (y5.size : Int) := by rw [ByteArray.size_append, ByteArray.size_append, ByteArray.size_append, ByteArray.size_append, ByteArray.size_append]; omega
  have b1 : (y1.size : Int) + (xk.size : Int) ≤ 900007 := by omega
  have b2 : (y1.size : Int) + (xk.size : Int) + (y2.size : Int) ≤ 900014 := by omega
  have b3 : (y1.size : Int) + (xk.size : Int) + (y2.size : Int) + (y3.size : Int) ≤ 900021 := by omega
  have b4 : (y1.size : Int) + (xk.size : Int) + (y2.size : Int) + (y3.size : Int) + (y4.size : Int) ≤ 900028 := by omega
  have b5 : (y1.size : Int) + (xk.size : Int) + (y2.size : Int) + (y3.size : Int) + (y4.size : Int) + (y5.size : Int) ≤ 900035 := by omega
  have n1 : ¬ 9223372036854775807 < y1.size + xk.size := by omega
  have n2 : ¬ 9223372036854775807 < y1.size + xk.size + y2.size := by omega
  have n3 : ¬ 9223372036854775807 < y1.size + xk.size + y2.size + y3.size := by omega
  have n4 : ¬ 9223372036854775807 < y1.size + xk.size + y2.size + y3.size + y4.size := by omega
  have n5 : ¬ 9223372036854775807 < y1.size + xk.size + y2.size + y3.size + y4.size + y5.size := by omega
  have HZ : Hid (t.size + (y1 ++ xk ++ y2 ++ y3 ++ y4 ++ y5).size ≤ 1000000) := by unfold Hid; omega
  have K0 : Hid (Blk (w.alloc (.cells #[.string xk, .int .i64 (xa : Int), .int .i64 (xz : Int), .int .i64 (xf : Int), .int .i64 (xl : Int)] 56)).drew w.heap.size #[.string xk, .int .i64 (xa : Int), .int .i64 (xz : Int), .int .i64 (xf : Int), .int .i64 (xl : Int)] 56) := Blk.new w _ _
  have G0 : Hid (CurB (w.alloc (.cells #[.string xk, .int .i64 (xa : Int), .int .i64 (xz : Int), .int .i64 (xf : Int), .int .i64 (xl : Int)] 56)).drew g t p 52) := Blk.alloc HBw.out _
  have D0 : Hid (KeptBut g w (w.alloc (.cells #[.string xk, .int .i64 (xa : Int), .int .i64 (xz : Int), .int .i64 (xf : Int), .int .i64 (xl : Int)] 56)).drew) := (KeptBut.of ((Below.refl _ w).alloc (Nat.le_refl _) _) (Blk.lt HBw.out)).drew
  have S0 : Hid ((w.alloc (.cells #[.string xk, .int .i64 (xa : Int), .int .i64 (xz : Int), .int .i64 (xf : Int), .int .i64 (xl : Int)] 56)).drew.cell? ⟨w.heap.size, 0, none⟩ = some (.string xk) ∧ (w.alloc (.cells #[.string xk, .int .i64 (xa : Int), .int .i64 (xz : Int), .int .i64 (xf : Int), .int .i64 (xl : Int)] 56)).drew.cell? ⟨w.heap.size, 1, none⟩ = some (.int .i64 (xa : Int)) ∧ (w.alloc (.cells #[.string xk, .int .i64 (xa : Int), .int .i64 (xz : Int), .int .i64 (xf : Int), .int .i64 (xl : Int)] 56)).drew.cell? ⟨w.heap.size, 2, none⟩ = some (.int .i64 (xz : Int)) ∧ (w.alloc (.cells #[.string xk, .int .i64 (xa : Int), .int .i64 (xz : Int), .int .i64 (xf : Int), .int .i64 (xl : Int)] 56)).drew.cell? ⟨w.heap.size, 3, none⟩ = some (.int .i64 (xf : Int)) ∧ (w.alloc (.cells #[.string xk, .int .i64 (xa : Int), .int .i64 (xz : Int), .int .i64 (xf : Int), .int .i64 (xl : Int)] 56)).drew.cell? ⟨w.heap.size, 4, none⟩ = some (.int .i64 (xl : Int))) := ⟨K0.out.cell 0 _ rfl, K0.out.cell 1 _ rfl, K0.out.cell 2 _ rfl, K0.out.cell 3 _ rfl, K0.out.cell 4 _ rfl⟩
  go_enter Tryd.func26, Tryd.ntmps26
  go_wp2_with fail
  refine wp_region_until (fun w' => w'.cell? ⟨w.heap.size, 0, none⟩ = some (.string xk) ∧ w'.cell? ⟨w.heap.size, 1, none⟩ = some (.int .i64 (xa : Int)) ∧ w'.cell? ⟨w.heap.size, 2, none⟩ = some (.int .i64 (xz : Int)) ∧ w'.cell? ⟨w.heap.size, 3, none⟩ = some (.int .i64 (xf : Int)) ∧ w'.cell? ⟨w.heap.size, 4, none⟩ = some (.int .i64 (xl : Int))) (fun _ => false) 25 (by rfl) (by kernel_rfl) ?_
  refine until_take 0 (v := ?_) (by rfl) (by kernel_rfl) (by exact fun _ _ _ h => h) (by rfl) ?_ S0.out ?_
  rotate_left
  · intro w hSw
    try dsimp only at hSw
    go_simp
    try with_reducible rfl
  try simp only [Act.put, List.setIfInBounds_toArray, List.set_cons_zero, List.set_cons_succ]
  refine until_take 1 (v := ?_) (by rfl) (by kernel_rfl) (by exact fun _ _ _ h => h) (by rfl) ?_ S0.out ?_
  rotate_left
  · intro w hSw
    try dsimp only at hSw
    go_simp
    try with_reducible rfl
  try simp only [Act.put, List.setIfInBounds_toArray, List.set_cons_zero, List.set_cons_succ]
  refine until_take 2 (v := ?_) (by rfl) (by kernel_rfl) (by exact fun _ _ _ h => h) (by rfl) ?_ S0.out ?_
  rotate_left
  · intro w hSw
    try dsimp only at hSw
    go_simp
    try with_reducible rfl
  try simp only [Act.put, List.setIfInBounds_toArray, List.set_cons_zero, List.set_cons_succ]
  refine until_take 3 (v := ?_) (by rfl) (by kernel_rfl) (by exact fun _ _ _ h => h) (by rfl) ?_ S0.out ?_
  rotate_left
  · intro w hSw
    try dsimp only at hSw
    go_simp
    try with_reducible rfl
  try simp only [Act.put, List.setIfInBounds_toArray, List.set_cons_zero, List.set_cons_succ]
  refine until_take 5 (v := ?_) (by rfl) (by kernel_rfl) (by exact fun _ _ _ h => h) (by rfl) ?_ S0.out ?_
  rotate_left
  · intro w hSw
    try dsimp only at hSw
    go_simp
    try with_reducible rfl
  try simp only [Act.put, List.setIfInBounds_toArray, List.set_cons_zero, List.set_cons_succ]
  refine until_take 6 (v := ?_) (by rfl) (by kernel_rfl) (by exact fun _ _ _ h => h) (by rfl) ?_ S0.out ?_
  rotate_left
  · intro w hSw
    try dsimp only at hSw
    go_simp
    try with_reducible rfl
  try simp only [Act.put, List.setIfInBounds_toArray, List.set_cons_zero, List.set_cons_succ]
  refine until_take 8 (v := ?_) (by rfl) (by kernel_rfl) (by exact fun _ _ _ h => h) (by rfl) ?_ S0.out ?_
  rotate_left
  · intro w hSw
    try dsimp only at hSw
    go_simp
    try with_reducible rfl
  try simp only [Act.put, List.setIfInBounds_toArray, List.set_cons_zero, List.set_cons_succ]
  refine until_take 9 (v := ?_) (by rfl) (by kernel_rfl) (by exact fun _ _ _ h => h) (by rfl) ?_ S0.out ?_
  rotate_left
  · intro w hSw
    try dsimp only at hSw
    go_simp
    try with_reducible rfl
  try simp only [Act.put, List.setIfInBounds_toArray, List.set_cons_zero, List.set_cons_succ]
  refine until_take 12 (v := ?_) (by rfl) (by kernel_rfl) (by exact fun _ _ _ h => h) (by rfl) ?_ S0.out ?_
  rotate_left
  · intro w hSw
    try dsimp only at hSw
    go_simp
    try with_reducible rfl
  try simp only [Act.put, List.setIfInBounds_toArray, List.set_cons_zero, List.set_cons_succ]
  refine until_take 13 (v := ?_) (by rfl) (by kernel_rfl) (by exact fun _ _ _ h => h) (by rfl) ?_ S0.out ?_
  rotate_left
  · intro w hSw
    try dsimp only at hSw
    go_simp
    try with_reducible rfl
  try simp only [Act.put, List.setIfInBounds_toArray, List.set_cons_zero, List.set_cons_succ]
  refine until_take 16 (v := ?_) (by rfl) (by kernel_rfl) (by exact fun _ _ _ h => h) (by rfl) ?_ S0.out ?_
  rotate_left
  · intro w hSw
    try dsimp only at hSw
    go_simp
    try with_reducible rfl
  try simp only [Act.put, List.setIfInBounds_toArray, List.set_cons_zero, List.set_cons_succ]
  refine until_take 17 (v := ?_) (by rfl) (by kernel_rfl) (by exact fun _ _ _ h => h) (by rfl) ?_ S0.out ?_
  rotate_left
  · intro w hSw
    try dsimp only at hSw
    go_simp
    try with_reducible rfl
  try simp only [Act.put, List.setIfInBounds_toArray, List.set_cons_zero, List.set_cons_succ]
  refine until_take 20 (v := ?_) (by rfl) (by kernel_rfl) (by exact fun _ _ _ h => h) (by rfl) ?_ S0.out ?_
  rotate_left
  · intro w hSw
    try dsimp only at hSw
    go_simp
    try with_reducible rfl
  try simp only [Act.put, List.setIfInBounds_toArray, List.set_cons_zero, List.set_cons_succ]
  refine until_take 21 (v := ?_) (by rfl) (by kernel_rfl) (by exact fun _ _ _ h => h) (by rfl) ?_ S0.out ?_
  rotate_left
  · intro w hSw
    try dsimp only at hSw
    go_simp
    try with_reducible rfl
  try simp only [Act.put, List.setIfInBounds_toArray, List.set_cons_zero, List.set_cons_succ]
  refine until_one 4 (by rfl) (by kernel_rfl) (fun K hK => ?_)
  go_simp
  refine (c1 _).mono ?_
  rintro e X1 ⟨rfl, hb1⟩
  have K1 : Hid (Blk X1 w.heap.size #[.string xk, .int .i64 (xa : Int), .int .i64 (xz : Int), .int .i64 (xf : Int), .int .i64 (xl : Int)] 56) := K0.out.on hb1 K0.out.lt
  have G1 : Hid (CurB X1 g t p 52) := Blk.on G0.out hb1 (Blk.lt G0.out)
  have D1 : Hid (KeptBut g w X1) := D0.out.trans (KeptBut.of hb1 (Blk.lt G0.out))
  clear hb1
  go_wp2_with fail
  refine hK.out _ _ (fun _ _ => ⟨K1.out.cell 0 _ rfl, K1.out.cell 1 _ rfl, K1.out.cell 2 _ rfl, K1.out.cell 3 _ rfl, K1.out.cell 4 _ rfl⟩) ?_
  clear hK K
  try simp only [Act.put, List.setIfInBounds_toArray, List.set_cons_zero, List.set_cons_succ]
  refine until_pure 7 (v := ?_) (by rfl) (by kernel_rfl) (by exact fun _ _ _ h => h) (by rfl) ?_ ?_
  rotate_left
  · intro w
    go_simp
    try with_reducible rfl
  try simp only [Act.put, List.setIfInBounds_toArray, List.set_cons_zero, List.set_cons_succ]
  refine until_one 10 (by rfl) (by kernel_rfl) (fun K hK => ?_)
  go_simp
  refine (c2 _).mono ?_
  rintro e X2 ⟨rfl, hb2⟩
  have K2 : Hid (Blk X2 w.heap.size #[.string xk, .int .i64 (xa : Int), .int .i64 (xz : Int), .int .i64 (xf : Int), .int .i64 (xl : Int)] 56) := K1.out.on hb2 K1.out.lt
  have G2 : Hid (CurB X2 g t p 52) := Blk.on G1.out hb2 (Blk.lt G1.out)
  have D2 : Hid (KeptBut g w X2) := D1.out.trans (KeptBut.of hb2 (Blk.lt G1.out))
  clear hb2
  go_wp2_with fail
  refine hK.out _ _ (fun _ _ => ⟨K2.out.cell 0 _ rfl, K2.out.cell 1 _ rfl, K2.out.cell 2 _ rfl, K2.out.cell 3 _ rfl, K2.out.cell 4 _ rfl⟩) ?_
  clear hK K
  try simp only [Act.put, List.setIfInBounds_toArray, List.set_cons_zero, List.set_cons_succ]
  refine until_pure 11 (v := ?_) (by rfl) (by kernel_rfl) (by exact fun _ _ _ h => h) (by rfl) ?_ ?_
  rotate_left
  · intro w
    go_simp
    try with_reducible rfl
  try simp only [Act.put, List.setIfInBounds_toArray, List.set_cons_zero, List.set_cons_succ]
  refine until_one 14 (by rfl) (by kernel_rfl) (fun K hK => ?_)
  go_simp
  refine (c3 _).mono ?_
  rintro e X3 ⟨rfl, hb3⟩
  have K3 : Hid (Blk X3 w.heap.size #[.string xk, .int .i64 (xa : Int), .int .i64 (xz : Int), .int .i64 (xf : Int), .int .i64 (xl : Int)] 56) := K2.out.on hb3 K2.out.lt
  have G3 : Hid (CurB X3 g t p 52) := Blk.on G2.out hb3 (Blk.lt G2.out)
  have D3 : Hid (KeptBut g w X3) := D2.out.trans (KeptBut.of hb3 (Blk.lt G2.out))
  clear hb3
  go_wp2_with fail
  refine hK.out _ _ (fun _ _ => ⟨K3.out.cell 0 _ rfl, K3.out.cell 1 _ rfl, K3.out.cell 2 _ rfl, K3.out.cell 3 _ rfl, K3.out.cell 4 _ rfl⟩) ?_
  clear hK K
  try simp only [Act.put, List.setIfInBounds_toArray, List.set_cons_zero, List.set_cons_succ]
  refine until_pure 15 (v := ?_) (by rfl) (by kernel_rfl) (by exact fun _ _ _ h => h) (by rfl) ?_ ?_
  rotate_left
  · intro w
    go_simp
    try with_reducible rfl
  try simp only [Act.put, List.setIfInBounds_toArray, List.set_cons_zero, List.set_cons_succ]
  refine until_one 18 (by rfl) (by kernel_rfl) (fun K hK => ?_)
  go_simp
  refine (c4 _).mono ?_
  rintro e X4 ⟨rfl, hb4⟩
  have K4 : Hid (Blk X4 w.heap.size #[.string xk, .int .i64 (xa : Int), .int .i64 (xz : Int), .int .i64 (xf : Int), .int .i64 (xl : Int)] 56) := K3.out.on hb4 K3.out.lt
  have G4 : Hid (CurB X4 g t p 52) := Blk.on G3.out hb4 (Blk.lt G3.out)
  have D4 : Hid (KeptBut g w X4) := D3.out.trans (KeptBut.of hb4 (Blk.lt G3.out))
  clear hb4
  go_wp2_with fail
  refine hK.out _ _ (fun _ _ => ⟨K4.out.cell 0 _ rfl, K4.out.cell 1 _ rfl, K4.out.cell 2 _ rfl, K4.out.cell 3 _ rfl, K4.out.cell 4 _ rfl⟩) ?_
  clear hK K
  try simp only [Act.put, List.setIfInBounds_toArray, List.set_cons_zero, List.set_cons_succ]
  refine until_pure 19 (v := ?_) (by rfl) (by kernel_rfl) (by exact fun _ _ _ h => h) (by rfl) ?_ ?_
  rotate_left
  · intro w
    go_simp
    try with_reducible rfl
  try simp only [Act.put, List.setIfInBounds_toArray, List.set_cons_zero, List.set_cons_succ]
  refine until_one 22 (by rfl) (by kernel_rfl) (fun K hK => ?_)
  go_simp
  refine (c5 _).mono ?_
  rintro e X5 ⟨rfl, hb5⟩
  have K5 : Hid (Blk X5 w.heap.size #[.string xk, .int .i64 (xa : Int), .int .i64 (xz : Int), .int .i64 (xf : Int), .int .i64 (xl : Int)] 56) := K4.out.on hb5 K4.out.lt
  have G5 : Hid (CurB X5 g t p 52) := Blk.on G4.out hb5 (Blk.lt G4.out)
  have D5 : Hid (KeptBut g w X5) := D4.out.trans (KeptBut.of hb5 (Blk.lt G4.out))
  clear hb5
  go_wp2_with fail
  refine hK.out _ _ (fun _ _ => ⟨K5.out.cell 0 _ rfl, K5.out.cell 1 _ rfl, K5.out.cell 2 _ rfl, K5.out.cell 3 _ rfl, K5.out.cell 4 _ rfl⟩) ?_
  clear hK K
  try simp only [Act.put, List.setIfInBounds_toArray, List.set_cons_zero, List.set_cons_succ]
  refine until_pure 23 (v := ?_) (by rfl) (by kernel_rfl) (by exact fun _ _ _ h => h) (by rfl) ?_ ?_
  rotate_left
  · intro w
    go_simp
    try with_reducible rfl
  try simp only [Act.put, List.setIfInBounds_toArray, List.set_cons_zero, List.set_cons_succ]
  refine until_one 24 (by rfl) (by kernel_rfl) (fun K hK => ?_)
  go_simp
  refine (writeV t (y1 ++ xk ++ y2 ++ y3 ++ y4 ++ y5) _ g p G5.out HZ.out).mono ?_
  rintro e X6 ⟨⟨u, rfl⟩, hC, hk⟩
  rw [HT.out] at hC
  have K6 : Hid (Blk X6 w.heap.size #[.string xk, .int .i64 (xa : Int), .int .i64 (xz : Int), .int .i64 (xf : Int), .int .i64 (xl : Int)] 56) := hk.blk K5.out (by have := Blk.lt HBw.out; omega)
  have D6 : Hid (KeptBut g w X6) := D5.out.trans hk
  have C6 : Hid (CurB X6 g (t ++ txt sp) (t ++ txt sp).size 52) := hC
  clear hk hC
  go_wp2_with fail
  refine hK.out _ _ (fun _ _ => ⟨K6.out.cell 0 _ rfl, K6.out.cell 1 _ rfl, K6.out.cell 2 _ rfl, K6.out.cell 3 _ rfl, K6.out.cell 4 _ rfl⟩) ?_
  clear hK K
  try simp only [Act.put, List.setIfInBounds_toArray, List.set_cons_zero, List.set_cons_succ]
  refine until_done (by kernel_rfl) ?_ _
  go_wp2_with fail
  exact bodyPost_end (v := .tuple #[]) (by simp [results, go_sem]) rfl ⟨⟨_, rfl⟩, C6.out, D6.out⟩
end Go.Proofs.YthgiekeiljflaaaDoor
