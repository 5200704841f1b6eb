/- FlSpot SrOk FlText -/
import Derived.Test.YtikknmoeefipmaaGreatDoorQs8
import Derived.Test.YtikknmoeefipmaaGreatDoorQs5
import Derived.WalkKit
import Derived.ProofKit
import Derived.OpenShut
import Derived.Below
import Derived.WalkSmall
import Derived.BigQuiet
import Derived.Deep.QuietTactic
import Derived.Deep.RegionWith
import Derived.Handy
import Derived.Test.YtikknmoeefipmaaGreatDoorRows
import Derived.Test.YtikknmoeefipmaaGreatDoorQs4
import Derived.Test.YtikknmoeefipmaaGreatDoorQs2
import Derived.Test.YtikknmoeefipmaaGreatDoorQs12
import Derived.Test.YtikknmoeefipmaaGreatDoorQs0
open List (setIfInBounds_toArray set_cons_zero set_cons_succ)
namespace Go.Proofs.YtikknmoeefipmaaGreatDoor
open Go.ChangeShapes Go.WideShapes Go.ChangeAt Go.RowKit Go.PlainAid
set_option linter.unusedVariables false
def spT (x : Spot) : List UInt8 := vF 6 x.key.size ++ (bl x.key ++ (vF 6 x.at' ++ (vF 6 x.size ++ (vF 6 x.first ++ vF 6 x.last))))
theorem spT_is (x : Spot) : txt (vF 6 x.key.size) ++ x.key ++ txt (vF 6 x.at') ++ txt (vF 6 x.size) ++ txt (vF 6 x.first) ++ txt (vF 6 x.last) = txt (spT x) := by
 conv => lhs; rw [← txt_bl x.key, txt_bl x.key]
 rw [show x.key = txt (bl x.key) from (txt_bl _).symm]
 simp only [txt_cat]
 unfold spT
 rw [txt_bl]
 simp only [List.append_assoc]
set_option maxHeartbeats 4000000 in
theorem writeSpotV (t : ByteArray) (x : Spot) (w : World) (g p : Nat) (hb : CurB w g t p 177) (hx : SpFits x) (hs : t.size + x.key.size ≤ 900000) : Calls Tryz.prog 129 #[.pointer (some ⟨g, 0, none⟩), vSp x] w fun e w' => (∃ u, e = .returned u) ∧ CurB w' g (t ++ txt (spT x)) (t ++ txt (spT x)).size 177 ∧ KeptBut g w w' := by
 have HT : Hid (txt (vF 6 x.key.size) ++ x.key ++ txt (vF 6 x.at') ++ txt (vF 6 x.size) ++ txt (vF 6 x.first) ++ txt (vF 6 x.last) = txt (spT x)) := spT_is x
 have hz : ∀ n, (txt (vF 6 n)).size ≤ 7 := fun n => by rw [txt_size]; exact vF_length 6 n
 have z1 := hz x.key.size
 have z2 := hz x.at'
 have z3 := hz x.size
 have z4 := hz x.first
 have z5 := hz x.last
 have c1 := fun wx => impl_var x.key.size wx (by have := hx.1; omega)
 have c2 := fun wx => impl_var x.at' wx hx.2.1
 have c3 := fun wx => impl_var x.size wx hx.2.2.1
 have c4 := fun wx => impl_var x.first wx hx.2.2.2.1
 have c5 := fun wx => impl_var x.last wx hx.2.2.2.2
 have HBw : Hid (CurB w g t p 177) := hb
 clear hz hx hb
 generalize hS : spT x = sp at *
 clear hS
 obtain ⟨xk, xa, xz, xf, xl⟩ := x
 unfold vSp
 simp only at *
 generalize hw1 : txt (vF 6 xk.size) = y1 at *
 generalize hw2 : txt (vF 6 xa) = y2 at *
 generalize hw3 : txt (vF 6 xz) = y3 at *
 generalize hw4 : txt (vF 6 xf) = y4 at *
 generalize hw5 : txt (vF 6 xl) = y5 at *
 clear hw1 hw2 hw3 hw4 hw5
 have q0 : (t.size : Int) + (xk.size : Int) ≤ 900000 := by omega
 have a1 : ((y1 ++ xk).size : Int) = (y1.size : Int) + (xk.size : Int) := by rw [ByteArray.size_append]; omega
 have a2 : ((y1 ++ xk ++ y2).size : Int) = (y1.size : Int) + (xk.size : Int) + (y2.size : Int) := by rw [ByteArray.size_append, ByteArray.size_append]; omega
 have a3 : ((y1 ++ xk ++ y2 ++ y3).size : Int) = (y1.size : Int) + (xk.size : Int) + (y2.size : Int) + (y3.size : Int) := by rw [ByteArray.size_append, ByteArray.size_append, ByteArray.size_append]; omega
 have a4 : ((y1 ++ xk ++ y2 ++ y3 ++ y4).size : Int) = (y1.size : Int) + (xk.size : Int) + (y2.size : Int) + (y3.size : Int) + (y4.size : Int) := by rw [ByteArray.size_append, ByteArray.size_append, ByteArray.size_append, ByteArray.size_append]; omega
 have a5 : ((y1 ++ xk ++ y2 ++ y3 ++ y4 ++ y5).size : Int) = (y1.size : Int) + (xk.size : Int) + (y2.size : Int) + (y3.size : Int) + (y4.size : Int) + (y5.size : Int) := by rw [ByteArray.size_append, ByteArray.size_append, ByteArray.size_append, ByteArray.size_append, ByteArray.size_append]; omega
 have b1 : (y1.size : Int) + (xk.size : Int) ≤ 900007 := by omega
 have b2 : (y1.size : Int) + (xk.size : Int) + (y2.size : Int) ≤ 900014 := by omega
 have b3 : (y1.size : Int) + (xk.size : Int) + (y2.size : Int) + (y3.size : Int) ≤ 900021 := by omega
 have b4 : (y1.size : Int) + (xk.size : Int) + (y2.size : Int) + (y3.size : Int) + (y4.size : Int) ≤ 900028 := by omega
 have b5 : (y1.size : Int) + (xk.size : Int) + (y2.size : Int) + (y3.size : Int) + (y4.size : Int) + (y5.size : Int) ≤ 900035 := by omega
 have n1 : ¬ 9223372036854775807 < y1.size + xk.size := by omega
 have n2 : ¬ 9223372036854775807 < y1.size + xk.size + y2.size := by omega
 have n3 : ¬ 9223372036854775807 < y1.size + xk.size + y2.size + y3.size := by omega
 have n4 : ¬ 9223372036854775807 < y1.size + xk.size + y2.size + y3.size + y4.size := by omega
 have n5 : ¬ 9223372036854775807 < y1.size + xk.size + y2.size + y3.size + y4.size + y5.size := by omega
 have HZ : Hid (t.size + (y1 ++ xk ++ y2 ++ y3 ++ y4 ++ y5).size ≤ 1000000) := by unfold Hid; omega
 have K0 : Hid (Blk (w.alloc (.cells #[.string xk, .int .i64 (xa : Int), .int .i64 (xz : Int), .int .i64 (xf : Int), .int .i64 (xl : Int)] 180)).drew w.heap.size #[.string xk, .int .i64 (xa : Int), .int .i64 (xz : Int), .int .i64 (xf : Int), .int .i64 (xl : Int)] 180) := Blk.new w _ _
 have G0 : Hid (CurB (w.alloc (.cells #[.string xk, .int .i64 (xa : Int), .int .i64 (xz : Int), .int .i64 (xf : Int), .int .i64 (xl : Int)] 180)).drew g t p 177) := Blk.alloc HBw.out _
 have D0 : Hid (KeptBut g w (w.alloc (.cells #[.string xk, .int .i64 (xa : Int), .int .i64 (xz : Int), .int .i64 (xf : Int), .int .i64 (xl : Int)] 180)).drew) := (KeptBut.of ((Below.refl _ w).alloc (Nat.le_refl _) _) (Blk.lt HBw.out)).drew
 have S0 : Hid ((w.alloc (.cells #[.string xk, .int .i64 (xa : Int), .int .i64 (xz : Int), .int .i64 (xf : Int), .int .i64 (xl : Int)] 180)).drew.cell? ⟨w.heap.size, 0, none⟩ = some (.string xk) ∧ (w.alloc (.cells #[.string xk, .int .i64 (xa : Int), .int .i64 (xz : Int), .int .i64 (xf : Int), .int .i64 (xl : Int)] 180)).drew.cell? ⟨w.heap.size, 1, none⟩ = some (.int .i64 (xa : Int)) ∧ (w.alloc (.cells #[.string xk, .int .i64 (xa : Int), .int .i64 (xz : Int), .int .i64 (xf : Int), .int .i64 (xl : Int)] 180)).drew.cell? ⟨w.heap.size, 2, none⟩ = some (.int .i64 (xz : Int)) ∧ (w.alloc (.cells #[.string xk, .int .i64 (xa : Int), .int .i64 (xz : Int), .int .i64 (xf : Int), .int .i64 (xl : Int)] 180)).drew.cell? ⟨w.heap.size, 3, none⟩ = some (.int .i64 (xf : Int)) ∧ (w.alloc (.cells #[.string xk, .int .i64 (xa : Int), .int .i64 (xz : Int), .int .i64 (xf : Int), .int .i64 (xl : Int)] 180)).drew.cell? ⟨w.heap.size, 4, none⟩ = some (.int .i64 (xl : Int))) := ⟨K0.out.cell 0 _ rfl, K0.out.cell 1 _ rfl, K0.out.cell 2 _ rfl, K0.out.cell 3 _ rfl, K0.out.cell 4 _ rfl⟩
 go_enter Tryz.func129, Tryz.ntmps129
 go_wp2_with fail
 refine wp_region_until (fun w' => w'.cell? ⟨w.heap.size, 0, none⟩ = some (.string xk) ∧ w'.cell? ⟨w.heap.size, 1, none⟩ = some (.int .i64 (xa : Int)) ∧ w'.cell? ⟨w.heap.size, 2, none⟩ = some (.int .i64 (xz : Int)) ∧ w'.cell? ⟨w.heap.size, 3, none⟩ = some (.int .i64 (xf : Int)) ∧ w'.cell? ⟨w.heap.size, 4, none⟩ = some (.int .i64 (xl : Int))) (fun _ => false) 25 (by rfl) (by kernel_rfl) ?_
 refine tKe 0 (v := ?_) S0.out ?_ ?_; rotate_left; focus (intro w hSw; (try dsimp only at hSw); go_simp; try with_reducible rfl)
 try simp only [Act.put, zQ1, zQ2, zQ3]
 refine tKe 1 (v := ?_) S0.out ?_ ?_; rotate_left; focus (intro w hSw; (try dsimp only at hSw); go_simp; try with_reducible rfl)
 try simp only [Act.put, zQ1, zQ2, zQ3]
 refine tKe 2 (v := ?_) S0.out ?_ ?_; rotate_left; focus (intro w hSw; (try dsimp only at hSw); go_simp; try with_reducible rfl)
 try simp only [Act.put, zQ1, zQ2, zQ3]
 refine tKe 3 (v := ?_) S0.out ?_ ?_; rotate_left; focus (intro w hSw; (try dsimp only at hSw); go_simp; try with_reducible rfl)
 try simp only [Act.put, zQ1, zQ2, zQ3]
 refine tKe 5 (v := ?_) S0.out ?_ ?_; rotate_left; focus (intro w hSw; (try dsimp only at hSw); go_simp; try with_reducible rfl)
 try simp only [Act.put, zQ1, zQ2, zQ3]
 refine tKe 6 (v := ?_) S0.out ?_ ?_; rotate_left; focus (intro w hSw; (try dsimp only at hSw); go_simp; try with_reducible rfl)
 try simp only [Act.put, zQ1, zQ2, zQ3]
 refine tKe 8 (v := ?_) S0.out ?_ ?_; rotate_left; focus (intro w hSw; (try dsimp only at hSw); go_simp; try with_reducible rfl)
 try simp only [Act.put, zQ1, zQ2, zQ3]
 refine tKe 9 (v := ?_) S0.out ?_ ?_; rotate_left; focus (intro w hSw; (try dsimp only at hSw); go_simp; try with_reducible rfl)
 try simp only [Act.put, zQ1, zQ2, zQ3]
 refine tKe 12 (v := ?_) S0.out ?_ ?_; rotate_left; focus (intro w hSw; (try dsimp only at hSw); go_simp; try with_reducible rfl)
 try simp only [Act.put, zQ1, zQ2, zQ3]
 refine tKe 13 (v := ?_) S0.out ?_ ?_; rotate_left; focus (intro w hSw; (try dsimp only at hSw); go_simp; try with_reducible rfl)
 try simp only [Act.put, zQ1, zQ2, zQ3]
 refine tKe 16 (v := ?_) S0.out ?_ ?_; rotate_left; focus (intro w hSw; (try dsimp only at hSw); go_simp; try with_reducible rfl)
 try simp only [Act.put, zQ1, zQ2, zQ3]
 refine tKe 17 (v := ?_) S0.out ?_ ?_; rotate_left; focus (intro w hSw; (try dsimp only at hSw); go_simp; try with_reducible rfl)
 try simp only [Act.put, zQ1, zQ2, zQ3]
 refine tKe 20 (v := ?_) S0.out ?_ ?_; rotate_left; focus (intro w hSw; (try dsimp only at hSw); go_simp; try with_reducible rfl)
 try simp only [Act.put, zQ1, zQ2, zQ3]
 refine tKe 21 (v := ?_) S0.out ?_ ?_; rotate_left; focus (intro w hSw; (try dsimp only at hSw); go_simp; try with_reducible rfl)
 try simp only [Act.put, zQ1, zQ2, zQ3]
 refine uNe 4 (fun K hK => ?_)
 go_simp
 refine (c1 _).mono ?_
 rintro e X1 ⟨rfl, hb1⟩
 have K1 : Hid (Blk X1 w.heap.size #[.string xk, .int .i64 (xa : Int), .int .i64 (xz : Int), .int .i64 (xf : Int), .int .i64 (xl : Int)] 180) := K0.out.on hb1 K0.out.lt
 have G1 : Hid (CurB X1 g t p 177) := Blk.on G0.out hb1 (Blk.lt G0.out)
 have D1 : Hid (KeptBut g w X1) := D0.out.trans (KeptBut.of hb1 (Blk.lt G0.out))
 clear hb1
 go_wp2_with fail
 refine hK.out _ _ (fun _ _ => ⟨K1.out.cell 0 _ rfl, K1.out.cell 1 _ rfl, K1.out.cell 2 _ rfl, K1.out.cell 3 _ rfl, K1.out.cell 4 _ rfl⟩) ?_
 clear hK K
 try simp only [Act.put, zQ1, zQ2, zQ3]
 refine pUr 7 (v := ?_) ?_ ?_; rotate_left; focus (intro w; go_simp; try with_reducible rfl)
 try simp only [Act.put, zQ1, zQ2, zQ3]
 refine uNe 10 (fun K hK => ?_)
 go_simp
 refine (c2 _).mono ?_
 rintro e X2 ⟨rfl, hb2⟩
 have K2 : Hid (Blk X2 w.heap.size #[.string xk, .int .i64 (xa : Int), .int .i64 (xz : Int), .int .i64 (xf : Int), .int .i64 (xl : Int)] 180) := K1.out.on hb2 K1.out.lt
 have G2 : Hid (CurB X2 g t p 177) := Blk.on G1.out hb2 (Blk.lt G1.out)
 have D2 : Hid (KeptBut g w X2) := D1.out.trans (KeptBut.of hb2 (Blk.lt G1.out))
 clear hb2
 go_wp2_with fail
 refine hK.out _ _ (fun _ _ => ⟨K2.out.cell 0 _ rfl, K2.out.cell 1 _ rfl, K2.out.cell 2 _ rfl, K2.out.cell 3 _ rfl, K2.out.cell 4 _ rfl⟩) ?_
 clear hK K
 try simp only [Act.put, zQ1, zQ2, zQ3]
 refine pUr 11 (v := ?_) ?_ ?_; rotate_left; focus (intro w; go_simp; try with_reducible rfl)
 try simp only [Act.put, zQ1, zQ2, zQ3]
 refine uNe 14 (fun K hK => ?_)
 go_simp
 refine (c3 _).mono ?_
 rintro e X3 ⟨rfl, hb3⟩
 have K3 : Hid (Blk X3 w.heap.size #[.string xk, .int .i64 (xa : Int), .int .i64 (xz : Int), .int .i64 (xf : Int), .int .i64 (xl : Int)] 180) := K2.out.on hb3 K2.out.lt
 have G3 : Hid (CurB X3 g t p 177) := Blk.on G2.out hb3 (Blk.lt G2.out)
 have D3 : Hid (KeptBut g w X3) := D2.out.trans (KeptBut.of hb3 (Blk.lt G2.out))
 clear hb3
 go_wp2_with fail
 refine hK.out _ _ (fun _ _ => ⟨K3.out.cell 0 _ rfl, K3.out.cell 1 _ rfl, K3.out.cell 2 _ rfl, K3.out.cell 3 _ rfl, K3.out.cell 4 _ rfl⟩) ?_
 clear hK K
 try simp only [Act.put, zQ1, zQ2, zQ3]
 refine pUr 15 (v := ?_) ?_ ?_; rotate_left; focus (intro w; go_simp; try with_reducible rfl)
 try simp only [Act.put, zQ1, zQ2, zQ3]
 refine uNe 18 (fun K hK => ?_)
 go_simp
 refine (c4 _).mono ?_
 rintro e X4 ⟨rfl, hb4⟩
 have K4 : Hid (Blk X4 w.heap.size #[.string xk, .int .i64 (xa : Int), .int .i64 (xz : Int), .int .i64 (xf : Int), .int .i64 (xl : Int)] 180) := K3.out.on hb4 K3.out.lt
 have G4 : Hid (CurB X4 g t p 177) := Blk.on G3.out hb4 (Blk.lt G3.out)
 have D4 : Hid (KeptBut g w X4) := D3.out.trans (KeptBut.of hb4 (Blk.lt G3.out))
 clear hb4
 go_wp2_with fail
 refine hK.out _ _ (fun _ _ => ⟨K4.out.cell 0 _ rfl, K4.out.cell 1 _ rfl, K4.out.cell 2 _ rfl, K4.out.cell 3 _ rfl, K4.out.cell 4 _ rfl⟩) ?_
 clear hK K
 try simp only [Act.put, zQ1, zQ2, zQ3]
 refine pUr 19 (v := ?_) ?_ ?_; rotate_left; focus (intro w; go_simp; try with_reducible rfl)
 try simp only [Act.put, zQ1, zQ2, zQ3]
 refine uNe 22 (fun K hK => ?_)
 go_simp
 refine (c5 _).mono ?_
 rintro e X5 ⟨rfl, hb5⟩
 have K5 : Hid (Blk X5 w.heap.size #[.string xk, .int .i64 (xa : Int), .int .i64 (xz : Int), .int .i64 (xf : Int), .int .i64 (xl : Int)] 180) := K4.out.on hb5 K4.out.lt
 have G5 : Hid (CurB X5 g t p 177) := Blk.on G4.out hb5 (Blk.lt G4.out)
 have D5 : Hid (KeptBut g w X5) := D4.out.trans (KeptBut.of hb5 (Blk.lt G4.out))
 clear hb5
 go_wp2_with fail
 refine hK.out _ _ (fun _ _ => ⟨K5.out.cell 0 _ rfl, K5.out.cell 1 _ rfl, K5.out.cell 2 _ rfl, K5.out.cell 3 _ rfl, K5.out.cell 4 _ rfl⟩) ?_
 clear hK K
 try simp only [Act.put, zQ1, zQ2, zQ3]
 refine pUr 23 (v := ?_) ?_ ?_; rotate_left; focus (intro w; go_simp; try with_reducible rfl)
 try simp only [Act.put, zQ1, zQ2, zQ3]
 refine uNe 24 (fun K hK => ?_)
 go_simp
 refine (writeV t (y1 ++ xk ++ y2 ++ y3 ++ y4 ++ y5) _ g p G5.out HZ.out).mono ?_
 rintro e X6 ⟨⟨u, rfl⟩, hC, hk⟩
 rw [HT.out] at hC
 have K6 : Hid (Blk X6 w.heap.size #[.string xk, .int .i64 (xa : Int), .int .i64 (xz : Int), .int .i64 (xf : Int), .int .i64 (xl : Int)] 180) := hk.blk K5.out (by have := Blk.lt HBw.out; omega)
 have D6 : Hid (KeptBut g w X6) := D5.out.trans hk
 have C6 : Hid (CurB X6 g (t ++ txt sp) (t ++ txt sp).size 177) := hC
 clear hk hC
 go_wp2_with fail
 refine hK.out _ _ (fun _ _ => ⟨K6.out.cell 0 _ rfl, K6.out.cell 1 _ rfl, K6.out.cell 2 _ rfl, K6.out.cell 3 _ rfl, K6.out.cell 4 _ rfl⟩) ?_
 clear hK K
 try simp only [Act.put, zQ1, zQ2, zQ3]
 refine until_done (by kernel_rfl) ?_ _
 go_wp2_with fail
 exact bodyPost_end (v := .tuple #[]) (by simp [results, go_sem]) rfl ⟨⟨_, rfl⟩, C6.out, D6.out⟩
end Go.Proofs.YtikknmoeefipmaaGreatDoor
namespace Go.Proofs.YtikknmoeefipmaaGreatDoor
open Go.ChangeShapes Go.WideShapes Go.ChangeAt Go.RowKit Go.PlainAid
set_option linter.unusedVariables false
set_option maxHeartbeats 1000000 in
theorem implIsKey (s : ByteArray) (w : World) (hs : s.size ≤ maxLen) : Calls Tryz.prog 52 #[.string s] w fun e w' => e = .returned (.bool (decide (KOk s))) ∧ w = w' := by
 have hbt := get_bn s
 have q0 : (s.size : Int) ≤ 9223372036854775807 := by unfold maxLen at hs; omega
 have HD : Hid (∀ b, (b = true ↔ KOk s) → decide (KOk s) = b) := fun b hb => dec_of b hb
 have HV : Hid (KOk s ↔ 1 ≤ s.size ∧ s.size ≤ 8 ∧ ∀ j, j < s.size → 97 ≤ bn s j ∧ bn s j ≤ 122) := Iff.rfl
 clear hs
 by_cases h0 : s.size = 0
 ·obtain rfl : s = ⟨#[]⟩ := by
   have e : s.data.toList = [] := List.eq_nil_of_length_eq_zero (by rw [Array.length_toList]; exact h0)
   rw [← txt_toList s, e]
   rfl
  clear HV hbt q0 h0
  have he : decide (KOk ⟨#[]⟩) = false := HD.out false ⟨fun h => (by cases h), fun h => absurd h.1 (by simp [ByteArray.size])⟩
  rw [he]
  go_enter Tryz.func52, Tryz.ntmps52
  go_wp2
  go_ret
  exact ⟨rfl, rfl⟩
 have hne : s.toList.isEmpty = false := by
  rw [Lib.toList_data]
  cases e : s.data.toList with
  | nil => exact absurd (by rw [ByteArray.size, ← Array.length_toList, e]; rfl) h0
  | cons a l => rfl
 have H1 : Hid (1 ≤ s.size) := by unfold Hid; omega
 by_cases h2 : (8 : Int) < (s.size : Int)
 ·go_enter Tryz.func52, Tryz.ntmps52
  go_wp2
  go_ret
  refine ⟨?_, rfl⟩
  rw [HD.out false]
  ·rfl
  rw [HV.out]
  exact ⟨fun h => (by cases h), fun h => by omega⟩
 have q1 : (s.size : Int) ≤ 8 := by omega
 have q2 : decide ((8 : Int) < (s.size : Int)) = false := decide_eq_false h2
 clear h2 h0
 go_enter Tryz.func52, Tryz.ntmps52
 go_wp2_with fail
 go_loop [13] (fun v => ∃ k : Nat, k ≤ s.size ∧ v = .int .i64 (k : Int) ∧ Hid (∀ j, j < k → 97 ≤ bn s j ∧ bn s j ≤ 122)) (fun i => s.size - (intOf i).toNat)
 case atStart => exact ⟨0, by omega, rfl, fun j hj => by omega⟩
 case round =>
  obtain ⟨k, hk, rfl, HJ⟩ := hrel
  by_cases hlt : k < s.size
  ·have q4 : (k : Int) < (s.size : Int) := by omega
   have r2 := bn_lt s k
   have HNo : Hid ((bn s k < 97 ∨ 122 < bn s k) → decide (KOk s) = false) := fun h => by
    apply HD.out
    rw [HV.out]
    refine ⟨fun h => (by cases h), fun h2 => ?_⟩
    have := h2.2.2 k hlt
    omega
   by_cases c2 : (bn s k : Int) < 97
   ·go_wp2_with fail
    go_ret
    exact ⟨by rw [HNo.out (.inl (by omega))]; rfl, rfl⟩
   have d2 : decide ((bn s k : Int) < 97) = false := decide_eq_false c2
   by_cases c3 : (122 : Int) < (bn s k : Int)
   ·go_wp2_with fail
    go_ret
    exact ⟨by rw [HNo.out (.inr (by omega))]; rfl, rfl⟩
   have d3 : decide ((122 : Int) < (bn s k : Int)) = false := decide_eq_false c3
   go_wp2_with fail
   go_round
   case rel =>
    refine ⟨k + 1, by omega, by go_num, fun j hj => ?_⟩
    by_cases e : j = k
    ·rw [e]
     omega
    ·exact HJ.out j (by omega)
   case measure => simp [intOf]; omega
  ·obtain rfl : k = s.size := by omega
   go_wp2_with fail
   go_ret
   refine ⟨?_, rfl⟩
   rw [HD.out true]
   ·rfl
   rw [HV.out]
   exact ⟨fun _ => ⟨H1.out, by omega, HJ.out⟩, fun _ => rfl⟩
set_option maxHeartbeats 1000000 in
theorem specKey (s : ByteArray) (w : World) (hs : s.size ≤ maxLen) : Calls Tryz.prog 83 #[.string s] w fun e w' => e = .returned (.bool (decide (KOk s))) ∧ w = w' := by
 have hbt := get_bn s
 have q0 : (s.size : Int) ≤ 9223372036854775807 := by unfold maxLen at hs; omega
 have HD : Hid (∀ b, (b = true ↔ KOk s) → decide (KOk s) = b) := fun b hb => dec_of b hb
 have HV : Hid (KOk s ↔ 1 ≤ s.size ∧ s.size ≤ 8 ∧ ∀ j, j < s.size → 97 ≤ bn s j ∧ bn s j ≤ 122) := Iff.rfl
 clear hs
 by_cases h2 : (s.size : Int) < 1 ∨ (8 : Int) < (s.size : Int)
 ·have c1 := fun wx => in_no (s.size : Int) 1 8 wx h2
  have H2 : Hid ((s.size : Int) < 1 ∨ (8 : Int) < (s.size : Int)) := h2
  clear h2
  go_enter Tryz.func83, Tryz.ntmps83
  go_wp2_with fail
  refine (c1 _).mono ?_
  rintro e w' ⟨rfl, rfl⟩
  go_wp2_with fail
  go_ret
  refine ⟨?_, rfl⟩
  rw [HD.out false]
  ·rfl
  rw [HV.out]
  have := H2.out
  exact ⟨fun h => (by cases h), fun h => by omega⟩
 have c1 := fun wx => in_yes (s.size : Int) 1 8 wx (by omega) (by omega)
 have q1 : (s.size : Int) ≤ 8 := by omega
 have H1 : Hid (1 ≤ s.size) := by unfold Hid; omega
 clear h2
 go_enter Tryz.func83, Tryz.ntmps83
 go_wp2_with fail
 refine (c1 _).mono ?_
 rintro e w' ⟨rfl, rfl⟩
 go_wp2_with fail
 go_loop [3] (fun v => ∃ k : Nat, k ≤ s.size ∧ v = .int .i64 (k : Int) ∧ Hid (∀ j, j < k → 97 ≤ bn s j ∧ bn s j ≤ 122)) (fun i => s.size - (intOf i).toNat)
 case atStart => exact ⟨0, by omega, rfl, fun j hj => by omega⟩
 case round =>
  obtain ⟨k, hk, rfl, HJ⟩ := hrel
  by_cases hlt : k < s.size
  ·have q4 : (k : Int) < (s.size : Int) := by omega
   have r2 := bn_lt s k
   have HNo : Hid ((bn s k < 97 ∨ 122 < bn s k) → decide (KOk s) = false) := fun h => by
    apply HD.out
    rw [HV.out]
    refine ⟨fun h => (by cases h), fun h2 => ?_⟩
    have := h2.2.2 k hlt
    omega
   by_cases c2 : (bn s k : Int) < 97
   ·go_wp2_with fail
    go_ret
    exact ⟨by rw [HNo.out (.inl (by omega))]; rfl, rfl⟩
   have d2 : decide ((bn s k : Int) < 97) = false := decide_eq_false c2
   by_cases c3 : (122 : Int) < (bn s k : Int)
   ·go_wp2_with fail
    go_ret
    exact ⟨by rw [HNo.out (.inr (by omega))]; rfl, rfl⟩
   have d3 : decide ((122 : Int) < (bn s k : Int)) = false := decide_eq_false c3
   go_wp2_with fail
   go_round
   case rel =>
    refine ⟨k + 1, by omega, by go_num, fun j hj => ?_⟩
    by_cases e : j = k
    ·rw [e]
     omega
    ·exact HJ.out j (by omega)
   case measure => simp [intOf]; omega
  ·obtain rfl : k = s.size := by omega
   go_wp2_with fail
   go_ret
   refine ⟨?_, rfl⟩
   rw [HD.out true]
   ·rfl
   rw [HV.out]
   exact ⟨fun _ => ⟨H1.out, by omega, HJ.out⟩, fun _ => rfl⟩
set_option maxHeartbeats 4000000 in
theorem implSeriesOk (l : List Ser) (v : Value) (w : World) (B : Nat) (hv : SerV w B v l) (hn : SShort l) (hf : ∀ x ∈ l, x.key.size ≤ maxLen) (hB : B ≤ w.heap.size) : Calls Tryz.prog 55 #[v] w fun e w' => e = .returned (.bool (decide (SOk l))) ∧ Below w.heap.size w w' := by
 obtain ⟨A, cap, rfl, hl⟩ := hv.look
 have HL : Hid (∀ j, j < l.length → ∃ g off u, A = some ⟨g, off, none⟩ ∧ g < B ∧ w.cell? ⟨g, off + j * 2, none⟩ = some (.string (sAt l j).key) ∧ w.cell? ⟨g, off + j * 2 + 1, none⟩ = some u ∧ Lies w B 2 u (ptR (sAt l j).pts)) := hl
 have HB : Hid (B ≤ w.heap.size) := hB
 have HF : Hid (∀ j, j < l.length → (sAt l j).key.size ≤ maxLen ∧ (sAt l j).pts.length ≤ 1048576) := fun j hj => ⟨hf _ (getD_mem l j hj), hn.2 _ (getD_mem l j hj)⟩
 have HD : Hid (∀ b, (b = true ↔ SOk l) → decide (SOk l) = b) := fun b hb => dec_of b hb
 have HV : Hid (SOk l ↔ l.length ≤ 5 ∧ ∀ j, j < l.length → (KOk (sAt l j).key ∧ (0 < j → ahd (sAt l (j - 1)).key (sAt l j).key = true)) ∧ 1 ≤ (sAt l j).pts.length ∧ POk (sAt l j).pts) := Iff.rfl
 have q0 : (l.length : Int) ≤ 1048576 := by have := hn.1; omega
 clear hl hn hv hB hf
 generalize hN : l.length = n at *
 clear hN
 by_cases h2 : (5 : Int) < (n : Int)
 ·go_enter Tryz.func55, Tryz.ntmps55
  go_wp2
  go_ret
  refine ⟨?_, Below.refl _ _⟩
  rw [HD.out false]
  ·rfl
  rw [HV.out]
  exact ⟨fun h => (by cases h), fun h => by omega⟩
 have q1 : (n : Int) ≤ 5 := by omega
 clear h2
 go_enter Tryz.func55, Tryz.ntmps55
 go_wp2_with fail
 go_loopw [3, 11] (fun v3 v11 wr => ∃ (k : Nat) (m : ByteArray), k ≤ n ∧ v11 = .int .i64 (k : Int) ∧ v3 = .string m ∧ Hid ((k = 0 → m = ⟨#[]⟩) ∧ (0 < k → m = (sAt l (k - 1)).key)) ∧ Below w.heap.size w wr ∧ Hid (∀ j, j < k → (KOk (sAt l j).key ∧ (0 < j → ahd (sAt l (j - 1)).key (sAt l j).key = true)) ∧ 1 ≤ (sAt l j).pts.length ∧ POk (sAt l j).pts)) (fun _ i _ => n - (intOf i).toNat)
 case atStart => exact ⟨0, ⟨#[]⟩, by omega, rfl, rfl, ⟨fun _ => rfl, fun h => by omega⟩, Below.refl _ _, fun j hj => by omega⟩
 case round =>
  obtain ⟨k, m, hk, rfl, rfl, HM, hb, HJ⟩ := hrel
  have HB1 : Hid (Below w.heap.size w wr) := hb
  clear hb
  by_cases hlt : k < n
  ·have q2 : (k : Int) < (n : Int) := by omega
   obtain ⟨g, off, u, rfl, hg, e1, e2, hu⟩ := HL.out k hlt
   have hgw : g < w.heap.size := Nat.lt_of_lt_of_le hg HB.out
   rw [← HB1.out.cell (p := ⟨_, _, none⟩) hgw] at e1
   rw [← HB1.out.cell (p := ⟨_, _, none⟩) hgw] at e2
   have hfk := HF.out k hlt
   have HK : Hid ((sAt l k).key.size ≤ maxLen) := hfk.1
   have HPn : Hid ((sAt l k).pts.length ≤ 1048576) := hfk.2
   obtain ⟨A', cap', rfl, _⟩ := pt_look hu
   have HU : Hid (Lies wr B 2 (.slice A' (sAt l k).pts.length cap') (ptR (sAt l k).pts)) := hu.on (HB1.out.mono HB.out)
   clear hu hfk
   have HX : Hid ((ahd m (sAt l k).key = true ↔ (0 < k → ahd (sAt l (k - 1)).key (sAt l k).key = true)) ∨ ¬ KOk (sAt l k).key) := by
    by_cases hkk : KOk (sAt l k).key
    ·left
     by_cases h0 : k = 0
     ·rw [HM.out.1 h0]
      exact ⟨fun _ h => by omega, fun _ => ahd_empty _ hkk.1⟩
     ·rw [HM.out.2 (by omega)]
      exact ⟨fun h _ => h, fun h => h (by omega)⟩
    ·exact .inr hkk
   have HNo : Hid ((¬ KOk (sAt l k).key ∨ ahd m (sAt l k).key = false ∨ (sAt l k).pts.length = 0 ∨ ¬ POk (sAt l k).pts) → decide (SOk l) = false) := fun h => by
    apply HD.out
    rw [HV.out]
    refine ⟨fun h => (by cases h), fun h2 => ?_⟩
    have h3 := h2.2 k hlt
    rcases h with h | h | h | h
    ·exact absurd h3.1.1 h
    ·rcases HX.out with hx | hx
     ·have := hx.2 h3.1.2
      rw [h] at this
      cases this
     ·exact absurd h3.1.1 hx
    ·omega
    ·exact absurd h3.2.2 h
   have HYes : Hid ((KOk (sAt l k).key ∧ ahd m (sAt l k).key = true ∧ 1 ≤ (sAt l k).pts.length ∧ POk (sAt l k).pts) → (KOk (sAt l k).key ∧ (0 < k → ahd (sAt l (k - 1)).key (sAt l k).key = true)) ∧ 1 ≤ (sAt l k).pts.length ∧ POk (sAt l k).pts) := fun h => by
    rcases HX.out with hx | hx
    ·exact ⟨⟨h.1, hx.1 h.2.1⟩, h.2.2⟩
    ·exact absurd h.1 hx
   have HM2 : Hid (∀ x, x = sAt l k → ((k + 1 = 0 → x.key = ⟨#[]⟩) ∧ (0 < k + 1 → x.key = (sAt l (k + 1 - 1)).key))) := fun x hx => ⟨fun h => by omega, fun _ => by rw [Nat.add_sub_cancel, hx]⟩
   have HJ2 : Hid ((KOk (sAt l k).key ∧ (0 < k → ahd (sAt l (k - 1)).key (sAt l k).key = true)) ∧ 1 ≤ (sAt l k).pts.length ∧ POk (sAt l k).pts → ∀ j, j < k + 1 → (KOk (sAt l j).key ∧ (0 < j → ahd (sAt l (j - 1)).key (sAt l j).key = true)) ∧ 1 ≤ (sAt l j).pts.length ∧ POk (sAt l j).pts) := fun h j hj => by
    by_cases e : j = k
    ·rw [e]; exact h
    ·exact HJ.out j (by omega)
   clear HX
   generalize hx : sAt l k = x at *
   have HXx : Hid (x = sAt l k) := hx.symm
   clear hx hgw hg
   obtain ⟨xk, xp⟩ := x
   simp only at e1 e2 HK HPn HU HNo HYes HJ2
   have c1 := fun wx => implIsKey xk wx HK.out
   have HWa : Hid (∀ cs, Below w.heap.size w (wr.alloc (.cells cs 98))) := fun cs => HB1.out.alloc HB1.out.size _
   have HWu : Hid (∀ cs, Below wr.heap.size wr (wr.alloc (.cells cs 98))) := fun cs => (Below.refl _ wr).alloc (Nat.le_refl _) _
   by_cases k1 : ¬ KOk xk
   ·rw [decide_eq_false k1] at c1
    have K1 : Hid (¬ KOk xk) := k1
    clear k1
    go_wp2_with fail
    refine (c1 _).mono ?_
    rintro e w' ⟨rfl, rfl⟩
    go_wp2_with fail
    go_ret
    exact ⟨by rw [HNo.out (.inl K1.out)]; rfl, HWa.out _⟩
   have K1 : Hid (KOk xk) := (Decidable.not_not (p := KOk xk)).1 k1
   rw [decide_eq_true K1.out] at c1
   clear k1
   cases k2 : ahd m xk with
   | false =>
    have KN : Hid (decide (SOk l) = false) := HNo.out (.inr (.inl k2))
    rcases ahd_no k2 with hle | rfl
    ·clear k2
     go_wp2_with fail
     refine (c1 _).mono ?_
     rintro e w' ⟨rfl, rfl⟩
     go_wp2_with fail
     go_ret
     exact ⟨by rw [KN.out]; rfl, HWa.out _⟩
    ·have hle := less_irrefl xk.toList
     clear k2
     go_wp2_with fail
     refine (c1 _).mono ?_
     rintro e w' ⟨rfl, rfl⟩
     go_wp2_with fail
     go_ret
     exact ⟨by rw [KN.out]; rfl, HWa.out _⟩
   | true =>
   obtain ⟨hle, hle2⟩ := ahd_yes k2
   have K2 : Hid (ahd m xk = true) := k2
   clear k2
   by_cases k3 : xp.length = 0
   ·have K3 : Hid (xp.length = 0) := k3
    rw [k3] at HU e2
    clear k3
    go_wp2_with fail
    refine (c1 _).mono ?_
    rintro e w' ⟨rfl, rfl⟩
    go_wp2_with fail
    go_ret
    exact ⟨by rw [HNo.out (.inr (.inr (.inl K3.out)))]; rfl, HWa.out _⟩
   have K3 : Hid (1 ≤ xp.length) := by unfold Hid; omega
   have d3 : decide ((xp.length : Int) = 0) = false := decide_eq_false (by omega)
   have d4 : ((xp.length : Int) == 0) = false := by rw [beq_eq_false_iff_ne]; omega
   have c2 := fun (cs : Array Value) => implPointsOk xp (.slice A' xp.length cap') (wr.alloc (.cells cs 98)) B (HU.out.on ((HWu.out cs).mono (Nat.le_trans HB.out HB1.out.size))) HPn.out (Nat.le_trans HB.out (HWa.out cs).size)
   clear k3
   generalize hpn : xp.length = pn at *
   by_cases k4 : ¬ POk xp
   ·rw [decide_eq_false k4] at c2
    have K4 : Hid (¬ POk xp) := k4
    clear k4
    go_wp2_with fail
    refine (c1 _).mono ?_
    rintro e w' ⟨rfl, rfl⟩
    go_wp2_with fail
    refine (c2 _).mono ?_
    rintro e w' ⟨rfl, hb2⟩
    have B2 : Hid (Below w.heap.size w w') := (HWa.out _).trans (hb2.mono (HWa.out _).size)
    clear hb2
    go_wp2_with fail
    go_ret
    exact ⟨by rw [HNo.out (.inr (.inr (.inr K4.out)))]; rfl, B2.out⟩
   have K4 : Hid (POk xp) := (Decidable.not_not (p := POk xp)).1 k4
   rw [decide_eq_true K4.out] at c2
   clear k4
   go_wp2_with fail
   refine (c1 _).mono ?_
   rintro e w' ⟨rfl, rfl⟩
   go_wp2_with fail
   refine (c2 _).mono ?_
   rintro e w' ⟨rfl, hb2⟩
   have B2 : Hid (Below w.heap.size w w') := (HWa.out _).trans (hb2.mono (HWa.out _).size)
   have m0 := (Blk.new wr #[.string xk, .slice A' pn cap'] 98).on hb2 (by rw [World.size_alloc]; omega)
   have m1 := m0.cell 0 _ rfl
   clear hb2 m0
   go_wp2_with fail
   go_roundw
   case rel => exact ⟨k + 1, xk, by omega, by go_num, rfl, HM2.out ⟨xk, xp⟩ rfl, B2.out, HJ2.out (HYes.out ⟨K1.out, K2.out, K3.out, K4.out⟩)⟩
   case measure => simp [intOf]; omega
  ·obtain rfl : k = n := by omega
   go_wp2_with fail
   go_ret
   refine ⟨?_, HB1.out⟩
   rw [HD.out true]
   ·rfl
   rw [HV.out]
   exact ⟨fun _ => ⟨by omega, HJ.out⟩, fun _ => rfl⟩
end Go.Proofs.YtikknmoeefipmaaGreatDoor
namespace Go.Proofs.YtikknmoeefipmaaGreatDoor
open Go.ChangeShapes Go.WideShapes Go.ChangeAt Go.RowKit Go.PlainAid
set_option linter.unusedVariables false
def upB (l : List Ser) (k : Nat) : List UInt8 := magic ++ blks l k
def upI (l : List Ser) (k : Nat) : List UInt8 := magic ++ (blks l l.length ++ idxB l k)
theorem upB_zero (l : List Ser) : (⟨#[]⟩ : ByteArray) ++ ⟨#[116, 115, 98, 49]⟩ = txt (upB l 0) := by
 show txt [] ++ txt magic = _
 rw [txt_cat, upB, blks, cat_zero, List.append_nil, List.nil_append]
theorem upB_succ (l : List Ser) (k : Nat) : txt (upB l k) ++ showB (sAt l k).pts = txt (upB l (k + 1)) := by
 conv => lhs; arg 2; rw [← txt_bl (showB (sAt l k).pts)]
 rw [txt_cat]
 unfold upB blks
 rw [cat_succ, List.append_assoc]
 rfl
theorem upB_size (l : List Ser) (k : Nat) : (txt (upB l k)).size = atB l k := by rw [txt_size, upB, List.length_append]; rfl
theorem upI_zero (l : List Ser) : upB l l.length = upI l 0 := by unfold upB upI idxB; rw [cat_zero, List.append_nil]
theorem upI_succ (l : List Ser) (k : Nat) : txt (upI l k) ++ txt (spB l k) = txt (upI l (k + 1)) := by
 rw [txt_cat]
 unfold upI idxB
 rw [cat_succ]
 simp only [List.append_assoc]
theorem upI_size {l : List Ser} (h : SOk l) (k : Nat) (hk : k ≤ l.length) : (txt (upI l k)).size ≤ 5000 := by
 have h1 := blks_length l l.length
 have h2 := idxB_length h k hk
 have := h.1
 rw [txt_size, upI, List.length_append, List.length_append]
 have : magic.length = 4 := rfl
 omega
theorem body_four {l : List Ser} (h : SOk l) : txt (upI l l.length) ++ fixed (atB l l.length) 4 = txt (bodyF l) := by
 have := atB_le h l.length (Nat.le_refl _)
 rw [fixed_four _ (by omega), four, txt_cat]
 unfold upI bodyF
 simp only [List.append_assoc]
theorem file_four (l : List Ser) : txt (bodyF l) ++ fixed (crc (txt (bodyF l))) 4 = txt (fileB l) := by
 rw [fixed_four _ (crc_lt _), four, txt_cat]
 rfl
theorem spot_is {l : List Ser} (h : SOk l) (k : Nat) (hk : k < l.length) : (⟨(sAt l k).key, (txt (upB l k)).size, (showB (sAt l k).pts).size, (tAt (sAt l k).pts 0).toNat, (tAt (sAt l k).pts ((sAt l k).pts.length - 1)).toNat⟩ : Spot) = spotOf l k := by
 unfold spotOf
 rw [upB_size, ← bl_length]
 rfl
theorem spotOf_fits {l : List Ser} (h : SOk l) (k : Nat) (hk : k < l.length) : SpFits (spotOf l k) := by
 obtain ⟨h1, h2, h3, h4, h5⟩ := nums_le h k hk
 have := h.key k hk
 exact ⟨show (sAt l k).key.size ≤ 1048576 by omega, h2, h3, h4, h5⟩
theorem spots_snoc (l : List Ser) (k : Nat) : (List.range (k + 1)).map (spotOf l) = (List.range k).map (spotOf l) ++ [spotOf l k] := by rw [List.range_succ, List.map_append]; rfl
theorem range_get (l : List Ser) (n k : Nat) (hk : k < n) : ((List.range n).map (spotOf l)).getD k default = spotOf l k := by
 rw [← getD_at _ k (by simpa using hk), List.getElem_map, List.getElem_range]
theorem fileT_no {l : List Ser} (h : ¬ (1 ≤ l.length ∧ SOk l)) : fileT l = ⟨#[]⟩ := by unfold fileT; rw [if_neg h]; rfl
theorem fileT_yes {l : List Ser} (h : 1 ≤ l.length ∧ SOk l) : fileT l = txt (fileB l) := by unfold fileT; rw [if_pos h]
theorem bodyF_size {l : List Ser} (h : SOk l) : (txt (bodyF l)).size ≤ 5000 := by rw [txt_size]; exact (bodyF_length h).2
theorem four_small (n : Nat) : (fixed n 4).size ≤ 4 := by
 unfold fixed
 split <;> rw [txt_size]
 ·rw [low_length]; omega
 ·simp
set_option maxHeartbeats 4000000 in
theorem implFileText (l : List Ser) (v : Value) (w : World) (B : Nat) (hv : SerV w B v l) (hn : SShort l) (hf : ∀ x ∈ l, x.key.size ≤ maxLen) (hB : B ≤ w.heap.size) (hst : SumTab w) : Calls Tryz.prog 94 #[v] w fun e w' => e = .returned (.string (fileT l)) ∧ Below w.heap.size w w' := by
 have c1 := implSeriesOk l v w B hv hn hf hB
 have ST : Hid (SumTab w) := hst
 clear hst
 obtain ⟨A, cap, rfl, hl⟩ := hv.look
 have HV0 : Hid (SerV w B (.slice A l.length cap) l) := hv
 have HL : Hid (∀ j, j < l.length → ∃ g off u, A = some ⟨g, off, none⟩ ∧ g < B ∧ w.cell? ⟨g, off + j * 2, none⟩ = some (.string (sAt l j).key) ∧ w.cell? ⟨g, off + j * 2 + 1, none⟩ = some u ∧ Lies w B 2 u (ptR (sAt l j).pts)) := hl
 have HB : Hid (B ≤ w.heap.size) := hB
 have q0 : (l.length : Int) ≤ 1048576 := by have := hn.1; omega
 clear hl hn hv hB hf
 by_cases h0 : l.length = 0
 ·have HE : Hid (fileT l = ⟨#[]⟩) := fileT_no (fun hh => by omega)
  rw [h0]
  clear c1 h0 q0 HV0
  go_enter Tryz.func94, Tryz.ntmps94
  go_wp2_with fail
  go_ret
  exact ⟨by rw [HE.out]; rfl, Below.refl _ _⟩
 have d0 : ((l.length : Int) == 0) = false := by rw [beq_eq_false_iff_ne]; omega
 have d1 : decide ((l.length : Int) = 0) = false := decide_eq_false (by omega)
 by_cases hok : ¬ SOk l
 ·have HE : Hid (fileT l = ⟨#[]⟩) := fileT_no (fun hh => hok hh.2)
  rw [decide_eq_false hok] at c1
  clear hok
  go_enter Tryz.func94, Tryz.ntmps94
  go_wp2_with fail
  refine c1.mono ?_
  rintro e w1 ⟨rfl, hb1⟩
  go_wp2_with fail
  go_ret
  exact ⟨by rw [HE.out]; rfl, hb1⟩
 have HK : Hid (SOk l) := (Decidable.not_not (p := SOk l)).1 hok
 rw [decide_eq_true HK.out] at c1
 have HE : Hid (fileT l = txt (fileB l)) := fileT_yes ⟨by omega, HK.out⟩
 have H1 : Hid (1 ≤ l.length) := by unfold Hid; omega
 have q1 : (l.length : Int) ≤ 5 := by have := HK.out.1; omega
 clear hok h0
 generalize hN : l.length = n at *
 have HN : Hid (l.length = n) := hN
 clear hN
 go_enter Tryz.func94, Tryz.ntmps94
 go_wp2_with fail
 refine c1.mono ?_
 rintro e w1 ⟨rfl, hb1⟩
 have B1 : Hid (Below w.heap.size w w1) := hb1
 have C1 : Hid (CurB (w1.alloc (.cells #[.string ⟨#[]⟩, .int .i64 0] 177)) w1.heap.size ⟨#[]⟩ 0 177) := Blk.new w1 _ _
 have HG : Hid (w.heap.size ≤ w1.heap.size) := hb1.size
 have B1a : Hid (Below w.heap.size w (w1.alloc (.cells #[.string ⟨#[]⟩, .int .i64 0] 177))) := hb1.alloc hb1.size _
 clear hb1 c1
 generalize hg : w1.heap.size = g at *
 go_wp2_with fail
 refine (writeV ⟨#[]⟩ ⟨#[116, 115, 98, 49]⟩ _ g 0 C1.out (by simp [ByteArray.size])).mono ?_
 rintro e X0 ⟨⟨uu, rfl⟩, hC, hk⟩
 rw [upB_zero l, upB_size] at hC
 have B0 : Hid (Below w.heap.size w X0) := B1a.out.trans (hk.1.mono HG.out)
 have C0 : Hid (CurB X0 g (txt (upB l 0)) (atB l 0) 177) := hC
 clear hk hC hg
 go_wp2_with fail
 go_loopw [4, 21] (fun v4 v21 wr => ∃ k : Nat, k ≤ n ∧ v21 = .int .i64 (k : Int) ∧ Owns wr w.heap.size 180 5 v4 (spR ((List.range k).map (spotOf l))) ∧ CurB wr g (txt (upB l k)) (atB l k) 177 ∧ Below w.heap.size w wr) (fun _ i _ => n - (intOf i).toNat)
 case atStart => exact ⟨0, by omega, rfl, Owns.nil _ _ _ _, C0.out, B0.out⟩
 case round =>
  obtain ⟨k, hk, rfl, hO, hC, hb⟩ := hrel
  have HO : Hid (Owns wr w.heap.size 180 5 u4 (spR ((List.range k).map (spotOf l)))) := hO
  have HC : Hid (CurB wr g (txt (upB l k)) (atB l k) 177) := hC
  have HB1 : Hid (Below w.heap.size w wr) := hb
  clear hO hC hb
  by_cases hlt : k < n
  ·have q4 : (k : Int) < (n : Int) := by omega
   obtain ⟨gs, off, us, rfl, hg, e1, e2, hu⟩ := HL.out k hlt
   have hgw : gs < w.heap.size := Nat.lt_of_lt_of_le hg HB.out
   rw [← HB1.out.cell (p := ⟨_, _, none⟩) hgw] at e1
   rw [← HB1.out.cell (p := ⟨_, _, none⟩) hgw] at e2
   have HU : Hid (Lies wr B 2 us (ptR (sAt l k).pts)) := hu.on (HB1.out.mono HB.out)
   obtain ⟨A', cap', rfl, _⟩ := pt_look hu
   have hsk := HK.out.2 k (by have := HN.out; omega)
   have HP1 : Hid (1 ≤ (sAt l k).pts.length ∧ POk (sAt l k).pts) := hsk.2
   have HSp : Hid ((⟨(sAt l k).key, (txt (upB l k)).size, (showB (sAt l k).pts).size, (tAt (sAt l k).pts 0).toNat, (tAt (sAt l k).pts ((sAt l k).pts.length - 1)).toNat⟩ : Spot) = spotOf l k) := spot_is HK.out k (by have := HN.out; omega)
   have HSu : Hid (txt (upB l k) ++ showB (sAt l k).pts = txt (upB l (k + 1))) := upB_succ l k
   have HSz : Hid ((txt (upB l k)).size = atB l k ∧ (txt (upB l (k + 1))).size = atB l (k + 1) ∧ atB l k ≤ 4504) := ⟨upB_size l k, upB_size l (k + 1), atB_le HK.out k (by have := HN.out; omega)⟩
   clear hu hsk
   have HWa : Hid (∀ cs, Below w.heap.size w (wr.alloc (.cells cs 98))) := fun cs => HB1.out.alloc HB1.out.size _
   have HWu : Hid (∀ cs, Below wr.heap.size wr (wr.alloc (.cells cs 98))) := fun cs => (Below.refl _ wr).alloc (Nat.le_refl _) _
   generalize hx : sAt l k = x at *
   clear hx hgw hg
   obtain ⟨xk, xp⟩ := x
   simp only at e1 e2 HU HP1 HSp HSu
   have cw := fun (cs : Array Value) => writeBlockV (txt (upB l k)) ⟨xk, xp⟩ (.slice A' xp.length cap') (wr.alloc (.cells cs 98)) g B (by rw [HSz.out.1]; exact Blk.alloc HC.out _) (HU.out.on ((HWu.out cs).mono (Nat.le_trans HB.out HB1.out.size))) HP1.out.1 HP1.out.2 (Nat.le_trans HB.out HG.out) (by rw [HSz.out.1]; have := HSz.out; omega) (ST.out.on (HWa.out cs))
   simp only [HSp.out, HSu.out, HSz.out.2.1] at cw
   unfold vSr vSp at cw
   generalize hpn : xp.length = pn at *
   go_wp2_with fail
   refine (cw _).mono ?_
   rintro e X1 ⟨rfl, hC1, hk1⟩
   have C1 : Hid (CurB X1 g (txt (upB l (k + 1))) (atB l (k + 1)) 177) := hC1
   have B1 : Hid (Below w.heap.size w X1) := (HWa.out _).trans (hk1.1.mono HG.out)
   have O1 : Hid (Owns X1 w.heap.size 180 5 u4 (spR ((List.range k).map (spotOf l)))) := hk1.owns (HO.out.alloc _) ((HO.out.alloc (.cells #[.string xk, .slice A' pn cap'] 98)).notBlk (Blk.alloc HC.out (.cells #[.string xk, .slice A' pn cap'] 98)) (by decide))
   have NB : Hid (u4.ownBlock ≠ some g) := O1.out.notBlk C1.out (by decide)
   have Z1 : w.heap.size ≤ X1.heap.size := B1.out.size
   have L2 : Hid ((spR ((List.range k).map (spotOf l))).length ≤ 2097152) := by unfold Hid; rw [spR_length, List.length_map, List.length_range]; omega
   clear hC1 hk1 cw
   go_wp2_with (at_builtin; refine wpList_append_row (w := X1) rfl (.tmp 25) (.tmp 28) 163 180 (.agg #[.string ⟨#[]⟩, .int .i64 0, .int .i64 0, .int .i64 0, .int .i64 0]) 5 48 rfl Tryz.underlying163 Tryz.infoSp rfl (by omega) w.heap.size u4 (spR ((List.range k).map (spotOf l))) rfl O1.out (spC (spotOf l k)) rfl (sp_one _) rfl L2.out (by omega) Z1 ?_; intro v2 w4 hO4 hb4 hk4 hw4; refine Shut.out ?_)
   unfold Shut
   have P2 : Hid (Owns w4 w.heap.size 180 5 v2 (spR ((List.range (k + 1)).map (spotOf l)))) := by unfold Hid; rw [spots_snoc, spR_append]; exact hO4
   have C4 : Hid (CurB w4 g (txt (upB l (k + 1))) (atB l (k + 1)) 177) := (hk4 g (Blk.lt C1.out) NB.out).trans C1.out
   have B4 : Hid (Below w.heap.size w w4) := B1.out.trans hb4
   clear hO4 hb4 hk4 hw4
   go_wp2_with fail
   go_roundw
   case rel => exact ⟨k + 1, by omega, by go_num, P2.out, C4.out, B4.out⟩
   case measure => simp [intOf]; omega
  ·obtain rfl : k = n := by omega
   have mm : wr.cell? ⟨g, 1, none⟩ = some (.int .i64 (atB l k : Int)) := Blk.cell HC.out 1 _ rfl
   have HSz : Hid (atB l k ≤ 4504) := atB_le HK.out k (by have := HN.out; omega)
   obtain ⟨A4, c4, e4, hl4⟩ := sp_look HO.out.lies
   rw [List.length_map, List.length_range] at e4
   subst e4
   obtain ⟨g4, o4, rfl, _⟩ := hl4 0 (by rw [List.length_map, List.length_range]; have := H1.out; omega)
   clear hl4
   have NB : Hid (g4 ≠ g) := fun e => HO.out.notBlk HC.out (by decide) (by rw [e]; rfl)
   have HC2 : Hid (CurB wr g (txt (upI l 0)) (atB l k) 177) := by
    unfold Hid
    rw [← upI_zero, HN.out]
    exact HC.out
   go_wp2_with fail
   refine (placeV wr g (atB l k) mm).mono ?_
   rintro e w' ⟨rfl, rfl⟩
   clear mm
   go_wp2_with fail
   go_loopw [35] (fun v35 ws => ∃ (j p : Nat), j ≤ k ∧ v35 = .int .i64 (j : Int) ∧ Owns ws w.heap.size 180 5 (.slice (some ⟨g4, o4, none⟩) k c4) (spR ((List.range k).map (spotOf l))) ∧ CurB ws g (txt (upI l j)) p 177 ∧ Below w.heap.size w ws) (fun i _ => k - (intOf i).toNat)
   case atStart => exact ⟨0, _, by omega, rfl, HO.out, HC2.out, HB1.out⟩
   case round =>
    obtain ⟨j, p, hj, rfl, hO, hC, hb⟩ := hrel
    have JO : Hid (Owns wr w.heap.size 180 5 (.slice (some ⟨g4, o4, none⟩) k c4) (spR ((List.range k).map (spotOf l)))) := hO
    have JC : Hid (CurB wr g (txt (upI l j)) p 177) := hC
    have JB : Hid (Below w.heap.size w wr) := hb
    clear hO hC hb
    by_cases hjt : j < k
    ·have q5 : (j : Int) < (k : Int) := by omega
     obtain ⟨A5, c5, e5, hl5⟩ := sp_look JO.out.lies
     rw [List.length_map, List.length_range] at e5
     cases e5
     obtain ⟨g5, o5, e5, _, e0, e1, e2, e3, e4⟩ := hl5 j (by rw [List.length_map, List.length_range]; exact hjt)
     cases e5
     clear hl5
     rw [range_get l k j hjt] at e0 e1 e2 e3 e4
     have HSF : Hid (SpFits (spotOf l j)) := spotOf_fits HK.out j (by have := HN.out; omega)
     have HKS : Hid ((sAt l j).key.size ≤ 8 ∧ (txt (upI l j)).size ≤ 5000 ∧ (txt (upI l (j + 1))).size ≤ 5000) := ⟨(HK.out.key j (by have := HN.out; omega)).2, upI_size HK.out j (by have := HN.out; omega), upI_size HK.out (j + 1) (by have := HN.out; omega)⟩
     have HSu : Hid (txt (upI l j) ++ txt (spT (spotOf l j)) = txt (upI l (j + 1))) := upI_succ l j
     have cw := fun (cs : Array Value) => writeSpotV (txt (upI l j)) (spotOf l j) (wr.alloc (.cells cs 180)) g p (Blk.alloc JC.out _) HSF.out (by have := HKS.out; show (txt (upI l j)).size + (sAt l j).key.size ≤ 900000; omega)
     have HWa : Hid (∀ cs, Below w.heap.size w (wr.alloc (.cells cs 180))) := fun cs => JB.out.alloc JB.out.size _
     have JOa : Hid (∀ cs, Owns (wr.alloc (.cells cs 180)) w.heap.size 180 5 (.slice (some ⟨g4, o4, none⟩) k c4) (spR ((List.range k).map (spotOf l)))) := fun cs => JO.out.alloc _
     simp only [HSu.out] at cw
     unfold vSp at cw
     generalize spotOf l j = x at *
     go_wp2_with fail
     refine (cw _).mono ?_
     rintro e X1 ⟨⟨uu', rfl⟩, hC1, hk1⟩
     have C1 : Hid (CurB X1 g (txt (upI l (j + 1))) (txt (upI l (j + 1))).size 177) := hC1
     have B1 : Hid (Below w.heap.size w X1) := (HWa.out _).trans (hk1.1.mono HG.out)
     have O1 : Hid (Owns X1 w.heap.size 180 5 (.slice (some ⟨g4, o4, none⟩) k c4) (spR ((List.range k).map (spotOf l)))) := hk1.owns (JOa.out _) (fun e => NB.out (Option.some.inj e))
     clear hC1 hk1 cw
     go_wp2_with fail
     go_roundw
     case rel => exact ⟨j + 1, _, by omega, by go_num, O1.out, C1.out, B1.out⟩
     case measure => simp [intOf]; omega
    ·obtain rfl : j = k := by omega
     clear JO
     have HF4 : Hid (txt (upI l j) ++ fixed (atB l j) 4 = txt (bodyF l)) := by have := body_four HK.out; rw [HN.out] at this; exact this
     have HF8 : Hid (txt (bodyF l) ++ fixed (crc (txt (bodyF l))) 4 = txt (fileB l)) := file_four l
     have HS5 : Hid ((txt (upI l j)).size ≤ 5000 ∧ (txt (bodyF l)).size ≤ 5000) := ⟨upI_size HK.out j (by have := HN.out; omega), bodyF_size HK.out⟩
     have HC32 := crc_lt (txt (bodyF l))
     have z4 := four_small (atB l j)
     have z8 := four_small (crc (txt (bodyF l)))
     have f4 := fun wx => impl_fixed (atB l j) 4 wx (by have := HSz.out; omega) (by omega) (by omega)
     have f8 := fun wx => impl_fixed (crc (txt (bodyF l))) 4 wx (by omega) (by omega) (by omega)
     go_wp2_with fail
     refine (f4 _).mono ?_
     rintro e Y1 ⟨rfl, hb1⟩
     have CY1 : Hid (CurB Y1 g (txt (upI l j)) p 177) := Blk.on JC.out hb1 (Blk.lt JC.out)
     have BY1 : Hid (Below w.heap.size w Y1) := JB.out.trans (hb1.mono JB.out.size)
     clear hb1
     go_wp2_with fail
     refine (writeV (txt (upI l j)) (fixed (atB l j) 4) Y1 g p CY1.out (by have := HS5.out; omega)).mono ?_
     rintro e Y2 ⟨⟨u1, rfl⟩, hC2, hk2⟩
     rw [HF4.out] at hC2
     have CY2 : Hid (CurB Y2 g (txt (bodyF l)) (txt (bodyF l)).size 177) := hC2
     have BY2 : Hid (Below w.heap.size w Y2) := BY1.out.trans (hk2.1.mono HG.out)
     clear hC2 hk2
     have m0 : Y2.cell? ⟨g, 0, none⟩ = some (.string (txt (bodyF l))) := Blk.cell CY2.out 0 _ rfl
     go_wp2_with fail
     refine (impl_crc (txt (bodyF l)) Y2 (by have := HS5.out; omega) (ST.out.on BY2.out)).mono ?_
     rintro e w' ⟨rfl, rfl⟩
     clear m0
     go_wp2_with fail
     refine (f8 _).mono ?_
     rintro e Y3 ⟨rfl, hb3⟩
     have CY3 : Hid (CurB Y3 g (txt (bodyF l)) (txt (bodyF l)).size 177) := Blk.on CY2.out hb3 (Blk.lt CY2.out)
     have BY3 : Hid (Below w.heap.size w Y3) := BY2.out.trans (hb3.mono BY2.out.size)
     clear hb3
     go_wp2_with fail
     refine (writeV (txt (bodyF l)) (fixed (crc (txt (bodyF l))) 4) Y3 g _ CY3.out (by have := HS5.out; omega)).mono ?_
     rintro e Y4 ⟨⟨u2, rfl⟩, hC4, hk4⟩
     rw [HF8.out] at hC4
     have BY4 : Hid (Below w.heap.size w Y4) := BY3.out.trans (hk4.1.mono HG.out)
     have m4 : Y4.cell? ⟨g, 0, none⟩ = some (.string (txt (fileB l))) := Blk.cell hC4 0 _ rfl
     clear hk4 hC4
     go_wp2_with fail
     go_ret
     exact ⟨by rw [HE.out]; rfl, BY4.out⟩
end Go.Proofs.YtikknmoeefipmaaGreatDoor
