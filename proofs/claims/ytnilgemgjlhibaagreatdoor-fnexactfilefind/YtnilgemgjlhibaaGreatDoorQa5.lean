/- FlRead PtOk UntilS -/
import Derived.Test.YtnilgemgjlhibaaGreatDoorQa4
import Derived.Test.YtnilgemgjlhibaaGreatDoorQa2
import Derived.Test.YtnilgemgjlhibaaGreatDoorQa3
import Derived.WalkKit
import Derived.ProofKit
import Derived.OpenShut
import Derived.Below
import Derived.WalkSmall
import Derived.BigQuiet
import Derived.Deep.QuietTactic
import Derived.Deep.RegionWith
import Derived.Handy
import Derived.Test.YtnilgemgjlhibaaGreatDoorRows
import Derived.Test.YtnilgemgjlhibaaGreatDoorQa1
open List (setIfInBounds_toArray set_cons_zero set_cons_succ)
namespace Go.Proofs.YtnilgemgjlhibaaGreatDoor
open Go.ChangeShapes Go.WideShapes Go.ChangeAt Go.RowKit Go.PlainAid
set_option linter.unusedVariables false
set_option maxHeartbeats 2000000 in
theorem takeVarV (s : ByteArray) (p g : Nat) (w : World) (hb : CurB w g s p 62) (hs : s.size ≤ 1048576) (hp : p ≤ s.size) : Calls Tryz.prog 58 #[.pointer (some ⟨g, 0, none⟩)] w fun e w' => e = .returned (.int .i64 (tkN s p : Int)) ∧ CurB w' g s (tkP s p) 62 ∧ KeptBut g w w' := by
 have HB : Hid (CurB w g s p 62) := hb
 have S0 : Hid (w.drew.cell? ⟨g, 0, none⟩ = some (.string s) ∧ w.drew.cell? ⟨g, 1, none⟩ = some (.int .i64 (p : Int))) := ⟨Blk.cell hb 0 _ rfl, Blk.cell hb 1 _ rfl⟩
 have S1 : Hid (w.drew.drew.cell? ⟨g, 0, none⟩ = some (.string s) ∧ w.drew.drew.cell? ⟨g, 1, none⟩ = some (.int .i64 (p : Int))) := S0.out
 have HS : Hid (s.size ≤ 1048576) := hs
 have q0 : (s.size : Int) ≤ 1048576 := by omega
 have q1 : (p : Int) ≤ (s.size : Int) := by omega
 have hk := rvK_le (rest s p)
 rw [rest_size] at hk
 have HK : Hid (tkP s p = p + rvK (rest s p) ∧ tkN s p = rvN (rest s p) ∧ tkP s p ≤ s.size) := ⟨rfl, rfl, tkP_le s p hp⟩
 have c1 : Calls Tryz.prog 46 #[.string (s.extract p s.size)] w.drew fun e w' => e = .returned (.tuple #[.int .i64 (rvN (rest s p) : Int), .int .i64 (rvK (rest s p) : Int)]) ∧ w.drew = w' := by
  refine (impl_readVar (s.extract p s.size) w.drew (by rw [ByteArray.size_extract]; omega)).mono ?_
  rintro e w' ⟨h, rfl⟩
  obtain ⟨n, k, h1, rfl⟩ := h.rd
  obtain ⟨rfl, rfl⟩ := rv_is h1
  exact ⟨rfl, rfl⟩
 clear hb hs hp
 generalize rvN (rest s p) = nn at *
 generalize rvK (rest s p) = kk at *
 have q2 : (p : Int) + (kk : Int) ≤ (s.size : Int) := by omega
 have HM : Hid (min (p + kk) s.size = p + kk) := by unfold Hid; omega
 have e8 : IntKind.i64.wrap ((p : Int) + (kk : Int)) = (p : Int) + (kk : Int) := by rw [IntKind.wrap_i64]; omega
 have cg := goToV s p (p + kk) w.drew.drew g 62 HB.out HS.out (by have := HS.out; omega)
 rw [HM.out] at cg
 rw [Int.natCast_add] at cg
 go_enter Tryz.func58, Tryz.ntmps58
 go_wp2_with fail
 refine wp_region_until (fun w' => w'.cell? ⟨g, 0, none⟩ = some (.string s) ∧ w'.cell? ⟨g, 1, none⟩ = some (.int .i64 (p : Int))) (fun _ => false) 16 (by rfl) (by kernel_rfl) ?_
 refine until_take 0 (v := ?_) (by rfl) (by kernel_rfl) (by exact fun _ _ _ h => h) (by rfl) ?_ S0.out ?_
 rotate_left
 ·intro w hSw
  try dsimp only at hSw
  go_simp
  try with_reducible rfl
 try simp only [Act.put, setIfInBounds_toArray, set_cons_zero, set_cons_succ]
 refine until_take 1 (v := ?_) (by rfl) (by kernel_rfl) (by exact fun _ _ _ h => h) (by rfl) ?_ S0.out ?_
 rotate_left
 ·intro w hSw
  try dsimp only at hSw
  go_simp
  try with_reducible rfl
 try simp only [Act.put, setIfInBounds_toArray, set_cons_zero, set_cons_succ]
 refine until_take 2 (v := ?_) (by rfl) (by kernel_rfl) (by exact fun _ _ _ h => h) (by rfl) ?_ S0.out ?_
 rotate_left
 ·intro w hSw
  try dsimp only at hSw
  go_simp
  try with_reducible rfl
 try simp only [Act.put, setIfInBounds_toArray, set_cons_zero, set_cons_succ]
 refine until_take 3 (v := ?_) (by rfl) (by kernel_rfl) (by exact fun _ _ _ h => h) (by rfl) ?_ S0.out ?_
 rotate_left
 ·intro w hSw
  try dsimp only at hSw
  go_simp
  try with_reducible rfl
 try simp only [Act.put, setIfInBounds_toArray, set_cons_zero, set_cons_succ]
 refine until_take 4 (v := ?_) (by rfl) (by kernel_rfl) (by exact fun _ _ _ h => h) (by rfl) ?_ S0.out ?_
 rotate_left
 ·intro w hSw
  try dsimp only at hSw
  go_simp
  try with_reducible rfl
 try simp only [Act.put, setIfInBounds_toArray, set_cons_zero, set_cons_succ]
 refine until_take 5 (v := ?_) (by rfl) (by kernel_rfl) (by exact fun _ _ _ h => h) (by rfl) ?_ S0.out ?_
 rotate_left
 ·intro w hSw
  try dsimp only at hSw
  go_simp
  try with_reducible rfl
 try simp only [Act.put, setIfInBounds_toArray, set_cons_zero, set_cons_succ]
 refine until_take 6 (v := ?_) (by rfl) (by kernel_rfl) (by exact fun _ _ _ h => h) (by rfl) ?_ S0.out ?_
 rotate_left
 ·intro w hSw
  try dsimp only at hSw
  go_simp
  try with_reducible rfl
 try simp only [Act.put, setIfInBounds_toArray, set_cons_zero, set_cons_succ]
 refine until_take 7 (v := ?_) (by rfl) (by kernel_rfl) (by exact fun _ _ _ h => h) (by rfl) ?_ S0.out ?_
 rotate_left
 ·intro w hSw
  try dsimp only at hSw
  go_simp
  try with_reducible rfl
 try simp only [Act.put, setIfInBounds_toArray, set_cons_zero, set_cons_succ]
 refine until_one 8 (by rfl) (by kernel_rfl) (fun K hK => ?_)
 go_simp
 refine (placeV _ g p S0.out.2).mono ?_
 rintro e w' ⟨rfl, rfl⟩
 go_wp2_with fail
 refine hK.out _ _ (fun _ h => h) ?_
 clear hK K
 try simp only [Act.put, setIfInBounds_toArray, set_cons_zero, set_cons_succ]
 refine until_pure 9 (v := ?_) (by rfl) (by kernel_rfl) (by exact fun _ _ _ h => h) (by rfl) ?_ ?_
 rotate_left
 ·intro w
  go_simp
  try with_reducible rfl
 try simp only [Act.put, setIfInBounds_toArray, set_cons_zero, set_cons_succ]
 refine until_one 10 (by rfl) (by kernel_rfl) (fun K hK => ?_)
 go_simp
 refine c1.mono ?_
 rintro e w' ⟨rfl, rfl⟩
 go_wp2_with fail
 refine hK.out _ _ (fun _ h => h) ?_
 clear hK K
 try simp only [Act.put, setIfInBounds_toArray, set_cons_zero, set_cons_succ]
 refine until_pure 11 (v := ?_) (by rfl) (by kernel_rfl) (by exact fun _ _ _ h => h) (by rfl) ?_ ?_
 rotate_left
 ·intro w
  go_simp
  try with_reducible rfl
 try simp only [Act.put, setIfInBounds_toArray, set_cons_zero, set_cons_succ]
 refine until_pure 12 (v := ?_) (by rfl) (by kernel_rfl) (by exact fun _ _ _ h => h) (by rfl) ?_ ?_
 rotate_left
 ·intro w
  go_simp
  try with_reducible rfl
 try simp only [Act.put, setIfInBounds_toArray, set_cons_zero, set_cons_succ]
 refine until_pure 13 (v := ?_) (by rfl) (by kernel_rfl) (by exact fun _ _ _ h => h) (by rfl) ?_ ?_
 rotate_left
 ·intro w
  go_simp
  try with_reducible rfl
 try simp only [Act.put, setIfInBounds_toArray, set_cons_zero, set_cons_succ]
 refine until_pure 14 (v := ?_) (by rfl) (by kernel_rfl) (by exact fun _ _ _ h => h) (by rfl) ?_ ?_
 rotate_left
 ·intro w
  go_simp
  try with_reducible rfl
 try simp only [Act.put, setIfInBounds_toArray, set_cons_zero, set_cons_succ]
 refine until_pure 15 (v := ?_) (by rfl) (by kernel_rfl) (by exact fun _ _ _ h => h) (by rfl) ?_ ?_
 rotate_left
 ·intro w
  go_simp
  try with_reducible rfl
 try simp only [Act.put, setIfInBounds_toArray, set_cons_zero, set_cons_succ]
 refine until_done (by kernel_rfl) ?_ _
 go_wp2_with fail
 refine wp_region_until (fun w' => w'.cell? ⟨g, 0, none⟩ = some (.string s) ∧ w'.cell? ⟨g, 1, none⟩ = some (.int .i64 (p : Int))) (fun i => i == 9) 10 (by rfl) (by kernel_rfl) ?_
 refine until_take 0 (v := ?_) (by rfl) (by kernel_rfl) (by exact fun _ _ _ h => h) (by rfl) ?_ S0.out ?_
 rotate_left
 ·intro w hSw
  try dsimp only at hSw
  go_simp
  try with_reducible rfl
 try simp only [Act.put, setIfInBounds_toArray, set_cons_zero, set_cons_succ]
 refine until_take 1 (v := ?_) (by rfl) (by kernel_rfl) (by exact fun _ _ _ h => h) (by rfl) ?_ S0.out ?_
 rotate_left
 ·intro w hSw
  try dsimp only at hSw
  go_simp
  try with_reducible rfl
 try simp only [Act.put, setIfInBounds_toArray, set_cons_zero, set_cons_succ]
 refine until_take 2 (v := ?_) (by rfl) (by kernel_rfl) (by exact fun _ _ _ h => h) (by rfl) ?_ S0.out ?_
 rotate_left
 ·intro w hSw
  try dsimp only at hSw
  go_simp
  try with_reducible rfl
 try simp only [Act.put, setIfInBounds_toArray, set_cons_zero, set_cons_succ]
 refine until_take 3 (v := ?_) (by rfl) (by kernel_rfl) (by exact fun _ _ _ h => h) (by rfl) ?_ S0.out ?_
 rotate_left
 ·intro w hSw
  try dsimp only at hSw
  go_simp
  try with_reducible rfl
 try simp only [Act.put, setIfInBounds_toArray, set_cons_zero, set_cons_succ]
 refine until_take 4 (v := ?_) (by rfl) (by kernel_rfl) (by exact fun _ _ _ h => h) (by rfl) ?_ S0.out ?_
 rotate_left
 ·intro w hSw
  try dsimp only at hSw
  go_simp
  try with_reducible rfl
 try simp only [Act.put, setIfInBounds_toArray, set_cons_zero, set_cons_succ]
 refine until_take 5 (v := ?_) (by rfl) (by kernel_rfl) (by exact fun _ _ _ h => h) (by rfl) ?_ S0.out ?_
 rotate_left
 ·intro w hSw
  try dsimp only at hSw
  go_simp
  try with_reducible rfl
 try simp only [Act.put, setIfInBounds_toArray, set_cons_zero, set_cons_succ]
 refine until_take 7 (v := ?_) (by rfl) (by kernel_rfl) (by exact fun _ _ _ h => h) (by rfl) ?_ S0.out ?_
 rotate_left
 ·intro w hSw
  try dsimp only at hSw
  go_simp
  try with_reducible rfl
 try simp only [Act.put, setIfInBounds_toArray, set_cons_zero, set_cons_succ]
 refine until_one 6 (by rfl) (by kernel_rfl) (fun K hK => ?_)
 go_simp
 refine (placeV w.drew.drew g p S1.out.2).mono ?_
 rintro e w' ⟨rfl, rfl⟩
 go_wp2_with fail
 refine hK.out _ _ (fun _ h => h) ?_
 clear hK K
 try simp only [Act.put, setIfInBounds_toArray, set_cons_zero, set_cons_succ]
 refine until_pure 8 (v := ?_) (by rfl) (by kernel_rfl) (by exact fun _ _ _ h => h) (by rfl) ?_ ?_
 rotate_left
 ·intro w
  go_simp
  try with_reducible rfl
 try simp only [Act.put, setIfInBounds_toArray, set_cons_zero, set_cons_succ]
 refine until_one 9 (by rfl) (by kernel_rfl) (fun K hK => ?_)
 go_simp
 refine cg.mono ?_
 rintro e w2 ⟨⟨u, rfl⟩, rfl⟩
 have B2 : Hid (CurB (w.drew.drew.setCell ⟨g, 1, none⟩ (.int .i64 ((p : Int) + (kk : Int)))) g s (tkP s p) 62) := by
  unfold Hid CurB
  rw [HK.out.1, Int.natCast_add]
  exact Blk.set HB.out 1 _
 have K2 : Hid (KeptBut g w (w.drew.drew.setCell ⟨g, 1, none⟩ (.int .i64 ((p : Int) + (kk : Int))))) := (KeptBut.refl g w).drew.drew.set 1 _
 go_wp2_with fail
 refine hK.out _ _ (fun hx _ => absurd hx (by decide)) ?_
 clear hK K
 try simp only [Act.put, setIfInBounds_toArray, set_cons_zero, set_cons_succ]
 refine until_done (by kernel_rfl) ?_ _
 go_wp2_with fail
 go_ret
 exact ⟨by rw [HK.out.2.1]; rfl, B2.out, K2.out⟩
set_option maxHeartbeats 2000000 in
theorem takeV (s : ByteArray) (p many g : Nat) (w : World) (hb : CurB w g s p 62) (hs : s.size ≤ 1048576) (hp : p ≤ s.size) (hm : many ≤ 562949953421311) : Calls Tryz.prog 30 #[.pointer (some ⟨g, 0, none⟩), .int .i64 (many : Int)] w fun e w' => e = .returned (.string (s.extract p (tk s p many))) ∧ CurB w' g s (tk s p many) 62 ∧ KeptBut g w w' := by
 have HB : Hid (CurB w g s p 62) := hb
 have m0 : w.cell? ⟨g, 1, none⟩ = some (.int .i64 (p : Int)) := Blk.cell hb 1 _ rfl
 have q0 : (s.size : Int) ≤ 1048576 := by omega
 have q1 : (p : Int) ≤ (s.size : Int) := by omega
 have q2 : (many : Int) ≤ 562949953421311 := by omega
 have HT : Hid (min (p + many) s.size = tk s p many) := rfl
 have htk : tk s p many ≤ s.size ∧ p ≤ tk s p many := by unfold tk; omega
 have cg := goToV s p (p + many) w g 62 hb hs (by omega)
 rw [HT.out, Int.natCast_add] at cg
 clear hb hs hp hm
 generalize hq : tk s p many = q at *
 have q3 : (q : Int) ≤ (s.size : Int) := by omega
 have q4 : (p : Int) ≤ (q : Int) := by omega
 have e5 : ((q : Int)).toNat = q := by omega
 have B2 : Hid (CurB (w.setCell ⟨g, 1, none⟩ (.int .i64 (q : Int))).drew g s q 62) := Blk.set HB.out 1 _
 have K2 : Hid (KeptBut g w (w.setCell ⟨g, 1, none⟩ (.int .i64 (q : Int))).drew) := ((KeptBut.refl g w).set 1 _).drew
 have S0 : Hid ((w.setCell ⟨g, 1, none⟩ (.int .i64 (q : Int))).drew.cell? ⟨g, 0, none⟩ = some (.string s) ∧ (w.setCell ⟨g, 1, none⟩ (.int .i64 (q : Int))).drew.cell? ⟨g, 1, none⟩ = some (.int .i64 (q : Int))) := ⟨Blk.cell B2.out 0 _ rfl, Blk.cell B2.out 1 _ rfl⟩
 clear hq HT htk
 go_enter Tryz.func30, Tryz.ntmps30
 go_wp2_with fail
 refine (placeV w g p m0).mono ?_
 rintro e w' ⟨rfl, rfl⟩
 go_wp2_with fail
 refine cg.mono ?_
 rintro e w2 ⟨⟨u, rfl⟩, rfl⟩
 go_wp2_with fail
 refine wp_region_until (fun w' => w'.cell? ⟨g, 0, none⟩ = some (.string s) ∧ w'.cell? ⟨g, 1, none⟩ = some (.int .i64 (q : Int))) (fun _ => false) 12 (by rfl) (by kernel_rfl) ?_
 refine until_take 0 (v := ?_) (by rfl) (by kernel_rfl) (by exact fun _ _ _ h => h) (by rfl) ?_ S0.out ?_
 rotate_left
 ·intro w hSw
  try dsimp only at hSw
  go_simp
  try with_reducible rfl
 try simp only [Act.put, setIfInBounds_toArray, set_cons_zero, set_cons_succ]
 refine until_take 1 (v := ?_) (by rfl) (by kernel_rfl) (by exact fun _ _ _ h => h) (by rfl) ?_ S0.out ?_
 rotate_left
 ·intro w hSw
  try dsimp only at hSw
  go_simp
  try with_reducible rfl
 try simp only [Act.put, setIfInBounds_toArray, set_cons_zero, set_cons_succ]
 refine until_take 2 (v := ?_) (by rfl) (by kernel_rfl) (by exact fun _ _ _ h => h) (by rfl) ?_ S0.out ?_
 rotate_left
 ·intro w hSw
  try dsimp only at hSw
  go_simp
  try with_reducible rfl
 try simp only [Act.put, setIfInBounds_toArray, set_cons_zero, set_cons_succ]
 refine until_take 3 (v := ?_) (by rfl) (by kernel_rfl) (by exact fun _ _ _ h => h) (by rfl) ?_ S0.out ?_
 rotate_left
 ·intro w hSw
  try dsimp only at hSw
  go_simp
  try with_reducible rfl
 try simp only [Act.put, setIfInBounds_toArray, set_cons_zero, set_cons_succ]
 refine until_take 4 (v := ?_) (by rfl) (by kernel_rfl) (by exact fun _ _ _ h => h) (by rfl) ?_ S0.out ?_
 rotate_left
 ·intro w hSw
  try dsimp only at hSw
  go_simp
  try with_reducible rfl
 try simp only [Act.put, setIfInBounds_toArray, set_cons_zero, set_cons_succ]
 refine until_take 5 (v := ?_) (by rfl) (by kernel_rfl) (by exact fun _ _ _ h => h) (by rfl) ?_ S0.out ?_
 rotate_left
 ·intro w hSw
  try dsimp only at hSw
  go_simp
  try with_reducible rfl
 try simp only [Act.put, setIfInBounds_toArray, set_cons_zero, set_cons_succ]
 refine until_take 6 (v := ?_) (by rfl) (by kernel_rfl) (by exact fun _ _ _ h => h) (by rfl) ?_ S0.out ?_
 rotate_left
 ·intro w hSw
  try dsimp only at hSw
  go_simp
  try with_reducible rfl
 try simp only [Act.put, setIfInBounds_toArray, set_cons_zero, set_cons_succ]
 refine until_take 7 (v := ?_) (by rfl) (by kernel_rfl) (by exact fun _ _ _ h => h) (by rfl) ?_ S0.out ?_
 rotate_left
 ·intro w hSw
  try dsimp only at hSw
  go_simp
  try with_reducible rfl
 try simp only [Act.put, setIfInBounds_toArray, set_cons_zero, set_cons_succ]
 refine until_take 8 (v := ?_) (by rfl) (by kernel_rfl) (by exact fun _ _ _ h => h) (by rfl) ?_ S0.out ?_
 rotate_left
 ·intro w hSw
  try dsimp only at hSw
  go_simp
  try with_reducible rfl
 try simp only [Act.put, setIfInBounds_toArray, set_cons_zero, set_cons_succ]
 refine until_one 9 (by rfl) (by kernel_rfl) (fun K hK => ?_)
 go_simp
 refine (placeV _ g q S0.out.2).mono ?_
 rintro e w' ⟨rfl, rfl⟩
 go_wp2_with fail
 refine hK.out _ _ (fun _ h => h) ?_
 clear hK K
 try simp only [Act.put, setIfInBounds_toArray, set_cons_zero, set_cons_succ]
 refine until_pure 10 (v := ?_) (by rfl) (by kernel_rfl) (by exact fun _ _ _ h => h) (by rfl) ?_ ?_
 rotate_left
 ·intro w
  go_simp
  try with_reducible rfl
 try simp only [Act.put, setIfInBounds_toArray, set_cons_zero, set_cons_succ]
 refine until_pure 11 (v := ?_) (by rfl) (by kernel_rfl) (by exact fun _ _ _ h => h) (by rfl) ?_ ?_
 rotate_left
 ·intro w
  go_simp
  try with_reducible rfl
 try simp only [Act.put, setIfInBounds_toArray, set_cons_zero, set_cons_succ]
 refine until_done (by kernel_rfl) ?_ _
 go_wp2_with fail
 go_ret
 exact ⟨rfl, B2.out, K2.out⟩
end Go.Proofs.YtnilgemgjlhibaaGreatDoor
namespace Go.Proofs.YtnilgemgjlhibaaGreatDoor
open Go.ChangeShapes Go.WideShapes Go.ChangeAt Go.RowKit Go.PlainAid
set_option linter.unusedVariables false
theorem dec_of {p : Prop} [Decidable p] (b : Bool) (h : b = true ↔ p) : decide p = b := by
 cases b
 ·exact decide_eq_false fun hp => by simp [hp] at h
 ·exact decide_eq_true (h.1 rfl)
set_option maxHeartbeats 1000000 in
theorem implPointsOk (l : List Pnt) (v : Value) (w : World) (B : Nat) (hv : Lies w B 2 v (ptR l)) (hn : l.length ≤ 1048576) (hB : B ≤ w.heap.size) : Calls Tryz.prog 70 #[v] w fun e w' => e = .returned (.bool (decide (POk l))) ∧ Below w.heap.size w w' := by
 obtain ⟨A, cap, rfl, hl⟩ := pt_look hv
 have HL : Hid (∀ j, j < l.length → ∃ g off, A = some ⟨g, off, none⟩ ∧ g < B ∧ w.cell? ⟨g, off + j * 2, none⟩ = some (.int .i64 (tAt l j)) ∧ w.cell? ⟨g, off + j * 2 + 1, none⟩ = some (.int .i64 (vAt l j))) := hl
 have HB : Hid (B ≤ w.heap.size) := hB
 have HD : Hid (∀ b, (b = true ↔ POk l) → decide (POk l) = b) := fun b hb => dec_of b hb
 have HV : Hid (POk l ↔ l.length ≤ 60 ∧ ∀ j, j < l.length → ((0 ≤ tAt l j ∧ tAt l j ≤ 1099511627776) ∧ (-1099511627776 ≤ vAt l j ∧ vAt l j ≤ 1099511627776)) ∧ (0 < j → tAt l (j - 1) < tAt l j)) := Iff.rfl
 have q0 : (l.length : Int) ≤ 1048576 := by omega
 clear hl hn hv hB
 generalize hN : l.length = n at *
 clear hN
 by_cases h2 : (60 : Int) < (n : Int)
 ·go_enter Tryz.func70, Tryz.ntmps70
  go_wp2
  go_ret
  refine ⟨?_, Below.refl _ _⟩
  rw [HD.out false]
  ·rfl
  rw [HV.out]
  exact ⟨fun h => (by cases h), fun h => by omega⟩
 have q1 : (n : Int) ≤ 60 := by omega
 clear h2
 go_enter Tryz.func70, Tryz.ntmps70
 go_wp2
 go_loopw [3, 11] (fun v3 v11 wr => ∃ (k : Nat) (m : Int), k ≤ n ∧ v11 = .int .i64 (k : Int) ∧ v3 = .int .i64 m ∧ 0 ≤ m ∧ m ≤ 1099511627777 ∧ Hid ((k = 0 → m = 0) ∧ (0 < k → m = tAt l (k - 1) + 1)) ∧ Below w.heap.size w wr ∧ Hid (∀ j, j < k → ((0 ≤ tAt l j ∧ tAt l j ≤ 1099511627776) ∧ (-1099511627776 ≤ vAt l j ∧ vAt l j ≤ 1099511627776)) ∧ (0 < j → tAt l (j - 1) < tAt l j))) (fun _ i _ => n - (intOf i).toNat)
 case atStart => exact ⟨0, 0, by omega, rfl, rfl, by omega, by omega, ⟨fun _ => rfl, fun h => by omega⟩, Below.refl _ _, fun j hj => by omega⟩
 case round =>
  obtain ⟨k, m, hk, rfl, rfl, hm0, hm1, HM, hb, HJ⟩ := hrel
  have HB1 : Hid (Below w.heap.size w wr) := hb
  clear hb
  by_cases hlt : k < n
  ·have q2 : (k : Int) < (n : Int) := by omega
   obtain ⟨g, off, rfl, hg, e1, e2⟩ := HL.out k hlt
   have hgw : g < w.heap.size := Nat.lt_of_lt_of_le hg HB.out
   rw [← HB1.out.cell (p := ⟨_, _, none⟩) hgw] at e1
   rw [← HB1.out.cell (p := ⟨_, _, none⟩) hgw] at e2
   have HBa : Hid (∀ cs cs' : Array Value, Below w.heap.size w ((wr.alloc (.cells cs 38)))) := fun cs _ => HB1.out.alloc HB1.out.size _
   generalize hx : tAt l k = x at *
   have HX : Hid (tAt l k = x) := hx
   clear hx
   generalize hy : vAt l k = y at *
   have HY : Hid (vAt l k = y) := hy
   clear hy hgw hg
   have HNo : Hid ((x < m ∨ 1099511627776 < x ∨ y < -1099511627776 ∨ 1099511627776 < y) → decide (POk l) = false) := fun h => by
    apply HD.out
    rw [HV.out]
    refine ⟨fun h => (by cases h), fun h2 => ?_⟩
    have h3 := h2.2 k hlt
    rw [HX.out, HY.out] at h3
    have h4 := HM.out
    by_cases h0 : k = 0
    ·have := h4.1 h0; omega
    ·have := h4.2 (by omega); have := h3.2 (by omega); omega
   by_cases c1 : x < m
   ·skip
    go_wp2
    go_ret
    exact ⟨by rw [HNo.out (.inl c1)]; rfl, HBa.out _ #[]⟩
   by_cases c2 : 1099511627776 < x
   ·skip
    go_wp2
    go_ret
    exact ⟨by rw [HNo.out (.inr (.inl c2))]; rfl, HBa.out _ #[]⟩
   by_cases c3 : y < -1099511627776
   ·skip
    go_wp2
    go_ret
    exact ⟨by rw [HNo.out (.inr (.inr (.inl c3)))]; rfl, HBa.out _ #[]⟩
   by_cases c4 : 1099511627776 < y
   ·skip
    go_wp2
    go_ret
    exact ⟨by rw [HNo.out (.inr (.inr (.inr c4)))]; rfl, HBa.out _ #[]⟩
   go_wp2
   go_roundw
   case rel =>
    refine ⟨k + 1, x + 1, by omega, by go_num, by go_num, by omega, by omega, ⟨fun h => by omega, fun _ => by rw [Nat.add_sub_cancel, HX.out]⟩, HBa.out _ #[], fun j hj => ?_⟩
    by_cases e : j = k
    ·subst e
     rw [HX.out, HY.out]
     have h4 := HM.out
     refine ⟨⟨⟨by omega, by omega⟩, by omega, by omega⟩, fun h => ?_⟩
     have := h4.2 h
     omega
    ·exact HJ.out j (by omega)
   case measure => simp [intOf]; omega
  ·have hkk : k = n := by omega
   subst hkk
   go_wp2
   go_ret
   refine ⟨?_, HB1.out⟩
   rw [HD.out true]
   ·rfl
   rw [HV.out]
   exact ⟨fun _ => ⟨by omega, HJ.out⟩, fun _ => rfl⟩
end Go.Proofs.YtnilgemgjlhibaaGreatDoor
namespace Go.Proofs.YtnilgemgjlhibaaGreatDoor
open Go
theorem until_skip {P : Program} {Q : Exit → Act → World → Prop} {md : Region.Mode} {S : World → Prop} {T : Nat → Bool} {l : List Oper} (i : Nat) {oi : Oper} {rest : List Oper} {fuel : Nat} {listed : Array Bool} {a : Act} {w : World} (hd : l.drop i = oi :: rest) (hB : pureB md l.toArray listed i = true)
  (hQ : ∀ c a w, Q (.panic c) (a.put oi.dst undef) w → Q (.panic c) a w) (hw : Region.wanted oi (yielded l.toArray a.tmps) = false)
  (h : wpUntil P md l.toArray Q S T fuel (listed.setIfInBounds i true) (a.put oi.dst undef) w) : wpUntil P md l.toArray Q S T (fuel + 1) listed a w := by
 unfold pureB at hB
 simp only [Bool.and_eq_true] at hB
 obtain ⟨⟨hs, hf⟩, hr⟩ := hB
 exact wpUntil_pure (drop_at hd) (Region.noSelect_spec hs) hQ fuel listed a w (Region.free_spec (drop_at hd) hf) (by simpa using hr) (.inr ⟨hw, rfl⟩) h
end Go.Proofs.YtnilgemgjlhibaaGreatDoor
