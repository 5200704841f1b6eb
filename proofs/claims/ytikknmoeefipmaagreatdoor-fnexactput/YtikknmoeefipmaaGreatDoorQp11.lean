/- FlRead BtOk BtRise BldLay BtDif -/
import Derived.Test.YtikknmoeefipmaaGreatDoorQp10
import Derived.Test.YtikknmoeefipmaaGreatDoorQp7
import Derived.Test.YtikknmoeefipmaaGreatDoorQp4
import Derived.WalkKit
import Derived.ProofKit
import Derived.OpenShut
import Derived.Below
import Derived.WalkSmall
import Derived.BigQuiet
import Derived.Deep.QuietTactic
import Derived.Deep.RegionWith
import Derived.Handy
import Derived.Test.YtikknmoeefipmaaGreatDoorRows
import Derived.Test.YtikknmoeefipmaaGreatDoorQp6
import Derived.Shelf.Strings.BuilderK
open List (setIfInBounds_toArray set_cons_zero set_cons_succ)
namespace Go.Proofs.YtikknmoeefipmaaGreatDoor
open Go.ChangeShapes Go.WideShapes Go.ChangeAt Go.RowKit Go.PlainAid
set_option linter.unusedVariables false
set_option maxHeartbeats 2000000 in
theorem takeVarV (s : ByteArray) (p g : Nat) (w : World) (hb : CurB w g s p 243) (hs : s.size ≤ 1048576) (hp : p ≤ s.size) : Calls Tryz.prog 223 #[.pointer (some ⟨g, 0, none⟩)] w fun e w' => e = .returned (.int .i64 (tkN s p : Int)) ∧ CurB w' g s (tkP s p) 243 ∧ KeptBut g w w' := by
 have HB : Hid (CurB w g s p 243) := hb
 have S0 : Hid (w.drew.cell? ⟨g, 0, none⟩ = some (.string s) ∧ w.drew.cell? ⟨g, 1, none⟩ = some (.int .i64 (p : Int))) := ⟨Blk.cell hb 0 _ rfl, Blk.cell hb 1 _ rfl⟩
 have S1 : Hid (w.drew.drew.cell? ⟨g, 0, none⟩ = some (.string s) ∧ w.drew.drew.cell? ⟨g, 1, none⟩ = some (.int .i64 (p : Int))) := S0.out
 have HS : Hid (s.size ≤ 1048576) := hs
 have q0 : (s.size : Int) ≤ 1048576 := by omega
 have q1 : (p : Int) ≤ (s.size : Int) := by omega
 have hk := rvK_le (rest s p)
 rw [rest_size] at hk
 have HK : Hid (tkP s p = p + rvK (rest s p) ∧ tkN s p = rvN (rest s p) ∧ tkP s p ≤ s.size) := ⟨rfl, rfl, tkP_le s p hp⟩
 have c1 : Calls Tryz.prog 108 #[.string (s.extract p s.size)] w.drew fun e w' => e = .returned (.tuple #[.int .i64 (rvN (rest s p) : Int), .int .i64 (rvK (rest s p) : Int)]) ∧ w.drew = w' := by
  refine (impl_readVar (s.extract p s.size) w.drew (by rw [ByteArray.size_extract]; omega)).mono ?_
  rintro e w' ⟨h, rfl⟩
  obtain ⟨n, k, h1, rfl⟩ := h.rd
  obtain ⟨rfl, rfl⟩ := rv_is h1
  exact ⟨rfl, rfl⟩
 clear hb hs hp
 generalize rvN (rest s p) = nn at *
 generalize rvK (rest s p) = kk at *
 have q2 : (p : Int) + (kk : Int) ≤ (s.size : Int) := by omega
 have HM : Hid (min (p + kk) s.size = p + kk) := by unfold Hid; omega
 have e8 : IntKind.i64.wrap ((p : Int) + (kk : Int)) = (p : Int) + (kk : Int) := by rw [IntKind.wrap_i64]; omega
 have cg := goToV s p (p + kk) w.drew.drew g 243 HB.out HS.out (by have := HS.out; omega)
 rw [HM.out] at cg
 rw [Int.natCast_add] at cg
 go_enter Tryz.func223, Tryz.ntmps223
 go_wp2_with fail
 refine wp_region_until (fun w' => w'.cell? ⟨g, 0, none⟩ = some (.string s) ∧ w'.cell? ⟨g, 1, none⟩ = some (.int .i64 (p : Int))) (fun _ => false) 16 (by rfl) (by kernel_rfl) ?_
 refine tKe 0 (v := ?_) S0.out ?_ ?_; rotate_left; focus (intro w hSw; (try dsimp only at hSw); go_simp; try with_reducible rfl)
 try simp only [Act.put, zQ1, zQ2, zQ3]
 refine tKe 1 (v := ?_) S0.out ?_ ?_; rotate_left; focus (intro w hSw; (try dsimp only at hSw); go_simp; try with_reducible rfl)
 try simp only [Act.put, zQ1, zQ2, zQ3]
 refine tKe 2 (v := ?_) S0.out ?_ ?_; rotate_left; focus (intro w hSw; (try dsimp only at hSw); go_simp; try with_reducible rfl)
 try simp only [Act.put, zQ1, zQ2, zQ3]
 refine tKe 3 (v := ?_) S0.out ?_ ?_; rotate_left; focus (intro w hSw; (try dsimp only at hSw); go_simp; try with_reducible rfl)
 try simp only [Act.put, zQ1, zQ2, zQ3]
 refine tKe 4 (v := ?_) S0.out ?_ ?_; rotate_left; focus (intro w hSw; (try dsimp only at hSw); go_simp; try with_reducible rfl)
 try simp only [Act.put, zQ1, zQ2, zQ3]
 refine tKe 5 (v := ?_) S0.out ?_ ?_; rotate_left; focus (intro w hSw; (try dsimp only at hSw); go_simp; try with_reducible rfl)
 try simp only [Act.put, zQ1, zQ2, zQ3]
 refine tKe 6 (v := ?_) S0.out ?_ ?_; rotate_left; focus (intro w hSw; (try dsimp only at hSw); go_simp; try with_reducible rfl)
 try simp only [Act.put, zQ1, zQ2, zQ3]
 refine tKe 7 (v := ?_) S0.out ?_ ?_; rotate_left; focus (intro w hSw; (try dsimp only at hSw); go_simp; try with_reducible rfl)
 try simp only [Act.put, zQ1, zQ2, zQ3]
 refine uNe 8 (fun K hK => ?_)
 go_simp
 refine (placeV _ g p S0.out.2).mono ?_
 rintro e w' ⟨rfl, rfl⟩
 go_wp2_with fail
 refine hK.out _ _ (fun _ h => h) ?_
 clear hK K
 try simp only [Act.put, zQ1, zQ2, zQ3]
 refine pUr 9 (v := ?_) ?_ ?_; rotate_left; focus (intro w; go_simp; try with_reducible rfl)
 try simp only [Act.put, zQ1, zQ2, zQ3]
 refine uNe 10 (fun K hK => ?_)
 go_simp
 refine c1.mono ?_
 rintro e w' ⟨rfl, rfl⟩
 go_wp2_with fail
 refine hK.out _ _ (fun _ h => h) ?_
 clear hK K
 try simp only [Act.put, zQ1, zQ2, zQ3]
 refine pUr 11 (v := ?_) ?_ ?_; rotate_left; focus (intro w; go_simp; try with_reducible rfl)
 try simp only [Act.put, zQ1, zQ2, zQ3]
 refine pUr 12 (v := ?_) ?_ ?_; rotate_left; focus (intro w; go_simp; try with_reducible rfl)
 try simp only [Act.put, zQ1, zQ2, zQ3]
 refine pUr 13 (v := ?_) ?_ ?_; rotate_left; focus (intro w; go_simp; try with_reducible rfl)
 try simp only [Act.put, zQ1, zQ2, zQ3]
 refine pUr 14 (v := ?_) ?_ ?_; rotate_left; focus (intro w; go_simp; try with_reducible rfl)
 try simp only [Act.put, zQ1, zQ2, zQ3]
 refine pUr 15 (v := ?_) ?_ ?_; rotate_left; focus (intro w; go_simp; try with_reducible rfl)
 try simp only [Act.put, zQ1, zQ2, zQ3]
 refine until_done (by kernel_rfl) ?_ _
 go_wp2_with fail
 refine wp_region_until (fun w' => w'.cell? ⟨g, 0, none⟩ = some (.string s) ∧ w'.cell? ⟨g, 1, none⟩ = some (.int .i64 (p : Int))) (fun i => i == 9) 10 (by rfl) (by kernel_rfl) ?_
 refine tKe 0 (v := ?_) S0.out ?_ ?_; rotate_left; focus (intro w hSw; (try dsimp only at hSw); go_simp; try with_reducible rfl)
 try simp only [Act.put, zQ1, zQ2, zQ3]
 refine tKe 1 (v := ?_) S0.out ?_ ?_; rotate_left; focus (intro w hSw; (try dsimp only at hSw); go_simp; try with_reducible rfl)
 try simp only [Act.put, zQ1, zQ2, zQ3]
 refine tKe 2 (v := ?_) S0.out ?_ ?_; rotate_left; focus (intro w hSw; (try dsimp only at hSw); go_simp; try with_reducible rfl)
 try simp only [Act.put, zQ1, zQ2, zQ3]
 refine tKe 3 (v := ?_) S0.out ?_ ?_; rotate_left; focus (intro w hSw; (try dsimp only at hSw); go_simp; try with_reducible rfl)
 try simp only [Act.put, zQ1, zQ2, zQ3]
 refine tKe 4 (v := ?_) S0.out ?_ ?_; rotate_left; focus (intro w hSw; (try dsimp only at hSw); go_simp; try with_reducible rfl)
 try simp only [Act.put, zQ1, zQ2, zQ3]
 refine tKe 5 (v := ?_) S0.out ?_ ?_; rotate_left; focus (intro w hSw; (try dsimp only at hSw); go_simp; try with_reducible rfl)
 try simp only [Act.put, zQ1, zQ2, zQ3]
 refine tKe 7 (v := ?_) S0.out ?_ ?_; rotate_left; focus (intro w hSw; (try dsimp only at hSw); go_simp; try with_reducible rfl)
 try simp only [Act.put, zQ1, zQ2, zQ3]
 refine uNe 6 (fun K hK => ?_)
 go_simp
 refine (placeV w.drew.drew g p S1.out.2).mono ?_
 rintro e w' ⟨rfl, rfl⟩
 go_wp2_with fail
 refine hK.out _ _ (fun _ h => h) ?_
 clear hK K
 try simp only [Act.put, zQ1, zQ2, zQ3]
 refine pUr 8 (v := ?_) ?_ ?_; rotate_left; focus (intro w; go_simp; try with_reducible rfl)
 try simp only [Act.put, zQ1, zQ2, zQ3]
 refine uNe 9 (fun K hK => ?_)
 go_simp
 refine cg.mono ?_
 rintro e w2 ⟨⟨u, rfl⟩, rfl⟩
 have B2 : Hid (CurB (w.drew.drew.setCell ⟨g, 1, none⟩ (.int .i64 ((p : Int) + (kk : Int)))) g s (tkP s p) 243) := by
  unfold Hid CurB
  rw [HK.out.1, Int.natCast_add]
  exact Blk.set HB.out 1 _
 have K2 : Hid (KeptBut g w (w.drew.drew.setCell ⟨g, 1, none⟩ (.int .i64 ((p : Int) + (kk : Int))))) := (KeptBut.refl g w).drew.drew.set 1 _
 go_wp2_with fail
 refine hK.out _ _ (fun hx _ => absurd hx (by decide)) ?_
 clear hK K
 try simp only [Act.put, zQ1, zQ2, zQ3]
 refine until_done (by kernel_rfl) ?_ _
 go_wp2_with fail
 go_ret
 exact ⟨by rw [HK.out.2.1]; rfl, B2.out, K2.out⟩
set_option maxHeartbeats 2000000 in
theorem takeV (s : ByteArray) (p many g : Nat) (w : World) (hb : CurB w g s p 243) (hs : s.size ≤ 1048576) (hp : p ≤ s.size) (hm : many ≤ 562949953421311) : Calls Tryz.prog 222 #[.pointer (some ⟨g, 0, none⟩), .int .i64 (many : Int)] w fun e w' => e = .returned (.string (s.extract p (tk s p many))) ∧ CurB w' g s (tk s p many) 243 ∧ KeptBut g w w' := by
 have HB : Hid (CurB w g s p 243) := hb
 have m0 : w.cell? ⟨g, 1, none⟩ = some (.int .i64 (p : Int)) := Blk.cell hb 1 _ rfl
 have q0 : (s.size : Int) ≤ 1048576 := by omega
 have q1 : (p : Int) ≤ (s.size : Int) := by omega
 have q2 : (many : Int) ≤ 562949953421311 := by omega
 have HT : Hid (min (p + many) s.size = tk s p many) := rfl
 have htk : tk s p many ≤ s.size ∧ p ≤ tk s p many := by unfold tk; omega
 have cg := goToV s p (p + many) w g 243 hb hs (by omega)
 rw [HT.out, Int.natCast_add] at cg
 clear hb hs hp hm
 generalize hq : tk s p many = q at *
 have q3 : (q : Int) ≤ (s.size : Int) := by omega
 have q4 : (p : Int) ≤ (q : Int) := by omega
 have e5 : ((q : Int)).toNat = q := by omega
 have B2 : Hid (CurB (w.setCell ⟨g, 1, none⟩ (.int .i64 (q : Int))).drew g s q 243) := Blk.set HB.out 1 _
 have K2 : Hid (KeptBut g w (w.setCell ⟨g, 1, none⟩ (.int .i64 (q : Int))).drew) := ((KeptBut.refl g w).set 1 _).drew
 have S0 : Hid ((w.setCell ⟨g, 1, none⟩ (.int .i64 (q : Int))).drew.cell? ⟨g, 0, none⟩ = some (.string s) ∧ (w.setCell ⟨g, 1, none⟩ (.int .i64 (q : Int))).drew.cell? ⟨g, 1, none⟩ = some (.int .i64 (q : Int))) := ⟨Blk.cell B2.out 0 _ rfl, Blk.cell B2.out 1 _ rfl⟩
 clear hq HT htk
 go_enter Tryz.func222, Tryz.ntmps222
 go_wp2_with fail
 refine (placeV w g p m0).mono ?_
 rintro e w' ⟨rfl, rfl⟩
 go_wp2_with fail
 refine cg.mono ?_
 rintro e w2 ⟨⟨u, rfl⟩, rfl⟩
 go_wp2_with fail
 refine wp_region_until (fun w' => w'.cell? ⟨g, 0, none⟩ = some (.string s) ∧ w'.cell? ⟨g, 1, none⟩ = some (.int .i64 (q : Int))) (fun _ => false) 12 (by rfl) (by kernel_rfl) ?_
 refine tKe 0 (v := ?_) S0.out ?_ ?_; rotate_left; focus (intro w hSw; (try dsimp only at hSw); go_simp; try with_reducible rfl)
 try simp only [Act.put, zQ1, zQ2, zQ3]
 refine tKe 1 (v := ?_) S0.out ?_ ?_; rotate_left; focus (intro w hSw; (try dsimp only at hSw); go_simp; try with_reducible rfl)
 try simp only [Act.put, zQ1, zQ2, zQ3]
 refine tKe 2 (v := ?_) S0.out ?_ ?_; rotate_left; focus (intro w hSw; (try dsimp only at hSw); go_simp; try with_reducible rfl)
 try simp only [Act.put, zQ1, zQ2, zQ3]
 refine tKe 3 (v := ?_) S0.out ?_ ?_; rotate_left; focus (intro w hSw; (try dsimp only at hSw); go_simp; try with_reducible rfl)
 try simp only [Act.put, zQ1, zQ2, zQ3]
 refine tKe 4 (v := ?_) S0.out ?_ ?_; rotate_left; focus (intro w hSw; (try dsimp only at hSw); go_simp; try with_reducible rfl)
 try simp only [Act.put, zQ1, zQ2, zQ3]
 refine tKe 5 (v := ?_) S0.out ?_ ?_; rotate_left; focus (intro w hSw; (try dsimp only at hSw); go_simp; try with_reducible rfl)
 try simp only [Act.put, zQ1, zQ2, zQ3]
 refine tKe 6 (v := ?_) S0.out ?_ ?_; rotate_left; focus (intro w hSw; (try dsimp only at hSw); go_simp; try with_reducible rfl)
 try simp only [Act.put, zQ1, zQ2, zQ3]
 refine tKe 7 (v := ?_) S0.out ?_ ?_; rotate_left; focus (intro w hSw; (try dsimp only at hSw); go_simp; try with_reducible rfl)
 try simp only [Act.put, zQ1, zQ2, zQ3]
 refine tKe 8 (v := ?_) S0.out ?_ ?_; rotate_left; focus (intro w hSw; (try dsimp only at hSw); go_simp; try with_reducible rfl)
 try simp only [Act.put, zQ1, zQ2, zQ3]
 refine uNe 9 (fun K hK => ?_)
 go_simp
 refine (placeV _ g q S0.out.2).mono ?_
 rintro e w' ⟨rfl, rfl⟩
 go_wp2_with fail
 refine hK.out _ _ (fun _ h => h) ?_
 clear hK K
 try simp only [Act.put, zQ1, zQ2, zQ3]
 refine pUr 10 (v := ?_) ?_ ?_; rotate_left; focus (intro w; go_simp; try with_reducible rfl)
 try simp only [Act.put, zQ1, zQ2, zQ3]
 refine pUr 11 (v := ?_) ?_ ?_; rotate_left; focus (intro w; go_simp; try with_reducible rfl)
 try simp only [Act.put, zQ1, zQ2, zQ3]
 refine until_done (by kernel_rfl) ?_ _
 go_wp2_with fail
 go_ret
 exact ⟨rfl, B2.out, K2.out⟩
end Go.Proofs.YtikknmoeefipmaaGreatDoor
namespace Go.Proofs.YtikknmoeefipmaaGreatDoor
open Go.ChangeShapes Go.WideShapes Go.ChangeAt Go.RowKit Go.PlainAid
set_option linter.unusedVariables false
set_option maxHeartbeats 1000000 in
theorem implValuesOk (l : List Int) (v : Value) (w : World) (B : Nat) (hv : NumsV w B v l) (hn : l.length ≤ 1048576) : Calls Tryz.prog 236 #[v] w fun e w' => e = .returned (.bool (decide (VOk l))) ∧ w = w' := by
 obtain ⟨A, cap, rfl, _, _, hl⟩ := hv
 have HL : Hid (∀ j, j < l.length → ∃ g off, A = some ⟨g, off, none⟩ ∧ g < B ∧ _) := hl
 have HD : Hid (∀ b, (b = true ↔ VOk l) → decide (VOk l) = b) := by
  intro b hb
  cases b
  ·exact decide_eq_false fun h => by simp [h] at hb
  ·exact decide_eq_true (hb.1 rfl)
 have HV : Hid (VOk l ↔ 1 ≤ l.length ∧ l.length ≤ 60 ∧ ∀ j, j < l.length → -1099511627776 ≤ l.getD j 0 ∧ l.getD j 0 ≤ 1099511627776) := Iff.rfl
 have q0 : (l.length : Int) ≤ 1048576 := by omega
 clear hl hn
 generalize hN : l.length = n at *
 clear hN
 by_cases h1 : (n : Int) < 1
 ·go_enter Tryz.func236, Tryz.ntmps236
  go_wp2
  go_ret
  refine ⟨?_, rfl⟩
  rw [HD.out false]
  ·rfl
  rw [HV.out]
  constructor
  ·intro h; cases h
  ·intro h; omega
 by_cases h2 : (60 : Int) < (n : Int)
 ·go_enter Tryz.func236, Tryz.ntmps236
  go_wp2
  go_ret
  refine ⟨?_, rfl⟩
  rw [HD.out false]
  ·rfl
  rw [HV.out]
  constructor
  ·intro h; cases h
  ·intro h; omega
 go_enter Tryz.func236, Tryz.ntmps236
 go_wp2
 go_loop [15] (fun v15 => ∃ k : Nat, k ≤ n ∧ v15 = .int .i64 (k : Int) ∧ Hid (∀ j, j < k → -1099511627776 ≤ l.getD j 0 ∧ l.getD j 0 ≤ 1099511627776)) (fun i => n - (intOf i).toNat)
 case atStart => exact ⟨0, by omega, rfl, fun j hj => by omega⟩
 case round =>
  obtain ⟨k, hk, rfl, HJ⟩ := hrel
  by_cases hlt : k < n
  ·have q2 : (k : Int) < (n : Int) := by omega
   obtain ⟨g, off, rfl, _, e1⟩ := HL.out k hlt
   have HX : Hid (l.getD k 0 = l.getD k 0) := rfl
   generalize hx : l.getD k 0 = x at *
   have HXX : Hid (l.getD k 0 = x) := hx
   clear hx HX
   by_cases c1 : x < -1099511627776
   ·go_wp2
    go_ret
    refine ⟨?_, rfl⟩
    rw [HD.out false]
    ·rfl
    rw [HV.out]
    constructor
    ·intro h; cases h
    ·intro h; have := h.2.2 k hlt; rw [HXX.out] at this; omega
   by_cases c2 : 1099511627776 < x
   ·go_wp2
    go_ret
    refine ⟨?_, rfl⟩
    rw [HD.out false]
    ·rfl
    rw [HV.out]
    constructor
    ·intro h; cases h
    ·intro h; have := h.2.2 k hlt; rw [HXX.out] at this; omega
   go_wp2
   go_round
   case rel =>
    refine ⟨k + 1, by omega, by go_num, fun j hj => ?_⟩
    by_cases e : j = k
    ·subst e; rw [HXX.out]; omega
    ·exact HJ.out j (by omega)
   case measure => simp [intOf]; omega
  ·have hkk : k = n := by omega
   subst hkk
   go_wp2
   go_ret
   refine ⟨?_, rfl⟩
   rw [HD.out true]
   ·rfl
   rw [HV.out]
   exact ⟨fun _ => ⟨by omega, by omega, HJ.out⟩, fun _ => rfl⟩
set_option maxHeartbeats 1000000 in
theorem implTimesOk (l : List Int) (v : Value) (w : World) (B : Nat) (hv : NumsV w B v l) (hn : l.length ≤ 1048576) : Calls Tryz.prog 231 #[v] w fun e w' => e = .returned (.bool (decide (TOk l))) ∧ w = w' := by
 obtain ⟨A, cap, rfl, _, _, hl⟩ := hv
 have HL : Hid (∀ j, j < l.length → ∃ g off, A = some ⟨g, off, none⟩ ∧ g < B ∧ _) := hl
 have HD : Hid (∀ b, (b = true ↔ TOk l) → decide (TOk l) = b) := by
  intro b hb
  cases b
  ·exact decide_eq_false fun h => by simp [h] at hb
  ·exact decide_eq_true (hb.1 rfl)
 have HV : Hid (TOk l ↔ 1 ≤ l.length ∧ l.length ≤ 60 ∧ ∀ j, j < l.length → (0 ≤ l.getD j 0 ∧ l.getD j 0 ≤ 1099511627776) ∧ (0 < j → l.getD (j - 1) 0 < l.getD j 0)) := Iff.rfl
 have q0 : (l.length : Int) ≤ 1048576 := by omega
 clear hl hn
 generalize hN : l.length = n at *
 clear hN
 by_cases h1 : (n : Int) < 1
 ·go_enter Tryz.func231, Tryz.ntmps231
  go_wp2
  go_ret
  refine ⟨?_, rfl⟩
  rw [HD.out false]
  ·rfl
  rw [HV.out]
  constructor
  ·intro h; cases h
  ·intro h; omega
 by_cases h2 : (60 : Int) < (n : Int)
 ·go_enter Tryz.func231, Tryz.ntmps231
  go_wp2
  go_ret
  refine ⟨?_, rfl⟩
  rw [HD.out false]
  ·rfl
  rw [HV.out]
  constructor
  ·intro h; cases h
  ·intro h; omega
 go_enter Tryz.func231, Tryz.ntmps231
 go_wp2
 go_loop [3, 16] (fun v3 v16 => ∃ (k : Nat) (m : Int), k ≤ n ∧ v16 = .int .i64 (k : Int) ∧ v3 = .int .i64 m ∧ 0 ≤ m ∧ m ≤ 1099511627777 ∧ Hid ((k = 0 → m = 0) ∧ (0 < k → m = l.getD (k - 1) 0 + 1)) ∧ Hid (∀ j, j < k → (0 ≤ l.getD j 0 ∧ l.getD j 0 ≤ 1099511627776) ∧ (0 < j → l.getD (j - 1) 0 < l.getD j 0))) (fun _ i => n - (intOf i).toNat)
 case atStart => exact ⟨0, 0, by omega, rfl, rfl, by omega, by omega, ⟨fun _ => rfl, fun h => by omega⟩, fun j hj => by omega⟩
 case round =>
  obtain ⟨k, m, hk, rfl, rfl, hm0, hm1, HM, HJ⟩ := hrel
  by_cases hlt : k < n
  ·have q2 : (k : Int) < (n : Int) := by omega
   obtain ⟨g, off, rfl, _, e1⟩ := HL.out k hlt
   generalize hx : l.getD k 0 = x at *
   have HXX : Hid (l.getD k 0 = x) := hx
   clear hx
   have HM2 : Hid (m ≤ x ↔ (0 ≤ x ∧ (0 < k → l.getD (k - 1) 0 < x))) := by
    obtain ⟨m1, m2⟩ := HM.out
    unfold Hid
    by_cases hk0 : k = 0
    ·rw [m1 hk0]
     constructor
     ·intro h; exact ⟨h, fun h => by omega⟩
     ·intro h; exact h.1
    ·have := m2 (by omega)
     constructor
     ·intro h; exact ⟨by omega, fun _ => by omega⟩
     ·intro h; have := h.2 (by omega); omega
   by_cases c1 : x < m
   ·go_wp2
    go_ret
    refine ⟨?_, rfl⟩
    rw [HD.out false]
    ·rfl
    rw [HV.out]
    constructor
    ·intro h; cases h
    ·intro h; have := h.2.2 k hlt; rw [HXX.out] at this; have := HM2.out.2 ⟨this.1.1, this.2⟩; omega
   by_cases c2 : 1099511627776 < x
   ·go_wp2
    go_ret
    refine ⟨?_, rfl⟩
    rw [HD.out false]
    ·rfl
    rw [HV.out]
    constructor
    ·intro h; cases h
    ·intro h; have := h.2.2 k hlt; rw [HXX.out] at this; omega
   go_wp2
   go_round
   case rel =>
    refine ⟨k + 1, x + 1, by omega, by go_num, by go_num, by omega, by omega, ⟨fun h => by omega, fun _ => by rw [Nat.add_sub_cancel, HXX.out]⟩, fun j hj => ?_⟩
    by_cases e : j = k
    ·subst e
     rw [HXX.out]
     have := HM2.out.1 (by omega)
     exact ⟨⟨this.1, by omega⟩, this.2⟩
    ·exact HJ.out j (by omega)
   case measure => simp [intOf]; omega
  ·have hkk : k = n := by omega
   subst hkk
   go_wp2
   go_ret
   refine ⟨?_, rfl⟩
   rw [HD.out true]
   ·rfl
   rw [HV.out]
   exact ⟨fun _ => ⟨by omega, by omega, HJ.out⟩, fun _ => rfl⟩
set_option maxHeartbeats 1000000 in
theorem specValuesOk (l : List Int) (v : Value) (w : World) (B : Nat) (hv : NumsV w B v l) (hn : l.length ≤ 1048576) : Calls Tryz.prog 184 #[v] w fun e w' => e = .returned (.bool (decide (VOk l))) ∧ w = w' := by
 obtain ⟨A, cap, rfl, _, _, hl⟩ := hv
 have HL : Hid (∀ j, j < l.length → ∃ g off, A = some ⟨g, off, none⟩ ∧ g < B ∧ _) := hl
 have HD : Hid (∀ b, (b = true ↔ VOk l) → decide (VOk l) = b) := by
  intro b hb
  cases b
  ·exact decide_eq_false fun h => by simp [h] at hb
  ·exact decide_eq_true (hb.1 rfl)
 have HV : Hid (VOk l ↔ 1 ≤ l.length ∧ l.length ≤ 60 ∧ ∀ j, j < l.length → -1099511627776 ≤ l.getD j 0 ∧ l.getD j 0 ≤ 1099511627776) := Iff.rfl
 have q0 : (l.length : Int) ≤ 1048576 := by omega
 clear hl hn
 generalize hN : l.length = n at *
 clear hN
 by_cases h1 : (n : Int) < 1 ∨ (60 : Int) < (n : Int)
 ·have c := fun wx => in_no (n : Int) 1 60 wx h1
  have H1 : Hid ((n : Int) < 1 ∨ (60 : Int) < (n : Int)) := h1
  clear h1
  go_enter Tryz.func184, Tryz.ntmps184
  go_wp2_with (go_at_call 30; refine (c _).mono ?_; rintro e w' ⟨rfl, rfl⟩)
  go_ret
  refine ⟨?_, rfl⟩
  rw [HD.out false]
  ·rfl
  rw [HV.out]
  constructor
  ·intro h; cases h
  ·intro h; have := H1.out; omega
 have c := fun wx => in_yes (n : Int) 1 60 wx (by omega) (by omega)
 have q1 : (n : Int) ≤ 60 := by omega
 have q11 : (1 : Int) ≤ (n : Int) := by omega
 clear h1
 go_enter Tryz.func184, Tryz.ntmps184
 go_wp2_with (go_at_call 30; refine (c _).mono ?_; rintro e w' ⟨rfl, rfl⟩)
 go_loop [3] (fun v3 => ∃ k : Nat, k ≤ n ∧ v3 = .int .i64 (k : Int) ∧ Hid (∀ j, j < k → -1099511627776 ≤ l.getD j 0 ∧ l.getD j 0 ≤ 1099511627776)) (fun i => n - (intOf i).toNat)
 case atStart => exact ⟨0, by omega, rfl, fun j hj => by omega⟩
 case round =>
  obtain ⟨k, hk, rfl, HJ⟩ := hrel
  by_cases hlt : k < n
  ·have q2 : (k : Int) < (n : Int) := by omega
   obtain ⟨g, off, rfl, _, e1⟩ := HL.out k hlt
   generalize hx : l.getD k 0 = x at *
   have HXX : Hid (l.getD k 0 = x) := hx
   clear hx
   by_cases c1 : x < -1099511627776 ∨ 1099511627776 < x
   ·have c2 := fun wx => in_no x (-1099511627776) 1099511627776 wx c1
    have H1 : Hid (x < -1099511627776 ∨ 1099511627776 < x) := c1
    clear c1
    go_wp2_with (go_at_call 30; refine (c2 _).mono ?_; rintro e w' ⟨rfl, rfl⟩)
    go_ret
    refine ⟨?_, rfl⟩
    rw [HD.out false]
    ·rfl
    rw [HV.out]
    constructor
    ·intro h; cases h
    ·intro h; have := h.2.2 k hlt; rw [HXX.out] at this; have := H1.out; omega
   have c2 := fun wx => in_yes x (-1099511627776) 1099511627776 wx (by omega) (by omega)
   have H1 : Hid (¬ (x < -1099511627776 ∨ 1099511627776 < x)) := c1
   clear c1
   go_wp2_with (go_at_call 30; refine (c2 _).mono ?_; rintro e w' ⟨rfl, rfl⟩)
   go_round
   case rel =>
    refine ⟨k + 1, by omega, by go_num, fun j hj => ?_⟩
    by_cases e : j = k
    ·subst e; rw [HXX.out]; have := H1.out; omega
    ·exact HJ.out j (by omega)
   case measure => simp [intOf]; omega
  ·have hkk : k = n := by omega
   subst hkk
   go_wp2
   go_ret
   refine ⟨?_, rfl⟩
   rw [HD.out true]
   ·rfl
   rw [HV.out]
   exact ⟨fun _ => ⟨by omega, by omega, HJ.out⟩, fun _ => rfl⟩
end Go.Proofs.YtikknmoeefipmaaGreatDoor
namespace Go.Proofs.YtikknmoeefipmaaGreatDoor
open Go.ChangeShapes Go.WideShapes Go.ChangeAt Go.RowKit Go.PlainAid
set_option linter.unusedVariables false
set_option maxHeartbeats 1000000 in
theorem specRise (l : List Int) (v : Value) (w : World) (B : Nat) (hv : NumsV w B v l) (hn : l.length ≤ 1048576) : Calls Tryz.prog 182 #[v] w fun e w' => e = .returned (.bool (decide (TOk l))) ∧ Like w w' := by
 obtain ⟨A, cap, rfl, _, _, hl⟩ := hv
 have HL : Hid (∀ j, j < l.length → ∃ g off, A = some ⟨g, off, none⟩ ∧ g < B ∧ _) := hl
 have HD : Hid (∀ b, (b = true ↔ TOk l) → decide (TOk l) = b) := by
  intro b hb
  cases b
  ·exact decide_eq_false fun h => by simp [h] at hb
  ·exact decide_eq_true (hb.1 rfl)
 have HV : Hid (TOk l ↔ 1 ≤ l.length ∧ l.length ≤ 60 ∧ ∀ j, j < l.length → (0 ≤ l.getD j 0 ∧ l.getD j 0 ≤ 1099511627776) ∧ (0 < j → l.getD (j - 1) 0 < l.getD j 0)) := Iff.rfl
 have q0 : (l.length : Int) ≤ 1048576 := by omega
 clear hl hn
 generalize hN : l.length = n at *
 clear hN
 by_cases h1 : (n : Int) < 1 ∨ (60 : Int) < (n : Int)
 ·have c := fun wx => in_no (n : Int) 1 60 wx h1
  have H1 : Hid ((n : Int) < 1 ∨ (60 : Int) < (n : Int)) := h1
  clear h1
  go_enter Tryz.func182, Tryz.ntmps182
  go_wp2_with (go_at_call 30; refine (c _).mono ?_; rintro e w' ⟨rfl, rfl⟩)
  go_ret
  refine ⟨?_, Like.refl _⟩
  rw [HD.out false]
  ·rfl
  rw [HV.out]
  constructor
  ·intro h; cases h
  ·intro h; have := H1.out; omega
 have c := fun wx => in_yes (n : Int) 1 60 wx (by omega) (by omega)
 have q1 : (n : Int) ≤ 60 := by omega
 have q11 : (1 : Int) ≤ (n : Int) := by omega
 clear h1
 go_enter Tryz.func182, Tryz.ntmps182
 go_wp2_with (go_at_call 30; refine (c _).mono ?_; rintro e w' ⟨rfl, rfl⟩)
 go_loopw [3] (fun v3 wr => ∃ k : Nat, k ≤ n ∧ v3 = .int .i64 (k : Int) ∧ Like w wr ∧ Hid (∀ j, j < k → (0 ≤ l.getD j 0 ∧ l.getD j 0 ≤ 1099511627776) ∧ (0 < j → l.getD (j - 1) 0 < l.getD j 0))) (fun i _ => n - (intOf i).toNat)
 case atStart => exact ⟨0, by omega, rfl, Like.refl _, fun j hj => by omega⟩
 case round =>
  obtain ⟨k, hk, rfl, hLk, HJ⟩ := hrel
  by_cases hlt : k < n
  ·have q2 : (k : Int) < (n : Int) := by omega
   obtain ⟨g, off, rfl, _, e1⟩ := HL.out k hlt
   obtain ⟨g', off', eA, _, e0⟩ := HL.out (k - 1) (by omega)
   injection eA with eA
   injection eA with eA1 eA2
   subst eA1
   subst eA2
   rw [← cell?_heap hLk.1] at e1 e0
   generalize hx : l.getD k 0 = x at *
   have HXX : Hid (l.getD k 0 = x) := hx
   clear hx
   generalize hy : l.getD (k - 1) 0 = y at *
   have HYY : Hid (l.getD (k - 1) 0 = y) := hy
   clear hy
   by_cases c1 : x < 0 ∨ 1099511627776 < x
   ·have c2 := fun wx => in_no x 0 1099511627776 wx c1
    have H1 : Hid (x < 0 ∨ 1099511627776 < x) := c1
    clear c1
    go_wp2_with fail
    go_quiet ((go_at_call 30; exact Calls.quiet_of_same ((c2 _).mono fun _ _ h => ⟨h.1, h.2.symm⟩)))
    go_wp2_with fail
    go_ret
    refine ⟨?_, hLk.drewN _⟩
    rw [HD.out false]
    ·rfl
    rw [HV.out]
    constructor
    ·intro h; cases h
    ·intro h; have := h.2.2 k hlt; rw [HXX.out] at this; have := H1.out; omega
   have c2 := fun wx => in_yes x 0 1099511627776 wx (by omega) (by omega)
   have H1 : Hid (¬ (x < 0 ∨ 1099511627776 < x)) := c1
   clear c1
   by_cases hk0 : k = 0
   ·have d0 : decide ((0 : Int) < (k : Int)) = false := decide_eq_false (by omega)
    have d1 : decide (0 < k) = false := decide_eq_false (by omega)
    have HK0 : Hid (k = 0) := hk0
    clear e0 hk0
    go_wp2_with fail
    go_quiet ((go_at_call 30; exact Calls.quiet_of_same ((c2 _).mono fun _ _ h => ⟨h.1, h.2.symm⟩)))
    go_wp2_with fail
    go_roundw
    case rel =>
     refine ⟨k + 1, by omega, by go_num, hLk.drewN _, fun j hj => ?_⟩
     have hk0 := HK0.out
     obtain rfl : j = k := by omega
     rw [HXX.out]
     have := H1.out
     exact ⟨by omega, fun h => by omega⟩
    case measure => simp [intOf]; omega
   have q3 : (0 : Int) < (k : Int) := by omega
   have q4 : decide (0 < k) = true := decide_eq_true (by omega)
   have q5 : 0 < k := by omega
   have e3 : ((k : Int) - 1).toNat = k - 1 := by omega
   by_cases c3 : x ≤ y
   ·go_wp2_with fail
    go_quiet ((go_at_call 30; exact Calls.quiet_of_same ((c2 _).mono fun _ _ h => ⟨h.1, h.2.symm⟩)))
    go_wp2_with fail
    go_ret
    refine ⟨?_, hLk.drewN _⟩
    rw [HD.out false]
    ·rfl
    rw [HV.out]
    constructor
    ·intro h; cases h
    ·intro h; have := (h.2.2 k hlt).2 (by omega); rw [HXX.out, HYY.out] at this; omega
   ·have d1 : decide (x ≤ y) = false := decide_eq_false c3
    go_wp2_with fail
    go_quiet ((go_at_call 30; exact Calls.quiet_of_same ((c2 _).mono fun _ _ h => ⟨h.1, h.2.symm⟩)))
    go_wp2_with fail
    go_roundw
    case rel =>
     refine ⟨k + 1, by omega, by go_num, hLk.drewN _, fun j hj => ?_⟩
     by_cases e : j = k
     ·subst e
      rw [HXX.out, HYY.out]
      have := H1.out
      exact ⟨by omega, fun _ => by omega⟩
     ·exact HJ.out j (by omega)
    case measure => simp [intOf]; omega
  ·have hkk : k = n := by omega
   subst hkk
   go_wp2
   go_ret
   refine ⟨?_, hLk⟩
   rw [HD.out true]
   ·rfl
   rw [HV.out]
   exact ⟨fun _ => ⟨by omega, by omega, HJ.out⟩, fun _ => rfl⟩
end Go.Proofs.YtikknmoeefipmaaGreatDoor
namespace Go.Proofs.YtikknmoeefipmaaGreatDoor
open Go.Shelf Go.RowKit
set_option linter.unusedVariables false
def bldRen : Go.Shelf.Ren := ⟨fun | 166 => 211 | 169 => 212 | 240 => 247 | 276 => 256 | f => f, fun | 20 => 20 | 37 => 55 | 70 => 259 | 72 => 261 | 75 => 143 | 80 => 267 | 127 => 211 | 164 => 227 | t => t, fun g => g⟩
theorem bld_lays166 : Go.Proofs.Lays.n166 Tryz.prog bldRen where
 mixed := by kernel_rfl
 f166 := Tryz.func211.trans (congrArg some (by kernel_rfl))
 f240 := Tryz.func247.trans (congrArg some (by kernel_rfl))
 f276 := Tryz.func256.trans (congrArg some (by kernel_rfl))
 t0 := Tryz.underlying0
 a0 := Tryz.isAgg0
 z0 := Tryz.sizeOf0
 v0 := Tryz.zeroValue0
 t3 := Tryz.underlying3
 a3 := Tryz.isAgg3
 z3 := Tryz.sizeOf3
 v3 := Tryz.zeroValue3
 t4 := Tryz.underlying4
 a4 := Tryz.isAgg4
 z4 := Tryz.sizeOf4
 v4 := Tryz.zeroValue4
 t9 := Tryz.underlying9
 a9 := Tryz.isAgg9
 z9 := Tryz.sizeOf9
 v9 := Tryz.zeroValue9
 t20 := Tryz.underlying20
 a20 := Tryz.isAgg20
 z20 := Tryz.sizeOf20
 v20 := Tryz.zeroValue20
 t37 := Tryz.underlying55
 a37 := Tryz.isAgg55
 z37 := Tryz.sizeOf55
 v37 := Tryz.zeroValue55
 t70 := Tryz.underlying259
 a70 := Tryz.isAgg259
 z70 := Tryz.sizeOf259
 v70 := Tryz.zeroValue259
 t72 := Tryz.underlying261
 a72 := Tryz.isAgg261
 z72 := Tryz.sizeOf261
 v72 := Tryz.zeroValue261
 t75 := Tryz.underlying143
 a75 := Tryz.isAgg143
 z75 := Tryz.sizeOf143
 v75 := Tryz.zeroValue143
 t164 := Tryz.underlying227
 a164 := Tryz.isAgg227
 z164 := Tryz.sizeOf227
 v164 := Tryz.zeroValue227
theorem bld_lays169 : Go.Proofs.Lays.n169 Tryz.prog bldRen where
 mixed := by kernel_rfl
 f169 := Tryz.func212.trans (congrArg some (by kernel_rfl))
 t0 := Tryz.underlying0
 a0 := Tryz.isAgg0
 z0 := Tryz.sizeOf0
 v0 := Tryz.zeroValue0
 t3 := Tryz.underlying3
 a3 := Tryz.isAgg3
 z3 := Tryz.sizeOf3
 v3 := Tryz.zeroValue3
 t9 := Tryz.underlying9
 a9 := Tryz.isAgg9
 z9 := Tryz.sizeOf9
 v9 := Tryz.zeroValue9
 t37 := Tryz.underlying55
 a37 := Tryz.isAgg55
 z37 := Tryz.sizeOf55
 v37 := Tryz.zeroValue55
 t70 := Tryz.underlying259
 a70 := Tryz.isAgg259
 z70 := Tryz.sizeOf259
 v70 := Tryz.zeroValue259
 t72 := Tryz.underlying261
 a72 := Tryz.isAgg261
 z72 := Tryz.sizeOf261
 v72 := Tryz.zeroValue261
 t127 := Tryz.underlying211
 a127 := Tryz.isAgg211
 z127 := Tryz.sizeOf211
 v127 := Tryz.zeroValue211
theorem bld_extra : Go.Proofs.Builder.Extra Tryz.prog bldRen where
 sizeBuilder := by kernel_rfl
 liesBuilder := by kernel_rfl
 t5 := Tryz.underlying5
 a5 := Tryz.isAgg5
 z5 := Tryz.sizeOf5
 v5 := Tryz.zeroValue5
 infoByte := by kernel_rfl
 cellsByte := by kernel_rfl
 sizeByte := by kernel_rfl
 neB5 := by decide
theorem bldWrite (B b : Nat) (bs : List Value) (s : ByteArray) (w : World) (h : Lib.IsBuilderF 261 5 B b bs w) (hlen : bs.length + s.size ≤ 140737488355328) (hBw : B ≤ w.heap.size) :
  Calls Tryz.prog 211 #[.pointer (some ⟨b, 0, none⟩), .string s] w fun e w' => e = .returned (.tuple #[.int .i64 s.size, .nilIface]) ∧ (Lib.BuilderAtF 261 5 B b (.pointer (some ⟨b, 0, none⟩)) (bs ++ Lib.strCells s) w' ∧ Below B w w' ∧ Lib.OthersKept 5 (some b) w w') := Any.Builder_WriteString_k bld_lays166 bld_extra B b bs s w h hlen hBw
theorem bldString (B b : Nat) (l : List UInt8) (w : World) (h : Lib.IsBuilderF 261 5 B b (Lib.byteCells l) w) (hBw : B ≤ w.heap.size) :
  Calls Tryz.prog 212 #[.pointer (some ⟨b, 0, none⟩)] w fun e w' => e = .returned (.string ⟨l.toArray⟩) ∧ (Lib.IsBuilderF 261 5 B b (Lib.byteCells l) w' ∧ Below B w w' ∧ Lib.OthersKept 5 (some b) w w') := Any.Builder_String_any_k bld_lays169 bld_extra B b l w h hBw
end Go.Proofs.YtikknmoeefipmaaGreatDoor
namespace Go.Proofs.YtikknmoeefipmaaGreatDoor
open Go.ChangeShapes Go.WideShapes Go.ChangeAt Go.RowKit Go.PlainAid
set_option linter.unusedVariables false
set_option maxHeartbeats 1000000 in
theorem differencesV (l : List Int) (v : Value) (w : World) (B : Nat) (F : Nat) (caps : Array Value) (Inv : Nat → World → Prop)
  (hF : ∀ args w, (callFunc F args).run Tryz.prog w = .ok (.enter F args) w) (hn : l.length ≤ 1048576) (hd : ∀ k, k < l.length → -4611686018427387904 ≤ dif l k ∧ dif l k ≤ 4611686018427387904)
  (hv : ∀ k wx, Inv k wx → NumsV wx B v l) (h0 : Inv 0 w)
  (hC : ∀ k, k < l.length → ∀ wx, Inv k wx → Calls Tryz.prog F (#[.int .i64 (k : Int), .int .i64 (dif l k)] ++ caps) wx fun e w' => (∃ u, e = .returned u) ∧ Inv (k + 1) w') :
  Calls Tryz.prog 232 #[v, .func (.func F) #[] caps] w fun e w' => (∃ u, e = .returned u) ∧ Inv l.length w' := by
 have HV : Hid (∀ k wx, Inv k wx → NumsV wx B v l) := hv
 have HC : Hid (∀ k, k < l.length → ∀ wx, Inv k wx → Calls Tryz.prog F (#[.int .i64 (k : Int), .int .i64 (dif l k)] ++ caps) wx fun e w' => (∃ u, e = .returned u) ∧ Inv (k + 1) w') := hC
 have HD : Hid (∀ k, k < l.length → -4611686018427387904 ≤ dif l k ∧ dif l k ≤ 4611686018427387904) := hd
 obtain ⟨A, cap, rfl, _, _, hl⟩ := hv 0 w h0
 have q0 : (l.length : Int) ≤ 1048576 := by omega
 clear hl hn hd hv hC
 generalize hN : l.length = n at *
 have HN : Hid (l.length = n) := hN
 clear hN
 go_enter Tryz.func232, Tryz.ntmps232
 go_wp2
 go_loopw [4, 9] (fun v4 v9 wr => ∃ k : Nat, k ≤ n ∧ v9 = .int .i64 (k : Int) ∧ v4 = .int .i64 (prv l k) ∧ Inv k wr) (fun _ i _ => n - (intOf i).toNat)
 case atStart => exact ⟨0, by omega, rfl, rfl, h0⟩
 case round =>
  obtain ⟨k, hk, rfl, rfl, hI⟩ := hrel
  by_cases hlt : k < n
  ·have q2 : (k : Int) < (n : Int) := by omega
   obtain ⟨A', cap', e', _, _, hl⟩ := HV.out k wr hI
   injection e' with ea eb ec
   subst ea
   subst ec
   obtain ⟨g, off, rfl, _, e1⟩ := hl k (by rw [HN.out]; exact hlt)
   have hdk := HD.out k hlt
   have cC := HC.out k hlt wr hI
   have HP : Hid (prv l (k + 1) = l.getD k 0) := prv_succ l k
   have ed : dif l k = l.getD k 0 - prv l k := rfl
   rw [ed] at hdk cC
   generalize l.getD k 0 = x at *
   generalize prv l k = y at *
   have hw : wrap64 (x - y) = x - y := by unfold wrap64; omega
   clear hl eb ed
   go_wp2_with fail
   refine cC.mono ?_
   rintro e w1 ⟨⟨u, rfl⟩, hI1⟩
   go_wp2_with fail
   go_roundw
   case rel => exact ⟨k + 1, by omega, by go_num, by rw [HP.out], hI1⟩
   case measure => simp [intOf]; omega
  ·obtain rfl : k = n := by omega
   go_wp2_with fail
   exact bodyPost_end (v := .tuple #[]) (by simp [results, go_sem]) rfl ⟨⟨_, rfl⟩, hI⟩
theorem strCells_append (a b : ByteArray) : Lib.strCells (a ++ b) = Lib.strCells a ++ Lib.strCells b := by simp [Lib.strCells, ByteArray.data_append]
theorem strCells_txt (l m : List UInt8) : Lib.strCells (txt (l ++ m)) = Lib.strCells (txt l) ++ Lib.strCells (txt m) := by rw [← txt_cat, strCells_append]
theorem bld_on {w w' : World} {B b : Nat} {bs : List Value} (h : Lib.IsBuilderF 261 5 B b bs w) (hb : Below w.heap.size w w') : Lib.IsBuilderF 261 5 B b bs w' := by
 have key : ∀ p, Lib.BuilderAtF 261 5 B b p bs w → Lib.BuilderAtF 261 5 B b p bs w' := by
  rintro p ⟨hB, v, hh, hown, hne⟩
  refine ⟨hB, v, by rw [hb.block b (lt_of_block hh)]; exact hh, ⟨hown.1, ?_⟩, hne⟩
  rcases hown.2 with h | ⟨g, cap, cur, fz, rfl, hbg, hg, rest⟩
  ·exact .inl h
  ·refine .inr ⟨g, cap, cur, fz, rfl, hbg, ?_, rest⟩
   rw [hb.block g (Array.getElem?_eq_some_iff.1 hg).1]
   exact hg
 exact h.imp (key _) (key _)
theorem bld_new {w : World} {b : Nat} (h : w.heap[b]? = some (.cells #[.pointer none, .slice none 0 0] 261 (0, 0))) : Lib.IsBuilderF 261 5 b b (Lib.strCells ByteArray.empty) w :=
 .inl ⟨Nat.le_refl _, .slice none 0 0, h, ⟨rfl, .inl ⟨rfl, rfl⟩⟩, fun e => by cases e⟩
def Bld (gb : Nat) (l : List UInt8) (w : World) : Prop := Lib.IsBuilderF 261 5 gb gb (Lib.strCells (txt l)) w
theorem Bld.on {gb : Nat} {l : List UInt8} {w w' : World} (h : Bld gb l w) (hb : Below w.heap.size w w') : Bld gb l w' := bld_on h hb
theorem bldWriteT (gb : Nat) (l m : List UInt8) (w : World) (h : Bld gb l w) (hlen : l.length + m.length ≤ 1048576) (hBw : gb ≤ w.heap.size) :
  Calls Tryz.prog 211 #[.pointer (some ⟨gb, 0, none⟩), .string (txt m)] w fun e w' => e = .returned (.tuple #[.int .i64 (m.length : Int), .nilIface]) ∧ Bld gb (l ++ m) w' ∧ Below gb w w' ∧ Lib.OthersKept 5 (some gb) w w' := by
 refine (bldWrite gb gb _ (txt m) w h (by rw [Lib.strCells_length]; have h1 := txt_size l; have h2 := txt_size m; omega) hBw).mono ?_
 rintro e w' ⟨rfl, h1, h2, h3⟩
 refine ⟨by rw [txt_size], ?_, h2, h3⟩
 unfold Bld
 rw [strCells_txt]
 exact .inr h1
theorem bldStringT (gb : Nat) (l : List UInt8) (w : World) (h : Bld gb l w) (hBw : gb ≤ w.heap.size) :
  Calls Tryz.prog 212 #[.pointer (some ⟨gb, 0, none⟩)] w fun e w' => e = .returned (.string (txt l)) ∧ Below gb w w' := by
 have h' : Lib.IsBuilderF 261 5 gb gb (Lib.byteCells l) w := by
  have : Lib.strCells (txt l) = Lib.byteCells l := by simp [Lib.strCells, Lib.byteCells, txt]
  rw [← this]
  exact h
 refine (bldString gb gb l w h' hBw).mono ?_
 rintro e w' ⟨rfl, _, h2, _⟩
 exact ⟨rfl, h2⟩
set_option maxHeartbeats 1000000 in
theorem specShowValues (l : List Int) (v : Value) (w : World) (B : Nat) (hv : NumsV w B v l) (hn : l.length ≤ 1048576) (hB : B ≤ w.heap.size) : Calls Tryz.prog 148 #[v] w fun e w' => e = .returned (.string (showV l)) ∧ Below w.heap.size w w' := by
 have c := specValuesOk l v w B hv hn
 have HV : Hid (NumsV w B v l) := hv
 have HB : Hid (B ≤ w.heap.size) := hB
 obtain ⟨A, cap, rfl, _, _, _⟩ := hv
 by_cases ho : VOk l
 ·have HE : Hid (showV l = txt (cat (vPiece l) l.length)) := by unfold Hid showV; rw [if_pos ho]
  have HO : Hid (VOk l) := ho
  rw [decide_eq_true ho] at c
  have q0 : (l.length : Int) ≤ 60 := by have := ho.2.1; omega
  clear ho hn hB
  generalize hN : l.length = n at *
  have HN : Hid (l.length = n) := hN
  clear hN
  go_enter Tryz.func148, Tryz.ntmps148
  go_wp2_with fail
  refine c.mono ?_
  rintro e w0 ⟨rfl, rfl⟩
  go_wp2_with fail
  go_loopw [3, 4, 5] (fun v3 v4 v5 wr => ∃ k : Nat, k ≤ n ∧ v5 = .int .i64 (k : Int) ∧ v4 = .int .i64 (prv l k) ∧ v3 = .string (txt (cat (vPiece l) k)) ∧ Below w.heap.size w wr) (fun _ _ i _ => n - (intOf i).toNat)
  case atStart => exact ⟨0, by omega, rfl, rfl, rfl, Below.refl _ _⟩
  case round =>
   obtain ⟨k, hk, rfl, rfl, rfl, hb⟩ := hrel
   have HB1 : Hid (Below w.heap.size w wr) := hb
   by_cases hlt : k < n
   ·have q2 : (k : Int) < (n : Int) := by omega
    obtain ⟨A', cap', e', _, _, hl⟩ := HV.out.on (hb.mono HB.out)
    injection e' with ea eb ec
    subst ea
    subst ec
    obtain ⟨g, off, rfl, hgB, e1⟩ := hl k (by rw [HN.out]; exact hlt)
    have hdk := HO.out.dif k (by rw [HN.out]; exact hlt)
    have cz := fun wx => spec_zig (dif l k) wx (by omega) (by omega)
    have hz0 := zig_pos (dif l k) (by omega) (by omega)
    have hz1 := (zig_range (dif l k)).2
    have cv := fun wx => spec_var (zig (dif l k)).toNat wx (by omega)
    rw [Int.toNat_of_nonneg hz0] at cv
    have HP : Hid (prv l (k + 1) = l.getD k 0) := prv_succ l k
    have ed : dif l k = l.getD k 0 - prv l k := rfl
    have ecat : cat (vPiece l) (k + 1) = cat (vPiece l) k ++ vF 6 (zig (dif l k)).toNat := cat_succ _ _
    have hl1 := cat_length (vPiece l) (vPiece_length l) k
    have hl2 := vF_length 6 (zig (dif l k)).toNat
    have HCT : Hid (txt (cat (vPiece l) (k + 1)) = txt (cat (vPiece l) k) ++ txt (vF 6 (zig (dif l k)).toNat)) := by unfold Hid; rw [ecat, txt_cat]
    have hs1 := txt_size (cat (vPiece l) k)
    have hs2 := txt_size (vF 6 (zig (dif l k)).toNat)
    generalize txt (cat (vPiece l) k) = sa at *
    generalize txt (vF 6 (zig (dif l k)).toNat) = sb at *
    have hsum : sa.size + sb.size ≤ 9223372036854775807 := by omega
    generalize zig (dif l k) = z at *
    clear ecat hl1 hl2 hs1 hs2
    rw [ed] at hdk cz
    have he1 : ∀ wx, Below wr.heap.size wr wx → wx.cell? ⟨g, off + k, none⟩ = some (.int .i64 (l.getD k 0)) := fun wx hx => by rw [hx.cell (p := ⟨_, _, none⟩) (by have := hb.size; have := HB.out; show g < _; omega)]; exact e1
    generalize l.getD k 0 = x at *
    generalize prv l k = y at *
    have hw : wrap64 (x - y) = x - y := by unfold wrap64; omega
    clear hl eb ed hb
    go_wp2_with fail
    refine (cz _).mono ?_
    rintro e w1 ⟨rfl, rfl⟩
    go_wp2_with fail
    refine (cv _).mono ?_
    rintro e w2 ⟨rfl, hb2⟩
    have e2 := he1 _ hb2
    have HB2 : Hid (Below w.heap.size w w2) := HB1.out.trans (hb2.mono HB1.out.size)
    clear he1 hb2
    go_wp2_with fail
    go_roundw
    case rel => exact ⟨k + 1, by omega, by go_num, by rw [HP.out], by rw [HCT.out], HB2.out⟩
    case measure => simp [intOf]; omega
   ·obtain rfl : k = n := by omega
    clear hb
    go_wp2_with fail
    go_ret
    exact ⟨by rw [HE.out]; rfl, HB1.out⟩
 ·have HE : Hid (showV l = txt []) := by unfold Hid showV; rw [if_neg ho]
  rw [decide_eq_false ho] at c
  clear ho
  go_enter Tryz.func148, Tryz.ntmps148
  go_wp2_with fail
  refine c.mono ?_
  rintro e w0 ⟨rfl, rfl⟩
  go_wp2_with fail
  go_ret
  exact ⟨by rw [HE.out]; rfl, Below.refl _ _⟩
set_option maxHeartbeats 1000000 in
theorem showVals1 (k : Nat) (d : Int) (gb : Nat) (l : List UInt8) (w : World) (h1 : -140737488355328 ≤ d) (h2 : d ≤ 140737488355328) (hb : Bld gb l w) (hl : l.length ≤ 1000) (hg : gb ≤ w.heap.size) :
  Calls Tryz.prog 237 #[.int .i64 (k : Int), .int .i64 d, .pointer (some ⟨gb, 0, none⟩)] w fun e w' => (∃ u, e = .returned u) ∧ Bld gb (l ++ vF 6 (zig d).toNat) w' ∧ Below gb w w' := by
 have cz := fun wx => impl_zig d wx (by omega) (by omega)
 have hz0 := zig_pos d h1 h2
 have hz1 := (zig_range d).2
 have cv := fun wx => impl_var (zig d).toNat wx (by omega)
 rw [Int.toNat_of_nonneg hz0] at cv
 have HBD : Hid (Bld gb l w) := hb
 have HG : Hid (gb ≤ w.heap.size) := hg
 have hvl := vF_length 6 (zig d).toNat
 have HL : Hid (l.length + (vF 6 (zig d).toNat).length ≤ 1048576) := by unfold Hid; omega
 clear hb hg hl hvl
 generalize hvv : vF 6 (zig d).toNat = vv at *
 generalize zig d = z at *
 go_enter Tryz.func237, Tryz.ntmps237
 go_wp2_with fail
 refine (cz _).mono ?_
 rintro e w1 ⟨rfl, rfl⟩
 go_wp2_with fail
 refine (cv _).mono ?_
 rintro e w2 ⟨rfl, hb2⟩
 have HB2 : Hid (Below gb w w2) := hb2.mono HG.out
 have Z2 : Hid (gb ≤ w2.heap.size) := Nat.le_trans HG.out hb2.size
 have L2 : Hid (Bld gb l w2) := HBD.out.on hb2
 clear hb2
 go_wp2_with fail
 refine (bldWriteT gb l vv w2 L2.out HL.out Z2.out).mono ?_
 rintro e w3 ⟨rfl, hB3, hb3, _⟩
 have HB3 : Hid (Below gb w w3) := HB2.out.trans hb3
 clear hb3
 go_wp2_with fail
 exact bodyPost_end (v := .tuple #[]) (by simp [results, go_sem]) rfl ⟨⟨_, rfl⟩, hB3, HB3.out⟩
set_option maxHeartbeats 1000000 in
theorem implShowValues (l : List Int) (v : Value) (w : World) (B : Nat) (hv : NumsV w B v l) (hn : l.length ≤ 1048576) (hB : B ≤ w.heap.size) : Calls Tryz.prog 202 #[v] w fun e w' => e = .returned (.string (showV l)) ∧ Below w.heap.size w w' := by
 have c := implValuesOk l v w B hv hn
 have HV : Hid (NumsV w B v l) := hv
 have HB : Hid (B ≤ w.heap.size) := hB
 obtain ⟨A, cap, rfl, _, _, _⟩ := hv
 by_cases ho : VOk l
 ·have HE : Hid (showV l = txt (cat (vPiece l) l.length)) := by unfold Hid showV; rw [if_pos ho]
  have HO : Hid (VOk l) := ho
  have HN : Hid (l.length ≤ 60) := ho.2.1
  rw [decide_eq_true ho] at c
  have k0 : (w.alloc (.cells #[.pointer none, .slice none 0 0] 261)).heap[w.heap.size]? = some (.cells #[.pointer none, .slice none 0 0] 261 (0, 0)) := heap_alloc_new w _
  have b0 : Below w.heap.size w (w.alloc (.cells #[.pointer none, .slice none 0 0] 261)) := (Below.refl _ _).alloc (Nat.le_refl _) _
  clear ho hB
  go_enter Tryz.func202, Tryz.ntmps202
  go_wp2_with fail
  refine c.mono ?_
  rintro e w0 ⟨rfl, rfl⟩
  go_wp2_with fail
  generalize w.alloc (.cells #[.pointer none, .slice none 0 0] 261) = W at *
  have cD := differencesV l (.slice A l.length cap) W B 237 #[.pointer (some ⟨w.heap.size, 0, none⟩)] (fun k wx => Below w.heap.size w wx ∧ Bld w.heap.size (cat (vPiece l) k) wx) (fun _ _ => by kernel_rfl) hn (fun k hk => by have := HO.out.dif k hk; omega) (fun k wx hx => HV.out.on (hx.1.mono HB.out)) ⟨b0, bld_new k0⟩ (fun k hk wx hx => by
   have hd := HO.out.dif k hk
   have hc := cat_length (vPiece l) (vPiece_length l) k
   have hN := HN.out
   refine (showVals1 k (dif l k) w.heap.size (cat (vPiece l) k) wx (by omega) (by omega) hx.2 (by omega) hx.1.size).mono ?_
   rintro e w' ⟨hu, h1, h2⟩
   exact ⟨hu, hx.1.trans h2, by rw [cat_succ]; exact h1⟩)
  refine cD.mono ?_
  rintro e w2 ⟨⟨u, rfl⟩, hb2, hB2⟩
  have cS := bldStringT w.heap.size _ w2 hB2 hb2.size
  have HB2 : Hid (Below w.heap.size w w2) := hb2
  clear hb2 hB2 cD b0 k0
  go_wp2_with fail
  refine cS.mono ?_
  rintro e w3 ⟨rfl, hb3⟩
  have HB3 : Hid (Below w.heap.size w w3) := HB2.out.trans hb3
  clear hb3 cS
  go_wp2_with fail
  go_ret
  exact ⟨by rw [HE.out]; rfl, HB3.out⟩
 ·have HE : Hid (showV l = txt []) := by unfold Hid showV; rw [if_neg ho]
  rw [decide_eq_false ho] at c
  clear ho
  go_enter Tryz.func202, Tryz.ntmps202
  go_wp2_with fail
  refine c.mono ?_
  rintro e w0 ⟨rfl, rfl⟩
  go_wp2_with fail
  go_ret
  exact ⟨by rw [HE.out]; rfl, Below.refl _ _⟩
end Go.Proofs.YtikknmoeefipmaaGreatDoor
