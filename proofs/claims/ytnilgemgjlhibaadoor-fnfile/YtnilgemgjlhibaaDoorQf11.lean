/- FlDraw FlDrawT PtSam1 SrSame -/
import Derived.Test.YtnilgemgjlhibaaDoorQf10
import Derived.ArgAppend
import Derived.WalkKit
import Derived.ProofKit
import Derived.OpenShut
import Derived.Below
import Derived.WalkSmall
import Derived.BigQuiet
import Derived.Deep.QuietTactic
import Derived.Deep.RegionWith
import Derived.Handy
import Derived.Test.YtnilgemgjlhibaaDoorRows
import Derived.Test.YtnilgemgjlhibaaDoorQf1
import Derived.Test.YtnilgemgjlhibaaDoorQf2
import Derived.Test.YtnilgemgjlhibaaDoorQf4
import Derived.Laws.StructEq
import Derived.Test.YtnilgemgjlhibaaDoorQf7
open List (setIfInBounds_toArray set_cons_zero set_cons_succ)
namespace Go.Proofs.YtnilgemgjlhibaaDoor
open Go.ChangeShapes Go.WideShapes Go.ChangeAt Go.RowKit Go.PlainAid
set_option linter.unusedVariables false
set_option maxHeartbeats 8000000 in
theorem series_any (w : World) (p : Nat) (most : Int) (hm0 : 1 ≤ most) (hm1 : most ≤ 500) (h : AtS w p) : Calls Tryd.prog 15 #[.pointer (some ⟨p, 0, none⟩), .int .i64 most] w (DrawnF w p) := by
 have HP : Hid (p < w.heap.size) := h.lt
 have hal : Below w.heap.size w ((w.alloc (.cells #[] 36)).alloc (.cells #[.string ⟨#[97]⟩, .string ⟨#[99, 112, 117]⟩, .string ⟨#[100, 105, 115, 107]⟩, .string ⟨#[109, 101, 109]⟩, .string ⟨#[122, 122, 122, 122, 122, 122, 122, 122]⟩] 9)) := ((Below.refl _ w).alloc (Nat.le_refl _) _).alloc (by rw [World.size_alloc]; omega) _
 have N0 := Blk.new (w.alloc (.cells #[] 36)) (strC names1) 9
 rw [World.size_alloc] at N0
 have hE : SerO ((w.alloc (.cells #[] 36)).alloc (.cells #[.string ⟨#[97]⟩, .string ⟨#[99, 112, 117]⟩, .string ⟨#[100, 105, 115, 107]⟩, .string ⟨#[109, 101, 109]⟩, .string ⟨#[122, 122, 122, 122, 122, 122, 122, 122]⟩] 9)) w.heap.size (.slice (some ⟨w.heap.size, 0, none⟩) 0 0) [] := ⟨(Owns.empty w w.heap.size 36 2 (Nat.le_refl _)).alloc _, fun p hp => (by cases hp), List.Pairwise.nil⟩
 have hA0 := h.below hal h.lt
 have hM0 : Mod w.heap.size p w ((w.alloc (.cells #[] 36)).alloc (.cells #[.string ⟨#[97]⟩, .string ⟨#[99, 112, 117]⟩, .string ⟨#[100, 105, 115, 107]⟩, .string ⟨#[109, 101, 109]⟩, .string ⟨#[122, 122, 122, 122, 122, 122, 122, 122]⟩] 9)) := Mod.of_below hal
 have E0 : Hid (SerO ((w.alloc (.cells #[] 36)).alloc (.cells #[.string ⟨#[97]⟩, .string ⟨#[99, 112, 117]⟩, .string ⟨#[100, 105, 115, 107]⟩, .string ⟨#[109, 101, 109]⟩, .string ⟨#[122, 122, 122, 122, 122, 122, 122, 122]⟩] 9)) w.heap.size (.slice (some ⟨w.heap.size, 0, none⟩) 0 0) []) := hE
 have NB0 : Hid (Blk ((w.alloc (.cells #[] 36)).alloc (.cells #[.string ⟨#[97]⟩, .string ⟨#[99, 112, 117]⟩, .string ⟨#[100, 105, 115, 107]⟩, .string ⟨#[109, 101, 109]⟩, .string ⟨#[122, 122, 122, 122, 122, 122, 122, 122]⟩] 9)) (w.heap.size + 1) (strC names1) 9) := N0
 have A0 : Hid (AtS ((w.alloc (.cells #[] 36)).alloc (.cells #[.string ⟨#[97]⟩, .string ⟨#[99, 112, 117]⟩, .string ⟨#[100, 105, 115, 107]⟩, .string ⟨#[109, 101, 109]⟩, .string ⟨#[122, 122, 122, 122, 122, 122, 122, 122]⟩] 9)) p) := hA0
 have M0 : Hid (Mod w.heap.size p w ((w.alloc (.cells #[] 36)).alloc (.cells #[.string ⟨#[97]⟩, .string ⟨#[99, 112, 117]⟩, .string ⟨#[100, 105, 115, 107]⟩, .string ⟨#[109, 101, 109]⟩, .string ⟨#[122, 122, 122, 122, 122, 122, 122, 122]⟩] 9))) := hM0
 clear hal N0 hE hA0 hM0 h
 go_enter Tryd.func15, Tryd.ntmps15
 go_wp2_with fail
 generalize ((w.alloc (.cells #[] 36)).alloc (.cells #[.string ⟨#[97]⟩, .string ⟨#[99, 112, 117]⟩, .string ⟨#[100, 105, 115, 107]⟩, .string ⟨#[109, 101, 109]⟩, .string ⟨#[122, 122, 122, 122, 122, 122, 122, 122]⟩] 9)) = w0 at *
 go_loopw [5, 7] (fun v5 v7 wr => ∃ (k : Nat) (L : List (Ser × Value)), k ≤ 5 ∧ v7 = .int .i64 (k : Int) ∧ L.length ≤ k ∧ LDr L ∧ SerO wr w.heap.size v5 L ∧ Blk wr (w.heap.size + 1) (strC names1) 9 ∧ AtS wr p ∧ Mod w.heap.size p w wr) (fun _ i _ => 5 - (intOf i).toNat)
 case atStart => exact ⟨0, [], by omega, rfl, by simp, fun q hq => (by cases hq), E0.out, NB0.out, A0.out, M0.out⟩
 case round =>
  obtain ⟨k, L, hk, rfl, hLl, hLd, hO, hN, hA, hM⟩ := hrel
  have HLL : Hid (L.length ≤ k) := hLl
  have HLD : Hid (LDr L) := hLd
  have HO : Hid (SerO wr w.heap.size u5 L) := hO
  have HNB : Hid (Blk wr (w.heap.size + 1) (strC names1) 9) := hN
  have HA : Hid (AtS wr p) := hA
  have HM : Hid (Mod w.heap.size p w wr) := hM
  clear hLl hLd hO hN hA hM E0 NB0 A0 M0
  by_cases hlt : k < 5
  ·have q4 : (k : Int) < 5 := by omega
   go_wp2_with fail
   refine (once_some wr p 2 (by omega) HA.out).mono ?_
   rintro e w1 ⟨b, rfl, hA, hm⟩
   have A1 : Hid (AtS w1 p) := hA
   have M1 : Hid (Mod w.heap.size p w w1) := HM.out.trans (hm.mono HM.out.size)
   have O1 : Hid (SerO w1 w.heap.size u5 L) := HO.out.mod hm HP.out (Nat.le_refl _)
   have NB1 : Hid (Blk w1 (w.heap.size + 1) (strC names1) 9) := Blk.mod HNB.out hm HNB.out.lt (by have := HP.out; omega)
   clear hA hm HA HM HO HNB
   cases b with
   | false =>
    go_wp2_with fail
    go_roundw
    case rel => exact ⟨k + 1, L, by omega, by go_num, by have := HLL.out; omega, HLD.out, O1.out, NB1.out, A1.out, M1.out⟩
    case measure => simp [intOf]; omega
   | true =>
    have hkx := strC_at names1 k (by show k < 5; exact hlt)
    have HKP : Hid (KeyP (names1.getD k ⟨#[]⟩)) := names1_ok _ (strC_mem names1 k (by show k < 5; exact hlt))
    have S0 : Hid (w1.drew.cell? ⟨w.heap.size + 1, k, none⟩ = some (.string (names1.getD k ⟨#[]⟩))) := NB1.out.cell k _ hkx
    have SW : Hid (∀ wx, Blk wx (w.heap.size + 1) (strC names1) 9 → wx.cell? ⟨w.heap.size + 1, k, none⟩ = some (.string (names1.getD k ⟨#[]⟩))) := fun wx hB => hB.cell k _ hkx
    generalize names1.getD k ⟨#[]⟩ = xk at *
    clear hkx
    have cR := right_any w1.drew p most hm0 hm1 A1.out
    have HZd : Hid (w.heap.size ≤ w1.heap.size) := M1.out.size
    go_wp2_with fail
    refine wp_region_until (fun w' => w'.cell? ⟨w.heap.size + 1, k, none⟩ = some (.string xk)) (fun i => i == 10 || i == 11) 12 (by rfl) (by kernel_rfl) ?_
    refine until_take 0 (v := ?_) (by rfl) (by kernel_rfl) (by exact fun _ _ _ h => h) (by rfl) ?_ S0.out ?_
    rotate_left
    ·intro w hSw
     try dsimp only at hSw
     go_simp
     try with_reducible rfl
    try simp only [Act.put, setIfInBounds_toArray, set_cons_zero, set_cons_succ]
    refine until_take 1 (v := ?_) (by rfl) (by kernel_rfl) (by exact fun _ _ _ h => h) (by rfl) ?_ S0.out ?_
    rotate_left
    ·intro w hSw
     try dsimp only at hSw
     go_simp
     try with_reducible rfl
    try simp only [Act.put, setIfInBounds_toArray, set_cons_zero, set_cons_succ]
    refine until_take 2 (v := ?_) (by rfl) (by kernel_rfl) (by exact fun _ _ _ h => h) (by rfl) ?_ S0.out ?_
    rotate_left
    ·intro w hSw
     try dsimp only at hSw
     go_simp
     try with_reducible rfl
    try simp only [Act.put, setIfInBounds_toArray, set_cons_zero, set_cons_succ]
    refine until_take 3 (v := ?_) (by rfl) (by kernel_rfl) (by exact fun _ _ _ h => h) (by rfl) ?_ S0.out ?_
    rotate_left
    ·intro w hSw
     try dsimp only at hSw
     go_simp
     try with_reducible rfl
    try simp only [Act.put, setIfInBounds_toArray, set_cons_zero, set_cons_succ]
    refine until_take 4 (v := ?_) (by rfl) (by kernel_rfl) (by exact fun _ _ _ h => h) (by rfl) ?_ S0.out ?_
    rotate_left
    ·intro w hSw
     try dsimp only at hSw
     go_simp
     try with_reducible rfl
    try simp only [Act.put, setIfInBounds_toArray, set_cons_zero, set_cons_succ]
    refine until_take 5 (v := ?_) (by rfl) (by kernel_rfl) (by exact fun _ _ _ h => h) (by rfl) ?_ S0.out ?_
    rotate_left
    ·intro w hSw
     try dsimp only at hSw
     go_simp
     try with_reducible rfl
    try simp only [Act.put, setIfInBounds_toArray, set_cons_zero, set_cons_succ]
    refine until_take 6 (v := ?_) (by rfl) (by kernel_rfl) (by exact fun _ _ _ h => h) (by rfl) ?_ S0.out ?_
    rotate_left
    ·intro w hSw
     try dsimp only at hSw
     go_simp
     try with_reducible rfl
    try simp only [Act.put, setIfInBounds_toArray, set_cons_zero, set_cons_succ]
    refine until_one 7 (by rfl) (by kernel_rfl) (fun K hK => ?_)
    go_simp
    refine cR.mono ?_
    rintro e Y ⟨up, lp, rfl, hOp, hlp, hA, hm⟩
    obtain ⟨A3, n3, c3, rfl⟩ := hOp.shape
    have A2 : Hid (AtS Y p) := hA
    have M2 : Hid (Mod w.heap.size p w Y) := M1.out.drew.trans (hm.mono M1.out.size)
    have O2 : Hid (SerO Y w.heap.size u5 L) := SerO.mod (w := w1.drew) (O1.out.on (Below.refl _ w1).drew) hm HP.out (Nat.le_refl _)
    have NB2 : Hid (Blk Y (w.heap.size + 1) (strC names1) 9) := Blk.mod (w := w1.drew) NB1.out hm NB1.out.lt (by have := HP.out; omega)
    have UP2 : Hid (Owns Y w.heap.size 39 2 (.slice A3 n3 c3) (ptR lp)) := hOp.mono HZd.out
    have AP2 : Hid (∀ q ∈ L, Apart q.2 (.slice A3 n3 c3)) := fun q hq gg h1 h2 => by
     have := ((O1.out.2.1 q hq).lt gg h1).2
     have := (hOp.lt gg h2).1
     have e : w1.drew.heap.size = w1.heap.size := rfl
     omega
    have HLP : Hid (lp.length ≤ 600) := by unfold Hid; omega
    have Z2 : w.heap.size ≤ Y.heap.size := M2.out.size
    have L2 : (srR L).length ≤ 2097152 := by rw [srR_length]; have := HLL.out; omega
    obtain ⟨nA, nm, nc, w5, r5, hO5, hb5, hk5, _⟩ := run_append_row (P := Tryd.prog) Y 24 24 36 (.agg #[.string ⟨#[]⟩, .slice none 0 0]) 2 40 Tryd.underlying24 Tryd.infoSr rfl (by omega) w.heap.size u5 (srR L) O2.out.1 [.string xk, .slice A3 n3 c3] rfl (by intro y hy; simp only [List.mem_cons, List.not_mem_nil, or_false] at hy; rcases hy with rfl | rfl <;> rfl) L2 (by omega) Z2
    have hne5 : ∀ (v : Value) (b : Nat) (e : TypeId) (sz : Nat) (r : List (List Value)), Owns Y b e sz v r → e ≠ 36 → Owns w5 b e sz v r := fun v b e sz r ho hne => ho.kept fun gg hg hv => hk5 gg hg (fun hu => ho.apartT O2.out.1 hne gg hv hu)
    have O5 : Hid (SerO w5 w.heap.size (.slice nA nm nc) (L ++ [(⟨xk, lp⟩, .slice A3 n3 c3)])) := SerO.snoc (w1 := Y) (v := u5) hO5 (fun q hq => hne5 _ _ _ _ _ (O2.out.2.1 q hq) (by decide)) O2.out.2.2 (hne5 _ _ _ _ _ UP2.out (by decide)) AP2.out
    have NB5 : Hid (Blk w5 (w.heap.size + 1) (strC names1) 9) := (hk5 _ NB2.out.lt (O2.out.1.notBlk NB2.out (by decide))).trans NB2.out
    have A5 : Hid (AtS w5 p) := A2.out.below hb5 HP.out
    have M5 : Hid (Mod w.heap.size p w w5) := M2.out.trans (Mod.of_below hb5)
    have LD5 : Hid (LDr (L ++ [((⟨xk, lp⟩ : Ser), Value.slice A3 n3 c3)])) := HLD.out.snoc HLP.out HKP.out
    have LL5 : Hid ((L ++ [((⟨xk, lp⟩ : Ser), Value.slice A3 n3 c3)]).length ≤ k + 1) := by unfold Hid; rw [List.length_append]; simp only [List.length_singleton]; have := HLL.out; omega
    clear hO5 hb5 hk5 hne5 hOp hlp hA hm cR
    go_wp2_with fail
    refine hK.out _ _ (fun _ _ => SW.out _ NB2.out) ?_
    clear hK K
    try simp only [Act.put, setIfInBounds_toArray, set_cons_zero, set_cons_succ]
    refine until_pure 8 (v := ?_) (by rfl) (by kernel_rfl) (by exact fun _ _ _ h => h) (by rfl) ?_ ?_
    rotate_left
    ·intro w
     go_simp
     try with_reducible rfl
    try simp only [Act.put, setIfInBounds_toArray, set_cons_zero, set_cons_succ]
    refine until_one 9 (by rfl) (by kernel_rfl) (fun K hK => ?_)
    go_simp
    refine hK.out _ _ (fun _ h => cell_alloc_keep h _) ?_
    clear hK K
    try simp only [Act.put, setIfInBounds_toArray, set_cons_zero, set_cons_succ]
    refine until_one 10 (by rfl) (by kernel_rfl) (fun K hK => ?_)
    refine step_append_run (by rfl) (.tmp 18) (.tmp 27) 24 (by rfl) _ _ _ _ (by rfl) (by rfl) r5 ?_
    refine hK.out _ _ (fun h => by cases h) ?_
    clear hK K
    try simp only [Act.put, setIfInBounds_toArray, set_cons_zero, set_cons_succ]
    refine until_one 11 (by rfl) (by kernel_rfl) (fun K hK => ?_)
    go_simp
    refine hK.out _ _ (fun h => by cases h) ?_
    clear hK K
    try simp only [Act.put, setIfInBounds_toArray, set_cons_zero, set_cons_succ]
    refine until_done (by kernel_rfl) ?_ _
    go_wp2_with fail
    go_roundw
    case rel => exact ⟨k + 1, _, by omega, by go_num, LL5.out, LD5.out, O5.out, NB5.out, A5.out, M5.out⟩
    case measure => simp [intOf]; omega
  ·obtain rfl : k = 5 := by omega
   have HL5 : Hid (L.length ≤ 5) := HLL.out
   obtain ⟨A6, c6, rfl, _⟩ := sr_look HO.out.lies.1
   generalize hn6 : L.length = n6 at *
   have HN6 : Hid (L.length = n6) := hn6
   clear hn6
   go_wp2_with fail
   refine (once_some wr p 12 (by omega) HA.out).mono ?_
   rintro e w1 ⟨b, rfl, hA, hm⟩
   have A1 : Hid (AtS w1 p) := hA
   have M1 : Hid (Mod w.heap.size p w w1) := HM.out.trans (hm.mono HM.out.size)
   have O1 : Hid (SerO w1 w.heap.size (.slice A6 n6 c6) L) := HO.out.mod hm HP.out (Nat.le_refl _)
   clear hA hm HA HM HO HNB HLL
   cases b with
   | false =>
    go_wp2_with fail
    go_ret
    exact DrawnF.of O1.out (by have := HL5.out; have := HN6.out; omega) HLD.out.big M1.out
   | true =>
   go_wp2_with fail
   refine (belowS w1 p 4 (by omega) (by omega) A1.out).mono ?_
   rintro e w2 ⟨v2, rfl, ⟨v20, v21⟩, hA, hm⟩
   have A2 : Hid (AtS w2 p) := hA
   have M2 : Hid (Mod w.heap.size p w w2) := M1.out.trans (hm.mono M1.out.size)
   have O2 : Hid (SerO w2 w.heap.size (.slice A6 n6 c6) L) := O1.out.mod hm HP.out (Nat.le_refl _)
   clear hA hm A1 M1 O1
   rcases (show v2 = 0 ∨ v2 = 1 ∨ v2 = 2 ∨ v2 = 3 by omega) with rfl | rfl | rfl | rfl
   ·have cP := fun (hB : Blk (w2.alloc (.cells #[.string ⟨#[]⟩, .string ⟨#[65]⟩, .string ⟨#[98]⟩, .string ⟨#[122, 122, 122, 122, 122, 122, 122, 122, 122]⟩, .string ⟨#[122, 122]⟩] 9)) w2.heap.size (strC names2) 9) (hA : AtS (w2.alloc (.cells #[.string ⟨#[]⟩, .string ⟨#[65]⟩, .string ⟨#[98]⟩, .string ⟨#[122, 122, 122, 122, 122, 122, 122, 122, 122]⟩, .string ⟨#[122, 122]⟩] 9)) p) => pickT (w2.alloc (.cells #[.string ⟨#[]⟩, .string ⟨#[65]⟩, .string ⟨#[98]⟩, .string ⟨#[122, 122, 122, 122, 122, 122, 122, 122, 122]⟩, .string ⟨#[122, 122]⟩] 9)) p w2.heap.size names2 5 rfl (by omega) (by omega) hA (by have := A2.out.lt; omega) hB
    have hbA : Below w2.heap.size w2 (w2.alloc (.cells #[.string ⟨#[]⟩, .string ⟨#[65]⟩, .string ⟨#[98]⟩, .string ⟨#[122, 122, 122, 122, 122, 122, 122, 122, 122]⟩, .string ⟨#[122, 122]⟩] 9)) := (Below.refl _ w2).alloc (Nat.le_refl _) _
    have cP2 := cP (Blk.new w2 _ _) (A2.out.below hbA A2.out.lt)
    have MA : Hid (Mod w.heap.size p w (w2.alloc (.cells #[.string ⟨#[]⟩, .string ⟨#[65]⟩, .string ⟨#[98]⟩, .string ⟨#[122, 122, 122, 122, 122, 122, 122, 122, 122]⟩, .string ⟨#[122, 122]⟩] 9))) := M2.out.alloc M2.out.size _
    have OA : Hid (SerO (w2.alloc (.cells #[.string ⟨#[]⟩, .string ⟨#[65]⟩, .string ⟨#[98]⟩, .string ⟨#[122, 122, 122, 122, 122, 122, 122, 122, 122]⟩, .string ⟨#[122, 122]⟩] 9)) w.heap.size (.slice A6 n6 c6) L) := O2.out.on hbA
    clear cP hbA
    go_wp2_with fail
    generalize w2.alloc (.cells #[.string ⟨#[]⟩, .string ⟨#[65]⟩, .string ⟨#[98]⟩, .string ⟨#[122, 122, 122, 122, 122, 122, 122, 122, 122]⟩, .string ⟨#[122, 122]⟩] 9) = wA at *
    refine cP2.mono ?_
    rintro e w3 ⟨xk, rfl, hxk, hA, hm⟩
    have HKP : Hid (KeyP xk) := names2_ok xk hxk
    have A3 : Hid (AtS w3 p) := hA
    have M3 : Hid (Mod w.heap.size p w w3) := MA.out.trans (hm.mono MA.out.size)
    have O3 : Hid (SerO w3 w.heap.size (.slice A6 n6 c6) L) := OA.out.mod hm HP.out (Nat.le_refl _)
    clear hA hm hxk cP2 MA OA A2 M2 O2
    go_wp2_with fail
    refine (right_any w3 p 2 (by omega) (by omega) A3.out).mono ?_
    rintro e Y ⟨up, lp, rfl, hOp, hlp, hA, hm⟩
    obtain ⟨A7, n7, c7, rfl⟩ := hOp.shape
    have M4 : Hid (Mod w.heap.size p w Y) := M3.out.trans (hm.mono M3.out.size)
    have O4 : Hid (SerO Y w.heap.size (.slice A6 n6 c6) L) := O3.out.mod hm HP.out (Nat.le_refl _)
    have UP4 : Hid (Owns Y w.heap.size 39 2 (.slice A7 n7 c7) (ptR lp)) := hOp.mono M3.out.size
    have AP4 : Hid (∀ q ∈ L, Apart q.2 (.slice A7 n7 c7)) := fun q hq gg h1 h2 => by
     have := ((O3.out.2.1 q hq).lt gg h1).2
     have := (hOp.lt gg h2).1
     omega
    have HLP : Hid (lp.length ≤ 600) := by unfold Hid; omega
    have Z4 : w.heap.size ≤ Y.heap.size := M4.out.size
    have L4 : Hid ((srR L).length ≤ 2097152) := by unfold Hid; rw [srR_length, HN6.out]; have := HL5.out; omega
    have hpc : ∀ y ∈ ([.string xk, .slice A7 n7 c7] : List Value), y.oneCell' = true := by intro y hy; simp only [List.mem_cons, List.not_mem_nil, or_false] at hy; rcases hy with rfl | rfl <;> rfl
    clear hOp hlp hA hm O3 M3 A3
    go_wp2_with (at_builtin; refine wpList_append_row (w := Y) rfl (.tmp 45) (.tmp 52) 24 36 (.agg #[.string ⟨#[]⟩, .slice none 0 0]) 2 40 rfl Tryd.underlying24 Tryd.infoSr rfl (by omega) w.heap.size (.slice A6 n6 c6) (srR L) rfl O4.out.1 [.string xk, .slice A7 n7 c7] rfl hpc rfl L4.out (by omega) Z4 ?_; intro v5 w5 hO5 hb5 hk5 hw5; refine Shut.out ?_)
    unfold Shut
    have hne5 : ∀ (v : Value) (b : Nat) (e : TypeId) (sz : Nat) (r : List (List Value)), Owns Y b e sz v r → e ≠ 36 → Owns w5 b e sz v r := fun v b e sz r ho hne => ho.kept fun gg hg hv => hk5 gg hg (fun hu => ho.apartT O4.out.1 hne gg hv hu)
    have O5 : Hid (SerO w5 w.heap.size v5 (L ++ [(⟨xk, lp⟩, .slice A7 n7 c7)])) := SerO.snoc (w1 := Y) (v := .slice A6 n6 c6) hO5 (fun q hq => hne5 _ _ _ _ _ (O4.out.2.1 q hq) (by decide)) O4.out.2.2 (hne5 _ _ _ _ _ UP4.out (by decide)) AP4.out
    have M5 : Hid (Mod w.heap.size p w w5) := M4.out.trans (Mod.of_below hb5)
    have LD5 : Hid (LDr (L ++ [((⟨xk, lp⟩ : Ser), Value.slice A7 n7 c7)])) := HLD.out.snoc HLP.out HKP.out
    have LL5 : Hid ((L ++ [((⟨xk, lp⟩ : Ser), Value.slice A7 n7 c7)]).length ≤ 6) := by unfold Hid; rw [List.length_append]; simp only [List.length_singleton]; have := HL5.out; have := HN6.out; omega
    clear hO5 hb5 hk5 hw5 hne5 hpc
    go_wp2_with fail
    go_ret
    exact DrawnF.of O5.out LL5.out LD5.out.big M5.out
   ·have Z4 : w.heap.size ≤ w2.heap.size := M2.out.size
    have L4 : Hid ((srR L).length ≤ 2097152) := by unfold Hid; rw [srR_length, HN6.out]; have := HL5.out; omega
    have hpc : ∀ y ∈ ([.string ⟨#[122, 122, 122, 122, 122, 122, 122, 122]⟩, .slice none 0 0] : List Value), y.oneCell' = true := by intro y hy; simp only [List.mem_cons, List.not_mem_nil, or_false] at hy; rcases hy with rfl | rfl <;> rfl
    go_wp2_with (at_builtin; refine wpList_append_row (w := w2) rfl (.tmp 56) (.tmp 58) 24 36 (.agg #[.string ⟨#[]⟩, .slice none 0 0]) 2 40 rfl Tryd.underlying24 Tryd.infoSr rfl (by omega) w.heap.size (.slice A6 n6 c6) (srR L) rfl O2.out.1 [.string ⟨#[122, 122, 122, 122, 122, 122, 122, 122]⟩, .slice none 0 0] rfl hpc rfl L4.out (by omega) Z4 ?_; intro v5 w5 hO5 hb5 hk5 hw5; refine Shut.out ?_)
    unfold Shut
    have hne5 : ∀ (v : Value) (b : Nat) (e : TypeId) (sz : Nat) (r : List (List Value)), Owns w2 b e sz v r → e ≠ 36 → Owns w5 b e sz v r := fun v b e sz r ho hne => ho.kept fun gg hg hv => hk5 gg hg (fun hu => ho.apartT O2.out.1 hne gg hv hu)
    have O5 : Hid (SerO w5 w.heap.size v5 (L ++ [(⟨⟨#[122, 122, 122, 122, 122, 122, 122, 122]⟩, []⟩, .slice none 0 0)])) := SerO.snoc (w1 := w2) (v := .slice A6 n6 c6) hO5 (fun q hq => hne5 _ _ _ _ _ (O2.out.2.1 q hq) (by decide)) O2.out.2.2 (Owns.nil _ _ _ _) (fun q hq gg h1 h2 => by cases h2)
    have M5 : Hid (Mod w.heap.size p w w5) := M2.out.trans (Mod.of_below hb5)
    have LD5 : Hid (LDr (L ++ [((⟨⟨#[122, 122, 122, 122, 122, 122, 122, 122]⟩, []⟩ : Ser), Value.slice none 0 0)])) := HLD.out.snoc (by simp) (keyP_of [122, 122, 122, 122, 122, 122, 122, 122] (by decide) (by decide))
    have LL5 : Hid ((L ++ [((⟨⟨#[122, 122, 122, 122, 122, 122, 122, 122]⟩, []⟩ : Ser), Value.slice none 0 0)]).length ≤ 6) := by unfold Hid; rw [List.length_append]; simp only [List.length_singleton]; have := HL5.out; have := HN6.out; omega
    clear hO5 hb5 hk5 hw5 hne5 hpc
    go_wp2_with fail
    go_ret
    exact DrawnF.of O5.out LL5.out LD5.out.big M5.out
   ·by_cases h0 : n6 = 0
    ·subst h0
     go_wp2_with fail
     go_ret
     exact DrawnF.of O2.out (by have := HN6.out; omega) HLD.out.big M2.out
    have q5 : (n6 : Int) ≤ 5 := by have := HL5.out; omega
    have q6 : (0 : Int) < (n6 : Int) := by omega
    have q7 : 0 < n6 := by omega
    have hO6 := O2.out.1
    obtain ⟨g6, rfl, hgb, hgl⟩ : ∃ g, A6 = some ⟨g, 0, none⟩ ∧ w.heap.size ≤ g ∧ g < w2.heap.size := by
     have hl := hO6.lt
     rcases hO6.2.2 with ⟨e, h0⟩ | ⟨g, c, cur, e, hg, _⟩
     ·rw [srR_length, HN6.out] at h0; omega
     ·cases e; exact ⟨g, rfl, hg, (hl g rfl).2⟩
    obtain ⟨A', c', e', hlk⟩ := sr_look hO6.lies
    rw [HN6.out] at e' hlk
    cases e'
    obtain ⟨g', o', e', _, m0, m1⟩ := hlk 0 (by omega)
    cases e'
    simp only [Nat.zero_mul, Nat.add_zero, Nat.zero_add] at m0 m1
    have hL0 : L.getD 0 default ∈ L := getD_mem L 0 (by rw [HN6.out]; omega)
    have hU := O2.out.2.1 _ hL0
    obtain ⟨A8, n8, c8, e8⟩ := hU.shape
    have HD0 : Hid ((L.getD 0 default).1.pts.length ≤ 600 ∧ KeyP (L.getD 0 default).1.key) := HLD.out _ hL0
    -- the row without its first
    obtain ⟨x0, L', eL⟩ : ∃ x L', L = x :: L' := by
     cases hL : L with
     | nil => rw [hL] at HN6; have := HN6.out; simp at this; omega
     | cons x L' => exact ⟨x, L', rfl⟩
    subst eL
    simp only [List.getD_cons_zero] at m0 m1 hU e8 HD0
    obtain ⟨⟨xk, xp⟩, xv⟩ := x0
    simp only at m0 m1 hU e8 HD0
    subst e8
    have S0 : Hid (w2.drew.cell? ⟨g6, 1, none⟩ = some (.slice A8 n8 c8)) := m1
    have HU : Hid (Owns w2 w.heap.size 39 2 (.slice A8 n8 c8) (ptR xp)) := hU
    have HG6 : Hid (w.heap.size ≤ g6 ∧ g6 < w2.heap.size) := ⟨hgb, hgl⟩
    have cB := belowS w2.drew p 300 (by omega) (by omega) A2.out
    have SK : Hid (∀ wx, SerO wx w.heap.size (.slice (some ⟨g6, 0, none⟩) n6 c6) ((⟨xk, xp⟩, .slice A8 n8 c8) :: L') → wx.cell? ⟨g6, 1, none⟩ = some (.slice A8 n8 c8)) := fun wx hx => by
     obtain ⟨A', c', e', hlk⟩ := sr_look hx.1.lies
     obtain ⟨g', o', e2, _, _, m1⟩ := hlk 0 (by simp)
     have : A' = some ⟨g6, 0, none⟩ := by injection e' with e3; exact e3.symm
     rw [this] at e2
     cases e2
     simpa using m1
    clear m0 m1 hU hgb hgl hlk hO6 hL0
    go_wp2_with fail
    refine wp_region_until (fun w' => w'.cell? ⟨g6, 1, none⟩ = some (.slice A8 n8 c8)) (fun i => i == 9 || i == 10 || i == 11 || i == 12) 13 (by rfl) (by kernel_rfl) ?_
    refine until_pure 0 (v := ?_) (by rfl) (by kernel_rfl) (by exact fun _ _ _ h => h) (by rfl) ?_ ?_
    rotate_left
    ·intro w
     go_simp
     try with_reducible rfl
    try simp only [Act.put, setIfInBounds_toArray, set_cons_zero, set_cons_succ]
    refine until_take 1 (v := ?_) (by rfl) (by kernel_rfl) (by exact fun _ _ _ h => h) (by rfl) ?_ S0.out ?_
    rotate_left
    ·intro w hSw
     try dsimp only at hSw
     go_simp
     try with_reducible rfl
    try simp only [Act.put, setIfInBounds_toArray, set_cons_zero, set_cons_succ]
    refine until_take 2 (v := ?_) (by rfl) (by kernel_rfl) (by exact fun _ _ _ h => h) (by rfl) ?_ S0.out ?_
    rotate_left
    ·intro w hSw
     try dsimp only at hSw
     go_simp
     try with_reducible rfl
    try simp only [Act.put, setIfInBounds_toArray, set_cons_zero, set_cons_succ]
    refine until_take 3 (v := ?_) (by rfl) (by kernel_rfl) (by exact fun _ _ _ h => h) (by rfl) ?_ S0.out ?_
    rotate_left
    ·intro w hSw
     try dsimp only at hSw
     go_simp
     try with_reducible rfl
    try simp only [Act.put, setIfInBounds_toArray, set_cons_zero, set_cons_succ]
    refine until_take 4 (v := ?_) (by rfl) (by kernel_rfl) (by exact fun _ _ _ h => h) (by rfl) ?_ S0.out ?_
    rotate_left
    ·intro w hSw
     try dsimp only at hSw
     go_simp
     try with_reducible rfl
    try simp only [Act.put, setIfInBounds_toArray, set_cons_zero, set_cons_succ]
    refine until_take 5 (v := ?_) (by rfl) (by kernel_rfl) (by exact fun _ _ _ h => h) (by rfl) ?_ S0.out ?_
    rotate_left
    ·intro w hSw
     try dsimp only at hSw
     go_simp
     try with_reducible rfl
    try simp only [Act.put, setIfInBounds_toArray, set_cons_zero, set_cons_succ]
    refine until_one 6 (by rfl) (by kernel_rfl) (fun K hK => ?_)
    go_simp
    refine cB.mono ?_
    rintro e Y ⟨tv, rfl, ⟨t0, t1⟩, hA, hm⟩
    have M3 : Hid (Mod w.heap.size p w Y) := M2.out.drew.trans (hm.mono M2.out.size)
    have O3 : Hid (SerO Y w.heap.size (.slice (some ⟨g6, 0, none⟩) n6 c6) ((⟨xk, xp⟩, .slice A8 n8 c8) :: L')) := SerO.mod (w := w2.drew) (O2.out.on (Below.refl _ w2).drew) hm HP.out (Nat.le_refl _)
    have Z3 : w.heap.size ≤ Y.heap.size := M3.out.size
    have HU3 : Hid (Owns Y w.heap.size 39 2 (.slice A8 n8 c8) (ptR xp)) := O3.out.2.1 _ (List.mem_cons_self ..)
    have L3 : (ptR xp).length ≤ 2097152 := by rw [ptR_length]; have := HD0.out; omega
    obtain ⟨nA, nm, nc, w5, r5, hO5, hb5, hk5, hw5⟩ := run_append_row (P := Tryd.prog) Y 32 32 39 (.agg #[.int .i64 0, .int .i64 0]) 2 16 Tryd.underlying32 Tryd.infoPt rfl (by omega) w.heap.size (.slice A8 n8 c8) (ptR xp) HU3.out [.int .i64 tv, .int .i64 0] rfl (pt_cells tv 0) L3 (by omega) Z3
    have hP3 := O3.out.2.2
    rw [List.pairwise_cons] at hP3
    have hOo : Owns w5 w.heap.size 36 2 (.slice (some ⟨g6, 0, none⟩) n6 c6) (srR ((⟨xk, xp⟩, .slice A8 n8 c8) :: L')) := O3.out.1.kept fun gg hg hv => hk5 gg hg (fun hu => HU3.out.apartT O3.out.1 (by decide) gg hu hv)
    have hne6 : ∀ v l, Owns w5 w.heap.size 39 2 v (ptR l) → v.ownBlock ≠ some g6 := fun v l ho e => ho.apartT hOo (by decide) g6 e rfl
    have hO5' : Owns w5 w.heap.size 39 2 (.slice nA nm nc) (ptR (xp ++ [⟨tv, 0⟩])) := by rw [ptR_snoc']; exact hO5
    have hn1 : n6 = (srR (((⟨xk, xp⟩ : Ser), Value.slice A8 n8 c8) :: L')).length := by rw [srR_length, HN6.out]
    have hset := hOo
    rw [show srR (((⟨xk, xp⟩ : Ser), Value.slice A8 n8 c8) :: L') = (srR (((⟨xk, xp⟩ : Ser), Value.slice A8 n8 c8) :: L')).set 0 [.string xk, .slice A8 n8 c8] from rfl] at hset
    have hpk := hset.pokeAt hn1.symm q7 1 (by omega) (.slice nA nm nc)
    simp only [Nat.zero_mul, Nat.zero_add] at hpk
    have O6 : Hid (SerO (w5.setCell ⟨g6, 1, none⟩ (.slice nA nm nc)) w.heap.size (.slice (some ⟨g6, 0, none⟩) n6 c6) ((⟨xk, xp ++ [⟨tv, 0⟩]⟩, .slice nA nm nc) :: L')) := by
     refine ⟨hpk, fun q hq => ?_, ?_⟩
     ·rcases List.mem_cons.1 hq with rfl | hq
      ·exact hO5'.other (hne6 _ _ hO5') _ _
      ·have h1 : Owns w5 w.heap.size 39 2 q.2 (ptR q.1.pts) := (O3.out.2.1 q (List.mem_cons_of_mem _ hq)).kept fun gg hg hv => hk5 gg hg (fun hu => hP3.1 q hq gg hu hv)
       exact h1.other (hne6 _ _ h1) _ _
     ·rw [List.pairwise_cons]
      refine ⟨fun q hq gg h1 h2 => ?_, hP3.2⟩
      rcases hw5 with e | e
      ·exact hP3.1 q hq gg (by rw [← e]; exact h1) h2
      ·have := e gg h1
       have := ((O3.out.2.1 q (List.mem_cons_of_mem _ hq)).lt gg h2).2
       omega
    have M6 : Hid (Mod w.heap.size p w (w5.setCell ⟨g6, 1, none⟩ (.slice nA nm nc))) := (M3.out.trans (Mod.of_below hb5)).trans (Mod.of_below ((Below.refl _ w5).setCell (show w.heap.size ≤ g6 from HG6.out.1) _))
    have LD6 : Hid (∀ q ∈ (((⟨xk, xp ++ [⟨tv, 0⟩]⟩ : Ser), Value.slice nA nm nc) :: L'), q.1.pts.length ≤ 700 ∧ KeyP q.1.key) := fun q hq => by
     rcases List.mem_cons.1 hq with rfl | hq
     ·refine ⟨?_, HD0.out.2⟩
      show (xp ++ [(⟨tv, 0⟩ : Pnt)]).length ≤ 700
      rw [List.length_append]
      simp only [List.length_singleton]
      have : xp.length ≤ 600 := HD0.out.1
      omega
     ·exact HLD.out.big q (List.mem_cons_of_mem _ hq)
    have LL6 : Hid ((((⟨xk, xp ++ [⟨tv, 0⟩]⟩ : Ser), Value.slice nA nm nc) :: L').length ≤ 6) := by
     have h1 := HN6.out
     have h2 := HL5.out
     unfold Hid
     simp only [List.length_cons] at h1 ⊢
     omega
    have k0 : w5.cell? ⟨g6, 1, none⟩ = some (.slice A8 n8 c8) := by
     have h3 := hOo.lies
     obtain ⟨A', c', e', hlk⟩ := sr_look h3
     rw [HN6.out] at e' hlk
     cases e'
     obtain ⟨g', o', e2, _, _, m1⟩ := hlk 0 q7
     cases e2
     simpa using m1
    have hfr := hOo
    rw [hn1] at hfr
    have k1 := hfr.free 1
    generalize hW6 : w5.setCell ⟨g6, 1, none⟩ (.slice nA nm nc) = W6 at *
    clear hO5 hb5 hk5 hw5 hP3 hOo hne6 hO5' hset hpk hfr hA hm cB hn1
    go_wp2_with fail
    refine hK.out _ _ (fun _ _ => SK.out _ O3.out) ?_
    clear hK K
    try simp only [Act.put, setIfInBounds_toArray, set_cons_zero, set_cons_succ]
    refine until_pure 7 (v := ?_) (by rfl) (by kernel_rfl) (by exact fun _ _ _ h => h) (by rfl) ?_ ?_
    rotate_left
    ·intro w
     go_simp
     try with_reducible rfl
    try simp only [Act.put, setIfInBounds_toArray, set_cons_zero, set_cons_succ]
    refine until_one 8 (by rfl) (by kernel_rfl) (fun K hK => ?_)
    go_simp
    refine hK.out _ _ (fun _ h => cell_alloc_keep h _) ?_
    clear hK K
    try simp only [Act.put, setIfInBounds_toArray, set_cons_zero, set_cons_succ]
    refine until_one 9 (by rfl) (by kernel_rfl) (fun K hK => ?_)
    refine step_append_run (by rfl) (.tmp 69) (.tmp 73) 32 (by rfl) _ _ _ _ (by rfl) (by rfl) r5 ?_
    refine hK.out _ _ (fun h => by cases h) ?_
    clear hK K
    try simp only [Act.put, setIfInBounds_toArray, set_cons_zero, set_cons_succ]
    refine until_one 10 (by rfl) (by kernel_rfl) (fun K hK => ?_)
    go_simp
    refine hK.out _ _ (fun h => by cases h) ?_
    clear hK K
    try simp only [Act.put, setIfInBounds_toArray, set_cons_zero, set_cons_succ]
    refine until_one 11 (by rfl) (by kernel_rfl) (fun K hK => ?_)
    go_simp
    refine hK.out _ _ (fun h => by cases h) ?_
    clear hK K
    try simp only [Act.put, setIfInBounds_toArray, set_cons_zero, set_cons_succ]
    refine until_one 12 (by rfl) (by kernel_rfl) (fun K hK => ?_)
    go_simp
    refine hK.out _ _ (fun h => by cases h) ?_
    clear hK K
    try simp only [Act.put, setIfInBounds_toArray, set_cons_zero, set_cons_succ]
    refine until_done (by kernel_rfl) ?_ _
    go_wp2_with fail
    go_ret
    exact DrawnF.of O6.out LL6.out LD6.out M6.out
   ·by_cases h0 : n6 ≤ 1
    ·have d0 : decide ((1 : Int) < (n6 : Int)) = false := decide_eq_false (by omega)
     have d1 : ¬ (1 : Int) < (n6 : Int) := by omega
     go_wp2_with fail
     go_ret
     exact DrawnF.of O2.out (by have := HN6.out; omega) HLD.out.big M2.out
    have q5 : (n6 : Int) ≤ 5 := by have := HL5.out; omega
    have q6 : (1 : Int) < (n6 : Int) := by omega
    have q7 : 1 < n6 := by omega
    have hO6 := O2.out.1
    obtain ⟨g6, rfl, hgb, hgl, cur, hcur, hsz, hnc, hcm⟩ : ∃ g, A6 = some ⟨g, 0, none⟩ ∧ w.heap.size ≤ g ∧ g < w2.heap.size ∧ ∃ cur, w2.heap[g]? = some (.cells cur 36 (0, 0)) ∧ cur.size = c6 * 2 ∧ n6 ≤ c6 ∧ c6 ≤ maxLen := by
     have hl := hO6.lt
     rcases hO6.2.2 with ⟨e, h0⟩ | ⟨g, c, cur, e, hg, hh, hn, hm, hz, _⟩
     ·rw [srR_length, HN6.out] at h0; omega
     ·rw [srR_length, HN6.out] at e hn; cases e; exact ⟨g, rfl, hg, (hl g rfl).2, cur, hh, hz, hn, hm⟩
    clear hcur hsz hcm
    obtain ⟨A', c', e', hlk⟩ := sr_look hO6.lies
    rw [HN6.out] at e' hlk
    cases e'
    obtain ⟨g', o', e', _, m0, m1⟩ := hlk 0 (by omega)
    cases e'
    simp only [Nat.zero_mul, Nat.add_zero, Nat.zero_add] at m0 m1
    have hL0 : L.getD 0 default ∈ L := getD_mem L 0 (by rw [HN6.out]; omega)
    have hU := O2.out.2.1 _ hL0
    obtain ⟨A8, n8, c8, e8⟩ := hU.shape
    obtain ⟨x0, L', eL⟩ : ∃ x L', L = x :: L' := by
     cases hL : L with
     | nil => rw [hL] at HN6; have := HN6.out; simp at this; omega
     | cons x L' => exact ⟨x, L', rfl⟩
    subst eL
    simp only [List.getD_cons_zero] at m0 m1 hU e8
    obtain ⟨⟨xk, xp⟩, xv⟩ := x0
    simp only at m0 m1 hU e8
    subst e8
    have S0 : Hid (w2.drew.cell? ⟨g6, 0, none⟩ = some (.string xk) ∧ w2.drew.cell? ⟨g6, 1, none⟩ = some (.slice A8 n8 c8)) := ⟨m0, m1⟩
    have HG6 : Hid (w.heap.size ≤ g6) := hgb
    have hn1 : L'.length + 1 = n6 := by have := HN6.out; simpa using this
    have hO2d : SerO w2.drew w.heap.size (.slice (some ⟨g6, 0, none⟩) n6 c6) ((⟨xk, xp⟩, .slice A8 n8 c8) :: L') := O2.out.on (Below.refl _ w2).drew
    obtain ⟨nA, nm, nc, w5, r5, hV5, hb5⟩ := run_rot w2.drew w.heap.size g6 n6 c6 xk xp A8 n8 c8 L' hO2d hn1 (by omega) (by omega) hgb M2.out.size
    have V5 : Hid (SerV w5 w5.heap.size (.slice nA nm nc) ((L' ++ [((⟨xk, xp⟩ : Ser), Value.slice A8 n8 c8)]).map Prod.fst)) := hV5
    have M5 : Hid (Mod w.heap.size p w w5) := M2.out.drew.trans (Mod.of_below hb5)
    have LL5 : Hid (((L' ++ [((⟨xk, xp⟩ : Ser), Value.slice A8 n8 c8)]).map Prod.fst).length ≤ 6) := by
     unfold Hid
     rw [List.length_map, List.length_append]
     simp only [List.length_singleton]
     have := HL5.out
     omega
    have LD5 : Hid (∀ x ∈ (L' ++ [((⟨xk, xp⟩ : Ser), Value.slice A8 n8 c8)]).map Prod.fst, x.pts.length ≤ 700 ∧ KeyP x.key) := fun x hx => by
     obtain ⟨q, hq, rfl⟩ := List.mem_map.1 hx
     rcases List.mem_append.1 hq with h | h
     ·exact HLD.out.big q (List.mem_cons_of_mem _ h)
     ·rw [List.mem_singleton.1 h]
      exact HLD.out.big _ (List.mem_cons_self ..)
    have q8 : (n6 : Int) ≤ (c6 : Int) := by omega
    have q9 : n6 ≤ c6 := hnc
    have q10 : (1 : Int) ≤ (c6 : Int) := by omega
    have q11 : 1 ≤ c6 := by omega
    have q12 : ¬ c6 = 1 := by omega
    have q13 : 1 ≤ n6 := by omega
    have q14 : (1 : Int) ≤ (n6 : Int) := by omega
    have q15 : 0 < n6 := by omega
    have q16 : (0 : Int) < (n6 : Int) := by omega
    clear hlk hO6 hL0 hU hgb hgl hnc hV5 hb5 hO2d m0 m1
    go_wp2_with fail
    refine wp_region_until (fun w' => w'.cell? ⟨g6, 0, none⟩ = some (.string xk) ∧ w'.cell? ⟨g6, 1, none⟩ = some (.slice A8 n8 c8)) (fun i => i == 6 || i == 7) 8 (by rfl) (by kernel_rfl) ?_
    refine until_pure 0 (v := ?_) (by rfl) (by kernel_rfl) (by exact fun _ _ _ h => h) (by rfl) ?_ ?_
    rotate_left
    ·intro w
     go_simp
     try with_reducible rfl
    try simp only [Act.put, setIfInBounds_toArray, set_cons_zero, set_cons_succ]
    refine until_pure 1 (v := ?_) (by rfl) (by kernel_rfl) (by exact fun _ _ _ h => h) (by rfl) ?_ ?_
    rotate_left
    ·intro w
     go_simp
     try with_reducible rfl
    try simp only [Act.put, setIfInBounds_toArray, set_cons_zero, set_cons_succ]
    refine until_take 2 (v := ?_) (by rfl) (by kernel_rfl) (by exact fun _ _ _ h => h) (by rfl) ?_ S0.out ?_
    rotate_left
    ·intro w hSw
     try dsimp only at hSw
     go_simp
     try with_reducible rfl
    try simp only [Act.put, setIfInBounds_toArray, set_cons_zero, set_cons_succ]
    refine until_take 3 (v := ?_) (by rfl) (by kernel_rfl) (by exact fun _ _ _ h => h) (by rfl) ?_ S0.out ?_
    rotate_left
    ·intro w hSw
     try dsimp only at hSw
     go_simp
     try with_reducible rfl
    try simp only [Act.put, setIfInBounds_toArray, set_cons_zero, set_cons_succ]
    refine until_take 4 (v := ?_) (by rfl) (by kernel_rfl) (by exact fun _ _ _ h => h) (by rfl) ?_ S0.out ?_
    rotate_left
    ·intro w hSw
     try dsimp only at hSw
     go_simp
     try with_reducible rfl
    try simp only [Act.put, setIfInBounds_toArray, set_cons_zero, set_cons_succ]
    refine until_one 5 (by rfl) (by kernel_rfl) (fun K hK => ?_)
    go_simp
    refine hK.out _ _ (fun _ h => ⟨cell_alloc_keep h.1 _, cell_alloc_keep h.2 _⟩) ?_
    clear hK K
    try simp only [Act.put, setIfInBounds_toArray, set_cons_zero, set_cons_succ]
    refine until_one 6 (by rfl) (by kernel_rfl) (fun K hK => ?_)
    refine step_append_run (by rfl) (.tmp 37) (.tmp 41) 24 (by rfl) _ _ _ _ (by rfl) (by rfl) r5 ?_
    refine hK.out _ _ (fun h => by cases h) ?_
    clear hK K
    try simp only [Act.put, setIfInBounds_toArray, set_cons_zero, set_cons_succ]
    refine until_one 7 (by rfl) (by kernel_rfl) (fun K hK => ?_)
    go_simp
    refine hK.out _ _ (fun h => by cases h) ?_
    clear hK K
    try simp only [Act.put, setIfInBounds_toArray, set_cons_zero, set_cons_succ]
    refine until_done (by kernel_rfl) ?_ _
    go_wp2_with fail
    go_ret
    exact ⟨_, _, rfl, V5.out, LL5.out, LD5.out, M5.out⟩
end Go.Proofs.YtnilgemgjlhibaaDoor
namespace Go.Proofs.YtnilgemgjlhibaaDoor
open Go.ChangeShapes Go.WideShapes Go.ChangeAt Go.RowKit Go.PlainAid
set_option linter.unusedVariables false
set_option maxHeartbeats 1000000 in
theorem drawFileText (w : World) (ao : Option Addr) (len cap : Nat) (cs : Nat → Nat) (hl : len ≤ 1048576) (h : CodeIs w w.heap.size ao len cs) : Calls Tryd.prog 5 #[.slice ao len cap] w fun e w' => (∃ u l, e = .returned u ∧ SerV w' w'.heap.size u l ∧ l.length ≤ 6 ∧ (∀ x ∈ l, x.pts.length ≤ 700 ∧ KeyP x.key)) ∧ Below w.heap.size w w' := by
 have HL : Hid (len ≤ 1048576) := hl
 have q0 : (len : Int) ≤ 1048576 := by omega
 have c1 := new_any w ao len cap cs hl h
 clear h hl
 go_enter Tryd.func5, Tryd.ntmps5
 go_wp2_with fail
 refine c1.mono ?_
 rintro e w1 ⟨rfl, hA, hb⟩
 have A1 : Hid (AtS w1 w.heap.size) := ⟨_, _, _, _, _, hA⟩
 have B1 : Hid (Below w.heap.size w w1) := hb
 have cz := fun wx => size_any wx ao len cap 10 HL.out (by omega) (by omega)
 clear hA hb c1
 go_wp2_with fail
 refine (cz _).mono ?_
 rintro e w' ⟨⟨n, rfl, hn1, hn2⟩, rfl⟩
 go_wp2_with fail
 refine (series_any w1 w.heap.size n hn1 hn2 A1.out).mono ?_
 rintro e w3 ⟨v, l, rfl, hV, hll, hld, hm⟩
 have V3 : Hid (SerV w3 w3.heap.size v l) := hV
 have D3 : Hid (l.length ≤ 6 ∧ ∀ x ∈ l, x.pts.length ≤ 700 ∧ KeyP x.key) := ⟨hll, hld⟩
 have B3 : Hid (Below w.heap.size w w3) := B1.out.trans ((hm.mono B1.out.size).below (Nat.le_refl _))
 clear hV hll hld hm cz
 go_wp2_with fail
 go_ret
 exact ⟨⟨_, l, rfl, V3.out, D3.out.1, D3.out.2⟩, B3.out⟩
end Go.Proofs.YtnilgemgjlhibaaDoor
namespace Go.Proofs.YtnilgemgjlhibaaDoor
open Go.ChangeShapes Go.WideShapes Go.ChangeAt Go.RowKit Go.PlainAid
set_option linter.unusedVariables false
set_option maxHeartbeats 2000000 in
theorem samePoints (l : List Pnt) (va vb : Value) (w : World) (B : Nat) (ha : Lies w B 2 va (ptR l)) (hb : Lies w B 2 vb (ptR l)) (hn : l.length ≤ 1048576) :
  Calls Tryd.prog 11 #[va, vb] w fun e w' => e = .returned (.bool true) ∧ Like w w' := by
 obtain ⟨A, cap, rfl, hl⟩ := pt_look ha
 obtain ⟨A', cap', rfl, hl'⟩ := pt_look hb
 have HL : Hid (∀ j, j < l.length → ∃ g off, A = some ⟨g, off, none⟩ ∧ g < B ∧ _) := hl
 have HL' : Hid (∀ j, j < l.length → ∃ g off, A' = some ⟨g, off, none⟩ ∧ g < B ∧ _) := hl'
 clear hl hl' ha hb
 have q1 : (l.length : Int) ≤ 1048576 := by omega
 generalize hN : l.length = n at *
 clear hN
 go_enter Tryd.func11, Tryd.ntmps11
 go_wp2_with fail
 go_loopw [5] (fun v5 wr => ∃ k : Nat, k ≤ n ∧ v5 = .int .i64 (k : Int) ∧ Like w wr) (fun i _ => n - (intOf i).toNat)
 case atStart => exact ⟨0, by omega, rfl, Like.refl _⟩
 case round =>
  obtain ⟨k, hk, rfl, hL⟩ := hrel
  have HLK : Hid (Like w wr) := hL
  by_cases hlt : k < n
  ·have q4 : (k : Int) < (n : Int) := by omega
   obtain ⟨g, off, rfl, hg, ha0, ha1⟩ := HL.out k hlt
   obtain ⟨g', off', rfl, hg', hb0, hb1⟩ := HL'.out k hlt
   rw [← cell?_heap hL.1] at ha0 ha1 hb0 hb1
   generalize l.getD k default = x at *
   have S0 : Hid (wr.drew.cell? ⟨g, off + k * 2, none⟩ = some (.int .i64 x.t) ∧ wr.drew.cell? ⟨g, off + k * 2 + 1, none⟩ = some (.int .i64 x.v) ∧ wr.drew.cell? ⟨g', off' + k * 2, none⟩ = some (.int .i64 x.t) ∧ wr.drew.cell? ⟨g', off' + k * 2 + 1, none⟩ = some (.int .i64 x.v)) := ⟨ha0, ha1, hb0, hb1⟩
   have HLD : Hid (Like w wr.drew) := hL
   clear ha0 ha1 hb0 hb1 hL
   go_wp2_with fail
   refine wp_region_until (fun w' => w'.cell? ⟨g, off + k * 2, none⟩ = some (.int .i64 x.t) ∧ w'.cell? ⟨g, off + k * 2 + 1, none⟩ = some (.int .i64 x.v) ∧ w'.cell? ⟨g', off' + k * 2, none⟩ = some (.int .i64 x.t) ∧ w'.cell? ⟨g', off' + k * 2 + 1, none⟩ = some (.int .i64 x.v)) (fun _ => false) 9 (by rfl) (by kernel_rfl) ?_
   refine until_take 0 (v := ?_) (by rfl) (by kernel_rfl) (by exact fun _ _ _ h => h) (by rfl) ?_ S0.out ?_
   rotate_left
   ·intro w hSw
    try dsimp only at hSw
    go_simp
    try with_reducible rfl
   try simp only [Act.put, setIfInBounds_toArray, set_cons_zero, set_cons_succ]
   refine until_take 1 (v := ?_) (by rfl) (by kernel_rfl) (by exact fun _ _ _ h => h) (by rfl) ?_ S0.out ?_
   rotate_left
   ·intro w hSw
    try dsimp only at hSw
    go_simp
    try with_reducible rfl
   try simp only [Act.put, setIfInBounds_toArray, set_cons_zero, set_cons_succ]
   refine until_take 2 (v := ?_) (by rfl) (by kernel_rfl) (by exact fun _ _ _ h => h) (by rfl) ?_ S0.out ?_
   rotate_left
   ·intro w hSw
    try dsimp only at hSw
    go_simp
    try with_reducible rfl
   try simp only [Act.put, setIfInBounds_toArray, set_cons_zero, set_cons_succ]
   refine until_take 3 (v := ?_) (by rfl) (by kernel_rfl) (by exact fun _ _ _ h => h) (by rfl) ?_ S0.out ?_
   rotate_left
   ·intro w hSw
    try dsimp only at hSw
    go_simp
    try with_reducible rfl
   try simp only [Act.put, setIfInBounds_toArray, set_cons_zero, set_cons_succ]
   refine until_take 4 (v := ?_) (by rfl) (by kernel_rfl) (by exact fun _ _ _ h => h) (by rfl) ?_ S0.out ?_
   rotate_left
   ·intro w hSw
    try dsimp only at hSw
    go_simp
    try with_reducible rfl
   try simp only [Act.put, setIfInBounds_toArray, set_cons_zero, set_cons_succ]
   refine until_take 5 (v := ?_) (by rfl) (by kernel_rfl) (by exact fun _ _ _ h => h) (by rfl) ?_ S0.out ?_
   rotate_left
   ·intro w hSw
    try dsimp only at hSw
    go_simp
    try with_reducible rfl
   try simp only [Act.put, setIfInBounds_toArray, set_cons_zero, set_cons_succ]
   refine until_take 6 (v := ?_) (by rfl) (by kernel_rfl) (by exact fun _ _ _ h => h) (by rfl) ?_ S0.out ?_
   rotate_left
   ·intro w hSw
    try dsimp only at hSw
    go_simp
    try with_reducible rfl
   try simp only [Act.put, setIfInBounds_toArray, set_cons_zero, set_cons_succ]
   refine until_take 7 (v := ?_) (by rfl) (by kernel_rfl) (by exact fun _ _ _ h => h) (by rfl) ?_ S0.out ?_
   rotate_left
   ·intro w hSw
    try dsimp only at hSw
    go_simp
    try with_reducible rfl
   try simp only [Act.put, setIfInBounds_toArray, set_cons_zero, set_cons_succ]
   refine until_take 8 (v := .bool false) (by rfl) (by kernel_rfl) (by exact fun _ _ _ h => h) (by rfl) ?_ S0.out ?_
   ·intro w hSw
    try dsimp only at hSw
    go_simp
   try simp only [Act.put, setIfInBounds_toArray, set_cons_zero, set_cons_succ]
   refine until_done (by kernel_rfl) ?_ _
   go_wp2_with fail
   go_roundw
   case rel => exact ⟨k + 1, by omega, by go_num, HLD.out⟩
   case measure => simp [intOf]; omega
  ·obtain rfl : k = n := by omega
   go_wp2_with fail
   go_ret
   exact ⟨rfl, HLK.out⟩
end Go.Proofs.YtnilgemgjlhibaaDoor
namespace Go.Proofs.YtnilgemgjlhibaaDoor
open Go.ChangeShapes Go.WideShapes Go.ChangeAt Go.RowKit Go.PlainAid
set_option linter.unusedVariables false
set_option maxHeartbeats 4000000 in
theorem sameSeries (l : List Ser) (va vb : Value) (w : World) (B : Nat) (ha : SerV w B va l) (hb : SerV w B vb l) (hn : SShort l) : Calls Tryd.prog 13 #[va, vb] w fun e w' => e = .returned (.bool true) ∧ Like w w' := by
 obtain ⟨A, cap, rfl, hl⟩ := ha.look
 obtain ⟨A', cap', rfl, hl'⟩ := hb.look
 have HL : Hid (∀ j, j < l.length → ∃ g off u, A = some ⟨g, off, none⟩ ∧ g < B ∧ _) := hl
 have HL' : Hid (∀ j, j < l.length → ∃ g off u, A' = some ⟨g, off, none⟩ ∧ g < B ∧ _) := hl'
 have HS : Hid (SShort l) := hn
 have q1 : (l.length : Int) ≤ 1048576 := by have := hn.1; omega
 clear hl hl' ha hb hn
 generalize hN : l.length = n at *
 go_enter Tryd.func13, Tryd.ntmps13
 go_wp2_with fail
 go_loopw [5] (fun v5 wr => ∃ k : Nat, k ≤ n ∧ v5 = .int .i64 (k : Int) ∧ Like w wr) (fun i _ => n - (intOf i).toNat)
 case atStart => exact ⟨0, by omega, rfl, Like.refl _⟩
 case round =>
  obtain ⟨k, hk, rfl, hLk⟩ := hrel
  by_cases hlt : k < n
  ·have q4 : (k : Int) < (n : Int) := by omega
   obtain ⟨g, off, u, rfl, hg, a0, a1, hu⟩ := HL.out k hlt
   obtain ⟨g', off', u', rfl, hg', b0, b1, hu'⟩ := HL'.out k hlt
   rw [← cell?_heap hLk.1] at a0 a1 b0 b1
   have cS := fun (wx : World) (hx : Like w wx) => samePoints (l.getD k default).pts u u' wx B (hu.heap hx.1) (hu'.heap hx.1) (HS.out.at k (by omega))
   obtain ⟨A1, cap1, rfl, _⟩ := pt_look hu
   obtain ⟨A2, cap2, rfl, _⟩ := pt_look hu'
   clear hu hu' hg hg'
   generalize (l.getD k default).pts.length = pn at *
   generalize (l.getD k default).key = x at *
   have hkk : (x.toList == x.toList) = true := by simp
   have S0 : Hid ((fun w' => w'.cell? ⟨g, off + k * 2, none⟩ = some (.string x) ∧ w'.cell? ⟨g, off + k * 2 + 1, none⟩ = some (.slice A1 pn cap1) ∧ w'.cell? ⟨g', off' + k * 2, none⟩ = some (.string x) ∧ w'.cell? ⟨g', off' + k * 2 + 1, none⟩ = some (.slice A2 pn cap2)) wr.drew) := ⟨a0, a1, b0, b1⟩
   have HLD : Hid (Like w wr.drew) := hLk
   clear a0 a1 b0 b1
   go_wp2_with fail
   refine wp_region_until (fun w' => w'.cell? ⟨g, off + k * 2, none⟩ = some (.string x) ∧ w'.cell? ⟨g, off + k * 2 + 1, none⟩ = some (.slice A1 pn cap1) ∧ w'.cell? ⟨g', off' + k * 2, none⟩ = some (.string x) ∧ w'.cell? ⟨g', off' + k * 2 + 1, none⟩ = some (.slice A2 pn cap2)) (fun _ => false) 25 (by rfl) (by kernel_rfl) ?_
   refine until_take 0 (v := ?_) (by rfl) (by kernel_rfl) (by exact fun _ _ _ h => h) (by rfl) ?_ S0.out ?_
   rotate_left
   ·intro w hSw
    try dsimp only at hSw
    go_simp
    try with_reducible rfl
   try simp only [Act.put, setIfInBounds_toArray, set_cons_zero, set_cons_succ]
   refine until_take 1 (v := ?_) (by rfl) (by kernel_rfl) (by exact fun _ _ _ h => h) (by rfl) ?_ S0.out ?_
   rotate_left
   ·intro w hSw
    try dsimp only at hSw
    go_simp
    try with_reducible rfl
   try simp only [Act.put, setIfInBounds_toArray, set_cons_zero, set_cons_succ]
   refine until_take 2 (v := ?_) (by rfl) (by kernel_rfl) (by exact fun _ _ _ h => h) (by rfl) ?_ S0.out ?_
   rotate_left
   ·intro w hSw
    try dsimp only at hSw
    go_simp
    try with_reducible rfl
   try simp only [Act.put, setIfInBounds_toArray, set_cons_zero, set_cons_succ]
   refine until_take 3 (v := ?_) (by rfl) (by kernel_rfl) (by exact fun _ _ _ h => h) (by rfl) ?_ S0.out ?_
   rotate_left
   ·intro w hSw
    try dsimp only at hSw
    go_simp
    try with_reducible rfl
   try simp only [Act.put, setIfInBounds_toArray, set_cons_zero, set_cons_succ]
   refine until_take 4 (v := ?_) (by rfl) (by kernel_rfl) (by exact fun _ _ _ h => h) (by rfl) ?_ S0.out ?_
   rotate_left
   ·intro w hSw
    try dsimp only at hSw
    go_simp
    try with_reducible rfl
   try simp only [Act.put, setIfInBounds_toArray, set_cons_zero, set_cons_succ]
   refine until_take 5 (v := ?_) (by rfl) (by kernel_rfl) (by exact fun _ _ _ h => h) (by rfl) ?_ S0.out ?_
   rotate_left
   ·intro w hSw
    try dsimp only at hSw
    go_simp
    try with_reducible rfl
   try simp only [Act.put, setIfInBounds_toArray, set_cons_zero, set_cons_succ]
   refine until_take 6 (v := ?_) (by rfl) (by kernel_rfl) (by exact fun _ _ _ h => h) (by rfl) ?_ S0.out ?_
   rotate_left
   ·intro w hSw
    try dsimp only at hSw
    go_simp
    try with_reducible rfl
   try simp only [Act.put, setIfInBounds_toArray, set_cons_zero, set_cons_succ]
   refine until_take 7 (v := ?_) (by rfl) (by kernel_rfl) (by exact fun _ _ _ h => h) (by rfl) ?_ S0.out ?_
   rotate_left
   ·intro w hSw
    try dsimp only at hSw
    go_simp
    try with_reducible rfl
   try simp only [Act.put, setIfInBounds_toArray, set_cons_zero, set_cons_succ]
   refine until_take 8 (v := ?_) (by rfl) (by kernel_rfl) (by exact fun _ _ _ h => h) (by rfl) ?_ S0.out ?_
   rotate_left
   ·intro w hSw
    try dsimp only at hSw
    go_simp
    try with_reducible rfl
   try simp only [Act.put, setIfInBounds_toArray, set_cons_zero, set_cons_succ]
   refine until_take 9 (v := ?_) (by rfl) (by kernel_rfl) (by exact fun _ _ _ h => h) (by rfl) ?_ S0.out ?_
   rotate_left
   ·intro w hSw
    try dsimp only at hSw
    go_simp
    try with_reducible rfl
   try simp only [Act.put, setIfInBounds_toArray, set_cons_zero, set_cons_succ]
   refine until_take 10 (v := ?_) (by rfl) (by kernel_rfl) (by exact fun _ _ _ h => h) (by rfl) ?_ S0.out ?_
   rotate_left
   ·intro w hSw
    try dsimp only at hSw
    go_simp
    try with_reducible rfl
   try simp only [Act.put, setIfInBounds_toArray, set_cons_zero, set_cons_succ]
   refine until_take 11 (v := ?_) (by rfl) (by kernel_rfl) (by exact fun _ _ _ h => h) (by rfl) ?_ S0.out ?_
   rotate_left
   ·intro w hSw
    try dsimp only at hSw
    go_simp
    try with_reducible rfl
   try simp only [Act.put, setIfInBounds_toArray, set_cons_zero, set_cons_succ]
   refine until_take 12 (v := ?_) (by rfl) (by kernel_rfl) (by exact fun _ _ _ h => h) (by rfl) ?_ S0.out ?_
   rotate_left
   ·intro w hSw
    try dsimp only at hSw
    go_simp
    try with_reducible rfl
   try simp only [Act.put, setIfInBounds_toArray, set_cons_zero, set_cons_succ]
   refine until_take 13 (v := ?_) (by rfl) (by kernel_rfl) (by exact fun _ _ _ h => h) (by rfl) ?_ S0.out ?_
   rotate_left
   ·intro w hSw
    try dsimp only at hSw
    go_simp
    try with_reducible rfl
   try simp only [Act.put, setIfInBounds_toArray, set_cons_zero, set_cons_succ]
   refine until_take 14 (v := ?_) (by rfl) (by kernel_rfl) (by exact fun _ _ _ h => h) (by rfl) ?_ S0.out ?_
   rotate_left
   ·intro w hSw
    try dsimp only at hSw
    go_simp
    try with_reducible rfl
   try simp only [Act.put, setIfInBounds_toArray, set_cons_zero, set_cons_succ]
   refine until_take 15 (v := ?_) (by rfl) (by kernel_rfl) (by exact fun _ _ _ h => h) (by rfl) ?_ S0.out ?_
   rotate_left
   ·intro w hSw
    try dsimp only at hSw
    go_simp
    try with_reducible rfl
   try simp only [Act.put, setIfInBounds_toArray, set_cons_zero, set_cons_succ]
   refine until_take 16 (v := ?_) (by rfl) (by kernel_rfl) (by exact fun _ _ _ h => h) (by rfl) ?_ S0.out ?_
   rotate_left
   ·intro w hSw
    try dsimp only at hSw
    go_simp
    try with_reducible rfl
   try simp only [Act.put, setIfInBounds_toArray, set_cons_zero, set_cons_succ]
   refine until_take 17 (v := ?_) (by rfl) (by kernel_rfl) (by exact fun _ _ _ h => h) (by rfl) ?_ S0.out ?_
   rotate_left
   ·intro w hSw
    try dsimp only at hSw
    go_simp
    try with_reducible rfl
   try simp only [Act.put, setIfInBounds_toArray, set_cons_zero, set_cons_succ]
   refine until_take 18 (v := ?_) (by rfl) (by kernel_rfl) (by exact fun _ _ _ h => h) (by rfl) ?_ S0.out ?_
   rotate_left
   ·intro w hSw
    try dsimp only at hSw
    go_simp
    try with_reducible rfl
   try simp only [Act.put, setIfInBounds_toArray, set_cons_zero, set_cons_succ]
   refine until_take 19 (v := ?_) (by rfl) (by kernel_rfl) (by exact fun _ _ _ h => h) (by rfl) ?_ S0.out ?_
   rotate_left
   ·intro w hSw
    try dsimp only at hSw
    go_simp
    try with_reducible rfl
   try simp only [Act.put, setIfInBounds_toArray, set_cons_zero, set_cons_succ]
   refine until_take 20 (v := ?_) (by rfl) (by kernel_rfl) (by exact fun _ _ _ h => h) (by rfl) ?_ S0.out ?_
   rotate_left
   ·intro w hSw
    try dsimp only at hSw
    go_simp
    try with_reducible rfl
   try simp only [Act.put, setIfInBounds_toArray, set_cons_zero, set_cons_succ]
   refine until_take 21 (v := ?_) (by rfl) (by kernel_rfl) (by exact fun _ _ _ h => h) (by rfl) ?_ S0.out ?_
   rotate_left
   ·intro w hSw
    try dsimp only at hSw
    go_simp
    try with_reducible rfl
   try simp only [Act.put, setIfInBounds_toArray, set_cons_zero, set_cons_succ]
   refine until_one 22 (by rfl) (by kernel_rfl) (fun K hK => ?_)
   go_simp
   refine (cS _ HLD.out).mono ?_
   rintro e w' ⟨rfl, hLi⟩
   have L2 : Hid (Like w w') := ⟨hLi.1.trans HLD.out.1, hLi.2.1.trans HLD.out.2.1, hLi.2.2.1.trans HLD.out.2.2.1, hLi.2.2.2.trans HLD.out.2.2.2⟩
   have S2 : Hid ((fun w' => w'.cell? ⟨g, off + k * 2, none⟩ = some (.string x) ∧ w'.cell? ⟨g, off + k * 2 + 1, none⟩ = some (.slice A1 pn cap1) ∧ w'.cell? ⟨g', off' + k * 2, none⟩ = some (.string x) ∧ w'.cell? ⟨g', off' + k * 2 + 1, none⟩ = some (.slice A2 pn cap2)) w') := ⟨(cell?_heap hLi.1 _).trans S0.out.1, (cell?_heap hLi.1 _).trans S0.out.2.1, (cell?_heap hLi.1 _).trans S0.out.2.2.1, (cell?_heap hLi.1 _).trans S0.out.2.2.2⟩
   clear hLi
   go_wp2_with fail
   refine hK.out _ _ (fun _ _ => S2.out) ?_
   clear hK K
   try simp only [Act.put, setIfInBounds_toArray, set_cons_zero, set_cons_succ]
   refine until_take 23 (v := ?_) (by rfl) (by kernel_rfl) (by exact fun _ _ _ h => h) (by rfl) ?_ S2.out ?_
   rotate_left
   ·intro w hSw
    try dsimp only at hSw
    go_simp
    try with_reducible rfl
   try simp only [Act.put, setIfInBounds_toArray, set_cons_zero, set_cons_succ]
   refine until_take 24 (v := ?_) (by rfl) (by kernel_rfl) (by exact fun _ _ _ h => h) (by rfl) ?_ S2.out ?_
   rotate_left
   ·intro w hSw
    try dsimp only at hSw
    go_simp
    try with_reducible rfl
   try simp only [Act.put, setIfInBounds_toArray, set_cons_zero, set_cons_succ]
   refine until_done (by kernel_rfl) ?_ _
   go_wp2_with fail
   go_roundw
   case rel => exact ⟨k + 1, by omega, by go_num, L2.out⟩
   case measure => simp [intOf]; omega
  ·obtain rfl : k = n := by omega
   go_wp2_with fail
   go_ret
   exact ⟨rfl, hLk⟩
end Go.Proofs.YtnilgemgjlhibaaDoor
